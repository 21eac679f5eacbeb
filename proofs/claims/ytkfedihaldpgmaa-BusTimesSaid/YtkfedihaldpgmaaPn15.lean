/-
  Chapter 15: the program's bus: Events, join, New.
-/
import Derived.Test.YtkfedihaldpgmaaPk15
namespace Go.Proofs.Ytkfedihaldpgmaa
open Go.RowKit
set_option linter.unusedVariables false
set_option linter.unusedSimpArgs false
section
variable {w w' : World} {G : PG} {V : PV} {S : BS} {N : Int}
end
/-- a new bus -/
def S0B (C D : Nat → Int) : BS := ⟨false, false, 0, false, false, false, 0, false, [], [], [], false, 0, 0, 0, 0, false, false, false, 0, 0, 0, false, false, false, 0, 0, [], 0, C, D⟩
/-- it returns a bus over the memory in block r, whose blocks are M; all else of it is new -/
def NewPx (w : World) (r : Nat) (M : Nat → Prop) (p n : Nat) (C D : Nat → Int) (e : Ending) (w' : World) : Prop :=
  ∃ G V, e = .returned (.pointer (some ⟨G.b, 0, none⟩)) ∧ G.r = r ∧ G.p = p ∧ G.n = n ∧ Px w' G V (S0B C D) ∧ (∀ k, OwnP G V k → M k ∨ w.heap.size ≤ k) ∧ Below w.heap.size w w'
section
variable {w : World} {r : Nat} {M : Nat → Prop} {p : Nat} {C : Nat → Int}
/-- the places of a new bus's parts -/
def Pos (G : PG) (s0 s1 s2 s3 s4 s5 s6 s7 : Nat) : Nat → Nat → Prop
  | 0, k => s7 ≤ k
  | 1, k => s0 ≤ k ∧ k < s1
  | 2, k => s3 ≤ k ∧ k < s4
  | 3, k => s4 ≤ k ∧ k < s5
  | 4, k => s5 ≤ k ∧ k < s6
  | 5, k => s1 ≤ k ∧ k < s2
  | 6, k => s6 ≤ k ∧ k < s7
  | 7, k => s2 ≤ k ∧ k < s3 ∧ k ≠ G.y
  | _, k => k < s0 ∨ (s2 ≤ k ∧ k < s3 ∧ k = G.y)
theorem sep_pos {K : Nat → Nat → Prop} {G : PG} {s0 s1 s2 s3 s4 s5 s6 s7 : Nat} (h : s0 ≤ s1 ∧ s1 ≤ s2 ∧ s2 ≤ s3 ∧ s3 ≤ s4 ∧ s4 ≤ s5 ∧ s5 ≤ s6 ∧ s6 ≤ s7) (hp : ∀ i k, i < 9 → K i k → Pos G s0 s1 s2 s3 s4 s5 s6 s7 i k) : SepP K := by
  intro i j k hi hj hij ki kj
  have A := hp i k hi ki
  have B := hp j k hj kj
  clear hp ki kj
  have hi' : i = 0 ∨ i = 1 ∨ i = 2 ∨ i = 3 ∨ i = 4 ∨ i = 5 ∨ i = 6 ∨ i = 7 ∨ i = 8 := by omega
  have hj' : j = 0 ∨ j = 1 ∨ j = 2 ∨ j = 3 ∨ j = 4 ∨ j = 5 ∨ j = 6 ∨ j = 7 ∨ j = 8 := by omega
  clear hi hj
  rcases hi' with rfl | rfl | rfl | rfl | rfl | rfl | rfl | rfl | rfl <;> rcases hj' with rfl | rfl | rfl | rfl | rfl | rfl | rfl | rfl | rfl <;> first | exact hij rfl | (simp only [Pos] at A B; omega)
set_option maxRecDepth 100000 in
set_option maxHeartbeats 2000000 in
theorem bjoin_any {Q : Nat → Prop} (dv : Value) (len : Nat) (f : Nat → Int) (hm : Ra 63 w r M p C) (hv : ByAt Q w dv len f) (hl : len ≤ 10000) :
    Calls Try.prog 13 #[.pointer (some ⟨r, 0, none⟩), dv] w (NewPx w r M p (nS len) C (imD len f)) := by
  have H1 := Lib.hid (wnew_any w)
  have HB := Lib.hid (fun j (hj : j < len) => hv.bounds j hj)
  go_enter Try.func13, Try.ntmps13
  go_wp2_with fail
  with_reducible refine H1.out.mono ?_
  rintro e w1 ⟨g, lg, rfl, hw1, b1⟩
  have s1 := b1.size
  have H2 := Lib.hid (unew_any g w1)
  go_wp2_with fail
  with_reducible refine H2.out.mono ?_
  rintro e w2 ⟨u, c1, c2, lu, lc1, lc2, n12, nu1, nu2, rfl, hu2, hq1, hq2, b2⟩
  have s2 := b2.size
  have hw2 := hw1.below b2
  have hv2 : ByAt Q w2 dv len f := hv.fr (Fr.of_below (S := fun _ => False) (b1.trans (b2.mono s1))) (fun _ _ _ => id)
  have H3 := Lib.hid (znewd_any (g := g) (r := r) 5 dv len f hv2 hl)
  go_wp2_with fail
  with_reducible refine H3.out.mono ?_
  rintro e w3 ⟨k, y, lk, ly, nky, rfl, hk3, hy3, b3⟩
  have s3 := b3.size
  have H4 := Lib.hid (lnew_any w3)
  go_wp2_with fail
  with_reducible refine H4.out.mono ?_
  rintro e w4 ⟨l, ll, rfl, hl4, b4⟩
  have s4 := b4.size
  have hw4 := (hw2.below b3).below b4
  have H5 := Lib.hid (tnew_any 1 hw4)
  go_wp2_with fail
  with_reducible refine H5.out.mono ?_
  rintro e w5 ⟨t0, lt0, rfl, ht5, b5⟩
  have s5 := b5.size
  have H6 := Lib.hid (tnew_any 2 (hw4.below b5))
  go_wp2_with fail
  with_reducible refine H6.out.mono ?_
  rintro e w6 ⟨t1, lt1, rfl, ht6, b6⟩
  have s6 := b6.size
  have H7 := Lib.hid (mnewd_any g r w6)
  go_wp2_with fail
  with_reducible refine H7.out.mono ?_
  rintro e w7 ⟨d, ld, rfl, hd7, b7⟩
  have s7 := b7.size
  have ug := hw1.lt g (.inl rfl)
  have uu := hu2.lt
  have uc1 := hq1.lt
  have uc2 := hq2.lt
  have uk := hk3.lt
  have uy := hy3.lt
  have ul := hl4.lt
  have ut0 := ht5.tm.lt
  have ut1 := ht6.tm.lt
  have ud := hd7.lt
  have um := hm.lt
  go_wp2
  go_ret
  obtain ⟨w8, hw8⟩ : ∃ w8, w7.alloc (.cells #[.int .i64 1, .iface 69 (.pointer (some ⟨t0, 0, none⟩)), .int .i64 2, .iface 69 (.pointer (some ⟨t1, 0, none⟩)), .int .i64 3, .iface 41 (.pointer (some ⟨u, 0, none⟩)), .int .i64 4, .iface 71 (.pointer (some ⟨d, 0, none⟩)), .int .i64 5, .iface 42 (.pointer (some ⟨k, 0, none⟩))] 56) = w8 := ⟨_, rfl⟩
  have z8 : w8.heap.size = w7.heap.size + 1 := by rw [← hw8]; simp
  have b8 : Below w7.heap.size w7 w8 := by rw [← hw8]; exact (Below.refl _ _).alloc (Nat.le_refl _) _
  obtain ⟨w9, hw9⟩ : ∃ w9, w8.alloc (.cells #[.pointer (some ⟨r, 0, none⟩), .pointer (some ⟨g, 0, none⟩), .pointer (some ⟨l, 0, none⟩), .pointer (some ⟨u, 0, none⟩), .pointer (some ⟨k, 0, none⟩), .slice (some ⟨w7.heap.size, 0, none⟩) 5 5] 45) = w9 := ⟨_, rfl⟩
  have b9 : Below w8.heap.size w8 w9 := by rw [← hw9]; exact (Below.refl _ _).alloc (Nat.le_refl _) _
  let G : PG := ⟨w7.heap.size + 1, w7.heap.size, r, y, g, l, t0, t1, u, c1, c2, d, k, fun x => M x ∨ x = y, p, nS len⟩
  have r8 : w8.rowIs w7.heap.size 56 10 (pt10 G) := by
    rw [← hw8]
    refine World.rowIs_alloc w7 _ _ _ fun i hi => ?_
    have : i = 0 ∨ i = 1 ∨ i = 2 ∨ i = 3 ∨ i = 4 ∨ i = 5 ∨ i = 6 ∨ i = 7 ∨ i = 8 ∨ i = 9 := by have : i < 10 := hi; omega
    rcases this with rfl | rfl | rfl | rfl | rfl | rfl | rfl | rfl | rfl | rfl <;> rfl
  have r9 : w9.rowIs (w7.heap.size + 1) 45 6 (bs6 G) := by
    rw [← hw9, ← z8]
    refine World.rowIs_alloc w8 _ _ _ fun i hi => ?_
    have : i = 0 ∨ i = 1 ∨ i = 2 ∨ i = 3 ∨ i = 4 ∨ i = 5 := by have : i < 6 := hi; omega
    rcases this with rfl | rfl | rfl | rfl | rfl | rfl <;> rfl
  have e9 : Fr (fun _ => False) w8 w9 := Fr.of_below b9
  have e8 : Fr (fun _ => False) w7 w9 := (Fr.of_below b8).trans e9
  have e7 : Fr (fun _ => False) w6 w9 := (Fr.of_below b7).trans e8
  have e6 : Fr (fun _ => False) w5 w9 := (Fr.of_below b6).trans e7
  have e5 : Fr (fun _ => False) w4 w9 := (Fr.of_below b5).trans e6
  have e4 : Fr (fun _ => False) w3 w9 := (Fr.of_below b4).trans e5
  have e3 : Fr (fun _ => False) w2 w9 := (Fr.of_below b3).trans e4
  have e2 : Fr (fun _ => False) w1 w9 := (Fr.of_below b2).trans e3
  have e1 : Fr (fun _ => False) w w9 := (Fr.of_below b1).trans e2
  have hP : ∀ i x, i < 9 → KP G ⟨.slice none 0 0, .slice none 0 0⟩ i x → Pos G w.heap.size w1.heap.size w2.heap.size w3.heap.size w4.heap.size w5.heap.size w6.heap.size w7.heap.size i x := by
    intro i x hi hx
    match i, hi with
    | 0, _ => rcases (show x = w7.heap.size + 1 ∨ x = w7.heap.size from hx) with rfl | rfl <;> (show w7.heap.size ≤ _; omega)
    | 1, _ => rcases (show x = g ∨ Value.ownBlock (.slice none 0 0) = some x from hx) with rfl | e
              · exact ⟨lg, ug⟩
              · cases e
    | 2, _ => obtain rfl : x = l := hx; exact ⟨ll, ul⟩
    | 3, _ => obtain rfl : x = t0 := hx; exact ⟨lt0, ut0⟩
    | 4, _ => obtain rfl : x = t1 := hx; exact ⟨lt1, ut1⟩
    | 5, _ => rcases (show x = u ∨ x = c1 ∨ x = c2 ∨ Value.ownBlock (.slice none 0 0) = some x from hx) with rfl | rfl | rfl | e
              · exact ⟨lu, uu⟩
              · exact ⟨lc1, uc1⟩
              · exact ⟨lc2, uc2⟩
              · cases e
    | 6, _ => obtain rfl : x = d := hx; exact ⟨ld, ud⟩
    | 7, _ => obtain rfl : x = k := hx; exact ⟨lk, uk, nky⟩
    | 8, _ => rcases (show M x ∨ x = y from hx) with e | rfl
              · exact .inl (um x e)
              · exact .inr ⟨ly, uy, rfl⟩
  have hsz : w.heap.size ≤ w1.heap.size ∧ w1.heap.size ≤ w2.heap.size ∧ w2.heap.size ≤ w3.heap.size ∧ w3.heap.size ≤ w4.heap.size ∧ w4.heap.size ≤ w5.heap.size ∧ w5.heap.size ≤ w6.heap.size ∧ w6.heap.size ≤ w7.heap.size := ⟨s1, s2, s3, s4, s5, s6, s7⟩
  have hy' : ¬ M y := fun e => by have := um y e; omega
  rw [hw8, hw9]
  refine ⟨G, ⟨.slice none 0 0, .slice none 0 0⟩, rfl, rfl, rfl, rfl, ⟨r9, r8.of_block (e9.block _ r8.lt id), hw1.fr e2 (fun _ _ => id), hl4.fr e5 id, ht5.tm.of_block (e6.block _ ut0 id), ht6.tm.of_block (e7.block _ ut1 id), hu2.of_block (e3.block _ uu id), hq1.fr e3 id, hq2.fr e3 id, World.ownsRow_nil _ _ _ _, hd7.of_block (e8.block _ ud id), hk3.of_block (e4.block _ uk id), ⟨M, rfl, hy', hm.fr e1 (fun _ _ => id), hy3.of_block (e4.block _ uy id), imD_bd HB.out⟩, ⟨n12, nu1, nu2⟩, (fun x hx => by cases hx), sep_pos hsz hP⟩, ?_, e1.below (Nat.le_refl _) (fun _ _ e => e.elim)⟩
  rintro x ⟨i, hi, hx⟩
  have hp := hP i x hi hx
  clear hP
  have hi' : i = 0 ∨ i = 1 ∨ i = 2 ∨ i = 3 ∨ i = 4 ∨ i = 5 ∨ i = 6 ∨ i = 7 ∨ i = 8 := by omega
  rcases hi' with rfl | rfl | rfl | rfl | rfl | rfl | rfl | rfl | rfl
  · simp only [Pos] at hp; exact .inr (by omega)
  · simp only [Pos] at hp; exact .inr (by omega)
  · simp only [Pos] at hp; exact .inr (by omega)
  · simp only [Pos] at hp; exact .inr (by omega)
  · simp only [Pos] at hp; exact .inr (by omega)
  · simp only [Pos] at hp; exact .inr (by omega)
  · simp only [Pos] at hp; exact .inr (by omega)
  · simp only [Pos] at hp; exact .inr (by omega)
  · rcases (show M x ∨ x = y from hx) with e | rfl
    · exact .inl e
    · exact .inr (by omega)
/-- memory behind an image -/
def imC (p len : Nat) (f : Nat → Int) : Nat → Int := fun i => if i < min len (1024 * p) then f i else 0
theorem imC_put (p len : Nat) (f : Nat → Int) : uC p Z0 0 (min len (1024 * p)) f = imC p len f := by
  have h : inB p 0 ((min len (1024 * p) : Nat) : Int) = true := by unfold inB; apply decide_eq_true; omega
  unfold uC
  rw [h]
  funext i
  show (if ((0 : Int).toNat ≤ i ∧ i < (0 : Int).toNat + min len (1024 * p)) then f (i - (0 : Int).toNat) else Z0 i) = _
  unfold imC Z0
  by_cases hi : i < min len (1024 * p)
  · rw [if_pos (by simpa using hi), if_pos hi]; simp
  · rw [if_neg (by simpa using hi), if_neg hi]
/-- the first m of a slice of bytes -/
theorem slice_pre (sp : Option Addr) (n c m : Nat) (hm : m ≤ n) (hn : n ≤ c) : ∀ w, (Instr.slice 32 (.slice sp n c) none (some (.int .i64 (m : Int))) none).run Try.prog w = .ok (.slice sp m c) w := by
  intro w
  rw [run_slice_h (ht := und_u8) (h0 := by omega) (h2 := by omega), size1_u8]
  show Result.ok (sliced sp 0 ((m : Int).toNat) c 1) w = _
  unfold sliced
  rw [Int.toNat_natCast]
  by_cases hc : c = 0
  · rw [if_pos hc]; rfl
  · rw [if_neg hc]
    cases sp with
    | none => rfl
    | some a =>
      show Result.ok (Value.slice (some (a.add (0 * 1))) (m - 0) (c - 0)) w = _
      rw [show a.add (0 * 1) = a by unfold Addr.add; split <;> simp_all]
      rfl
theorem ByAt.pre {Q : Nat → Prop} {w : World} {sp : Option Addr} {n c m : Nat} {f : Nat → Int} (h : ByAt Q w (.slice sp n c) n f) (hm : m ≤ n) : ByAt Q w (.slice sp m c) m f := by
  rcases h with ⟨c2, e, hn⟩ | ⟨ad, c2, e, hc, hq, hcell⟩
  · injection e with e1 e2 e3
    subst e1 e3
    exact .inl ⟨c, by rw [show m = 0 by omega], by omega⟩
  · injection e with e1 e2 e3
    subst e1 e3
    exact .inr ⟨ad, c, rfl, by omega, fun h0 => hq (by omega), fun i hi => hcell i (by omega)⟩
set_option maxRecDepth 100000 in
set_option maxHeartbeats 2000000 in
theorem bnewp_any {Q Q2 : Nat → Prop} (pages : Int) (p : Nat) (hp : clampP pages = p) (iv dv : Value) (li ld : Nat) (fi fd : Nat → Int) (w : World) (hi : ByAt Q w iv li fi) (hd : ByAt Q2 w dv ld fd) (hli : li ≤ 10000) (hld : ld ≤ 10000) (h64 : p ≤ 64) :
    Calls Try.prog 4 #[.int .i64 pages, iv, dv] w fun e w' => ∃ G V, e = .returned (.pointer (some ⟨G.b, 0, none⟩)) ∧ G.p = p ∧ G.n = nS ld ∧ Px w' G V (S0B (imC p li fi) (imD ld fd)) ∧ (∀ k, OwnP G V k → w.heap.size ≤ k) ∧ Below w.heap.size w w' := by
  have H1 := Lib.hid (mnew_any pages p hp w)
  have HC := Lib.hid (imC_put p li fi)
  obtain ⟨sp, c, rfl, _⟩ := hi.one
  have hlc : li ≤ c := by
    rcases hi with ⟨c2, e, hn⟩ | ⟨ad, c2, e, hc, _⟩
    · omega
    · injection e with _ _ e3; omega
  have HII := Lib.hid hi
  have HLC := Lib.hid hlc
  clear hi
  by_cases hlt : 1024 * p < li
  · obtain hm : min li (1024 * p) = 1024 * p := by omega
    have HI := Lib.hid (HII.out.pre (m := 1024 * p) (by omega))
    rw [hm] at HC
    have hs1 := slice_pre sp li c (1024 * p) (by omega) hlc
    rw [show ((1024 * p : Nat) : Int) = 1024 * (p : Int) by omega] at hs1
    have hltI : (1024 * (p : Int)) < (li : Int) := by omega
    clear hm hlc hlt
    go_enter Try.func4, Try.ntmps4
    go_wp2_with fail
    with_reducible refine H1.out.mono ?_
    rintro e w1 ⟨r, M, rfl, hM, hr1, b1⟩
    obtain ⟨bb, mm, tt, hO, hmem⟩ := hr1
    have HS := Lib.hid (size_any hmem)
    have hr1 : Ra 63 w1 r M p Z0 := ⟨bb, mm, tt, hO, hmem⟩
    clear hmem hO
    go_wp2_with fail
    with_reducible refine HS.out.mono ?_
    rintro e w2 ⟨rfl, rfl⟩
    have hI1 := HI.out.fr (Fr.of_below (S := fun _ => False) b1) (fun _ _ _ => id)
    have HP := Lib.hid (mput_any 0 (.slice sp (1024 * p) c) (1024 * p) fi hr1 hI1 (by omega) (by omega) (by omega))
    go_wp2_with fail
    with_reducible refine HP.out.mono ?_
    rintro e w3 ⟨rfl, hr3, hf3⟩
    rw [HC.out] at hr3
    have b3 : Below w.heap.size w w3 := b1.trans (hf3.below b1.size (fun k hk e => by have := hM k e; omega))
    have hd3 : ByAt Q2 w3 dv ld fd := hd.fr (Fr.of_below (S := fun _ => False) b3) (fun _ _ _ => id)
    have HJ := Lib.hid (bjoin_any dv ld fd hr3 hd3 hld)
    go_wp2_with fail
    with_reducible refine HJ.out.mono ?_
    rintro e w4 ⟨G, V, rfl, hGr, hGp, hGn, h4, ho4, b4⟩
    go_wp2
    go_ret
    refine ⟨G, V, rfl, hGp, hGn, h4, fun k hk => ?_, b3.trans (b4.mono b3.size)⟩
    rcases ho4 k hk with e | e
    · exact hM k e
    · have := b3.size; omega
  · obtain hm : min li (1024 * p) = li := by omega
    have HI := Lib.hid (HII.out)
    rw [hm] at HC
    have hs1 := slice_pre sp li c li (by omega) hlc
    have hltI : ¬ (1024 * (p : Int)) < (li : Int) := by omega
    clear hm hlc hlt
    go_enter Try.func4, Try.ntmps4
    go_wp2_with fail
    with_reducible refine H1.out.mono ?_
    rintro e w1 ⟨r, M, rfl, hM, hr1, b1⟩
    obtain ⟨bb, mm, tt, hO, hmem⟩ := hr1
    have HS := Lib.hid (size_any hmem)
    have hr1 : Ra 63 w1 r M p Z0 := ⟨bb, mm, tt, hO, hmem⟩
    clear hmem hO
    go_wp2_with fail
    with_reducible refine HS.out.mono ?_
    rintro e w2 ⟨rfl, rfl⟩
    have hI1 := HI.out.fr (Fr.of_below (S := fun _ => False) b1) (fun _ _ _ => id)
    have HP := Lib.hid (mput_any 0 (.slice sp li c) li fi hr1 hI1 (by omega) (by omega) (by omega))
    go_wp2_with fail
    with_reducible refine HP.out.mono ?_
    rintro e w3 ⟨rfl, hr3, hf3⟩
    rw [HC.out] at hr3
    have b3 : Below w.heap.size w w3 := b1.trans (hf3.below b1.size (fun k hk e => by have := hM k e; omega))
    have hd3 : ByAt Q2 w3 dv ld fd := hd.fr (Fr.of_below (S := fun _ => False) b3) (fun _ _ _ => id)
    have HJ := Lib.hid (bjoin_any dv ld fd hr3 hd3 hld)
    go_wp2_with fail
    with_reducible refine HJ.out.mono ?_
    rintro e w4 ⟨G, V, rfl, hGr, hGp, hGn, h4, ho4, b4⟩
    go_wp2
    go_ret
    refine ⟨G, V, rfl, hGp, hGn, h4, fun k hk => ?_, b3.trans (b4.mono b3.size)⟩
    rcases ho4 k hk with e | e
    · exact hM k e
    · have := b3.size; omega
end
end Go.Proofs.Ytkfedihaldpgmaa

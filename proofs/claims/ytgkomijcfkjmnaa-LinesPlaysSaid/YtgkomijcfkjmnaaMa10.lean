/-
  Chapter 10: lines in new memory; some runs (function 'known'); the walk of LinesMask.
-/
import Derived.Test.YtgkomijcfkjmnaaLn10
namespace Go.Proofs.Ytgkomijcfkjmnaa
open Go.RowKit
set_option linter.unusedVariables false
set_option linter.unusedSimpArgs false

/-- it returns x, and what was there is as it was -/
def RetB (x : Value) (w : World) (e : Ending) (w' : World) : Prop := e = .returned x ∧ Below w.heap.size w w'
/-- lines in a block that is new since W0; what was there is as it was -/
structure One (W0 w : World) (g : Nat) (a e : Int) : Prop where
  ln : Ln w g a e
  nw : W0.heap.size ≤ g
  bl : Below W0.heap.size W0 w
section
variable {W0 w w' : World} {g : Nat} {a e a2 e2 : Int}
theorem One.step (h : One W0 w g a e) (hl : Ln w' g a2 e2) (hf : Fr (fun k => k = g) w w') : One W0 w' g a2 e2 :=
  ⟨hl, h.nw, h.bl.trans (hf.below h.bl.size (fun k hk e => by have := h.nw; omega))⟩
theorem One.below (h : One W0 w g a e) (b : Below w.heap.size w w') : One W0 w' g a e := ⟨h.ln.below b, h.nw, h.bl.trans (b.mono h.bl.size)⟩
theorem One.alloc (h : One W0 w g a e) (o : Obj) : One W0 (w.alloc o) g a e := h.below ((Below.refl _ _).alloc (Nat.le_refl _) o)
theorem One.drewN (h : One W0 w g a e) (n : Nat) : One W0 (w.drewN n) g a e := h.step (h.ln.drewN n) ((Fr.refl _ w).drewN n)
theorem set_to {d : Int} {up : Bool} (h : One W0 w g a e) (hu : upF d up a = a2) :
    Calls Try.prog 8 #[.pointer (some ⟨g, 0, none⟩), .int .i64 d, .bool up] w fun en w' => en = .returned (.tuple #[]) ∧ One W0 w' g a2 e :=
  (set_any d up h.ln).mono fun en w' ⟨he, hl, hf⟩ => ⟨he, h.step (hu ▸ hl) hf⟩
theorem raised_to {b : Bool} (h : One W0 w g a e) (hb : raisB a e = b) :
    Calls Try.prog 11 #[.pointer (some ⟨g, 0, none⟩)] w fun en w' => en = .returned (.bool b) ∧ One W0 w' g a e :=
  (raised_any h.ln).mono fun en w' ⟨he, n, hw⟩ => ⟨hb ▸ he, hw ▸ h.drewN n⟩
theorem write_to {p v : Int} (h : One W0 w g a e) (hp : isWord p) (hu : enF p v e = e2) :
    Calls Try.prog 9 #[.pointer (some ⟨g, 0, none⟩), .int .u32 p, .int .u32 v] w fun en w' => en = .returned (.bool true) ∧ One W0 w' g a e2 :=
  (write_any p v h.ln).mono fun en w' ⟨he, hl, hf⟩ => ⟨by rw [he, decide_eq_true hp], h.step (hu ▸ hl) hf⟩
end

set_option maxHeartbeats 1000000 in
theorem known_any (w : World) : Calls Try.prog 6 #[] w (RetB (.bool true) w) := by
  have h1 : raisB 0 0 = false := by decide
  have h2 : upF 3 true 0 = 8 := by decide
  have h3 : enF 4 8 0 = 8 := by decide
  have h4 : raisB 8 8 = true := by decide
  have h5 : isWord 4 := by decide
  have h6 : decide (isWord 1) = false := by decide
  have H1 := Lib.hid h1
  have H2 := Lib.hid h2
  have H3 := Lib.hid h3
  have H4 := Lib.hid h4
  have H5 := Lib.hid h5
  have H6 := Lib.hid h6
  clear h1 h2 h3 h4 h5 h6
  go_enter Try.func6, Try.ntmps6
  go_wp2_with fail
  refine (lnew_any w).mono ?_
  rintro e w1 ⟨g, hg, rfl, hl, hb⟩
  have o1 : One w w1 g 0 0 := ⟨hl, hg, hb⟩
  clear hl hb hg
  go_wp2_with fail
  refine (raised_to o1 H1.out).mono ?_
  rintro e w2 ⟨rfl, o2⟩
  go_wp2_with fail
  refine (set_to o2 H2.out).mono ?_
  rintro e w3 ⟨rfl, o3⟩
  go_wp2_with fail
  refine (write_to o3 H5.out H3.out).mono ?_
  rintro e w4 ⟨rfl, o4⟩
  go_wp2_with fail
  refine (read_any 1 0 o4.ln (by omega) (by omega)).mono ?_
  rintro e w5 ⟨rfl, rfl⟩
  rw [H6.out]
  go_wp2_with fail
  refine (raised_to o4 H4.out).mono ?_
  rintro e w5 ⟨rfl, o5⟩
  go_wp2
  go_ret
  exact ⟨rfl, o5.bl⟩

theorem mask_off (v b : Int) : raisB b (bits .and .u32 (bits .andNot .u32 v b) 62) = false := by
  have : bits .and .u32 b (bits .and .u32 (bits .andNot .u32 v b) 62) = 0 := by
    simp only [lb_and, lb_andNot, lb_back]
    have e : BitVec.ofInt 32 b &&& (BitVec.ofInt 32 v &&& ~~~BitVec.ofInt 32 b &&& BitVec.ofInt 32 62) = 0 := by
      ext i hi
      simp only [BitVec.getElem_and, BitVec.getElem_not]
      cases (BitVec.ofInt 32 b)[i] <;> simp
    rw [e]
    rfl
  unfold raisB
  rw [this]
  rfl
theorem abs3 : ∀ x y z : Bool, (x && z) = x → (x && ((y || x) && z)) = x := by decide
theorem mask_on (v b : Int) (hb : BitVec.ofInt 32 b &&& BitVec.ofInt 32 62 = BitVec.ofInt 32 b) (hn : ((BitVec.ofInt 32 b).toNat : Int) ≠ 0) : raisB b (bits .and .u32 (bits .or .u32 v b) 62) = true := by
  have : bits .and .u32 b (bits .and .u32 (bits .or .u32 v b) 62) = ((BitVec.ofInt 32 b).toNat : Int) := by
    simp only [lb_and, lb_or, lb_back]
    have e : BitVec.ofInt 32 b &&& ((BitVec.ofInt 32 v ||| BitVec.ofInt 32 b) &&& BitVec.ofInt 32 62) = BitVec.ofInt 32 b := by
      ext i hi
      have hi' := congrArg (fun x => x.getLsbD i) hb
      simp only [BitVec.getLsbD_eq_getElem hi, BitVec.getElem_and] at hi'
      simp only [BitVec.getElem_and, BitVec.getElem_or]
      exact abs3 _ _ _ hi'
    rw [e]
  unfold raisB
  rw [this]
  simpa using hn
/-- what LinesMask meets at device d -/
structure Mask (d b v : Int) : Prop where
  u1 : upF d true 0 = b
  r1 : raisB b 0 = false
  r2 : raisB b (bits .and .u32 (bits .andNot .u32 v b) 62) = false
  r3 : raisB b (bits .and .u32 (bits .or .u32 v b) 62) = true
  u4 : upF d false b = 0
  r4 : ∀ x, raisB 0 x = false
theorem mask_at (v : Int) : Mask 1 2 v ∧ Mask 2 4 v ∧ Mask 3 8 v ∧ Mask 4 16 v ∧ Mask 5 32 v := by
  have z : ∀ x, raisB 0 x = false := fun x => by
    have : bits .and .u32 0 x = 0 := by rw [lb_and]; simp
    unfold raisB; rw [this]; rfl
  refine ⟨?_, ?_, ?_, ?_, ?_⟩
  all_goals exact ⟨by decide, by decide, mask_off _ _, mask_on _ _ (by decide) (by decide), by decide, z⟩
theorem tmod5 (n : Int) : -5 < n.tmod 5 ∧ n.tmod 5 < 5 := by
  by_cases h : 0 ≤ n
  · rw [Int.tmod_eq_emod_of_nonneg h]; omega
  · have e : n.tmod 5 = -((-n) % 5) := by rw [← Int.tmod_eq_emod_of_nonneg (by omega), Int.neg_tmod]; omega
    omega

set_option maxHeartbeats 4000000 in
set_option maxRecDepth 100000 in
theorem mask_walk (dev v : Int) (w : World) (d0 : -9223372036854775808 ≤ dev) (d1 : dev ≤ 9223372036854775807) (v0 : 0 ≤ v) (v1 : v < 4294967296) :
    Calls Try.prog 5 #[.int .i64 dev, .int .u32 v] w (RetB (.bool true) w) := by
  obtain ⟨p1, p2⟩ := tmod5 dev
  have M := Lib.hid (mask_at v)
  have E4 := Lib.hid (show ∀ v e, enF 4 v e = bits .and .u32 v 62 from fun _ _ => rfl)
  have E0 := Lib.hid (show ∀ v e, enF 0 v e = e from fun _ _ => rfl)
  have E40 := Lib.hid (show ∀ e, enF 4 0 e = 0 from fun _ => (by decide : bits .and .u32 0 62 = 0))
  have I4 := Lib.hid (show isWord 4 by decide)
  have I0 := Lib.hid (show isWord 0 by decide)
  go_enter Try.func5, Try.ntmps5
  go_wp2_with fail
  refine (lnew_any w).mono ?_
  rintro e w1 ⟨g, hg, rfl, hl, hb⟩
  have o1 : One w w1 g 0 0 := ⟨hl, hg, hb⟩
  clear hl hb hg
  go_wp2_with fail
  obtain ⟨D, HD⟩ : ∃ D, Hid (1 + dev.tmod 5 % 5 = D) := ⟨_, rfl⟩
  have q1 : 1 ≤ D := by rw [← HD.out]; omega
  have q2 : D ≤ 5 := by rw [← HD.out]; omega
  obtain ⟨b, HB⟩ : ∃ b : Int, Hid ((2 : Int) ^ D.toNat % 4294967296 = b) := ⟨_, rfl⟩
  have HM : Hid (Mask D b v) := by
    have hq : D = 1 ∨ D = 2 ∨ D = 3 ∨ D = 4 ∨ D = 5 := by omega
    obtain ⟨m1, m2, m3, m4, m5⟩ := M.out
    have hb := HB.out
    rcases hq with rfl | rfl | rfl | rfl | rfl
    · obtain rfl : 2 = b := hb; exact m1
    · obtain rfl : 4 = b := hb; exact m2
    · obtain rfl : 8 = b := hb; exact m3
    · obtain rfl : 16 = b := hb; exact m4
    · obtain rfl : 32 = b := hb; exact m5
  simp only [HD.out, HB.out]
  clear HD HB M p1 p2
  refine (set_to o1 HM.out.u1).mono ?_
  rintro e w2 ⟨rfl, o2⟩
  clear o1
  go_wp2_with fail
  refine (raised_to o2 HM.out.r1).mono ?_
  rintro e w3 ⟨rfl, o3⟩
  clear o2
  go_wp2_with fail
  refine (write_to o3 I4.out (E4.out _ _)).mono ?_
  rintro e w4 ⟨rfl, o4⟩
  clear o3
  go_wp2_with fail
  refine (raised_to o4 HM.out.r2).mono ?_
  rintro e w5 ⟨rfl, o5⟩
  clear o4
  go_wp2_with fail
  refine (write_to o5 I4.out (E4.out _ _)).mono ?_
  rintro e w6 ⟨rfl, o6⟩
  clear o5
  go_wp2_with fail
  refine (raised_to o6 HM.out.r3).mono ?_
  rintro e w7 ⟨rfl, o7⟩
  clear o6
  go_wp2_with fail
  refine (set_to o7 HM.out.u4).mono ?_
  rintro e w8 ⟨rfl, o8⟩
  clear o7
  go_wp2_with fail
  refine (raised_to o8 (HM.out.r4 _)).mono ?_
  rintro e w9 ⟨rfl, o9⟩
  clear o8
  go_wp2_with fail
  refine (set_to o9 HM.out.u1).mono ?_
  rintro e w10 ⟨rfl, o10⟩
  clear o9
  go_wp2_with fail
  refine (raised_to o10 HM.out.r3).mono ?_
  rintro e w11 ⟨rfl, o11⟩
  clear o10
  go_wp2_with fail
  refine (write_to o11 I0.out (E0.out _ _)).mono ?_
  rintro e w12 ⟨rfl, o12⟩
  clear o11
  go_wp2_with fail
  refine (raised_to o12 HM.out.r3).mono ?_
  rintro e w13 ⟨rfl, o13⟩
  clear o12
  go_wp2_with fail
  refine (write_to o13 I4.out (E40.out _)).mono ?_
  rintro e w14 ⟨rfl, o14⟩
  clear o13
  go_wp2_with fail
  refine (raised_to o14 HM.out.r1).mono ?_
  rintro e w15 ⟨rfl, o15⟩
  clear o14
  go_wp2_with fail
  refine (known_any _).mono ?_
  rintro e w16 ⟨rfl, hb⟩
  go_wp2
  go_ret
  exact ⟨rfl, (o15.below hb).bl⟩
end Go.Proofs.Ytgkomijcfkjmnaa

/-
  The walk of RamMarks: it returns true, and nothing that was there has turned.
-/
import Derived.Test.YtfpddhpacfcfmaaKnown
import Derived.OpenShut
namespace Go.Proofs.Ytfpddhpacfcfmaa
open Go.RowKit
set_option linter.unusedVariables false

/-- a slice of integers that came in -/
def Row (k : IntKind) (w : World) (a : Option Addr) (len cap : Nat) (zs : List Int) : Prop :=
  (a = none ∧ len = 0 ∧ cap = 0 ∧ zs = []) ∨
  ∃ x, a = some x ∧ len ≤ cap ∧ cap ≤ maxLen ∧ zs.length = cap ∧ (∀ i, i < zs.length → w.cell? (x.add i) = some (.int k (zs.getD i 0))) ∧ ∀ n ∈ zs, (Lit.int k n).wf = true
/-- the cells of a slice of integers, as the walk asks for them: by block and place -/
def Nums (k : IntKind) (w : World) (a : Option Addr) (len : Nat) (lo hi : Int) : Prop :=
  ∀ i, i < len → ∃ b o n, a = some ⟨b, o, none⟩ ∧ b < w.heap.size ∧ w.cell? ⟨b, o + i, none⟩ = some (.int k n) ∧ lo ≤ n ∧ n ≤ hi
theorem addr_plain {w : World} {x : Addr} {v : Value} (h : w.cell? x = some v) : x.spot = none := by
  unfold World.cell? at h
  split at h
  · split at h
    · cases h
    · rename_i hs
      cases hx : x.spot
      · rfl
      · simp [hx] at hs
  · cases h
theorem nums_of {k : IntKind} {w : World} {a : Option Addr} {len cap : Nat} {zs : List Int} {lo hi : Int} (h : Row k w a len cap zs) (hb : ∀ n, (Lit.int k n).wf = true → lo ≤ n ∧ n ≤ hi) : Nums k w a len lo hi := by
  intro i hi
  rcases h with ⟨_, rfl, _⟩ | ⟨x, rfl, h1, _, h2, hc, hw⟩
  · omega
  · have hci := hc i (by omega)
    have hsp : (x.add 0).spot = none := addr_plain (hc 0 (by omega))
    obtain ⟨b, o, s⟩ := x
    have hs : s = none := by simpa [Addr.add] using hsp
    subst hs
    have e : (⟨b, o, none⟩ : Addr).add i = ⟨b, o + i, none⟩ := by unfold Addr.add; split <;> simp_all
    rw [e] at hci
    have hl : i < zs.length := by omega
    refine ⟨b, o, zs.getD i 0, rfl, block_lt_of_cell hci, hci, hb _ (hw _ ?_)⟩
    rw [List.getD_eq_getElem?_getD, List.getElem?_eq_getElem hl]
    exact List.getElem_mem hl
theorem len_of {k : IntKind} {w : World} {a : Option Addr} {len cap : Nat} {zs : List Int} (h : Row k w a len cap zs) : len ≤ maxLen := by
  rcases h with ⟨_, rfl, _⟩ | ⟨x, rfl, h1, h3, _⟩
  · exact Nat.zero_le _
  · omega

theorem td_one (M D : Nat → Bool) (A : Nat) : (fun j => if j = A / 1024 then (D (A / 1024) || M (A / 1024)) else D j) = td M D A 1 := by
  funext j
  by_cases e : j = A / 1024
  · subst e
    have : pg A 1 (A / 1024) = true := by unfold pg; simp
    simp [td, this]
  · have : pg A 1 j = false := by unfold pg; simp; omega
    simp [td, this, e]
theorem clD_all (D : Nat → Bool) (p : Nat) : wl (clD D p) p = [] := by
  unfold wl clD
  rw [List.filter_eq_nil_iff]
  intro a ha
  simp at ha
  simp [ha]
theorem setP_nat {p V : Nat} {M : Nat → Bool} {x : Bool} (h : V < p) : setP p M (V : Int) x = fun j => if j = V then x else M j := by
  have e : isP p (V : Int) = true := by simp [isP, h]
  unfold setP
  rw [e]
  rfl
def false8s : Array Value := #[.bool false, .bool false, .bool false, .bool false, .bool false, .bool false, .bool false, .bool false]
def Bls (f : Nat → Bool) : Nat → Value := fun i => .bool (f i)

theorem bls_set (I : Nat → Bool) (V : Nat) (x : Bool) (j : Nat) : (if j = V then Value.bool x else Bls I j) = Bls (fun j => if j = V then x else I j) j := by
  unfold Bls
  by_cases e : j = V
  · rw [if_pos e]; simp [e]
  · rw [if_neg e]; simp [e]
theorem bls_td {I D : Nat → Bool} {A : Nat} {x : Bool} (h : x = (D (A / 1024) || I (A / 1024))) (j : Nat) : (if j = A / 1024 then Value.bool x else Bls D j) = Bls (td I D A 1) j := by
  rw [← td_one, h]
  exact bls_set D (A / 1024) _ j
theorem marked_nat {w : World} {g b m t p V : Nat} {C : Nat → Int} {M D : Nat → Bool} (hV : V < p) (h : Mem 57 w g b m t p C M D) :
    Calls Try.prog 17 #[.pointer (some ⟨g, 0, none⟩), .int .i64 (V : Int)] w fun e w' => e = .returned (.bool (M V)) ∧ w = w' := by
  have e : mkAt p M (V : Int) = M V := by
    unfold mkAt
    rw [show isP p (V : Int) = true by simp [isP, hV]]
    rfl
  rw [← e]
  exact marked_any _ h
theorem below_drewN {B : Nat} {a w : World} (h : Below B a w) (n : Nat) : Below B a (w.drewN n) := ⟨h.os, h.tape, h.output, h.size, h.block⟩
/-- behind an append onto a row of the call's own: nothing older has turned -/
theorem fr_app {a w w' : World} {o : Obj} {v : Value} {n : Nat} {xs : List Value} {e : TypeId} (hown : w.ownsRow a.heap.size e 1 v n xs) (f : Fr (fun _ => False) a w) (g : (w.alloc o).grownBy w' v.ownBlock) : Fr (fun _ => False) a w' :=
  ⟨g.os.trans f.os, g.tape.trans f.tape, g.output.trans f.output, Nat.le_trans f.size (Nat.le_trans (by simp) g.size), fun i hi hn => by
    have h1 : i < w.heap.size := Nat.lt_of_lt_of_le hi f.size
    exact (g.block i (by simp; omega) (fun e => by have := own_lt hown _ e; omega)).trans ((Below.heap_alloc _ _ _ h1).trans (f.block i hi hn))⟩
theorem false8 : ∀ i, i < false8s.size → false8s[i]? = some (Bls KF i) := by
  intro i hi
  have : i = 0 ∨ i = 1 ∨ i = 2 ∨ i = 3 ∨ i = 4 ∨ i = 5 ∨ i = 6 ∨ i = 7 := by have : i < 8 := hi; omega
  rcases this with rfl | rfl | rfl | rfl | rfl | rfl | rfl | rfl <;> rfl
set_option maxRecDepth 100000 in
set_option maxHeartbeats 4000000 in
theorem marks_walk (a0 : Option Addr) (len0 cap0 : Nat) (z0 : List Int) (a1 : Option Addr) (len1 cap1 : Nat) (z1 : List Int) (w : World) (r0 : Row .i64 w a0 len0 cap0 z0) (r1 : Row .u32 w a1 len1 cap1 z1) :
    Calls Try.prog 6 #[.slice a0 len0 cap0, .slice a1 len1 cap1] w (TrB w) := by
  have N0 := Lib.hid (nums_of (lo := -9223372036854775808) (hi := 9223372036854775807) r0 fun n h => by have := bounds_i64 h; omega)
  have N1 := Lib.hid (nums_of (lo := 0) (hi := 4294967295) r1 fun n h => by have := bounds_u32 h; omega)
  have l0 := len_of r0
  have l1 := len_of r1
  unfold maxLen at l0 l1
  clear r0 r1
  go_enter Try.func6, Try.ntmps6
  go_wp2_with fail
  refine (new_any 8 w).mono ?_
  rintro e w1 ⟨g, b, m, t, rfl, lg, lb, lm, lt, hm1, hb1⟩
  rw [show clampP 8 = 8 from rfl] at hm1
  have s1 := hb1.size
  have lg1 := hm1.st.lt
  have lb1 := hm1.hb.lt
  have lm1 := hm1.hm.lt
  have lt1 := hm1.ht.lt
  go_wp2_with fail
  go_loopw [8] (fun i wr => ∃ (k : Nat) (I : Nat → Bool), k ≤ 8 ∧ k ≤ len0 ∧ i = .int .i64 k ∧ Mem 57 wr g b m t 8 K0 I KF ∧ wr.rowIs w1.heap.size 44 8 (Bls I) ∧ wr.rowIs (w1.heap.size + 1) 44 8 (Bls KF) ∧ Below w.heap.size w wr) (fun i _ => 8 - (intOf i).toNat)
  case atStart =>
    refine ⟨0, KF, by omega, by omega, rfl, (hm1.alloc _).alloc _, ?_, ?_, (hb1.alloc (by omega) _).alloc (by simp; omega) _⟩
    · exact (World.rowIs_alloc w1 _ _ (Bls KF) false8).alloc _
    · have := World.rowIs_alloc (w1.alloc (.cells false8s 44)) false8s 44 (Bls KF) false8
      rw [Deep.nblk_alloc] at this
      exact this
  case round =>
    obtain ⟨k, I, hk8, hkl, rfl, hm, hi, ho, hbl⟩ := hrel
    by_cases hlt : k < 8 ∧ k < len0
    · obtain ⟨x0, x1⟩ := hlt
      obtain ⟨vb, vo, n, rfl, vlt, hc, c0, c1⟩ := N0.out k x1
      have hcr := (hbl.cell (p := ⟨vb, vo + k, none⟩) vlt).trans hc
      clear hc
      have z0 : (0 : Int) ≤ k := by omega
      go_wp2_with fail
      refine (within_any n 0 7 _ (by omega) (by omega) (by omega) (by omega) (by omega)).mono ?_
      rintro e w2 ⟨v, v0, v1, rfl, rfl⟩
      obtain ⟨V, rfl⟩ : ∃ V : Nat, v = V := ⟨v.toNat, by omega⟩
      go_wp2_with fail
      refine (mark_any _ hm).mono ?_
      rintro e w2 ⟨rfl, hm2, hf2⟩
      have hi2 : w2.rowIs w1.heap.size 44 8 (Bls I) := hi.of_block (hf2.block _ hi.lt (by rintro (e | e | e) <;> omega))
      have ho2 : w2.rowIs (w1.heap.size + 1) 44 8 (Bls KF) := ho.of_block (hf2.block _ ho.lt (by rintro (e | e | e) <;> omega))
      have hcI := hi2.cell (i := V) (by omega)
      have hfI := hi2.frozen V
      have v1' : V < 8 := by omega
      go_wp2_with fail
      go_roundw
      case rel => exact ⟨k + 1, fun j => if j = V then true else I j, by omega, by omega, by go_num,
          by
            have e : setP 8 I (V : Int) true = fun j => if j = V then true else I j := setP_nat (by omega)
            rw [← e]
            exact hm2.keep ((Fr.refl (fun x => x = w1.heap.size) _).setCell (.inl rfl) _) (by omega) (by omega) (by omega) (by omega),
          (hi2.set V (.bool true)).congr (fun j _ => bls_set I V true j), ho2.setOther (by simp) _, (below_own hbl lb lm lt hf2).setCell (by simp; omega) _⟩
      case measure => simp [intOf]; omega
    · by_cases hx : k < len0
      all_goals
        try (have hd : decide ((k : Int) < 8) = false := by simp; omega)
        clear hlt
        go_wp2_with fail
        go_loopw [10] (fun i wr => ∃ (k : Nat) (C : Nat → Int) (D : Nat → Bool), k ≤ 20 ∧ k ≤ len1 ∧ i = .int .i64 k ∧ Mem 57 wr g b m t 8 C I D ∧ wr.rowIs w1.heap.size 44 8 (Bls I) ∧ wr.rowIs (w1.heap.size + 1) 44 8 (Bls D) ∧ Below w.heap.size w wr) (fun i _ => 20 - (intOf i).toNat)
        case atStart => exact ⟨0, K0, KF, by omega, by omega, rfl, hm, hi, ho, hbl⟩
        case round =>
          clear hm hi ho hbl
          obtain ⟨k2, C, D, hk20, hkl2, rfl, hm, hi, ho, hbl⟩ := hrel
          by_cases hlt : k2 < 20 ∧ k2 < len1
          · obtain ⟨x0, x1⟩ := hlt
            obtain ⟨vb, vo, n, rfl, vlt, hc, c0, c1⟩ := N1.out k2 x1
            have hcr := (hbl.cell (p := ⟨vb, vo + k2, none⟩) vlt).trans hc
            clear hc
            obtain ⟨A, HA⟩ : ∃ A : Nat, Hid (n % 8192 = (A : Int)) := ⟨(n % 8192).toNat, by show _ = _; omega⟩
            have hA : A < 8192 := by have := HA.out; omega
            go_wp2_with fail
            rw [HA.out]
            refine (store_any A 1 0 hm (by omega) (by omega) (by omega) (by omega) (by omega) (by omega)).mono ?_
            rintro e w2 ⟨rfl, hm2, hf2⟩
            have e1 : okN 8 A 1 = true := by simp [okN]; omega
            rw [e1]
            have e2 : aD 8 I D A 1 = td I D A 1 := by unfold aD; rw [e1]; rfl
            rw [e2] at hm2
            clear e1 e2
            have hi2 : w2.rowIs w1.heap.size 44 8 (Bls I) := hi.of_block (hf2.block _ hi.lt (by rintro (e | e | e) <;> omega))
            have ho2 : w2.rowIs (w1.heap.size + 1) 44 8 (Bls D) := ho.of_block (hf2.block _ ho.lt (by rintro (e | e | e) <;> omega))
            have hcI := hi2.cell (i := A / 1024) (by omega)
            have hcO := ho2.cell (i := A / 1024) (by omega)
            have hfO := ho2.frozen (A / 1024)
            unfold Bls at hcI hcO
            have hA8 : A / 1024 < 8 := by omega
            cases hD : D (A / 1024)
            all_goals
              rw [hD] at hcO
              have HD := Lib.hid hD
              clear hD
              go_wp2_with fail
              go_roundw
              case rel =>
                exact ⟨k2 + 1, _, td I D A 1, by omega, by omega, by go_num, hm2.keep ((Fr.refl (fun x => x = w1.heap.size + 1) _).setCell (.inl rfl) _) (by omega) (by omega) (by omega) (by omega),
                  hi2.setOther (by simp) _, (ho2.set (A / 1024) _).congr (fun j _ => bls_td (by rw [HD.out]; rfl) j), (below_own hbl lb lm lt hf2).setCell (by simp; omega) _⟩
              case measure => simp [intOf]; omega
          · by_cases hx2 : k2 < len1
            all_goals
              try (have hd2 : decide ((k2 : Int) < 20) = false := by simp; omega)
              clear hlt
              have hsz := hbl.size
              have so := ho.lt
              obtain ⟨i0, hi0, hi3⟩ := Option.map_eq_some_iff.1 info_int
              simp only [Prod.mk.injEq] at hi3
              obtain ⟨hz0, hz1, hz2⟩ := hi3
              have HI := Lib.hid hi0
              have HZ0 := Lib.hid hz0
              have HZ1 := Lib.hid hz1
              have HZ2 := Lib.hid hz2
              clear hi0 hz0 hz1 hz2
              go_wp2_with fail
              go_loopw [12, 13] (fun v i w5 => ∃ k : Nat, k ≤ 8 ∧ i = .int .i64 k ∧ w5.ownsRow wr.heap.size 3 1 v (wl D k).length (ints (wl D k)) ∧ Fr (fun _ => False) wr w5) (fun _ i _ => 8 - (intOf i).toNat)
              case atStart => exact ⟨0, by omega, rfl, own_zero _ _ _, Fr.refl _ _⟩
              case round =>
                obtain ⟨k3, hk3, rfl, hown, hf5⟩ := hrel
                have hm5 := hm.keep hf5 id id id id
                have hi5 := hi.of_block (hf5.block _ hi.lt id)
                have ho5 := ho.of_block (hf5.block _ ho.lt id)
                have s5 := hf5.size
                by_cases hlt : k3 < 8
                · have hl := wl_len D k3
                  have hcI := hi5.cell (i := k3) hlt
                  have hcO := ho5.cell (i := k3) hlt
                  unfold Bls at hcI hcO
                  have z8 : (k3 : Int) < 8 := by omega
                  cases hD : D k3
                  · rw [hD] at hcO
                    have HD := Lib.hid hD
                    clear hD
                    go_wp2_with fail
                    go_quiet ((go_at_call 17; exact (marked_nat hlt (hm5.drewN _)).mono fun _ _ h => ⟨h.1, _, h.2.symm⟩))
                    go_wp2
                    go_roundw
                    case rel => exact ⟨k3 + 1, by omega, by go_num, by rw [wl_no D k3 HD.out]; exact hown, hf5.drewN _⟩
                    case measure => simp [intOf]; omega
                  · rw [hD] at hcO
                    have HD := Lib.hid hD
                    clear hD
                    have hown2 := hown.alloc (.cells #[.int .i64 (k3 : Int)] 3)
                    have hsz2 : _ ≤ (wr.alloc (.cells #[.int .i64 (k3 : Int)] 3)).heap.size := Nat.le_trans hf5.size (by simp)
                    go_wp2_with (at_builtin; refine wpList_append_own_at _ rfl (.tmp 76) (.tmp 78) 42 rfl _ 3 i0 (.int .i64 0) 1 8 Try.underlying42 HI.out HZ0.out HZ1.out HZ2.out rfl (by decide) _ _ _ rfl hown2 ⟨wr.heap.size, 0, none⟩ 1 1 [.int .i64 (k3 : Int)] rfl rfl (cell_one_new _ _ _) (by intro u hu; simp at hu; subst hu; rfl) (by unfold maxLen; omega) (by omega) hsz2 ?_)
                    intro v6 w6 hown6 hgrow6 _ _
                    have hf6 : Fr (fun _ => False) _ w6 := fr_app hown hf5 hgrow6
                    have hm6 := hm.keep hf6 id id id id
                    have hi6 := (hi.of_block (hf6.block _ hi.lt id)).cell (i := k3) hlt
                    unfold Bls at hi6
                    clear hgrow6 hown2
                    go_wp2_with fail
                    go_quiet ((go_at_call 17; exact (marked_nat hlt (hm6.drewN _)).mono fun _ _ h => ⟨h.1, _, h.2.symm⟩))
                    go_wp2
                    go_roundw
                    case rel => exact ⟨k3 + 1, by omega, by go_num, own_snoc HD.out hown6, hf6.drewN _⟩
                    case measure => simp [intOf]; omega
                · obtain rfl : k3 = 8 := by omega
                  go_wp2_with fail
                  refine (written_any hm5).mono ?_
                  rintro e w6 ⟨v6, rfl, ho6, hm6, hf6⟩
                  go_wp2_with fail
                  have hx6 := IntsAt.of_own ho6
                  have hy6 := IntsAt.of_own (IntsAt.fr hown hf6 (by rintro x h1 h2 (e | e | e) <;> omega))
                  refine (same_any _ _ _ _ hx6 hy6 (by have := wl_len D 8; omega)).mono ?_
                  rintro e w7 ⟨rfl, n7, rfl⟩
                  go_wp2_with fail
                  refine (written_any (hm6.drewN _)).mono ?_
                  rintro e w8 ⟨v8, rfl, ho8, hm8, hf8⟩
                  rw [clD_all] at ho8
                  have hB := below_own (below_drewN (below_own (hbl.trans (hf5.below hsz (fun _ _ => id))) lb lm lt hf6) n7) lb lm lt hf8
                  rcases ho8.2 with ⟨rfl, _⟩ | ⟨q8, cap8, cur8, rfl, _⟩
                  all_goals
                    go_wp2_with fail
                    refine (known_any _).mono ?_
                    rintro e w9 ⟨rfl, hb9⟩
                    go_wp2
                    go_ret
                    exact ⟨rfl, hB.trans (hb9.mono hB.size)⟩
end Go.Proofs.Ytfpddhpacfcfmaa

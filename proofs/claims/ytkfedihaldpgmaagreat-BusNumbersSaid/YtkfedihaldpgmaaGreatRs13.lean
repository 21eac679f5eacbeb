/-
  Chapter 2: Store, of the program's memory and of the document's.
-/
import Derived.Test.YtkfedihaldpgmaaGreatRn13
namespace Go.Proofs.YtkfedihaldpgmaaGreat
open Go.RowKit
set_option linter.unusedVariables false

/-- the byte at place i of a number v of n bytes from a on, the highest first -/
def byteAt (v : Int) (a n i : Nat) : Int := v / 256 ^ (a + n - 1 - i) % 256
/-- the lowest n bytes of v from a on: those from place x to below y are there -/
def stB (C : Nat → Int) (v : Int) (a n x y : Nat) : Nat → Int := fun i => if x ≤ i ∧ i < y then byteAt v a n i else C i
def stC (C : Nat → Int) (v : Int) (a n : Nat) : Nat → Int := stB C v a n a (a + n)
theorem stB_none (C : Nat → Int) (v : Int) (a n x : Nat) : stB C v a n x x = C := by
  funext i; simp only [stB]; rw [if_neg (by omega)]
theorem stB_up (C : Nat → Int) (v : Int) (a n x y : Nat) (h : x ≤ y) : (fun i => if i = y then byteAt v a n y else stB C v a n x y i) = stB C v a n x (y + 1) := by
  funext i
  by_cases e : i = y
  · subst e; simp [stB, h]
  · simp only [stB, if_neg e]
    by_cases q : x ≤ i ∧ i < y
    · rw [if_pos q, if_pos (by omega)]
    · rw [if_neg q, if_neg (by omega)]
theorem stB_down (C : Nat → Int) (v : Int) (a n x y : Nat) (h : x < y) : (fun i => if i = x then byteAt v a n x else stB C v a n (x + 1) y i) = stB C v a n x y := by
  funext i
  by_cases e : i = x
  · subst e; simp [stB, h]
  · simp only [stB, if_neg e]
    by_cases q : x + 1 ≤ i ∧ i < y
    · rw [if_pos q, if_pos (by omega)]
    · rw [if_neg q, if_neg (by omega)]
theorem byteAt_lo (v : Int) (a n i : Nat) : 0 ≤ byteAt v a n i := by unfold byteAt; omega
theorem byteAt_hi (v : Int) (a n i : Nat) : byteAt v a n i ≤ 255 := by unfold byteAt; omega

theorem sh_byte (v : Int) (A n k e : Nat) (h : e = 8 * (n - 1 - k)) : v / 2 ^ e % 256 = byteAt v A n (A + k) := by
  unfold byteAt
  rw [h, Int.pow_mul, show A + n - 1 - (A + k) = n - 1 - k by omega]
  rfl
/-- behind Store: the bytes, the pages written -/
def aC (p : Nat) (C : Nat → Int) (a n v : Int) : Nat → Int := match okN p a n with
  | true => stC C v a.toNat n.toNat
  | false => C
def aD (p : Nat) (M D : Nat → Bool) (a n : Int) : Nat → Bool := match okN p a n with
  | true => td M D a.toNat n.toNat
  | false => D
/-- it returns v; the memory is as told, and nothing else has turned -/
def RetP (T : TypeId) (v : Value) (w : World) (g b m t p : Nat) (C : Nat → Int) (M D : Nat → Bool) (e : Ending) (w' : World) : Prop :=
  e = .returned v ∧ Mem T w' g b m t p C M D ∧ Fr (OwnM b m t) w w'

section
variable {w : World} {g b m t p : Nat} {C : Nat → Int} {M D : Nat → Bool}
set_option maxHeartbeats 1000000 in
theorem store_any (a n v : Int) (h : Mem 103 w g b m t p C M D) (h0 : 0 ≤ a) (h1 : a < 4294967296) (n0 : -9223372036854775808 ≤ n) (n1 : n ≤ 9223372036854775807) (v0 : 0 ≤ v) (v1 : v < 4294967296) :
    Calls Tryz.prog 30 #[.pointer (some ⟨g, 0, none⟩), .int .u32 a, .int .i64 n, .int .u32 v] w (RetP 103 (.bool (okN p a n)) w g b m t p (aC p C a n v) M (aD p M D a n)) := by
  cases hp : okN p a n
  · have HP := Lib.hid hp
    clear hp
    go_enter Tryz.func30, Tryz.ntmps30
    go_wp2_with fail
    refine (number_any _ _ h (by omega) (by omega) (by omega) (by omega)).mono ?_
    rintro e w' ⟨rfl, rfl⟩
    rw [HP.out]
    go_wp2
    go_ret
    exact ⟨rfl, by simp only [aC, aD, HP.out]; exact h, Fr.refl _ _⟩
  · have hk : (n = 1 ∨ n = 2 ∨ n = 4) ∧ a % n = 0 ∧ a + n ≤ 1024 * p := by simpa [okN] using hp
    obtain ⟨hn, _, hin⟩ := hk
    have p2 := h.p2
    have c0 := h.cell0
    obtain ⟨N, rfl⟩ : ∃ N : Nat, n = N := ⟨n.toNat, by omega⟩
    obtain ⟨A, rfl⟩ : ∃ A : Nat, a = A := ⟨a.toNat, by omega⟩
    have hN : N ≤ 4 := by omega
    have hN1 : 1 ≤ N := by omega
    have HP := Lib.hid hp
    clear hn n0 n1 hp
    go_enter Tryz.func30, Tryz.ntmps30
    go_wp2_with fail
    refine (number_any _ _ h (by omega) (by omega) (by omega) (by omega)).mono ?_
    rintro e w' ⟨rfl, rfl⟩
    rw [HP.out]
    go_wp2_with fail
    go_loopw [3, 10] (fun x i wr => ∃ K : Nat, K ≤ N ∧ i = .int .i64 ((K : Int) - 1) ∧ x = .int .u32 (v / 256 ^ (N - K)) ∧ Mem 103 wr g b m t p (stB C v A N (A + K) (A + N)) M D ∧ Fr (OwnM b m t) w wr) (fun _ i _ => (1 + intOf i).toNat)
    case atStart => exact ⟨N, by omega, by go_num, by simp, by rw [stB_none]; exact h, Fr.refl _ _⟩
    case round =>
      obtain ⟨K, hK, hi, hx, hm, hf⟩ := hrel
      have c0' := hm.cell0
      rcases K with _ | J
      · obtain rfl := hi
        clear hx
        go_wp2_with fail
        refine (note_any _ _ hm (by omega)).mono ?_
        rintro e w2 ⟨rfl, hm2, hf2⟩
        go_wp2
        go_ret
        exact ⟨rfl, by simp only [aC, aD, HP.out, stC]; exact hm2, hf.trans hf2⟩
      · obtain ⟨X, HX⟩ : ∃ X, Hid (X = v / 256 ^ (N - (J + 1))) := ⟨_, rfl⟩
        have x0 : 0 ≤ X := by rw [HX.out]; exact Int.ediv_nonneg v0 (Int.le_of_lt (Int.pow_pos (by omega)))
        have x1 : X < 4294967296 := by rw [HX.out]; have := Int.ediv_le_self (256 ^ (N - (J + 1))) v0; omega
        rw [← HX.out] at hx
        have hi' : _ = Value.int .i64 (J : Int) := hi.trans (by go_num)
        clear hi
        subst hi' hx
        have hcell := hm.hb.cell (i := A + J) (by omega)
        have hfz := hm.hb.frozen (A + J)
        have hJ : J < N := by omega
        go_wp2
        go_roundw
        case rel => exact ⟨J, by omega, by go_num, by rw [HX.out, Int.ediv_ediv_of_nonneg (Int.le_of_lt (Int.pow_pos (by omega))), show N - J = N - (J + 1) + 1 by omega, Int.pow_succ], by
            rw [← stB_down C v A N (A + J) (A + N) (by omega)]
            have e : X % 256 = byteAt v A N (A + J) := by unfold byteAt; rw [HX.out, show A + N - 1 - (A + J) = N - (J + 1) by omega]
            rw [e]
            exact hm.setB _ _ (byteAt_lo _ _ _ _) (byteAt_hi _ _ _ _), hf.setCell (.inl (.inl rfl)) _⟩
        case measure => simp [intOf]; omega

set_option maxHeartbeats 1000000 in
theorem rstore_yes (A : Nat) (n v : Int) (hn : n = 1 ∨ n = 2 ∨ n = 4) (h : Mem 62 w g b m t p C M D) (hin : (A : Int) + n ≤ 1024 * p) (HP : Hid (okN p A n = true)) (HI : Hid (inB p A n = true)) (hm : (A : Int) % n = 0) (v0 : 0 ≤ v) (v1 : v < 4294967296) :
    Calls Tryz.prog 32 #[.pointer (some ⟨g, 0, none⟩), .int .u32 A, .int .i64 n, .int .u32 v] w (RetP 62 (.bool (okN p A n)) w g b m t p (aC p C A n v) M (aD p M D A n)) := by
  have p2 := h.p2
  have c0 := h.cell0
  have hA : A < 65536 := by omega
  rcases hn with rfl | rfl | rfl
  · go_enter Tryz.func32, Tryz.ntmps32
    go_wp2_with fail
    refine (rin_any _ _ h (by omega) (by omega) (by omega) (by omega)).mono ?_
    rintro e w' ⟨rfl, rfl⟩
    rw [HI.out]
    go_wp2_with fail
    go_loopw [9] (fun i wr => ∃ k : Nat, k ≤ 1 ∧ i = .int .i64 k ∧ Mem 62 wr g b m t p (stB C v A 1 A (A + k)) M D ∧ Fr (OwnM b m t) w wr) (fun i _ => 1 - (intOf i).toNat)
    case atStart => exact ⟨0, by omega, rfl, by rw [Nat.add_zero, stB_none]; exact h, Fr.refl _ _⟩
    case round =>
      obtain ⟨k, hk, rfl, hm, hf⟩ := hrel
      have c0' := hm.cell0
      by_cases hlt : k < 1
      · have hcell := hm.hb.cell (i := A + k) (by omega)
        have hfz := hm.hb.frozen (A + k)
        go_wp2
        go_roundw
        case rel => exact ⟨k + 1, by omega, by go_num, by
            rw [sh_byte v A 1 k _ (by omega), show A + (k + 1) = A + k + 1 from rfl, ← stB_up C v A 1 A (A + k) (by omega)]
            exact hm.setB _ _ (byteAt_lo _ _ _ _) (byteAt_hi _ _ _ _), hf.setCell (.inl (.inl rfl)) _⟩
        case measure => simp [intOf]; omega
      · obtain rfl : k = 1 := by omega
        go_wp2_with fail
        refine (touch_any A 1 hm (by omega)).mono ?_
        rintro e w2 ⟨rfl, hm2, hf2⟩
        go_wp2
        go_ret
        exact ⟨by rw [HP.out]; rfl, by simp only [aC, aD, HP.out, stC]; exact hm2, hf.trans hf2⟩
  · go_enter Tryz.func32, Tryz.ntmps32
    go_wp2_with fail
    refine (rin_any _ _ h (by omega) (by omega) (by omega) (by omega)).mono ?_
    rintro e w' ⟨rfl, rfl⟩
    rw [HI.out]
    go_wp2_with fail
    go_loopw [9] (fun i wr => ∃ k : Nat, k ≤ 2 ∧ i = .int .i64 k ∧ Mem 62 wr g b m t p (stB C v A 2 A (A + k)) M D ∧ Fr (OwnM b m t) w wr) (fun i _ => 2 - (intOf i).toNat)
    case atStart => exact ⟨0, by omega, rfl, by rw [Nat.add_zero, stB_none]; exact h, Fr.refl _ _⟩
    case round =>
      obtain ⟨k, hk, rfl, hm, hf⟩ := hrel
      have c0' := hm.cell0
      by_cases hlt : k < 2
      · have hcell := hm.hb.cell (i := A + k) (by omega)
        have hfz := hm.hb.frozen (A + k)
        go_wp2
        go_roundw
        case rel => exact ⟨k + 1, by omega, by go_num, by
            rw [sh_byte v A 2 k _ (by omega), show A + (k + 1) = A + k + 1 from rfl, ← stB_up C v A 2 A (A + k) (by omega)]
            exact hm.setB _ _ (byteAt_lo _ _ _ _) (byteAt_hi _ _ _ _), hf.setCell (.inl (.inl rfl)) _⟩
        case measure => simp [intOf]; omega
      · obtain rfl : k = 2 := by omega
        go_wp2_with fail
        refine (touch_any A 2 hm (by omega)).mono ?_
        rintro e w2 ⟨rfl, hm2, hf2⟩
        go_wp2
        go_ret
        exact ⟨by rw [HP.out]; rfl, by simp only [aC, aD, HP.out, stC]; exact hm2, hf.trans hf2⟩
  · go_enter Tryz.func32, Tryz.ntmps32
    go_wp2_with fail
    refine (rin_any _ _ h (by omega) (by omega) (by omega) (by omega)).mono ?_
    rintro e w' ⟨rfl, rfl⟩
    rw [HI.out]
    go_wp2_with fail
    go_loopw [9] (fun i wr => ∃ k : Nat, k ≤ 4 ∧ i = .int .i64 k ∧ Mem 62 wr g b m t p (stB C v A 4 A (A + k)) M D ∧ Fr (OwnM b m t) w wr) (fun i _ => 4 - (intOf i).toNat)
    case atStart => exact ⟨0, by omega, rfl, by rw [Nat.add_zero, stB_none]; exact h, Fr.refl _ _⟩
    case round =>
      obtain ⟨k, hk, rfl, hm, hf⟩ := hrel
      have c0' := hm.cell0
      by_cases hlt : k < 4
      · have hcell := hm.hb.cell (i := A + k) (by omega)
        have hfz := hm.hb.frozen (A + k)
        go_wp2
        go_roundw
        case rel => exact ⟨k + 1, by omega, by go_num, by
            rw [sh_byte v A 4 k _ (by omega), show A + (k + 1) = A + k + 1 from rfl, ← stB_up C v A 4 A (A + k) (by omega)]
            exact hm.setB _ _ (byteAt_lo _ _ _ _) (byteAt_hi _ _ _ _), hf.setCell (.inl (.inl rfl)) _⟩
        case measure => simp [intOf]; omega
      · obtain rfl : k = 4 := by omega
        go_wp2_with fail
        refine (touch_any A 4 hm (by omega)).mono ?_
        rintro e w2 ⟨rfl, hm2, hf2⟩
        go_wp2
        go_ret
        exact ⟨by rw [HP.out]; rfl, by simp only [aC, aD, HP.out, stC]; exact hm2, hf.trans hf2⟩

set_option maxHeartbeats 1000000 in
theorem rstore_any (a n v : Int) (h : Mem 62 w g b m t p C M D) (h0 : 0 ≤ a) (h1 : a < 4294967296) (n0 : -9223372036854775808 ≤ n) (n1 : n ≤ 9223372036854775807) (v0 : 0 ≤ v) (v1 : v < 4294967296) :
    Calls Tryz.prog 32 #[.pointer (some ⟨g, 0, none⟩), .int .u32 a, .int .i64 n, .int .u32 v] w (RetP 62 (.bool (okN p a n)) w g b m t p (aC p C a n v) M (aD p M D a n)) := by
  by_cases hn : n = 1 ∨ n = 2 ∨ n = 4
  · by_cases hm : a % n = 0
    · cases hi : inB p a n
      · have HI := Lib.hid hi
        have hp : okN p a n = false := by simp [okN, inB] at *; omega
        have HP := Lib.hid hp
        clear hi hp
        rcases hn with rfl | rfl | rfl
        all_goals
          go_enter Tryz.func32, Tryz.ntmps32
          go_wp2_with fail
          refine (rin_any _ _ h (by omega) (by omega) (by omega) (by omega)).mono ?_
          rintro e w' ⟨rfl, rfl⟩
          rw [HI.out]
          go_wp2
          go_ret
          exact ⟨by rw [HP.out]; rfl, by simp only [aC, aD, HP.out]; exact h, Fr.refl _ _⟩
      · have HI := Lib.hid hi
        have hk : a + n ≤ 1024 * p := by simpa [inB, show 0 ≤ n by omega] using hi
        have HP := Lib.hid (show okN p a n = true by simp [okN, hn, hm, hk])
        have p2 := h.p2
        have c0 := h.cell0
        obtain ⟨A, rfl⟩ : ∃ A : Nat, a = A := ⟨a.toNat, by omega⟩
        clear hi
        exact rstore_yes A n v hn h hk HP HI hm v0 v1
    · have HP := Lib.hid (show okN p a n = false by simp [okN, hm])
      rcases hn with rfl | rfl | rfl
      · omega
      all_goals
        go_enter Tryz.func32, Tryz.ntmps32
        go_wp2
        go_ret
        exact ⟨by rw [HP.out]; rfl, by simp only [aC, aD, HP.out]; exact h, Fr.refl _ _⟩
  · have e1 : (n == 1) = false := by simp; omega
    have e2 : (n == 2) = false := by simp; omega
    have e4 : (n == 4) = false := by simp; omega
    have f1 : (n != 1) = true := by simp; omega
    have f2 : (n != 2) = true := by simp; omega
    have f4 : (n != 4) = true := by simp; omega
    have HP := Lib.hid (show okN p a n = false by simp [okN]; omega)
    go_enter Tryz.func32, Tryz.ntmps32
    go_wp2
    go_ret
    exact ⟨by rw [HP.out]; rfl, by simp only [aC, aD, HP.out]; exact h, Fr.refl _ _⟩
end
end Go.Proofs.YtkfedihaldpgmaaGreat

/-
  Chapter 2: Load, of the program's memory and of the document's.
-/
import Derived.Test.YtkfedihaldpgmaaRn13
import Derived.Laws.BitsAllLaws
namespace Go.Proofs.Ytkfedihaldpgmaa
open Go.RowKit
set_option linter.unusedVariables false

/-- the number of the first k bytes from a on, the highest first -/
def ld (C : Nat → Int) (a : Nat) : Nat → Int
  | 0 => 0
  | k + 1 => ld C a k * 256 + C (a + k)
theorem ld_lo (C : Nat → Int) (a k : Nat) (c0 : ∀ i, 0 ≤ C i) : 0 ≤ ld C a k := by
  induction k with
  | zero => simp [ld]
  | succ k ih => have := c0 (a + k); simp only [ld]; omega
theorem ld_hi (C : Nat → Int) (a k : Nat) (c0 : ∀ i, 0 ≤ C i) (c1 : ∀ i, C i ≤ 255) : ld C a k < 256 ^ k := by
  induction k with
  | zero => simp [ld]
  | succ k ih => have := c1 (a + k); have := ld_lo C a k c0; simp only [ld, Int.pow_succ]; omega
theorem or_byte (x c : Int) (h0 : 0 ≤ x) (h1 : x < 16777216) (c0 : 0 ≤ c) (c1 : c ≤ 255) : bits .or .u32 (x * 256 % 4294967296) c = x * 256 + c := by
  rw [u32_or _ _ (by omega) (by omega) (by omega) (by omega), nat_join 8 _ _ (by omega) (by omega)]
  omega
/-- what Load answers -/
def loadV (p : Nat) (C : Nat → Int) (a n : Int) : Value := .tuple #[.int .u32 (if okN p a n then ld C a.toNat n.toNat else 0), .bool (okN p a n)]

theorem ld_24 (C : Nat → Int) (a k : Nat) (c0 : ∀ i, 0 ≤ C i) (c1 : ∀ i, C i ≤ 255) (hk : k < 4) : ld C a k < 16777216 := by
  have h := ld_hi C a k c0 c1
  have : k = 0 ∨ k = 1 ∨ k = 2 ∨ k = 3 := by omega
  rcases this with rfl | rfl | rfl | rfl <;> omega
theorem ret_load {p k A : Nat} {C : Nat → Int} (h : okN p A k = true) : Ending.returned (.tuple #[.int .u32 (ld C A k), .bool true]) = .returned (loadV p C A k) := by simp [loadV, h]

theorem ret_load' {p k A : Nat} {n : Int} {C : Nat → Int} (h : okN p A n = true) (e : n = k) : Ending.returned (.tuple #[.int .u32 (ld C A k), .bool true]) = .returned (loadV p C A n) := by subst e; exact ret_load h
section
variable {w : World} {g b m t p : Nat} {C : Nat → Int} {M D : Nat → Bool}
set_option maxHeartbeats 400000 in
theorem load_any (a n : Int) (h : Mem 63 w g b m t p C M D) (h0 : 0 ≤ a) (h1 : a < 4294967296) (n0 : -9223372036854775808 ≤ n) (n1 : n ≤ 9223372036854775807) :
    Calls Try.prog 38 #[.pointer (some ⟨g, 0, none⟩), .int .u32 a, .int .i64 n] w fun e w' => e = .returned (loadV p C a n) ∧ w = w' := by
  cases hp : okN p a n
  · go_enter Try.func38, Try.ntmps38
    go_wp2_with (go_at_call 32; refine (number_any _ _ h (by omega) (by omega) (by omega) (by omega)).mono ?_; rintro e w' ⟨rfl, rfl⟩; rw [hp])
    go_ret2
    exact ⟨by simp [loadV, hp], rfl⟩
  · have hk : (n = 1 ∨ n = 2 ∨ n = 4) ∧ a % n = 0 ∧ a + n ≤ 1024 * p := by simpa [okN] using hp
    obtain ⟨hn, _, hin⟩ := hk
    have p2 := h.p2
    have c0 := h.cell0
    obtain ⟨N, rfl⟩ : ∃ N : Nat, n = N := ⟨n.toNat, by omega⟩
    obtain ⟨A, rfl⟩ : ∃ A : Nat, a = A := ⟨a.toNat, by omega⟩
    have hN : N ≤ 4 := by omega
    have hN1 : 1 ≤ N := by omega
    clear hn n0 n1
    have HP := Lib.hid hp
    clear hp
    go_enter Try.func38, Try.ntmps38
    go_wp2_with fail
    refine (number_any _ _ h (by omega) (by omega) (by omega) (by omega)).mono ?_
    rintro e w' ⟨rfl, rfl⟩
    rw [HP.out]
    go_wp2_with fail
    go_loop [8, 25] (fun v i => ∃ k : Nat, k ≤ N ∧ i = .int .i64 k ∧ v = .int .u32 (ld C A k)) (fun _ i => N - (intOf i).toNat)
    case atStart => exact ⟨0, by omega, rfl, rfl⟩
    case round =>
      obtain ⟨k, hk, rfl, rfl⟩ := hrel
      have l0 := ld_lo C A k h.c0
      have l1 := ld_hi C A k h.c0 h.c1
      have b0 := h.c0 (A + k)
      have b1 := h.c1 (A + k)
      by_cases hlt : k < N
      · have hcell := h.hb.cell (i := A + k) (by omega)
        go_wp2
        go_round
        case rel => exact ⟨k + 1, by omega, by go_num, by rw [or_byte _ _ l0 (ld_24 C A k h.c0 h.c1 (by omega)) b0 b1]; rfl⟩
        case measure => simp [intOf]; omega
      · obtain rfl : k = N := by omega
        go_wp2
        go_ret2
        exact ⟨ret_load HP.out, rfl⟩

end
end Go.Proofs.Ytkfedihaldpgmaa

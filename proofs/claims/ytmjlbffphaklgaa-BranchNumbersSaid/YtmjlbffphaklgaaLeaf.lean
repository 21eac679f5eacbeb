/-
  The functions of package word and of the document's own answers (chapter 1), each called with whatever words: what it returns (a function of XWord), and that nothing in memory turns.
-/
import Derived.Test.YtmjlbffphaklgaaRows
import Derived.Test.YtmjlbffphaklgaaWord
import Derived.WalkKit
import Derived.WalkSpells
import Derived.Deep.QuietTactic
import Derived.BigQuiet
import Derived.Lib.Hide
namespace Go.Proofs.Ytmjlbffphaklgaa
open Go.RowKit
set_option linter.unusedVariables false

/-- it returns v, and the world has at most made draws -/
def Dr (v : Value) (w : World) (e : Ending) (w' : World) : Prop := e = .returned v ∧ ∃ n, w' = w.drewN n
theorem ret_int {k : IntKind} {a b : Int} (h : a = b) : Ending.returned (.int k a) = .returned (.int k b) := by rw [h]
theorem ret_two {k : IntKind} {a b c d : Int} (h : a = c) (g : b = d) : Ending.returned (.tuple #[.int k a, .int k b]) = .returned (.tuple #[.int k c, .int k d]) := by rw [h, g]
theorem ret_bool {a b : Bool} (h : a = b) : Ending.returned (.bool a) = .returned (.bool b) := by rw [h]

def wideS (a : Int) (s : Bool) : Int := if s then wrap32 a else a

set_option maxHeartbeats 400000 in
theorem sign_any (v n : Int) (w : World) (h0 : 0 ≤ v) (h1 : v < 4294967296) :
    Calls Try.prog 21 #[.int .u32 v, .int .i64 n] w fun e w' => e = .returned (.int .u32 (W.sign v n)) ∧ w = w' := by
  by_cases a : n < 1
  · have H := Lib.hid (show W.sign v n = 0 by simp [W.sign, a])
    go_enter Try.func21, Try.ntmps21
    go_wp2
    go_ret
    exact ⟨ret_int H.out.symm, rfl⟩
  · by_cases b : 32 ≤ n
    · have H := Lib.hid (show W.sign v n = v by simp [W.sign, a]; omega)
      go_enter Try.func21, Try.ntmps21
      go_wp2
      go_ret
      exact ⟨ret_int H.out.symm, rfl⟩
    · go_enter Try.func21, Try.ntmps21
      go_wp2
      go_ret
      exact ⟨ret_int (W.sign_word v n (by omega) (by omega)), rfl⟩

set_option maxHeartbeats 400000 in
theorem rsign_any (v n : Int) (w : World) (h0 : 0 ≤ v) (h1 : v < 4294967296) :
    Calls Try.prog 22 #[.int .u32 v, .int .i64 n] w fun e w' => e = .returned (.int .u32 (W.sign v n)) ∧ w = w' := by
  by_cases a : n < 1
  · have H := Lib.hid (show W.sign v n = 0 by simp [W.sign, a])
    go_enter Try.func22, Try.ntmps22
    go_wp2
    go_ret
    exact ⟨ret_int H.out.symm, rfl⟩
  · by_cases b : 31 < n
    · have H := Lib.hid (show W.sign v n = v by simp [W.sign, a]; omega)
      go_enter Try.func22, Try.ntmps22
      go_wp2
      go_ret
      exact ⟨ret_int H.out.symm, rfl⟩
    · have hm := W.and_mask v n h0 h1 (by omega) (by omega)
      have H := Lib.hid (W.sign_ref v n (by omega) (by omega))
      cases ht : (v % 2 ^ n.toNat / 2 ^ (n.toNat - 1) == 1)
      · go_enter Try.func22, Try.ntmps22
        go_wp2
        go_ret
        exact ⟨ret_int (H.out.2 ht), rfl⟩
      · go_enter Try.func22, Try.ntmps22
        go_wp2
        go_ret
        exact ⟨ret_int (H.out.1 ht), rfl⟩

set_option maxHeartbeats 400000 in
theorem less_any (a b : Int) (s : Bool) (w : World) (h0 : 0 ≤ a) (h1 : a < 4294967296) (g0 : 0 ≤ b) (g1 : b < 4294967296) :
    Calls Try.prog 19 #[.int .u32 a, .int .u32 b, .bool s] w fun e w' => e = .returned (.bool (decide (wideS a s < wideS b s))) ∧ w = w' := by
  cases s
  · go_enter Try.func19, Try.ntmps19
    go_wp2
    go_ret
    exact ⟨rfl, rfl⟩
  · go_enter Try.func19, Try.ntmps19
    go_wp2
    go_ret
    exact ⟨rfl, rfl⟩

def sumS (a b : Int) (m : Bool) : Int := if m then wrap32 a - wrap32 b else wrap32 a + wrap32 b
def over (a b : Int) (m : Bool) : Bool := decide (sumS a b m < -2147483648 ∨ 2147483648 ≤ sumS a b m)

theorem not32 (a : Int) (h0 : 0 ≤ a) (h1 : a < 4294967296) : bits .xor .u32 IntKind.u32.max a = 4294967295 - a := by
  have e : (BitVec.ofInt 32 IntKind.u32.max ^^^ BitVec.ofInt 32 a).toNat = 4294967295 - a.toNat := by
    rw [show BitVec.ofInt 32 IntKind.u32.max = BitVec.allOnes 32 by decide, BitVec.allOnes_xor, BitVec.toNat_not, BitVec.toNat_ofInt]; omega
  show IntKind.u32.wrap ((BitVec.ofInt 32 IntKind.u32.max ^^^ BitVec.ofInt 32 a).toNat : Int) = 4294967295 - a
  rw [e, IntKind.wrap_u32]; omega
theorem quiet_of_eq {P : Program} {f : FuncId} {args : Array Value} {w : World} {n : Nat} {v : Value}
    (h : Calls P f args (w.drewN n) fun e w' => e = .returned v ∧ w.drewN n = w') : Calls P f args (w.drewN n) fun e w'' => e = .returned v ∧ ∃ m, w'' = w.drewN m :=
  h.mono fun _ _ k => ⟨k.1, n, k.2.symm⟩
theorem tmod32 (n : Int) : -31 ≤ n.tmod 32 ∧ n.tmod 32 ≤ 31 ∧ n.tmod 32 % 32 = n % 32 := by
  by_cases h : 0 ≤ n
  · rw [Int.tmod_eq_emod_of_nonneg h]; omega
  · have e : n.tmod 32 = -((-n) % 32) := by rw [← Int.tmod_eq_emod_of_nonneg (by omega), Int.neg_tmod]; omega
    rw [e]; omega

end Go.Proofs.Ytmjlbffphaklgaa

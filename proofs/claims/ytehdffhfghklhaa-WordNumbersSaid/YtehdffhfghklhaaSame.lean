/-
  Chapter 1: the program's answers and the document's are the same (function 'same'); words at bounds (function 'edge'); some runs (function 'known').
-/
import Derived.Test.YtehdffhfghklhaaLeaf
import Derived.RowKit3
import Derived.OpenShut
namespace Go.Proofs.Ytehdffhfghklhaa
open Go.RowKit
set_option linter.unusedVariables false

theorem rng_u32 {a : Int} (h : (Lit.int .u32 a).wf = true) : 0 ≤ a ∧ a < 4294967296 := by
  have := bounds_u32 h; omega
theorem rng_i64 {a : Int} (h : (Lit.int .i64 a).wf = true) : -9223372036854775808 ≤ a ∧ a ≤ 9223372036854775807 := by
  have := bounds_i64 h; omega
theorem g_drewN {a w : World} (h : Grown a w) (n : Nat) : Grown a (w.drewN n) := h
theorem g_trans {a b c : World} (h : Grown a b) (k : Grown b c) : Grown a c :=
  ⟨World.keptBut_trans h.1 k.1, fun x => (k.2.1 x).trans (h.2.1 x), Nat.le_trans h.2.2 k.2.2⟩
/-- it returns true, and nothing that was there has turned -/
def Tr (w : World) (e : Ending) (w' : World) : Prop := e = .returned (.bool true) ∧ Grown w w'

set_option maxHeartbeats 400000 in
theorem known_any (w : World) : Calls Try.prog 10 #[] w (Dr (.bool true) w) := by
  have e1 := Lib.hid (show W.divQ 7 0 false = 4294967295 from rfl)
  have e2 := Lib.hid (show W.divR 7 0 false = 7 from rfl)
  have e3 := Lib.hid (show W.clz 1 = 31 from by rw [W.clz, W.blen_of 1 0 (by omega) (by omega)]; rfl)
  have e4 := Lib.hid (show over 2147483647 1 false = true from by simp [over, sumS, wrap32])
  have e5 := Lib.hid (show W.sign 255 8 = 4294967295 from by decide)
  go_enter Try.func10, Try.ntmps10
  go_wp2_with (first
    | (go_at_call 11; refine (div_any _ _ _ _ (by omega) (by omega) (by omega) (by omega)).mono ?_; rintro e w' ⟨rfl, nd, rfl⟩; simp only [e1.out, e2.out])
    | (go_at_call 13; refine (clz_any _ _ (by omega) (by omega)).mono ?_; rintro e w' ⟨rfl, rfl⟩; simp only [e3.out])
    | (go_at_call 18; refine (over_any _ _ _ _ (by omega) (by omega) (by omega) (by omega)).mono ?_; rintro e w' ⟨rfl, rfl⟩; simp only [e4.out])
    | (go_at_call 16; refine (sign_any _ _ _ (by omega) (by omega)).mono ?_; rintro e w' ⟨rfl, rfl⟩; simp only [e5.out]))
  go_ret
  exact ⟨rfl, _, rfl⟩

set_option maxRecDepth 100000 in
set_option maxHeartbeats 1000000 in
theorem same_any (a b n : Int) (w : World) (h0 : 0 ≤ a) (h1 : a < 4294967296) (g0 : 0 ≤ b) (g1 : b < 4294967296) (n0 : -9223372036854775808 ≤ n) (n1 : n ≤ 9223372036854775807) :
    Calls Try.prog 8 #[.int .u32 a, .int .u32 b, .int .i64 n] w (Tr w) := by
  go_enter Try.func8, Try.ntmps8
  go_wp2
  go_loopw [19] (fun i wr => ∃ k d : Nat, k ≤ 2 ∧ i = .int .i64 k ∧ wr = (w.alloc (.cells #[.bool false, .bool true] 4)).drewN d) (fun i _ => 2 - (intOf i).toNat)
  case atStart => exact ⟨0, 0, by omega, rfl, rfl⟩
  case round =>
    obtain ⟨k, d, hk, rfl, rfl⟩ := hrel
    have hcase : k = 0 ∨ k = 1 ∨ k = 2 := by omega
    rcases hcase with rfl | rfl | rfl
    · go_wp2_with (first
        | (go_at_call 12; refine (mul_any _ _ _ _ (by omega) (by omega) (by omega) (by omega)).mono ?_; rintro e w' ⟨rfl, rfl⟩)
        | (go_at_call 19; refine (rmul_any _ _ _ _ (by omega) (by omega) (by omega) (by omega)).mono ?_; rintro e w' ⟨rfl, rfl⟩)
        | (go_at_call 11; refine (div_any _ _ _ _ (by omega) (by omega) (by omega) (by omega)).mono ?_; rintro e w' ⟨rfl, nd, rfl⟩)
        | (go_at_call 20; refine (rdiv_any _ _ _ _ (by omega) (by omega) (by omega) (by omega)).mono ?_; rintro e w' ⟨rfl, nd', rfl⟩)
        | (go_at_call 18; refine (over_any _ _ _ _ (by omega) (by omega) (by omega) (by omega)).mono ?_; rintro e w' ⟨rfl, rfl⟩)
        | (go_at_call 21; refine (rover_any _ _ _ _ (by omega) (by omega) (by omega) (by omega)).mono ?_; rintro e w' ⟨rfl, rfl⟩)
        | (go_at_call 17; refine (less_any _ _ _ _ (by omega) (by omega) (by omega) (by omega)).mono ?_; rintro e w' ⟨rfl, rfl⟩)
        | (go_at_call 22; refine (rless_any _ _ _ _ (by omega) (by omega) (by omega) (by omega)).mono ?_; rintro e w' ⟨rfl, rfl⟩))
      go_roundw
      case rel => exact ⟨1, _, by omega, rfl, rfl⟩
      case measure => simp [intOf]
    · go_wp2_with (first
        | (go_at_call 12; refine (mul_any _ _ _ _ (by omega) (by omega) (by omega) (by omega)).mono ?_; rintro e w' ⟨rfl, rfl⟩)
        | (go_at_call 19; refine (rmul_any _ _ _ _ (by omega) (by omega) (by omega) (by omega)).mono ?_; rintro e w' ⟨rfl, rfl⟩)
        | (go_at_call 11; refine (div_any _ _ _ _ (by omega) (by omega) (by omega) (by omega)).mono ?_; rintro e w' ⟨rfl, nd, rfl⟩)
        | (go_at_call 20; refine (rdiv_any _ _ _ _ (by omega) (by omega) (by omega) (by omega)).mono ?_; rintro e w' ⟨rfl, nd', rfl⟩)
        | (go_at_call 18; refine (over_any _ _ _ _ (by omega) (by omega) (by omega) (by omega)).mono ?_; rintro e w' ⟨rfl, rfl⟩)
        | (go_at_call 21; refine (rover_any _ _ _ _ (by omega) (by omega) (by omega) (by omega)).mono ?_; rintro e w' ⟨rfl, rfl⟩)
        | (go_at_call 17; refine (less_any _ _ _ _ (by omega) (by omega) (by omega) (by omega)).mono ?_; rintro e w' ⟨rfl, rfl⟩)
        | (go_at_call 22; refine (rless_any _ _ _ _ (by omega) (by omega) (by omega) (by omega)).mono ?_; rintro e w' ⟨rfl, rfl⟩))
      go_roundw
      case rel => exact ⟨2, _, by omega, rfl, rfl⟩
      case measure => simp [intOf]
    · go_wp2_with (first
        | (go_at_call 16; refine (sign_any _ _ _ (by omega) (by omega)).mono ?_; rintro e w' ⟨rfl, rfl⟩)
        | (go_at_call 23; refine (rsign_any _ _ _ (by omega) (by omega)).mono ?_; rintro e w' ⟨rfl, rfl⟩)
        | (go_at_call 15; refine (sar_any _ _ _ (by omega) (by omega)).mono ?_; rintro e w' ⟨rfl, rfl⟩)
        | (go_at_call 24; refine (rsar_any _ _ _ (by omega) (by omega) (by omega) (by omega)).mono ?_; rintro e w' ⟨rfl, rfl⟩)
        | (go_at_call 13; refine (clz_any _ _ (by omega) (by omega)).mono ?_; rintro e w' ⟨rfl, rfl⟩)
        | (go_at_call 25; refine (rclz_any _ _ (by omega) (by omega)).mono ?_; rintro e w' ⟨rfl, rfl⟩)
        | (go_at_call 14; refine (clo_any _ _ (by omega) (by omega)).mono ?_; rintro e w' ⟨rfl, rfl⟩)
        | (go_at_call 26; refine (rclo_any _ _ (by omega) (by omega)).mono ?_; rintro e w' ⟨rfl, rfl⟩))
      go_ret
      exact ⟨rfl, g_drewN ((Grown.refl _).alloc _ _) _⟩

def edges : List Int := [0, 1, 2, 3, 7, 127, 128, 255, 256, 32767, 32768, 65535, 65536, 2147483647, 2147483648, 2147483649, 4294967294, 4294967295, 1431655765, 2863311530]
theorem pick_word (L : List Int) (hL : ∀ x ∈ L, 0 ≤ x ∧ x < 4294967296) (j : Nat) (h : j < (L.map (Value.int .u32)).length) : ∃ v : Int, 0 ≤ v ∧ v < 4294967296 ∧ (L.map (Value.int .u32))[j] = .int .u32 v := by
  have h' : j < L.length := by simpa using h
  exact ⟨L[j], (hL _ (List.getElem_mem h')).1, (hL _ (List.getElem_mem h')).2, by simp⟩
/-- it returns some word, and nothing that was there has turned -/
def SomeWord (w : World) (e : Ending) (w' : World) : Prop := ∃ v : Int, 0 ≤ v ∧ v < 4294967296 ∧ e = .returned (.int .u32 v) ∧ Grown w w'
theorem tmod20 (n : Int) : -19 ≤ n.tmod 20 ∧ n.tmod 20 ≤ 19 ∧ n.tmod 20 % 20 = n % 20 := by
  by_cases h : 0 ≤ n
  · rw [Int.tmod_eq_emod_of_nonneg h]; omega
  · have e : n.tmod 20 = -((-n) % 20) := by rw [← Int.tmod_eq_emod_of_nonneg (by omega), Int.neg_tmod]; omega
    rw [e]; omega

set_option maxHeartbeats 400000 in
theorem edge_any (i : Int) (w : World) : Calls Try.prog 9 #[.int .i64 i] w (SomeWord w) := by
  obtain ⟨m0, m1, m2⟩ := tmod20 i
  obtain ⟨j, hj⟩ : ∃ j : Nat, i % 20 = (j : Int) := ⟨(i % 20).toNat, by omega⟩
  have hj1 : j < 20 := by omega
  obtain ⟨v, v0, v1, hv⟩ := pick_word edges (by decide) j (by simpa [edges] using hj1)
  have V := Lib.hid hv
  clear hv
  go_enter Try.func9, Try.ntmps9
  go_wp2
  go_ret
  exact ⟨v, v0, v1, congrArg Ending.returned V.out, (Grown.refl _).alloc _ _⟩
end Go.Proofs.Ytehdffhfghklhaa

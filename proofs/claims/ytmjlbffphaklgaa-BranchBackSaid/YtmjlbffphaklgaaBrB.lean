/-
  Chapter 5: the walk of BranchBack: it returns true, and nothing that was there has turned.
-/
import Derived.Test.YtmjlbffphaklgaaBrS
namespace Go.Proofs.Ytmjlbffphaklgaa
open Go.RowKit
set_option linter.unusedVariables false

theorem andNot3 (x : Int) (h0 : 0 ≤ x) (h1 : x < 4294967296) : bits .andNot .u32 x 3 = x / 4 * 4 := by
  rw [u32_andNot _ _ h0 h1 (by omega) (by omega)]
  have := nat_midmask 32 2 x.toNat (by decide)
  rw [show (4294967295 - (3 : Int).toNat) = 2 ^ 32 - 2 ^ 2 from rfl, this]
  omega
/-- what is asked of the three places -/
theorem back_facts (p m n : Int) (p0 : 0 ≤ p) (p1 : p < 4294967296) (m0 : 0 ≤ m) (m1 : m < 32768) (n0 : 0 ≤ n) (n1 : n < 67108864) (s : Int) :
    ∃ a b j : Int, tg 43 m p s = a ∧ tg 43 ((-m) % 65536) p s = b ∧ tg 41 n p s = j ∧ 0 ≤ a ∧ a < 4294967296 ∧ 0 ≤ b ∧ b < 4294967296 ∧ 0 ≤ j ∧ j < 4294967296 ∧ (a - (p + 4) % 4294967296) % 4294967296 = 4 * m ∧ ((p + 4) % 4294967296 - b) % 4294967296 = 4 * m ∧ j / 268435456 = (p + 4) % 4294967296 / 268435456 ∧ j % 268435456 = n * 4 := by
  refine ⟨_, _, _, rfl, rfl, rfl, ?_⟩
  simp only [tg]
  rw [sg_lo m m0 m1]
  have hs : W.sign ((-m) % 65536) 16 = if m = 0 then 0 else 4294967296 - m := by
    split
    · next h => subst h; exact sg_lo 0 (by omega) (by omega)
    · rw [sg_hi _ (by omega) (by omega)]; omega
  rw [hs]
  split <;> omega

set_option maxRecDepth 100000 in
set_option maxHeartbeats 4000000 in
theorem back_walk (pc s imm : Int) (w : World) (p0 : 0 ≤ pc) (p1 : pc < 4294967296) (s0 : 0 ≤ s) (s1 : s < 4294967296) (i0 : 0 ≤ imm) (i1 : imm < 4294967296) : Calls Try.prog 6 #[.int .u32 pc, .int .u32 s, .int .u32 imm] w (TrB w) := by
  have P := andNot3 pc p0 p1
  have M := and15 imm i0 i1
  have Nn := and26 imm i0 i1
  have q0 : 0 ≤ pc / 4 * 4 := by omega
  have q1 : pc / 4 * 4 < 4294967296 := by omega
  have m0 : 0 ≤ imm % 32768 := by omega
  have m1 : imm % 32768 < 32768 := by omega
  have n0 : 0 ≤ imm % 67108864 := by omega
  have n1 : imm % 67108864 < 67108864 := by omega
  have O := and16 ((-(imm % 32768)) % 4294967296) (by omega) (by omega)
  rw [show (-(imm % 32768)) % 4294967296 % 65536 = (-(imm % 32768)) % 65536 by omega] at O
  generalize pc / 4 * 4 = p at P q0 q1
  generalize imm % 32768 = m at M O m0 m1
  generalize imm % 67108864 = n at Nn n0 n1
  obtain ⟨a, b, j, A, B, J, a0, a1, b0, b1, j0, j1, f1, f2, f3, f4⟩ := back_facts p m n q0 q1 m0 m1 n0 n1 s
  have R := and28 j j0 j1
  rw [f4] at R
  have g0 : 0 ≤ -m % 65536 := by omega
  have g1 : -m % 65536 < 65536 := by omega
  have HA := Lib.hid A
  have HB := Lib.hid B
  have HJ := Lib.hid J
  clear A B J
  go_enter Try.func6, Try.ntmps6
  go_wp2_with fail
  refine (tg43 _ _ _ _ _ _ _ _ q0 q1 s0 s1 m0 (by omega)).mono ?_
  rintro e w1 ⟨rfl, hb1⟩
  rw [HA.out]
  go_wp2_with fail
  refine (tg43 _ _ _ _ _ _ _ _ q0 q1 s0 s1 g0 (by omega)).mono ?_
  rintro e w2 ⟨rfl, hb2⟩
  rw [HB.out]
  go_wp2_with fail
  refine (tg41 _ _ _ _ _ _ _ _ q0 q1 s0 s1 n0 n1).mono ?_
  rintro e w3 ⟨rfl, hb3⟩
  rw [HJ.out]
  go_wp2_with fail
  refine (tg7 _ _ _ _ _ _ _ _ q0 q1 s0 s1 (by omega) (by omega)).mono ?_
  rintro e w4 ⟨rfl, hb4⟩
  go_wp2_with fail
  refine (known_any _).mono ?_
  rintro e w9 ⟨rfl, hb9⟩
  go_wp2
  go_ret
  exact ⟨rfl, band (band (band (band hb1 hb2) hb3) hb4) hb9⟩
end Go.Proofs.Ytmjlbffphaklgaa

/-
  Chapter 8: in the two segments that are not mapped words lie one behind the other, in both at the same places; a user finds nothing there (the walk of SegDirect).
-/
import Derived.Test.YtecddcbkgelcmaaSm8
import Derived.Test.YtecddcbkgelcmaaStK
namespace Go.Proofs.Ytecddcbkgelcmaa
open Go.RowKit
set_option linter.unusedVariables false
theorem tb_low (m i : Nat) : tb ((2 ^ m - 1 : Nat) : Int) i = decide (i < m) := by
  unfold tb
  rw [Int.toNat_natCast, Nat.testBit_two_pow_sub_one]
theorem w_low (m : Nat) (hm : m ≤ 32) : W32 ((2 ^ m - 1 : Nat) : Int) := by
  have h2 : 2 ^ m ≤ 2 ^ 32 := Nat.pow_le_pow_right (by omega) hm
  exact ⟨by omega, by omega⟩
theorem clear_low (m : Nat) (hm : m ≤ 32) (x : Int) (hx : W32 x) : bits .andNot .u32 x ((2 ^ m - 1 : Nat) : Int) = x / ((2 ^ m : Nat) : Int) * ((2 ^ m : Nat) : Int) := by
  obtain ⟨h0, h1⟩ := id hx
  obtain ⟨n, rfl⟩ := Int.eq_ofNat_of_zero_le h0
  have e : (n : Int) / ((2 ^ m : Nat) : Int) * ((2 ^ m : Nat) : Int) = ((n / 2 ^ m * 2 ^ m : Nat) : Int) := by rw [← Int.natCast_ediv, ← Int.natCast_mul]
  have hle : n / 2 ^ m * 2 ^ m ≤ n := Nat.div_mul_le_self _ _
  rw [e]
  apply tb_eq (w_andNot _ _) ⟨by omega, by omega⟩
  intro i hi
  rw [tb_andNot _ _ hx (w_low m hm), tb_low]
  unfold tb
  rw [Int.toNat_natCast, Int.toNat_natCast, Nat.testBit_mul_two_pow]
  by_cases h : i < m
  · have : ¬ m ≤ i := by omega
    simp [h, this]
  · have h' : m ≤ i := by omega
    rw [Nat.testBit_div_two_pow, Nat.sub_add_cancel h']
    simp [h, h']
theorem clear3 (x : Int) (hx : W32 x) : bits .andNot .u32 x 3 = x / 4 * 4 := clear_low 2 (by omega) x hx
theorem and29 (x : Int) (hx : W32 x) : bits .and .u32 x 536870911 = x % 536870912 := andm 29 (by omega) x hx
theorem off_eq (x : Int) (hx : W32 x) : bits .and .u32 x 536870908 = x % 536870912 / 4 * 4 := by
  rw [← and29 x hx, ← clear3 _ (w_and _ _)]
  apply tb_eq (w_and _ _) (w_andNot _ _)
  intro i hi
  rw [tb_andNot _ _ (w_and _ _) ⟨by decide, by decide⟩, tb_and _ _ hx ⟨by decide, by decide⟩, tb_and _ _ hx ⟨by decide, by decide⟩, Bool.and_assoc]
  congr 1
  revert i
  decide
theorem off_rng (x : Int) (hx : W32 x) : 0 ≤ bits .and .u32 x 536870908 ∧ bits .and .u32 x 536870908 < 536870912 ∧ bits .and .u32 x 536870908 % 4 = 0 := by
  rw [off_eq x hx]
  have := hx.1
  omega
section
variable {w : World} {ra ca ta : Option Addr} {rl rc cl cc tl tc : Nat} {pc st cs hi ct sh : Int} {sl lk : Bool}
set_option maxRecDepth 100000 in
set_option maxHeartbeats 4000000 in
theorem direct_walk (va : Int) (hv : W32 va) (h : DrawnAt w w.heap.size ra ca ta rl cl tl pc st cs hi ct sh) :
    Calls Try.prog 5 #[drawnV ra ca ta rl rc cl cc tl tc pc st cs hi ct sh sl lk, .int .u32 va] w (RetB (.bool true) w) := by
  have HD := Lib.hid h
  obtain ⟨o0, o1, o4⟩ := off_rng va hv
  clear h hv
  unfold drawnV
  go_enter Try.func5, Try.ntmps5
  go_wp2_with fail
  have b0 := (Below.refl w.heap.size w).alloc (Nat.le_refl _) (.cells #[.slice ra rl rc, .int .u32 pc, .int .u32 st, .int .u32 cs, .int .u32 hi, .bool sl, .bool lk, .slice ca cl cc, .slice ta tl tc, .int .u32 ct, .int .u32 sh] 38)
  have g0 := (Fr.refl (New w.heap.size) w).alloc (.cells #[.slice ra rl rc, .int .u32 pc, .int .u32 st, .int .u32 cs, .int .u32 hi, .bool sl, .bool lk, .slice ca cl cc, .slice ta tl tc, .int .u32 ct, .int .u32 sh] 38)
  refine (state_any (rc := rc) (cc := cc) (tc := tc) (sl := sl) (lk := lk) 0 ((HD.out.below b0).up b0.size) ⟨by omega, by omega⟩).mono ?_
  rintro e w1 ⟨s, rfl, ok, dn, tm, b1⟩
  have g1 := g0.trans (Fr.of_below (S := New w.heap.size) b1)
  have z1 := g1.size
  clear b0 g0 b1 dn tm HD
  go_wp2_with (with_reducible refine wpList_allocSt ?_)
  intro g w2 l2 h2 f2
  go_wp2_with ((with_reducible refine wpList_storeSt ?_ ?_ h2 ok ?_); rfl; rfl)
  intro w3 t3
  have hg : w.heap.size ≤ g := by omega
  have F3 := (g1.trans (f2.new (fun _ x => x.elim))).trans (t3.fr.new (by rintro k rfl; exact hg))
  have h3 := t3.at_
  clear t3 h2 f2 l2 g1 z1
  go_wp2_with fail
  generalize bits .and .u32 va 536870908 = off at o0 o1 o4 ⊢
  have wA : W32 (2147483648 + off) := ⟨by omega, by omega⟩
  have wB : W32 (2684354560 + off) := ⟨by omega, by omega⟩
  have eA : bits .and .u32 (2147483648 + off) 536870911 = off := by rw [and29 _ wA]; omega
  have eB : bits .and .u32 (2684354560 + off) 536870911 = off := by rw [and29 _ wB]; omega
  have mA : (2147483648 + off) % szI 4 = 0 := by rw [show szI 4 = 4 from rfl]; omega
  have mB : (2684354560 + off) % szI 4 = 0 := by rw [show szI 4 = 4 from rfl]; omega
  cases hu : userB s
  · have HA : Hid (segF s (2147483648 + off) 4 true = (off, -1, false)) := Lib.hid (by rw [seg_direct mA (by omega) hu (by omega), eA])
    have HB : Hid (segF s (2684354560 + off) 4 false = (off, -1, false)) := Lib.hid (by rw [seg_direct mB (by omega) hu (by omega), eB])
    have HU := Lib.hid hu
    have WA := Lib.hid wA
    have WB := Lib.hid wB
    clear wA wB eA eB mA mB hu
    with_reducible refine (segfind_any (2147483648 + off) 4 true h3 WA.out).mono ?_
    rintro e w4 ⟨rfl, b4⟩
    rw [seg_as HA.out]
    have h4 := h3.below b4
    have F4 := F3.trans (Fr.of_below (S := New w.heap.size) b4)
    clear h3 b4
    go_wp2_with fail
    with_reducible refine (segfind_any (2684354560 + off) 4 false h4 WB.out).mono ?_
    rintro e w5 ⟨rfl, b5⟩
    rw [seg_as HB.out]
    have h5 := h4.below b5
    have F5 := F4.trans (Fr.of_below (S := New w.heap.size) b5)
    clear h4 b5
    go_wp2_with fail
    refine (user_any h5).mono ?_
    rintro e w6 ⟨rfl, rfl⟩
    rw [HU.out]
    go_wp2_with fail
    refine (known_any _).mono ?_
    rintro e w8 ⟨rfl, b8⟩
    go_wp2_with fail
    go_ret
    exact ⟨rfl, (F5.trans (Fr.of_below (S := New w.heap.size) b8)).newB⟩
  · have HA : Hid (segF s (2147483648 + off) 4 true = (0, 5, false)) := Lib.hid (seg_user (by omega) hu)
    have HB : Hid (segF s (2684354560 + off) 4 false = (0, 4, false)) := Lib.hid (seg_user (by omega) hu)
    have HU := Lib.hid hu
    have WA := Lib.hid wA
    have WB := Lib.hid wB
    clear wA wB eA eB mA mB hu
    with_reducible refine (segfind_any (2147483648 + off) 4 true h3 WA.out).mono ?_
    rintro e w4 ⟨rfl, b4⟩
    rw [seg_as HA.out]
    have h4 := h3.below b4
    have F4 := F3.trans (Fr.of_below (S := New w.heap.size) b4)
    clear h3 b4
    go_wp2_with fail
    with_reducible refine (segfind_any (2684354560 + off) 4 false h4 WB.out).mono ?_
    rintro e w5 ⟨rfl, b5⟩
    rw [seg_as HB.out]
    have h5 := h4.below b5
    have F5 := F4.trans (Fr.of_below (S := New w.heap.size) b5)
    clear h4 b5
    go_wp2_with fail
    refine (user_any h5).mono ?_
    rintro e w6 ⟨rfl, rfl⟩
    rw [HU.out]
    go_wp2_with fail
    refine (known_any _).mono ?_
    rintro e w8 ⟨rfl, b8⟩
    go_wp2_with fail
    go_ret
    exact ⟨rfl, (F5.trans (Fr.of_below (S := New w.heap.size) b8)).newB⟩
end
end Go.Proofs.Ytecddcbkgelcmaa

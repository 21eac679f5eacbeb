/-
  Chapter 15: two timers that go again, however far time goes at once (BusTimes).
-/
import Derived.Test.YtkfedihaldpgmaaWf9
import Derived.Deep.MidRow
import Derived.Deep.Slices
import Derived.Deep.Fields
import Derived.ProofKit
import Derived.OpenShut
import Derived.Test.YtkfedihaldpgmaaTm15
import Derived.BigQuiet
/-
  Arguments opened to their cells: integers, slices of integers.
-/
namespace Go.Proofs.Ytkfedihaldpgmaa
open Go.RowKit Go.ChangeShapes Go.WideShapes Go.Deep
set_option linter.unusedVariables false
set_option linter.unusedSimpArgs false
theorem rngi {a : Int} (h : (Lit.int .i64 a).wf = true) : -9223372036854775808 ≤ a ∧ a ≤ 9223372036854775807 := by
  have := bounds_i64 h; exact ⟨by omega, by omega⟩
theorem rngw {a : Int} (h : (Lit.int .u32 a).wf = true) : 0 ≤ a ∧ a < 4294967296 := by
  have := bounds_u32 h; exact ⟨by omega, by omega⟩
theorem addr_plain {w : World} {x : Addr} {v : Value} (h : w.cell? x = some v) : x.spot = none := by
  unfold World.cell? at h
  split at h
  · split at h
    · cases h
    · rename_i hs
      simpa using hs
  · cases h
section
variable {H : Type} {enc : TypeId × Value → H} {W : World}
theorem int_of {fuel : Nat} {t : TypeId} {k : IntKind} {v : Value} {x : Option (DataW H × List MemPlace)} {y : DataW H × List MemPlace} (ht : Try.prog.underlying t = some (.int k)) (hf : DataW.trod enc Try.prog W 0 (fun _ => true) true fuel t [v] = x) (hx : x = some y) : ∃ n, v = .int k n ∧ (Lit.int k n).wf = true := by
  obtain ⟨n, e, _, hw⟩ := DataW.trod_int ht (hf.trans hx)
  injection e with e
  exact ⟨n, e, hw⟩
theorem bool_of {fuel : Nat} {t : TypeId} {v : Value} {x : Option (DataW H × List MemPlace)} {y : DataW H × List MemPlace} (ht : Try.prog.underlying t = some .bool) (hf : DataW.trod enc Try.prog W 0 (fun _ => true) true fuel t [v] = x) (hx : x = some y) : ∃ b, v = .bool b := by
  obtain ⟨n, e, _⟩ := DataW.trod_bool ht (hf.trans hx)
  injection e with e
  exact ⟨n, e⟩
theorem ints_any {fuel : Nat} {t e : TypeId} {k : IntKind} {v : Value} {x : DataW H × List MemPlace} (ht : Try.prog.underlying t = some (.slice e)) (he : Try.prog.underlying e = some (.int k)) (hc : Try.prog.cellsOf e = 1) (hf : DataW.trod enc Try.prog W 0 (fun _ => true) true fuel t [v] = some x) :
    ∃ a len cap, v = .slice a len cap ∧ len ≤ 9223372036854775807 ∧ ∀ i, i < len → ∃ (b o : Nat) (n : Int), a = some ⟨b, o, none⟩ ∧ b < W.heap.size ∧ W.cell? ⟨b, o + i, none⟩ = some (.int k n) ∧ (Lit.int k n).wf = true := by
  rcases open_ints ht he hc hf with ⟨hcs, _⟩ | ⟨⟨b, o, s⟩, l, c, zs, hcs, _, hl, hm, hz, _, hcell, hwz⟩
  · injection hcs with e
    exact ⟨_, _, _, e, by omega, fun i hi => absurd hi (by omega)⟩
  · injection hcs with e
    refine ⟨_, _, _, e, by unfold maxLen at hm; omega, fun i hi => ?_⟩
    simp only [if_true] at hz
    have h0 := hcell 0 (by omega)
    have hs := addr_plain h0
    have hs' : s = none := by simpa [Addr.add] using hs
    subst hs'
    have hci := hcell i (by omega)
    rw [Addr.add_mid] at hci
    have hli : i < zs.length := by omega
    refine ⟨b, o, zs.getD i 0, rfl, block_lt_of_cell hci, hci, hwz _ ?_⟩
    rw [List.getD_eq_getElem?_getD, List.getElem?_eq_getElem hli]
    exact List.getElem_mem hli
end
end Go.Proofs.Ytkfedihaldpgmaa

namespace Go.Proofs.Ytkfedihaldpgmaa
open Go.RowKit Go.ChangeShapes Go.WideShapes Go.Deep
set_option linter.unusedVariables false
set_option linter.unusedSimpArgs false
/-- the cells of a slice of numbers, as the walk asks for them -/
def Nums (w : World) (B : Nat) (a : Option Addr) (len : Nat) : Prop :=
  ∀ i, i < len → ∃ (b o : Nat) (v : Int), a = some ⟨b, o, none⟩ ∧ b < B ∧ w.cell? ⟨b, o + i, none⟩ = some (.int .i64 v) ∧ -9223372036854775808 ≤ v ∧ v ≤ 9223372036854775807
section
variable {H : Type} {enc : TypeId × Value → H} {W : World}
theorem nums_of {fuel : Nat} {a : Option Addr} {len cap : Nat} {x : DataW H × List MemPlace} (hf : DataW.trod enc Try.prog W 0 (fun _ => true) true fuel 23 [.slice a len cap] = some x) : Nums W W.heap.size a len ∧ len ≤ 9223372036854775807 := by
  rcases open_ints Try.underlying23 Try.underlying2 (by kernel_rfl) hf with ⟨hcs, _⟩ | ⟨⟨b, o, s⟩, l, c, zs, hcs, _, hl, hm, hz, _, hcell, hwz⟩
  · injection hcs with e
    injection e with e1 e2 e3
    subst e1 e2
    exact ⟨fun i hi => absurd hi (by omega), by omega⟩
  · injection hcs with e
    injection e with e1 e2 e3
    subst e1 e2 e3
    simp only [if_true] at hz
    refine ⟨fun i hi => ?_, by unfold maxLen at hm; omega⟩
    have h0 := hcell 0 (by omega)
    have hs : s = none := by simpa [Addr.add] using addr_plain h0
    subst hs
    have hb := block_lt_of_cell h0
    rw [add_block] at hb
    have hci := hcell i (by omega)
    rw [add_none] at hci
    have hli : i < zs.length := by omega
    have hw := hwz (zs.getD i 0) (by
      rw [List.getD_eq_getElem?_getD, List.getElem?_eq_getElem hli]
      exact List.getElem_mem hli)
    obtain ⟨r1, r2⟩ := rngi hw
    exact ⟨b, o, zs.getD i 0, rfl, hb, hci, r1, r2⟩
end
/-- what one step of time finds -/
theorem div_step (now u x : Int) (n0 : 0 ≤ now) (u0 : 0 ≤ u) (u1 : u < 60) (x0 : 20 ≤ x) (x1 : x < 50) (hn : now ≤ 100000) :
    ∃ (c : Nat) (F : Int), (now + u) / x = now / x + c ∧ c ≤ 3 ∧ ((now + u) / x + 1) * x = F ∧ now + u < F ∧ F ≤ now + u + x ∧ 0 ≤ now / x ∧ now / x ≤ 100000 := by
  have a1 := Int.ediv_mul_le now (show x ≠ 0 by omega)
  have a2 := Int.lt_ediv_add_one_mul_self now (show 0 < x by omega)
  have b1 := Int.ediv_mul_le (now + u) (show x ≠ 0 by omega)
  have b2 := Int.lt_ediv_add_one_mul_self (now + u) (show 0 < x by omega)
  have q0 : 0 ≤ now / x := Int.ediv_nonneg n0 (by omega)
  have q1 : now / x ≤ now := Int.ediv_le_self _ n0
  have m1 : now / x ≤ (now + u) / x := Int.ediv_le_ediv (by omega) (by omega)
  have e1 : ((now + u) / x + 1) * x = (now + u) / x * x + x := by rw [Int.add_mul, Int.one_mul]
  have e2 : (now / x + 1) * x = now / x * x + x := by rw [Int.add_mul, Int.one_mul]
  refine ⟨((now + u) / x - now / x).toNat, _, by omega, ?_, rfl, b2, by omega, q0, by omega⟩
  by_cases h : (now + u) / x ≤ now / x + 3
  · omega
  · exfalso
    have h4 : (now / x + 4) * x ≤ (now + u) / x * x := Int.mul_le_mul_of_nonneg_right (by omega) (by omega)
    have e4 : (now / x + 4) * x = now / x * x + 4 * x := by rw [Int.add_mul]
    omega
/-- the state at a time -/
def tN (x y : Int) (C D : Nat → Int) (now : Int) (L : List Ev) (a : Int) : BS := tS x y C D (decide (x ≤ now)) (decide (y ≤ now)) (upW (decide (x ≤ now)) (decide (y ≤ now)) false false false) L a
theorem flag_step (now u x : Int) (c : Nat) (n0 : 0 ≤ now) (x0 : 20 ≤ x) (h : (now + u) / x = now / x + c) : (decide (x ≤ now) || decide (0 < c)) = decide (x ≤ now + u) := by
  have a1 : 1 ≤ now / x ↔ 1 * x ≤ now := Int.le_ediv_iff_mul_le (by omega)
  have a2 : 1 ≤ (now + u) / x ↔ 1 * x ≤ now + u := Int.le_ediv_iff_mul_le (by omega)
  have q0 : 0 ≤ now / x := Int.ediv_nonneg n0 (by omega)
  rw [h, Int.one_mul] at a2
  rw [Int.one_mul] at a1
  have : (x ≤ now ∨ 0 < c) ↔ x ≤ now + u := by
    rw [← a1, ← a2]
    omega
  by_cases hx : x ≤ now + u
  · have := this.2 hx
    simp [hx, this]
  · have h3 : ¬ x ≤ now := fun e => hx (this.1 (.inl e))
    have h4 : ¬ 0 < c := fun e => hx (this.1 (.inr e))
    simp [hx, h3, h4]
theorem fire_two {x y now u a : Int} {C D : Nat → Int} {p n : Nat} {L : List Ev} {c0 c1 : Nat} {F0 F1 : Int} (hx : 20 ≤ x) (hy : 20 ≤ y) (n0 : 0 ≤ now) (k0 : c0 ≤ 3) (k1 : c1 ≤ 3)
    (e0 : (now + u) / x = now / x + c0) (e1 : (now + u) / y = now / y + c1) (f0 : ((now + u) / x + 1) * x = F0) (f1 : ((now + u) / y + 1) * y = F1) (hI : Inv2 ((now / x + 1) * x) ((now / y + 1) * y) L) :
    ∃ L2 a2, (runC p n (now + u) 256 (tN x y C D now L a) : Int) = (now + u) / x - now / x + (now + u) / y - now / y ∧ gat (runS p n (now + u) 256 (tN x y C D now L a)) = tN x y C D (now + u) L2 a2 ∧ Inv2 F0 F1 L2 := by
  have h0 := chain_div (now + u) x (by omega) c0 (now / x) e0
  have h1 := chain_div (now + u) y (by omega) c1 (now / y) e1
  obtain ⟨L2, a2, r1, r2, r3⟩ := run_two (p := p) (n := n) (C := C) (D := D) (up := upW (decide (x ≤ now)) (decide (y ≤ now)) false false false) hx hy 256 c0 c1 _ _ (decide (x ≤ now)) (decide (y ≤ now)) L a (by omega) h0 h1 hI
  refine ⟨L2, a2, ?_, ?_, ?_⟩
  · unfold tN
    rw [r1]
    omega
  · unfold tN
    rw [r2, gat_two, flag_step now u x c0 n0 hx e0, flag_step now u y c1 n0 hy e1]
  · rw [finT_mul, finT_mul, ← e0, ← e1, f0, f1] at r3
    exact r3
set_option maxRecDepth 100000 in
set_option maxHeartbeats 8000000 in
theorem times_walk (pv qv : Int) (A : Option Addr) (len cap : Nat) (w : World) (p0 : 0 ≤ pv) (p1 : pv < 4294967296) (q0 : 0 ≤ qv) (q1 : qv < 4294967296) (HA : Hid (Nums w w.heap.size A len)) (hl : len ≤ 9223372036854775807) :
    Calls Try.prog 3 #[.int .u32 pv, .int .u32 qv, .slice A len cap] w (RetB (.bool true) w) := by
  have HN := Lib.hid (bnewp_any 1 1 rfl (.slice none 0 0) (.slice none 0 0) 0 0 Z0 Z0 w (by_nil (fun _ => True) _ Z0) (by_nil (fun _ => True) _ Z0) (by omega) (by omega) (by omega))
  obtain ⟨x, hx, x0, x1⟩ : ∃ x, pv % 30 + 20 = x ∧ 20 ≤ x ∧ x < 50 := ⟨_, rfl, by omega, by omega⟩
  obtain ⟨y, hy, y0, y1⟩ : ∃ y, qv % 30 + 20 = y ∧ 20 ≤ y ∧ y < 50 := ⟨_, rfl, by omega, by omega⟩
  have tp : pv.tmod 30 = pv % 30 := Int.tmod_eq_emod_of_nonneg p0
  have tq : qv.tmod 30 = qv % 30 := Int.tmod_eq_emod_of_nonneg q0
  have HX := Lib.hid hx
  have HY := Lib.hid hy
  clear hx hy
  go_enter Try.func3, Try.ntmps3
  go_wp2_with fail
  with_reducible refine HN.out.mono ?_
  rintro e w1 ⟨G, U, rfl, hp, hn, hP, ho, b1⟩
  obtain ⟨C, hC⟩ : ∃ C, imC 1 0 Z0 = C := ⟨_, rfl⟩
  obtain ⟨D, hD⟩ : ∃ D, imD 0 Z0 = D := ⟨_, rfl⟩
  rw [hC, hD] at hP
  have hn64 : G.n ≤ 64 := by rw [hn]; unfold nS; omega
  have hO : One w G w1 U (S0B C D) := ⟨hP, ho, b1⟩
  have hG0 : Ok 0 (S0B C D) := Ok.zero _ _
  clear ho hP b1 HN hC hD hn
  go_upto_region 5 with fail
  rw [HX.out, HY.out]
  clear HX HY tp tq p0 p1 q0 q1
  have v1 : stV 1 520093764 4 = true := rfl
  have v2 : stV 1 520093828 4 = true := rfl
  have v3 : stV 1 520093760 4 = true := rfl
  have v4 : stV 1 520093824 4 = true := rfl
  have v5 : stV 1 520093700 4 = true := rfl
  have HV := Lib.hid (And.intro v1 (And.intro v2 (And.intro v3 (And.intro v4 v5))))
  clear v1 v2 v3 v4 v5
  have hs1 := store1 520093764 4 x 0 hO hG0.g (by omega) (by omega) (by omega) (by omega) (by omega) ⟨by omega, by omega⟩ (by omega) (by omega)
  have hG1 := hG0.st (p := 1) 520093764 4 (x := x) (now := 0) ⟨by omega, by omega⟩ (by omega)
  rw [hp, HV.out.1, set_1] at hs1
  rw [set_1] at hG1
  have HS1 := Lib.hid hs1
  clear hs1 hO
  go_wp2_with fail
  with_reducible refine HS1.out.mono ?_
  rintro e w2 ⟨rfl, U2, hO2⟩
  have hs2 := store1 520093828 4 y 0 hO2 hG1.g (by omega) (by omega) (by omega) (by omega) (by omega) ⟨by omega, by omega⟩ (by omega) (by omega)
  have hG2 := hG1.st (p := 1) 520093828 4 (x := y) (now := 0) ⟨by omega, by omega⟩ (by omega)
  rw [hp, HV.out.2.1, set_2] at hs2
  rw [set_2] at hG2
  have HS2 := Lib.hid hs2
  clear hs2 hO2 HS1
  go_wp2_with fail
  with_reducible refine HS2.out.mono ?_
  rintro e w3 ⟨rfl, U3, hO3⟩
  have hs3 := store1 520093760 4 3 0 hO3 hG2.g (by omega) (by omega) (by omega) (by omega) (by omega) ⟨by omega, by omega⟩ (by omega) (by omega)
  have hG3 := hG2.st (p := 1) 520093760 4 (x := 3) (now := 0) ⟨by omega, by omega⟩ (by omega)
  rw [hp, HV.out.2.2.1, set_3 x0] at hs3
  rw [set_3 x0] at hG3
  have HS3 := Lib.hid hs3
  clear hs3 hO3 HS2
  go_wp2_with fail
  with_reducible refine HS3.out.mono ?_
  rintro e w4 ⟨rfl, U4, hO4⟩
  have hs4 := store1 520093824 4 3 0 hO4 hG3.g (by omega) (by omega) (by omega) (by omega) (by omega) ⟨by omega, by omega⟩ (by omega) (by omega)
  have hG4 := hG3.st (p := 1) 520093824 4 (x := 3) (now := 0) ⟨by omega, by omega⟩ (by omega)
  rw [hp, HV.out.2.2.2.1, set_4 y0] at hs4
  rw [set_4 y0] at hG4
  have HS4 := Lib.hid hs4
  clear hs4 hO4 HS3
  have hI : Inv2 x y (armF 2 y 1 [⟨x, 1, 0⟩]) := arm_1 _ _ _ _
  obtain ⟨L0, hL0⟩ : ∃ L0, armF 2 y 1 [⟨x, 1, 0⟩] = L0 := ⟨_, rfl⟩
  rw [hL0] at hI hG4 HS4
  go_wp2_with fail
  with_reducible refine HS4.out.mono ?_
  rintro e w5 ⟨rfl, U5, hO5⟩
  have hs5 := store1 520093700 4 6 0 hO5 hG4.g (by omega) (by omega) (by omega) (by omega) (by omega) ⟨by omega, by omega⟩ (by omega) (by omega)
  have hG5 := hG4.st (p := 1) 520093700 4 (x := 6) (now := 0) ⟨by omega, by omega⟩ (by omega)
  rw [hp, HV.out.2.2.2.2, set_5] at hs5
  rw [set_5] at hG5
  have HS5 := Lib.hid hs5
  clear hs5 hO5 HS4 HV hL0
  go_wp2_with fail
  with_reducible refine HS5.out.mono ?_
  rintro e w6 ⟨rfl, U6, hO6⟩
  clear HS5 hG0 hG1 hG2 hG3 hG4
  go_wp2_with fail
  have hst : tS x y C D false false (upW false false false false false) L0 2 = tN x y C D 0 L0 2 := by
    unfold tN
    rw [decide_eq_false (show ¬ x ≤ 0 by omega), decide_eq_false (show ¬ y ≤ 0 by omega)]
  rw [hst] at hO6 hG5
  have hI0 : Inv2 ((0 / x + 1) * x) ((0 / y + 1) * y) L0 := by
    rw [Int.zero_ediv, Int.zero_ediv, Int.zero_add, Int.one_mul, Int.one_mul]
    exact hI
  clear hst hI
  go_loopw [11, 12] (fun nw i wr => ∃ (k : Nat) (now : Int) (U : PV) (L : List Ev) (a : Int), k ≤ 20 ∧ nw = .int .i64 now ∧ i = .int .i64 k ∧ One w G wr U (tN x y C D now L a) ∧ 0 ≤ now ∧ now ≤ 60 * k ∧ Ok (5 + 256 * k) (tN x y C D now L a) ∧ Inv2 ((now / x + 1) * x) ((now / y + 1) * y) L) (fun _ i _ => 20 - (intOf i).toNat)
  case atStart => exact ⟨0, 0, _, _, _, by omega, rfl, rfl, hO6, by omega, by omega, hG5.mono (by omega), hI0⟩
  case round =>
    clear hO6 hG5 hI0
    obtain ⟨k, now, U, L, a, hk, rfl, rfl, hO, n0, n1, hG, hI⟩ := hrel
    by_cases hlt : k < len ∧ k < 20
    · obtain ⟨z1, z0⟩ := hlt
      have z20 : (k : Int) < 20 := by omega
      obtain ⟨ab, ao, sv, rfl, hab, qs, s0, s1⟩ := HA.out k z1
      have es := (hO.bl.cell (p := ⟨ab, ao + k, none⟩) hab).trans qs
      clear qs
      obtain ⟨t0, t1⟩ := tmod_pos sv 60 (by omega)
      obtain ⟨t, ht⟩ : ∃ t, sv.tmod 60 = t := ⟨_, rfl⟩
      rw [ht] at t0 t1
      obtain ⟨u, hu⟩ : ∃ u, (t + 60).tmod 60 = u := ⟨_, rfl⟩
      have hu2 : (t + 60) % 60 = u := by rw [← hu]; exact (Int.tmod_eq_emod_of_nonneg (by omega)).symm
      have u0 : 0 ≤ u := by omega
      have u1 : u < 60 := by omega
      clear hu2
      obtain ⟨c0, F0, e0, k0, f0, g0, g1, b0, b1⟩ := div_step now u x n0 u0 u1 x0 x1 (by omega)
      obtain ⟨c1, F1, e1, k1, f1, g2, g3, b2, b3⟩ := div_step now u y n0 u0 u1 y0 y1 (by omega)
      obtain ⟨L2, a2, r1, r2, r3⟩ := fire_two (C := C) (D := D) (p := G.p) (n := G.n) (a := a) x0 y0 n0 k0 k1 e0 e1 f0 f1 hI
      have hG2 : Ok (5 + 256 * k + 256) (tN x y C D (now + u) L2 a2) := r2 ▸ hG.fire (p := G.p) (n := G.n) (now + u)
      have HF := Lib.hid (fire1 (now + u) hO hG.g (by omega) hn64 (by omega) (by omega))
      rw [r1, r2] at HF
      have m00 : 0 ≤ (now + u) / x := Int.ediv_nonneg (by omega) (by omega)
      have m10 : 0 ≤ (now + u) / y := Int.ediv_nonneg (by omega) (by omega)
      have m01 : (now + u) / x ≤ 100010 := by omega
      have m11 : (now + u) / y ≤ 100010 := by omega
      have hr4 : Inv2 (((now + u) / x + 1) * x) (((now + u) / y + 1) * y) L2 := by rw [f0, f1]; exact r3
      obtain ⟨now2, hn2⟩ : ∃ z, now + u = z := ⟨_, rfl⟩
      rw [hn2] at HF hG2 hr4 m00 m01 m10 m11 f0 f1 g0 g1 g2 g3
      have j0 : 0 ≤ now2 := by omega
      have j1 : now2 ≤ 60 * (k + 1) := by omega
      have td0 : now2.tdiv x = now2 / x := Int.tdiv_eq_ediv_of_nonneg j0
      have td1 : now.tdiv x = now / x := Int.tdiv_eq_ediv_of_nonneg n0
      have td2 : now2.tdiv y = now2 / y := Int.tdiv_eq_ediv_of_nonneg j0
      have td3 : now.tdiv y = now / y := Int.tdiv_eq_ediv_of_nonneg n0
      have HR4 := Lib.hid hr4
      have HG2 := Lib.hid hG2
      have HTD := Lib.hid (And.intro td0 (And.intro td1 (And.intro td2 td3)))
      have HFF := Lib.hid (And.intro f0 f1)
      clear e0 e1 r1 r2 hr4 hG2 hI hG td0 td1 td2 td3 f0 f1 k0 k1 hO
      go_wp2_with fail
      with_reducible refine HF.out.mono ?_
      rintro e w7 ⟨rfl, U7, hO7⟩
      clear HF ht hu hn2 es
      obtain ⟨td0, td1, td2, td3⟩ := HTD.out
      clear HTD
      obtain ⟨m0, HM0⟩ : ∃ m0, Hid (now2 / x = m0) := ⟨_, Lib.hid rfl⟩
      obtain ⟨m1, HM1⟩ : ∃ m1, Hid (now2 / y = m1) := ⟨_, Lib.hid rfl⟩
      obtain ⟨q0, HQ0⟩ : ∃ q0, Hid (now / x = q0) := ⟨_, Lib.hid rfl⟩
      obtain ⟨q1, HQ1⟩ : ∃ q1, Hid (now / y = q1) := ⟨_, Lib.hid rfl⟩
      rw [HM0.out] at td0 m00 m01 HR4 HFF
      rw [HM1.out] at td2 m10 m11 HR4 HFF
      rw [HQ0.out] at td1 b0 b1
      rw [HQ1.out] at td3 b2 b3
      rw [HM0.out, HM1.out, HQ0.out, HQ1.out]
      have hO8 : One w G w7.drew U7 (tN x y C D now2 L2 a2) := hO7.drewN 1
      have HRS := Lib.hid (braised_any hO8.px)
      clear hO8
      obtain ⟨rb, hrb⟩ : ∃ rb, raisB (tN x y C D now2 L2 a2).up (tN x y C D now2 L2 a2).ask = rb := ⟨_, rfl⟩
      rw [hrb] at HRS
      have hrb2 : rb = decide (min x y ≤ now2) := by
        rw [← hrb]
        refine (raised_two _ _).trans ?_
        by_cases h1 : x ≤ now2 <;> by_cases h2 : y ≤ now2 <;> simp [h1, h2] <;> omega
      clear hrb
      have hxn : x ≠ 0 := by omega
      have hyn : y ≠ 0 := by omega
      have wr0 : IntKind.i64.wrap m0 = m0 := by rw [IntKind.wrap_i64]; omega
      have wr1 : IntKind.i64.wrap q0 = q0 := by rw [IntKind.wrap_i64]; omega
      have wr2 : IntKind.i64.wrap m1 = m1 := by rw [IntKind.wrap_i64]; omega
      have wr3 : IntKind.i64.wrap q1 = q1 := by rw [IntKind.wrap_i64]; omega
      have wr4 : IntKind.i64.wrap (m0 - q0) = m0 - q0 := by rw [IntKind.wrap_i64]; omega
      have wr5 : IntKind.i64.wrap (m0 - q0 + m1) = m0 - q0 + m1 := by rw [IntKind.wrap_i64]; omega
      have wr6 : IntKind.i64.wrap (m0 - q0 + m1 - q1) = m0 - q0 + m1 - q1 := by rw [IntKind.wrap_i64]; omega
      have HWM := Lib.hid (And.intro wr0 wr2)
      go_upto_region 15 with fail
      go_cut [116] (fun v wc => v = .bool false ∧ One w G wc U7 (tN x y C D now2 L2 a2))
      case first =>
        as_aux_lemma =>
        by_cases hxy : x ≤ y
        · by_cases hb : x ≤ now2
          · obtain rfl : rb = true := by rw [hrb2]; apply decide_eq_true; omega
            clear hrb2
            go_region_held3 (fun _ => True) (exact trivial) (first | (go_at_call 7; with_reducible refine HRS.out.mono ?_; rintro e w8 ⟨rfl, n8, rfl⟩))
            all_goals (go_wp2_with fail)
            all_goals (go_meet; exact ⟨by first | rfl | exact congrArg Value.bool (decide_eq_false (by omega)), hO7.drewN _⟩)
          · obtain rfl : rb = false := by rw [hrb2]; apply decide_eq_false; omega
            clear hrb2
            go_region_held3 (fun _ => True) (exact trivial) (first | (go_at_call 7; with_reducible refine HRS.out.mono ?_; rintro e w8 ⟨rfl, n8, rfl⟩))
            all_goals (go_wp2_with fail)
            all_goals (go_meet; exact ⟨by first | rfl | exact congrArg Value.bool (decide_eq_false (by omega)), hO7.drewN _⟩)
        · by_cases hb : y ≤ now2
          · obtain rfl : rb = true := by rw [hrb2]; apply decide_eq_true; omega
            clear hrb2
            go_region_held3 (fun _ => True) (exact trivial) (first | (go_at_call 7; with_reducible refine HRS.out.mono ?_; rintro e w8 ⟨rfl, n8, rfl⟩))
            all_goals (go_wp2_with fail)
            all_goals (go_meet; exact ⟨by first | rfl | exact congrArg Value.bool (decide_eq_false (by omega)), hO7.drewN _⟩)
          · obtain rfl : rb = false := by rw [hrb2]; apply decide_eq_false; omega
            clear hrb2
            go_region_held3 (fun _ => True) (exact trivial) (first | (go_at_call 7; with_reducible refine HRS.out.mono ?_; rintro e w8 ⟨rfl, n8, rfl⟩))
            all_goals (go_wp2_with fail)
            all_goals (go_meet; exact ⟨by first | rfl | exact congrArg Value.bool (decide_eq_false (by omega)), hO7.drewN _⟩)
      case rest =>
        clear hO7 HRS hrb2 td1 td3 wr0 wr1 wr2 wr3 wr4 wr5 wr6
        obtain ⟨rfl, hO9⟩ := hcut
        obtain ⟨nx, nl⟩ := next_two HR4.out
        have HNX := Lib.hid (bnext_any hO9.px)
        have hnx : nextV (tN x y C D now2 L2 a2).L = min F0 F1 := by rw [← HFF.out.1, ← HFF.out.2]; exact nx
        have hnl : decide (0 < (tN x y C D now2 L2 a2).L.length) = true := decide_eq_true nl
        rw [hnx, hnl] at HNX
        obtain ⟨nz, hnz⟩ : ∃ nz, min F0 F1 = nz := ⟨_, rfl⟩
        rw [hnz] at HNX
        have HNZ := Lib.hid hnz
        clear nx nl hnx hnl hnz
        go_wp2_with fail
        with_reducible refine HNX.out.mono ?_
        rintro e w8 ⟨rfl, rfl⟩
        go_upto_region 18 with fail
        go_cut [140] (fun v wc => v = .bool false ∧ One w G wc U7 (tN x y C D now2 L2 a2))
        case first =>
          as_aux_lemma =>
          obtain ⟨ff0, ff1⟩ := HFF.out
          obtain ⟨wr0, wr2⟩ := HWM.out
          have wr7 : IntKind.i64.wrap (m0 + 1) = m0 + 1 := by rw [IntKind.wrap_i64]; omega
          have wr8 : IntKind.i64.wrap (m1 + 1) = m1 + 1 := by rw [IntKind.wrap_i64]; omega
          have wr9 : IntKind.i64.wrap F0 = F0 := by rw [IntKind.wrap_i64]; omega
          have wr10 : IntKind.i64.wrap F1 = F1 := by rw [IntKind.wrap_i64]; omega
          by_cases hff : F0 ≤ F1
          · obtain rfl : nz = F0 := by rw [← HNZ.out]; omega
            go_region
            all_goals (go_wp2_with fail)
            all_goals (go_meet; exact ⟨rfl, hO9.drewN _⟩)
          · obtain rfl : nz = F1 := by rw [← HNZ.out]; omega
            go_region
            all_goals (go_wp2_with fail)
            all_goals (go_meet; exact ⟨rfl, hO9.drewN _⟩)
        case rest =>
          obtain ⟨rfl, hO10⟩ := hcut
          clear hO9
          go_wp2_with fail
          go_roundw
          case rel => exact ⟨k + 1, now2, U7, L2, a2, by omega, rfl, by go_num, hO10, j0, by omega, by rw [show (5 + 256 * ((k + 1 : Nat) : Int)) = 5 + 256 * (k : Int) + 256 by omega]; exact HG2.out, by rw [HM0.out, HM1.out]; exact HR4.out⟩
          case measure => simp [intOf]; omega
    · by_cases hx : k < len
      all_goals
        (try have hd : decide ((k : Int) < 20) = false := by simp; omega)
        clear hlt
        have hbl := hO.bl
        have HK := Lib.hid (known_any wr)
        clear hO hG hI
        go_wp2_with fail
        with_reducible refine HK.out.mono ?_
        rintro e w8 ⟨rfl, hb8⟩
        go_wp2
        go_ret
        exact ⟨rfl, hbl.trans (hb8.mono hbl.size)⟩
end Go.Proofs.Ytkfedihaldpgmaa

/-
  Chapter 15: the document's bus: B1 of dma's and disk's events, Take, in the one state.
-/
import Derived.Test.YtkfedihaldpgmaaGreatBx15
/-
  Chapter 15: the document's bus: Line of every device, in the one state.
-/
namespace Go.Proofs.YtkfedihaldpgmaaGreat
open Go.RowKit
set_option linter.unusedVariables false
set_option linter.unusedSimpArgs false
def lineU (S : BS) : Bool := ((bits .and .u32 S.uc 1 != 0) && decide (0 < S.came.length)) || ((bits .and .u32 S.uc 2 != 0) && decide (S.goes.length = 0))
/-- whether device d asks -/
def lineB (d : Nat) (S : BS) : Bool := match d with
  | 1 => S.s0
  | 2 => S.s1
  | 3 => lineU S
  | 4 => S.dn || S.er
  | 5 => S.kd || S.ke
  | _ => false
section
variable {w w' : World} {m r y : Nat} {O : Nat → Prop} {p n : Nat} {V : SV} {S : BS}
set_option maxRecDepth 100000 in
set_option maxHeartbeats 1000000 in
theorem bline_plain (d : Nat) (h : Bx w m r y O p n V S) (hd : d < 6) (h3 : d ≠ 3) :
    Calls Tryz.prog 65 #[.pointer (some ⟨m, 0, none⟩), .int .i64 d] w fun e w' => e = .returned (.bool (lineB d S)) ∧ w = w' := by
  have b5 := h.b5
  have b8 := h.b8
  have b17 := h.b17
  have b21 := h.b21
  have HM := Lib.hid (sw_is6 S.bz S.dn S.er)
  have HK := Lib.hid (sw_is6 S.kz S.kd S.ke)
  match d, hd with
  | 0, _ =>
    go_enter Tryz.func65, Tryz.ntmps65
    go_wp2
    go_ret
    exact ⟨rfl, rfl⟩
  | 1, _ =>
    cases hs : S.s0
    all_goals
      have HL : Hid (lineB 1 S = S.s0) := Lib.hid rfl
      have HS := Lib.hid hs
      rw [hs] at b5
      simp only [ibB] at b5
      clear hs
      go_enter Tryz.func65, Tryz.ntmps65
      go_wp2
      go_ret
      exact ⟨by rw [HL.out, HS.out]; rfl, rfl⟩
  | 2, _ =>
    cases hs : S.s1
    all_goals
      have HL : Hid (lineB 2 S = S.s1) := Lib.hid rfl
      have HS := Lib.hid hs
      rw [hs] at b8
      simp only [ibB] at b8
      clear hs
      go_enter Tryz.func65, Tryz.ntmps65
      go_wp2
      go_ret
      exact ⟨by rw [HL.out, HS.out]; rfl, rfl⟩
  | 3, _ => exact absurd rfl h3
  | 4, _ =>
    go_enter Tryz.func65, Tryz.ntmps65
    go_wp2
    go_ret
    exact ⟨ret_bool HM.out, rfl⟩
  | 5, _ =>
    go_enter Tryz.func65, Tryz.ntmps65
    go_wp2
    go_ret
    exact ⟨ret_bool HK.out, rfl⟩
  | d + 6, hd => exact absurd hd (by omega)
set_option maxRecDepth 100000 in
set_option maxHeartbeats 2000000 in
theorem bline_uart (h : Bx w m r y O p n V S) :
    Calls Tryz.prog 65 #[.pointer (some ⟨m, 0, none⟩), .int .i64 3] w fun e w' => e = .returned (.bool (lineB 3 S)) ∧ w = w' := by
  obtain ⟨A, c, hv, hc⟩ := h.oc.form
  obtain ⟨A2, c2, hv2, hc2⟩ := h.og.form
  have b9 := h.b9
  have b10 := h.b10
  have b12 := h.b12
  rw [hv] at b9
  rw [hv2] at b10
  have HL : Hid (lineB 3 S = (((bits .and .u32 S.uc 1 != 0) && decide (0 < S.came.length)) || ((bits .and .u32 S.uc 2 != 0) && decide (S.goes.length = 0)))) := Lib.hid rfl
  generalize S.came.length = N1 at b9 HL hc
  generalize S.goes.length = N2 at b10 HL hc2
  clear hv hv2 hc hc2
  obtain ⟨q1, h1⟩ : ∃ q, (bits .and .u32 S.uc 1 != 0) = q := ⟨_, rfl⟩
  obtain ⟨q2, h2⟩ : ∃ q, (bits .and .u32 S.uc 2 != 0) = q := ⟨_, rfl⟩
  rw [h1, h2] at HL
  by_cases k1 : N1 = 0
  · subst k1
    by_cases k2 : N2 = 0
    · subst k2
      cases q1 <;> cases q2
      all_goals
        go_enter Tryz.func65, Tryz.ntmps65
        go_wp2
        go_ret
        exact ⟨by rw [HL.out]; rfl, rfl⟩
    · have k2I : ((N2 : Int) == 0) = false := beq_false_of_ne (by omega)
      have HN : Hid (decide (N2 = 0) = false) := Lib.hid (decide_eq_false k2)
      cases q1 <;> cases q2
      all_goals
        go_enter Tryz.func65, Tryz.ntmps65
        go_wp2
        go_ret
        exact ⟨by rw [HL.out, HN.out]; rfl, rfl⟩
  · have k1I : (0 : Int) < (N1 : Int) := by omega
    have HM : Hid (decide (0 < N1) = true) := Lib.hid (decide_eq_true (by omega))
    by_cases k2 : N2 = 0
    · subst k2
      cases q1 <;> cases q2
      all_goals
        go_enter Tryz.func65, Tryz.ntmps65
        go_wp2
        go_ret
        exact ⟨by rw [HL.out, HM.out]; rfl, rfl⟩
    · have k2I : ((N2 : Int) == 0) = false := beq_false_of_ne (by omega)
      have HN : Hid (decide (N2 = 0) = false) := Lib.hid (decide_eq_false k2)
      cases q1 <;> cases q2
      all_goals
        go_enter Tryz.func65, Tryz.ntmps65
        go_wp2
        go_ret
        exact ⟨by rw [HL.out, HM.out, HN.out]; rfl, rfl⟩
theorem bline_any (d : Nat) (h : Bx w m r y O p n V S) (hd : d < 6) :
    Calls Tryz.prog 65 #[.pointer (some ⟨m, 0, none⟩), .int .i64 d] w fun e w' => e = .returned (.bool (lineB d S)) ∧ w = w' := by
  by_cases h3 : d = 3
  · subst h3; exact bline_uart h
  · exact bline_plain d h hd h3
end
end Go.Proofs.YtkfedihaldpgmaaGreat

namespace Go.Proofs.YtkfedihaldpgmaaGreat
open Go.RowKit
set_option linter.unusedVariables false
set_option linter.unusedSimpArgs false
section
variable {w w' : World} {m r y : Nat} {O : Nat → Prop} {p n : Nat} {V : SV} {S : BS}
set_option maxRecDepth 100000 in
set_option maxHeartbeats 1000000 in
theorem b1_dma (now sq : Int) (h : Bx w m r y O p n V S) (f0 : 0 ≤ S.f) (f1 : S.f < 4294967296) (t0 : 0 ≤ S.t) (t1 : S.t < 4294967296) (c0 : 0 ≤ S.n) (c1 : S.n < 4294967296) :
    Calls Tryz.prog 44 #[.pointer (some ⟨m, 0, none⟩), .agg #[.int .i64 now, .int .i64 4, .int .i64 sq]] w (RetN (.tuple #[]) w m r y O p n V (fiM p S)) := by
  have hB : Below w.heap.size w (w.alloc (.cells #[.int .i64 now, .int .i64 4, .int .i64 sq] 84)) := (Below.refl _ _).alloc (Nat.le_refl _) _
  have h0 := h.below hB
  have hC0 : CB m O V V w (w.alloc (.cells #[.int .i64 now, .int .i64 4, .int .i64 sq] 84)) := CB.of_below hB
  clear hB
  go_enter Tryz.func44, Tryz.ntmps44
  go_wp2_with fail
  with_reducible refine (bmove_any h0 f0 f1 t0 t1 c0 c1).mono ?_
  rintro e w1 ⟨rfl, V1, h1, hc1⟩
  go_wp2
  go_end0
  exact ⟨rfl, V1, h1, hC0.trans hc1⟩
set_option maxRecDepth 100000 in
set_option maxHeartbeats 1000000 in
theorem b1_disk (now sq : Int) (h : Bx w m r y O p n V S) (hn : n ≤ 64) (z0 : 0 ≤ S.z) (z1 : S.z < 4294967296) (t0 : 0 ≤ S.kt) (t1 : S.kt < 4294967296) :
    Calls Tryz.prog 44 #[.pointer (some ⟨m, 0, none⟩), .agg #[.int .i64 now, .int .i64 5, .int .i64 sq]] w (RetN (.tuple #[]) w m r y O p n V (fiK p n S)) := by
  have hB : Below w.heap.size w (w.alloc (.cells #[.int .i64 now, .int .i64 5, .int .i64 sq] 84)) := (Below.refl _ _).alloc (Nat.le_refl _) _
  have h0 := h.below hB
  have hC0 : CB m O V V w (w.alloc (.cells #[.int .i64 now, .int .i64 5, .int .i64 sq] 84)) := CB.of_below hB
  clear hB
  go_enter Tryz.func44, Tryz.ntmps44
  go_wp2_with fail
  with_reducible refine (bsector_any h0 hn z0 z1 t0 t1).mono ?_
  rintro e w1 ⟨rfl, V1, h1, hc1⟩
  go_wp2
  go_end0
  exact ⟨rfl, V1, h1, hC0.trans hc1⟩
/-- Take of the bus's wheel -/
theorem btake_any (now : Int) (h : Bx w m r y O p n V S) (hl : S.L.length ≤ 990000) :
    Calls Tryz.prog 43 #[.pointer (some ⟨m, 1, none⟩), .int .i64 now] w (RetN (takeV now S.L) w m r y O p n V { S with L := takeL now S.L }) :=
  (rtake_any now h.wb (by omega)).mono fun e w' ⟨he, v2, hw2, hc⟩ => ⟨he, _, h.wheel hw2 hc, CB.of_ch hc⟩
end
end Go.Proofs.YtkfedihaldpgmaaGreat

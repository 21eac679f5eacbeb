/-
  Chapter 12: New, arm, send, Write, Type, next, status, Read, Line, Out of package uart.
-/
import Derived.Test.YtmmikcpkaehooaaUt12
namespace Go.Proofs.Ytmmikcpkaehooaa
open Go.RowKit
set_option linter.unusedVariables false
set_option linter.unusedSimpArgs false
section
variable {W0 w w' : World} {t g c1 c2 : Nat} {d : Int} {v v2 o o2 : Value} {S : US}
def armT (now : Int) (S : US) : US := { S with q := some (now + 8, S.a), a := S.a + 1 }
theorem arm_T {W : World} {a : Int} {q : Option (Int × Int)} (T : Int) (hw : Wh 44 W g v (qL d q) a) (hok : okB d T = true) (ha : 0 ≤ a ∧ a ≤ 1000000) :
    Calls Try.prog 25 #[.pointer (some ⟨g, 0, none⟩), .int .i64 d, .int .i64 T] W (RetW 44 (.bool true) W g v (qL d (some (T, a))) (a + 1)) := by
  have hl := qL_len d q
  have := arm_any d T hw (by omega) ha
  unfold armL armA at this
  rw [hok, if_pos rfl, if_pos rfl, arm_q] at this
  exact this
set_option maxRecDepth 100000 in
set_option maxHeartbeats 1000000 in
theorem uarm_any (now : Int) (h : One W0 w t g c1 c2 d v o S) (ha : 0 ≤ S.a ∧ S.a ≤ 1000000) (d0 : 0 ≤ d) (d1 : d < 16) (n0 : 0 ≤ now) (n1 : now ≤ 4611686018427387904) :
    Calls Try.prog 20 #[.pointer (some ⟨t, 0, none⟩), .int .i64 now] w (RetO (.tuple #[]) W0 t g c1 c2 d (armT now S)) := by
  have hd : One W0 w.drew t g c1 c2 d v o S := h.drewN 1
  have hdw : Wh 44 w.drew g v (qL d S.q) S.a := hd.wh
  have x0 : w.drew.cell? ⟨t, 0, none⟩ = some (.int .i64 d) := hd.k0
  have x1 : w.drew.cell? ⟨t, 1, none⟩ = some (.pointer (some ⟨g, 0, none⟩)) := hd.k1
  obtain ⟨T, HT⟩ : ∃ T, Hid (IntKind.i64.wrap (now + 8) = T) := ⟨_, rfl⟩
  have hT : T = now + 8 := by rw [← HT.out, IntKind.wrap_i64]; omega
  have hok : okB d T = true := by unfold okB; apply decide_eq_true; omega
  have HA : Hid (armT now S = { S with q := some (T, S.a), a := S.a + 1 }) := by show _ = _; unfold armT; rw [hT]
  clear n0 n1 hT
  go_enter Try.func20, Try.ntmps20
  go_wp2_with fail
  go_region_held3 (fun w' => w'.cell? ⟨t, 0, none⟩ = some (.int .i64 d) ∧ w'.cell? ⟨t, 1, none⟩ = some (.pointer (some ⟨g, 0, none⟩))) (first | with_reducible exact ⟨x0, x1⟩ | with_reducible exact ⟨y0, y1⟩)
    (first
      | (go_at_call 25; rw [HT.out]; (with_reducible refine (arm_T (W := w.drew) T hdw hok ha).mono ?_); rintro e w4 ⟨rfl, v4, hw4, hch4⟩; have ht4 := hd.wheel hw4 hch4; have y0 := ht4.k0; have y1 := ht4.k1))
  go_wp2
  go_end0
  exact ⟨rfl, v4, o, by rw [HA.out]; exact ht4⟩

/-- what send leaves of a line with room -/
def sendT (b now : Int) (S : US) : US := match S.goes with
  | [] => { S with goes := [b], q := some (now + 8, S.a), a := S.a + 1 }
  | x :: L => { S with goes := x :: L ++ [b] }
set_option maxRecDepth 100000 in
set_option maxHeartbeats 1000000 in
theorem send_any (b now : Int) (h : One W0 w t g c1 c2 d v o S) (hl : S.goes.length < 16) (ha : 0 ≤ S.a ∧ S.a ≤ 1000000) (d0 : 0 ≤ d) (d1 : d < 16) (n0 : 0 ≤ now) (n1 : now ≤ 4611686018427387904) :
    Calls Try.prog 16 #[.pointer (some ⟨t, 0, none⟩), .int .u8 b, .int .i64 now] w (RetO (.tuple #[]) W0 t g c1 c2 d (sendT b now S)) := by
  have k3 := h.k3
  by_cases hn : S.goes = []
  · have HA : Hid (sendT b now S = { armT now S with goes := S.goes ++ [b] }) := by show _ = _; unfold sendT armT; rw [hn]; rfl
    have l2 := h.l2 (n := 0) (by rw [hn]; rfl)
    clear hn
    go_enter Try.func16, Try.ntmps16
    go_wp2_with fail
    with_reducible refine (uarm_any now h ha d0 d1 n0 n1).mono ?_
    rintro e w1 ⟨rfl, v1, o1, h1⟩
    have k3' := h1.k3
    go_wp2_with fail
    have q2 : Qu w1 c2 S.goes := h1.q2
    with_reducible refine (put_yes b q2 hl).mono ?_
    rintro e w2 ⟨rfl, hq, hf⟩
    have h2 := h1.que2 hq hf
    go_wp2
    go_end0
    exact ⟨rfl, v1, o1, by rw [HA.out]; exact h2⟩
  · have HA : Hid (sendT b now S = { S with goes := S.goes ++ [b] }) := by
      show _ = _
      unfold sendT
      cases hg : S.goes with
      | nil => exact absurd hg hn
      | cons x L => rfl
    obtain ⟨n, hN⟩ : ∃ n, S.goes.length = n := ⟨_, rfl⟩
    have l2 := h.l2 hN
    have hn0 : ((n : Int) == 0) = false := by
      cases hg : S.goes with
      | nil => exact absurd hg hn
      | cons x L => rw [hg] at hN; simp at hN; exact beq_false_of_ne (by omega)
    clear hn hN
    go_enter Try.func16, Try.ntmps16
    go_wp2_with fail
    with_reducible refine (put_yes b h.q2 hl).mono ?_
    rintro e w2 ⟨rfl, hq, hf⟩
    have h2 := h.que2 hq hf
    go_wp2
    go_end0
    exact ⟨rfl, v, o, by rw [HA.out]; exact h2⟩
set_option maxRecDepth 100000 in
set_option maxHeartbeats 1000000 in
/-- Write of a byte -/
theorem write0_any (x now : Int) (h : One W0 w t g c1 c2 d v o S) (hl : S.goes.length < 16) (ha : 0 ≤ S.a ∧ S.a ≤ 1000000) (d0 : 0 ≤ d) (d1 : d < 16) (n0 : 0 ≤ now) (n1 : now ≤ 4611686018427387904) (x0 : 0 ≤ x) (x1 : x < 256) :
    Calls Try.prog 7 #[.pointer (some ⟨t, 0, none⟩), .int .u32 0, .int .u32 x, .int .i64 now] w (RetO (.bool true) W0 t g c1 c2 d (sendT x now S)) := by
  go_enter Try.func7, Try.ntmps7
  go_wp2_with fail
  with_reducible refine (send_any x now h hl ha d0 d1 n0 n1).mono ?_
  rintro e w1 ⟨rfl, v1, o1, h1⟩
  go_wp2
  go_ret
  exact ⟨rfl, v1, o1, h1⟩
set_option maxRecDepth 100000 in
set_option maxHeartbeats 1000000 in
/-- Write of control -/
theorem write8_any (x now c : Int) (h : One W0 w t g c1 c2 d v o S) (hc : bits .and .u32 x 3 = c) :
    Calls Try.prog 7 #[.pointer (some ⟨t, 0, none⟩), .int .u32 8, .int .u32 x, .int .i64 now] w (RetO (.bool true) W0 t g c1 c2 d { S with ct := c }) := by
  have k6 := h.k6
  have f6 := h.tm.frozen 6
  have H : Hid (One W0 (w.setCell ⟨t, 6, none⟩ (.int .u32 (bits .and .u32 x 3))) t g c1 c2 d v o { S with ct := c }) := by
    show One _ _ _ _ _ _ _ _ _ _
    rw [hc]
    exact h.setC c
  clear hc
  go_enter Try.func7, Try.ntmps7
  go_wp2
  go_ret
  exact ⟨rfl, v, o, H.out⟩
/-- what Type leaves -/
def typeT (b : Int) (S : US) : US := if S.came.length < 16 then { S with came := S.came ++ [b] } else { S with lost := true }
set_option maxRecDepth 100000 in
set_option maxHeartbeats 1000000 in
theorem type_any (b : Int) (h : One W0 w t g c1 c2 d v o S) :
    Calls Try.prog 11 #[.pointer (some ⟨t, 0, none⟩), .int .u8 b] w (RetO (.tuple #[]) W0 t g c1 c2 d (typeT b S)) := by
  have k2 := h.k2
  have k5 := h.k5
  have f5 := h.tm.frozen 5
  by_cases hl : S.came.length < 16
  · have HA : Hid (typeT b S = { S with came := S.came ++ [b] }) := by show _ = _; unfold typeT; rw [if_pos hl]
    go_enter Try.func11, Try.ntmps11
    go_wp2_with fail
    with_reducible refine (put_yes b h.q1 hl).mono ?_
    rintro e w1 ⟨rfl, hq, hf⟩
    have h1 := h.que1 hq hf
    go_wp2
    go_end0
    exact ⟨rfl, v, o, by rw [HA.out]; exact h1⟩
  · have HA : Hid (typeT b S = { S with lost := true }) := by show _ = _; unfold typeT; rw [if_neg hl]
    have h1 := h.setL true
    go_enter Try.func11, Try.ntmps11
    go_wp2_with fail
    with_reducible refine (put_no b h.q1 (by omega)).mono ?_
    rintro e w1 ⟨rfl, rfl⟩
    go_wp2
    go_end0
    exact ⟨rfl, v, o, by rw [HA.out]; exact h1⟩
set_option maxRecDepth 100000 in
set_option maxHeartbeats 1000000 in
theorem next_byte (b : Int) {L : List Int} (h : One W0 w t g c1 c2 d v o S) (hq : S.came = b :: L) (b0 : 0 ≤ b) (b1 : b < 256) :
    Calls Try.prog 22 #[.pointer (some ⟨t, 0, none⟩)] w (RetO (.int .u32 b) W0 t g c1 c2 d { S with came := L }) := by
  have k2 := h.k2
  have q1 := h.q1
  rw [hq] at q1
  clear hq
  go_enter Try.func22, Try.ntmps22
  go_wp2_with fail
  with_reducible refine (take_byte b q1).mono ?_
  rintro e w1 ⟨rfl, hq, hf⟩
  have h1 := h.que1 hq hf
  go_wp2
  go_ret
  exact ⟨rfl, v, o, h1⟩
set_option maxRecDepth 100000 in
set_option maxHeartbeats 1000000 in
theorem next_none (h : One W0 w t g c1 c2 d v o S) (hq : S.came = []) :
    Calls Try.prog 22 #[.pointer (some ⟨t, 0, none⟩)] w fun e w' => e = .returned (.int .u32 256) ∧ w = w' := by
  have k2 := h.k2
  have q1 := h.q1
  rw [hq] at q1
  clear hq
  go_enter Try.func22, Try.ntmps22
  go_wp2_with fail
  with_reducible refine (take_none q1).mono ?_
  rintro e w1 ⟨rfl, rfl⟩
  go_wp2
  go_ret
  exact ⟨rfl, rfl⟩
end
end Go.Proofs.Ytmmikcpkaehooaa

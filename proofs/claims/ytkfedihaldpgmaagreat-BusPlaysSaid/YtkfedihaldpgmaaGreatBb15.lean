/-
  Chapter 15: the document's bus: B1 of a timer's event, in the one state.
-/
import Derived.Test.YtkfedihaldpgmaaGreatWx15
namespace Go.Proofs.YtkfedihaldpgmaaGreat
open Go.RowKit
set_option linter.unusedVariables false
set_option linter.unusedSimpArgs false
section
variable {w w' : World} {m r y : Nat} {O : Nat → Prop} {p n : Nat} {V : SV} {S : BS}
set_option maxRecDepth 100000 in
set_option maxHeartbeats 2000000 in
theorem b1_t0 (t sq : Int) (h : Bx w m r y O p n V S) (hl : S.L.length ≤ 990000) (ha : 0 ≤ S.a ∧ S.a ≤ 1000000) (p0 : 0 ≤ S.p0) (p1 : S.p0 < 4294967296) (n0 : 0 ≤ t) (n1 : t ≤ 4611686018427387000) :
    Calls Tryz.prog 44 #[.pointer (some ⟨m, 0, none⟩), .agg #[.int .i64 t, .int .i64 1, .int .i64 sq]] w (RetN (.tuple #[]) w m r y O p n V (fiT0 t S)) := by
  have hB : Below w.heap.size w (w.alloc (.cells #[.int .i64 t, .int .i64 1, .int .i64 sq] 84)) := (Below.refl _ _).alloc (Nat.le_refl _) _
  have h0 := h.below hB
  have hx := ev_row w ⟨t, 1, sq⟩
  have hC0 : CB m O V V w (w.alloc (.cells #[.int .i64 t, .int .i64 1, .int .i64 sq] 84)) := CB.of_below hB
  have hXO : ¬ OwnB m O V w.heap.size := fun e => Nat.lt_irrefl _ (h.lt _ e)
  have hne : ¬ w.heap.size = m := fun e => by have := h.wb.st.lt; omega
  have HA := Lib.hid (show ∀ A : World, A.rowIs w.heap.size 84 3 (three ⟨t, 1, sq⟩) → (A.drew.setCell ⟨m, 5, none⟩ (.int .u32 1)).rowIs w.heap.size 84 3 (three ⟨t, 1, sq⟩) from fun A hr => by
    refine World.rowIs.of_block (w := A) hr ?_
    exact (Fr.setCell (x := ⟨m, 5, none⟩) ((Fr.refl (fun k => k = m) A).drew) (.inl rfl) _).block _ hr.lt hne)
  have HW := Lib.hid (due_wrap t S.p0 n0 (by omega) p0 p1)
  have hok := due_ok 1 t S.p0 (by omega) (by omega) n0 p0
  obtain ⟨T, HT⟩ : ∃ T, Hid (due t S.p0 = T) := ⟨_, rfl⟩
  rw [HT.out] at hok HW
  obtain ⟨pp, HP⟩ : ∃ pp, Hid (S.p0 = pp) := ⟨_, rfl⟩
  rw [HP.out] at HW
  obtain ⟨Y, HX⟩ : ∃ Y, Hid ((if IntKind.i64.wrap pp < 1 then 1 else IntKind.i64.wrap pp) = Y) := ⟨_, rfl⟩
  rw [HX.out] at HW
  clear n0 n1 p0 p1
  generalize hAe : w.alloc (.cells #[.int .i64 t, .int .i64 1, .int .i64 sq] 84) = A at h0 hx hC0
  have HAe := Lib.hid hAe
  clear hAe hB
  generalize hXe : w.heap.size = X at hx hXO hne HA
  have HXe := Lib.hid hXe
  have HXO := Lib.hid hXO
  clear hXe hXO
  have hms : Bx (A.drew.setCell ⟨m, 5, none⟩ (.int .u32 1)) m r y O p n V { S with s0 := true } := (h0.drewN 1).setS0 1 true rfl
  have hxs := HA.out A hx
  have hC1 : CB m O V V w (A.drew.setCell ⟨m, 5, none⟩ (.int .u32 1)) := (hC0.trans (CB.drewN m O V A 1)).trans (CB.set m O V A.drew 5 _)
  have q0 : A.cell? ⟨X, 0, none⟩ = some (.int .i64 t) := hx.cell (i := 0) (by omega)
  have q1 : A.cell? ⟨X, 1, none⟩ = some (.int .i64 1) := hx.cell (i := 1) (by omega)
  have q2 : A.cell? ⟨X, 2, none⟩ = some (.int .i64 sq) := hx.cell (i := 2) (by omega)
  have b2 := h0.b5
  have f0 := h0.wb.st.frozen 3
  have f2 := h0.wb.st.frozen 5
  have hml := h0.wb.st.lt
  cases hr : S.g0
  · have H0 : Hid (fiT0 t S = { S with s0 := true, r0 := false, g0 := false }) := by show _ = _; unfold fiT0; rw [hr, if_neg (by decide), ← hr]
    have hb : bits .and .u32 (cwB S.r0 S.g0) 2 = 0 := by rw [hr]; cases S.r0 <;> rfl
    have hn : bits .andNot .u32 (cwB S.r0 S.g0) 1 = cwB false false := by rw [hr]; cases S.r0 <;> rfl
    have b0 : A.cell? ⟨m, 3, none⟩ = some (.int .u32 (cwB S.r0 S.g0)) := h0.b3
    obtain ⟨c, HCw⟩ : ∃ c, Hid (cwB S.r0 S.g0 = c) := ⟨_, rfl⟩
    rw [HCw.out] at b0 hb hn
    have H2 := Lib.hid (hms.setC0 (bits .andNot .u32 c 1) false false hn)
    have hC2 := Lib.hid (hC1.trans (CB.set m O V _ 3 (.int .u32 (bits .andNot .u32 c 1))))
    clear hr hn HA HXO hok HW HT HX HP
    go_enter Tryz.func44, Tryz.ntmps44
    go_wp2_with fail
    rw [HAe.out, HXe.out]
    go_region
    go_wp2
    go_end0
    exact ⟨rfl, V, by rw [H0.out]; exact H2.out, hC2.out⟩
  · have H0 : Hid (fiT0 t S = armS 1 T { S with s0 := true }) := by show _ = _; unfold fiT0; rw [hr, if_pos rfl, HT.out, ← hr]
    have hb : bits .and .u32 (cwB S.r0 S.g0) 2 = 2 := by rw [hr]; cases S.r0 <;> rfl
    have b0 : A.cell? ⟨m, 3, none⟩ = some (.int .u32 (cwB S.r0 S.g0)) := h0.b3
    obtain ⟨c, HCw⟩ : ∃ c, Hid (cwB S.r0 S.g0 = c) := ⟨_, rfl⟩
    rw [HCw.out] at b0 hb
    have hms : Bx (A.setCell ⟨m, 5, none⟩ (.int .u32 1)).drew m r y O p n V { S with s0 := true } := hms
    have hC1 : CB m O V V w (A.setCell ⟨m, 5, none⟩ (.int .u32 1)).drew := hC1
    have hxs : (A.setCell ⟨m, 5, none⟩ (.int .u32 1)).drew.rowIs X 84 3 (three ⟨t, 1, sq⟩) := hxs
    clear hr HA
    go_enter Tryz.func44, Tryz.ntmps44
    go_wp2_with fail
    rw [HAe.out, HXe.out]
    go_region
    go_wp2_with fail
    generalize (A.setCell ⟨m, 5, none⟩ (.int .u32 1)).drew = W1 at hms hC1 hxs ⊢
    have hxd : W1.drew.rowIs X 84 3 (three ⟨t, 1, sq⟩) := hxs
    have hW1d : Bx W1.drew m r y O p n V { S with s0 := true } := hms.drewN 1
    have e0 : W1.drew.cell? ⟨X, 0, none⟩ = some (.int .i64 t) := hxd.cell (i := 0) (by omega)
    have e1 : W1.drew.cell? ⟨X, 1, none⟩ = some (.int .i64 1) := hxd.cell (i := 1) (by omega)
    have e2 : W1.drew.cell? ⟨m, 4, none⟩ = some (.int .u32 pp) := by rw [← HP.out]; exact hW1d.b4
    go_region_held3 (fun w' => w'.cell? ⟨X, 0, none⟩ = some (.int .i64 t) ∧ w'.cell? ⟨X, 1, none⟩ = some (.int .i64 1) ∧ w'.cell? ⟨m, 4, none⟩ = some (.int .u32 pp)) (first | with_reducible exact ⟨e0, e1, e2⟩ | with_reducible exact ⟨z0, z1, z2⟩)
      (first
        | (go_at_call 78; rw [HX.out, HW.out]; (with_reducible refine (rarm_S (W := W1.drew) 1 T hW1d.wb hok hl ha).mono ?_); rintro e w4 ⟨rfl, v4, hw4, hch4⟩; have h4 := hW1d.wheel hw4 hch4; have hC4 := CB.of_ch (O := O) hch4; have hx4 := hxd.of_block (hC4.fr.block _ hxd.lt HXO.out); have z0 : w4.cell? ⟨X, 0, none⟩ = some (.int .i64 t) := hx4.cell (i := 0) (by omega); have z1 : w4.cell? ⟨X, 1, none⟩ = some (.int .i64 1) := hx4.cell (i := 1) (by omega); have z2 : w4.cell? ⟨m, 4, none⟩ = some (.int .u32 pp) := by rw [← HP.out]; exact h4.b4))
    go_wp2
    go_end0
    exact ⟨rfl, _, by rw [H0.out]; exact h4, (hC1.trans (CB.drewN m O V W1 1)).trans hC4⟩
set_option maxRecDepth 100000 in
set_option maxHeartbeats 2000000 in
theorem b1_t1 (t sq : Int) (h : Bx w m r y O p n V S) (hl : S.L.length ≤ 990000) (ha : 0 ≤ S.a ∧ S.a ≤ 1000000) (p0 : 0 ≤ S.p1) (p1 : S.p1 < 4294967296) (n0 : 0 ≤ t) (n1 : t ≤ 4611686018427387000) :
    Calls Tryz.prog 44 #[.pointer (some ⟨m, 0, none⟩), .agg #[.int .i64 t, .int .i64 2, .int .i64 sq]] w (RetN (.tuple #[]) w m r y O p n V (fiT1 t S)) := by
  have hB : Below w.heap.size w (w.alloc (.cells #[.int .i64 t, .int .i64 2, .int .i64 sq] 84)) := (Below.refl _ _).alloc (Nat.le_refl _) _
  have h0 := h.below hB
  have hx := ev_row w ⟨t, 2, sq⟩
  have hC0 : CB m O V V w (w.alloc (.cells #[.int .i64 t, .int .i64 2, .int .i64 sq] 84)) := CB.of_below hB
  have hXO : ¬ OwnB m O V w.heap.size := fun e => Nat.lt_irrefl _ (h.lt _ e)
  have hne : ¬ w.heap.size = m := fun e => by have := h.wb.st.lt; omega
  have HA := Lib.hid (show ∀ A : World, A.rowIs w.heap.size 84 3 (three ⟨t, 2, sq⟩) → (A.drew.setCell ⟨m, 8, none⟩ (.int .u32 1)).rowIs w.heap.size 84 3 (three ⟨t, 2, sq⟩) from fun A hr => by
    refine World.rowIs.of_block (w := A) hr ?_
    exact (Fr.setCell (x := ⟨m, 8, none⟩) ((Fr.refl (fun k => k = m) A).drew) (.inl rfl) _).block _ hr.lt hne)
  have HW := Lib.hid (due_wrap t S.p1 n0 (by omega) p0 p1)
  have hok := due_ok 2 t S.p1 (by omega) (by omega) n0 p0
  obtain ⟨T, HT⟩ : ∃ T, Hid (due t S.p1 = T) := ⟨_, rfl⟩
  rw [HT.out] at hok HW
  obtain ⟨pp, HP⟩ : ∃ pp, Hid (S.p1 = pp) := ⟨_, rfl⟩
  rw [HP.out] at HW
  obtain ⟨Y, HX⟩ : ∃ Y, Hid ((if IntKind.i64.wrap pp < 1 then 1 else IntKind.i64.wrap pp) = Y) := ⟨_, rfl⟩
  rw [HX.out] at HW
  clear n0 n1 p0 p1
  generalize hAe : w.alloc (.cells #[.int .i64 t, .int .i64 2, .int .i64 sq] 84) = A at h0 hx hC0
  have HAe := Lib.hid hAe
  clear hAe hB
  generalize hXe : w.heap.size = X at hx hXO hne HA
  have HXe := Lib.hid hXe
  have HXO := Lib.hid hXO
  clear hXe hXO
  have hms : Bx (A.drew.setCell ⟨m, 8, none⟩ (.int .u32 1)) m r y O p n V { S with s1 := true } := (h0.drewN 1).setS1 1 true rfl
  have hxs := HA.out A hx
  have hC1 : CB m O V V w (A.drew.setCell ⟨m, 8, none⟩ (.int .u32 1)) := (hC0.trans (CB.drewN m O V A 1)).trans (CB.set m O V A.drew 8 _)
  have q0 : A.cell? ⟨X, 0, none⟩ = some (.int .i64 t) := hx.cell (i := 0) (by omega)
  have q1 : A.cell? ⟨X, 1, none⟩ = some (.int .i64 2) := hx.cell (i := 1) (by omega)
  have q2 : A.cell? ⟨X, 2, none⟩ = some (.int .i64 sq) := hx.cell (i := 2) (by omega)
  have b2 := h0.b8
  have f0 := h0.wb.st.frozen 6
  have f2 := h0.wb.st.frozen 8
  have hml := h0.wb.st.lt
  cases hr : S.g1
  · have H0 : Hid (fiT1 t S = { S with s1 := true, r1 := false, g1 := false }) := by show _ = _; unfold fiT1; rw [hr, if_neg (by decide), ← hr]
    have hb : bits .and .u32 (cwB S.r1 S.g1) 2 = 0 := by rw [hr]; cases S.r1 <;> rfl
    have hn : bits .andNot .u32 (cwB S.r1 S.g1) 1 = cwB false false := by rw [hr]; cases S.r1 <;> rfl
    have b0 : A.cell? ⟨m, 6, none⟩ = some (.int .u32 (cwB S.r1 S.g1)) := h0.b6
    obtain ⟨c, HCw⟩ : ∃ c, Hid (cwB S.r1 S.g1 = c) := ⟨_, rfl⟩
    rw [HCw.out] at b0 hb hn
    have H2 := Lib.hid (hms.setC1 (bits .andNot .u32 c 1) false false hn)
    have hC2 := Lib.hid (hC1.trans (CB.set m O V _ 6 (.int .u32 (bits .andNot .u32 c 1))))
    clear hr hn HA HXO hok HW HT HX HP
    go_enter Tryz.func44, Tryz.ntmps44
    go_wp2_with fail
    rw [HAe.out, HXe.out]
    go_region
    go_wp2
    go_end0
    exact ⟨rfl, V, by rw [H0.out]; exact H2.out, hC2.out⟩
  · have H0 : Hid (fiT1 t S = armS 2 T { S with s1 := true }) := by show _ = _; unfold fiT1; rw [hr, if_pos rfl, HT.out, ← hr]
    have hb : bits .and .u32 (cwB S.r1 S.g1) 2 = 2 := by rw [hr]; cases S.r1 <;> rfl
    have b0 : A.cell? ⟨m, 6, none⟩ = some (.int .u32 (cwB S.r1 S.g1)) := h0.b6
    obtain ⟨c, HCw⟩ : ∃ c, Hid (cwB S.r1 S.g1 = c) := ⟨_, rfl⟩
    rw [HCw.out] at b0 hb
    have hms : Bx (A.setCell ⟨m, 8, none⟩ (.int .u32 1)).drew m r y O p n V { S with s1 := true } := hms
    have hC1 : CB m O V V w (A.setCell ⟨m, 8, none⟩ (.int .u32 1)).drew := hC1
    have hxs : (A.setCell ⟨m, 8, none⟩ (.int .u32 1)).drew.rowIs X 84 3 (three ⟨t, 2, sq⟩) := hxs
    clear hr HA
    go_enter Tryz.func44, Tryz.ntmps44
    go_wp2_with fail
    rw [HAe.out, HXe.out]
    go_region
    go_wp2_with fail
    generalize (A.setCell ⟨m, 8, none⟩ (.int .u32 1)).drew = W1 at hms hC1 hxs ⊢
    have hxd : W1.drew.rowIs X 84 3 (three ⟨t, 2, sq⟩) := hxs
    have hW1d : Bx W1.drew m r y O p n V { S with s1 := true } := hms.drewN 1
    have e0 : W1.drew.cell? ⟨X, 0, none⟩ = some (.int .i64 t) := hxd.cell (i := 0) (by omega)
    have e1 : W1.drew.cell? ⟨X, 1, none⟩ = some (.int .i64 2) := hxd.cell (i := 1) (by omega)
    have e2 : W1.drew.cell? ⟨m, 7, none⟩ = some (.int .u32 pp) := by rw [← HP.out]; exact hW1d.b7
    go_region_held3 (fun w' => w'.cell? ⟨X, 0, none⟩ = some (.int .i64 t) ∧ w'.cell? ⟨X, 1, none⟩ = some (.int .i64 2) ∧ w'.cell? ⟨m, 7, none⟩ = some (.int .u32 pp)) (first | with_reducible exact ⟨e0, e1, e2⟩ | with_reducible exact ⟨z0, z1, z2⟩)
      (first
        | (go_at_call 78; rw [HX.out, HW.out]; (with_reducible refine (rarm_S (W := W1.drew) 2 T hW1d.wb hok hl ha).mono ?_); rintro e w4 ⟨rfl, v4, hw4, hch4⟩; have h4 := hW1d.wheel hw4 hch4; have hC4 := CB.of_ch (O := O) hch4; have hx4 := hxd.of_block (hC4.fr.block _ hxd.lt HXO.out); have z0 : w4.cell? ⟨X, 0, none⟩ = some (.int .i64 t) := hx4.cell (i := 0) (by omega); have z1 : w4.cell? ⟨X, 1, none⟩ = some (.int .i64 2) := hx4.cell (i := 1) (by omega); have z2 : w4.cell? ⟨m, 7, none⟩ = some (.int .u32 pp) := by rw [← HP.out]; exact h4.b7))
    go_wp2
    go_end0
    exact ⟨rfl, _, by rw [H0.out]; exact h4, (hC1.trans (CB.drewN m O V W1 1)).trans hC4⟩
end
end Go.Proofs.YtkfedihaldpgmaaGreat

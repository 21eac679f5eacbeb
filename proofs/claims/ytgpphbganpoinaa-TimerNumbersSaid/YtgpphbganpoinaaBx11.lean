/-
  Chapter 11: the document's bus: B1 of a timer's event, New.
-/
import Derived.Test.YtgpphbganpoinaaBv11
import Derived.RegionTactic
import Derived.BigRegion
import Derived.Deep.Draws
namespace Go.Proofs.Ytgpphbganpoinaa
open Go.RowKit
set_option linter.unusedVariables false
set_option linter.unusedSimpArgs false
section
variable {C : Nat → Value} {o : Nat} {w w' : World} {m : Nat} {d : Int} {u u2 : Value} {S : TS}
theorem Bu.below (h : Bu C o w m d u S) (b : Below w.heap.size w w') : Bu C o w' m d u S := Wb.below h b
theorem Ch.drew (m : Nat) (u : Value) (w : World) : Ch m u u w w.drew := ⟨(Fr.refl (Own m u) w).drewN 1, fun _ h => .inl h⟩
set_option maxHeartbeats 2000000 in
theorem b1_any (now sq : Int) (h : Bu C o w m d u S) (ho : Dv d o) (ha : 0 ≤ S.a ∧ S.a ≤ 1000000) (n0 : 0 ≤ now) (n1 : now ≤ 4611686018427387904) (p0 : 0 ≤ S.p) (p1 : S.p < 4294967296) :
    Calls Try.prog 20 #[.pointer (some ⟨m, 0, none⟩), .agg #[.int .i64 now, .int .i64 d, .int .i64 sq]] w (RetU (.tuple #[]) C o w m d u (fiT now S)) := by
  have hd0 : 0 ≤ d := by rcases ho with ⟨rfl, _⟩ | ⟨rfl, _⟩ <;> omega
  have hd1 : d < 16 := by rcases ho with ⟨rfl, _⟩ | ⟨rfl, _⟩ <;> omega
  have hB : Below w.heap.size w (w.alloc (.cells #[.int .i64 now, .int .i64 d, .int .i64 sq] 37)) := (Below.refl _ _).alloc (Nat.le_refl _) _
  have h0 := h.below hB
  have hx := ev_row w ⟨now, d, sq⟩
  have hC0 : Ch m u u w (w.alloc (.cells #[.int .i64 now, .int .i64 d, .int .i64 sq] 37)) := Ch.of_below hB
  have HO : Hid (¬ Own m u w.heap.size) := Lib.hid (fun e => Nat.lt_irrefl _ (h.lt _ e))
  have hne : ¬ w.heap.size = m := fun e => by have := h.st.lt; omega
  have HA := Lib.hid (show ∀ A : World, A.rowIs w.heap.size 37 3 (three ⟨now, d, sq⟩) → (A.drew.setCell ⟨m, o + 2, none⟩ (.int .u32 (ib true))).rowIs w.heap.size 37 3 (three ⟨now, d, sq⟩) from fun A hr => by
    refine World.rowIs.of_block (w := A) hr ?_
    exact (Fr.setCell (x := ⟨m, o + 2, none⟩) ((Fr.refl (fun k => k = m) A).drew) (.inl rfl) _).block _ hr.lt hne)
  have HW := Lib.hid (due_wrap now S.p n0 n1 p0 p1)
  have hok := due_ok d now S.p hd0 hd1 n0 p0
  obtain ⟨T, HT⟩ : ∃ T, Hid (due now S.p = T) := ⟨_, rfl⟩
  rw [HT.out] at hok HW
  obtain ⟨p, HP⟩ : ∃ p, Hid (S.p = p) := ⟨_, rfl⟩
  rw [HP.out] at HW
  obtain ⟨Y, HX⟩ : ∃ Y, Hid ((if IntKind.i64.wrap p < 1 then 1 else IntKind.i64.wrap p) = Y) := ⟨_, rfl⟩
  rw [HX.out] at HW
  clear n0 n1 p0 p1
  generalize hAe : w.alloc (.cells #[.int .i64 now, .int .i64 d, .int .i64 sq] 37) = A at h0 hx hC0
  have HAe := Lib.hid hAe
  clear hAe hB
  generalize hXe : w.heap.size = X at hx HO hne HA
  have HXe := Lib.hid hXe
  clear hXe
  have hms := Bu.setS (h0.drewN 1) ho true
  have hxs := HA.out A hx
  have hC1 : Ch m u u w (A.drew.setCell ⟨m, o + 2, none⟩ (.int .u32 (ib true))) := (hC0.trans (Ch.drew m u _)).trans (Ch.setI m u _ (o + 2) _)
  have q0 : A.cell? ⟨X, 0, none⟩ = some (.int .i64 now) := hx.cell (i := 0) (by omega)
  have q1 : A.cell? ⟨X, 1, none⟩ = some (.int .i64 d) := hx.cell (i := 1) (by omega)
  have q2 : A.cell? ⟨X, 2, none⟩ = some (.int .i64 sq) := hx.cell (i := 2) (by omega)
  have b2 := h0.b2 ho
  have f0 := h0.st.frozen o
  have f2 := h0.st.frozen (o + 2)
  have hml := h0.st.lt
  cases hr : S.ag
  · have H0 : Hid (fiT now S = { S with s := true, r := false, ag := false }) := by show _ = _; unfold fiT; rw [hr, if_neg (by decide), ← hr]
    have hb : bits .and .u32 (cw S.r S.ag) 2 = 0 := by rw [hr]; cases S.r <;> rfl
    have hn : bits .andNot .u32 (cw S.r S.ag) 1 = cw false false := by rw [hr]; cases S.r <;> rfl
    have H2 := Lib.hid (Bu.setC hms ho false false)
    have hC2 := Lib.hid (hC1.trans (Ch.setI m u _ o (.int .u32 (cw false false))))
    have b0 : A.cell? ⟨m, o, none⟩ = some (.int .u32 (cw S.r S.ag)) := h0.b0 ho
    rw [← hn] at H2 hC2
    obtain ⟨c, HCw⟩ : ∃ c, Hid (cw S.r S.ag = c) := ⟨_, rfl⟩
    rw [HCw.out] at b0 hb H2 hC2
    clear hr hn HA HO
    rcases ho with ⟨rfl, rfl⟩ | ⟨rfl, rfl⟩
    all_goals
      go_enter Try.func20, Try.ntmps20
      go_wp2_with fail
      rw [HAe.out, HXe.out]
      go_region
      go_wp2
      go_end0
      exact ⟨rfl, u, by rw [H0.out]; exact H2.out, hC2.out⟩
  · have H0 : Hid (fiT now S = { S with s := true, q := some (T, S.a), a := S.a + 1 }) := by show _ = _; unfold fiT arT; rw [hr, if_pos rfl, HT.out]
    have hb : bits .and .u32 (cw S.r S.ag) 2 = 2 := by rw [hr]; cases S.r <;> rfl
    have b0 : A.cell? ⟨m, o, none⟩ = some (.int .u32 (cw S.r S.ag)) := h0.b0 ho
    obtain ⟨c, HCw⟩ : ∃ c, Hid (cw S.r S.ag = c) := ⟨_, rfl⟩
    rw [HCw.out] at b0 hb
    have hms : Bu C o (A.setCell ⟨m, o + 2, none⟩ (.int .u32 1)).drew m d u { S with s := true } := hms
    have hC1 : Ch m u u w (A.setCell ⟨m, o + 2, none⟩ (.int .u32 1)).drew := hC1
    have hxs : (A.setCell ⟨m, o + 2, none⟩ (.int .u32 1)).drew.rowIs X 37 3 (three ⟨now, d, sq⟩) := hxs
    clear hr HA
    rcases ho with ⟨rfl, rfl⟩ | ⟨rfl, rfl⟩
    · go_enter Try.func20, Try.ntmps20
      go_wp2_with fail
      rw [HAe.out, HXe.out]
      go_region
      go_wp2_with fail
      generalize (A.setCell ⟨m, 5, none⟩ (.int .u32 1)).drew = W1 at hms hC1 hxs ⊢
      have hxd : W1.drew.rowIs X 37 3 (three ⟨now, 1, sq⟩) := hxs
      have hW1d : Bu C 3 W1.drew m 1 u { S with s := true } := hms.drewN 1
      have e0 : W1.drew.cell? ⟨X, 0, none⟩ = some (.int .i64 now) := hxd.cell (i := 0) (by omega)
      have e1 : W1.drew.cell? ⟨X, 1, none⟩ = some (.int .i64 1) := hxd.cell (i := 1) (by omega)
      have e2 : W1.drew.cell? ⟨m, 4, none⟩ = some (.int .u32 p) := by rw [← HP.out]; exact hW1d.cC 4 (by omega) (by omega) (by omega)
      go_region_held3 (fun w' => w'.cell? ⟨X, 0, none⟩ = some (.int .i64 now) ∧ w'.cell? ⟨X, 1, none⟩ = some (.int .i64 1) ∧ w'.cell? ⟨m, 4, none⟩ = some (.int .u32 p)) (first | with_reducible exact ⟨e0, e1, e2⟩ | with_reducible exact ⟨z0, z1, z2⟩)
        (first
          | (go_at_call 32; rw [HX.out, HW.out]; (with_reducible refine (rarm_T (W := W1.drew) T hW1d hok ha).mono ?_); rintro e w4 ⟨rfl, v4, hw4, hch4⟩; have hx4 := hxd.of_block (hch4.fr.block _ hxd.lt HO.out); have z0 : w4.cell? ⟨X, 0, none⟩ = some (.int .i64 now) := hx4.cell (i := 0) (by omega); have z1 : w4.cell? ⟨X, 1, none⟩ = some (.int .i64 1) := hx4.cell (i := 1) (by omega); have z2 : w4.cell? ⟨m, 4, none⟩ = some (.int .u32 p) := by rw [← HP.out]; exact hw4.cC 4 (by omega) (by omega) (by omega)))
      go_wp2
      go_end0
      exact ⟨rfl, v4, by rw [H0.out]; exact hw4, hC1.trans ((Ch.drew m u W1).trans hch4)⟩
    · go_enter Try.func20, Try.ntmps20
      go_wp2_with fail
      rw [HAe.out, HXe.out]
      go_region
      go_wp2_with fail
      generalize (A.setCell ⟨m, 8, none⟩ (.int .u32 1)).drew = W1 at hms hC1 hxs ⊢
      have hxd : W1.drew.rowIs X 37 3 (three ⟨now, 2, sq⟩) := hxs
      have hW1d : Bu C 6 W1.drew m 2 u { S with s := true } := hms.drewN 1
      have e0 : W1.drew.cell? ⟨X, 0, none⟩ = some (.int .i64 now) := hxd.cell (i := 0) (by omega)
      have e1 : W1.drew.cell? ⟨X, 1, none⟩ = some (.int .i64 2) := hxd.cell (i := 1) (by omega)
      have e2 : W1.drew.cell? ⟨m, 7, none⟩ = some (.int .u32 p) := by rw [← HP.out]; exact hW1d.cC 7 (by omega) (by omega) (by omega)
      go_region_held3 (fun w' => w'.cell? ⟨X, 0, none⟩ = some (.int .i64 now) ∧ w'.cell? ⟨X, 1, none⟩ = some (.int .i64 2) ∧ w'.cell? ⟨m, 7, none⟩ = some (.int .u32 p)) (first | with_reducible exact ⟨e0, e1, e2⟩ | with_reducible exact ⟨z0, z1, z2⟩)
        (first
          | (go_at_call 32; rw [HX.out, HW.out]; (with_reducible refine (rarm_T (W := W1.drew) T hW1d hok ha).mono ?_); rintro e w4 ⟨rfl, v4, hw4, hch4⟩; have hx4 := hxd.of_block (hch4.fr.block _ hxd.lt HO.out); have z0 : w4.cell? ⟨X, 0, none⟩ = some (.int .i64 now) := hx4.cell (i := 0) (by omega); have z1 : w4.cell? ⟨X, 1, none⟩ = some (.int .i64 2) := hx4.cell (i := 1) (by omega); have z2 : w4.cell? ⟨m, 7, none⟩ = some (.int .u32 p) := by rw [← HP.out]; exact hw4.cC 7 (by omega) (by omega) (by omega)))
      go_wp2
      go_end0
      exact ⟨rfl, v4, by rw [H0.out]; exact hw4, hC1.trans ((Ch.drew m u W1).trans hch4)⟩
end
end Go.Proofs.Ytgpphbganpoinaa

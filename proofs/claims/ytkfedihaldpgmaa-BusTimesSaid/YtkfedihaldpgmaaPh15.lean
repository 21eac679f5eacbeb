/-
  Chapter 15: the program's bus: gather.
-/
import Derived.Test.YtkfedihaldpgmaaPg15
import Derived.Deep.RegionHeld3
import Derived.Handy
namespace Go.Proofs.Ytkfedihaldpgmaa
open Go.RowKit
set_option linter.unusedVariables false
set_option linter.unusedSimpArgs false
/-- lines behind k of the devices -/
def upN : Nat → BS → Int
  | 0, S => S.up
  | k + 1, S => upF ((k : Int) + 1) (lineB (k + 1) S) (upN k S)
def gatN (k : Nat) (S : BS) : BS := { S with up := upN k S }
theorem upN_form {S : BS} (h : ∃ c1 c2 c3 c4 c5, S.up = upW c1 c2 c3 c4 c5) (k : Nat) (hk : k ≤ 5) : ∃ c1 c2 c3 c4 c5, upN k S = upW c1 c2 c3 c4 c5 := by
  obtain ⟨c1, c2, c3, c4, c5, h⟩ := h
  have e1 : upN 1 S = upW (lineB 1 S) c2 c3 c4 c5 := by show upF 1 (lineB 1 S) S.up = _; rw [h, upF_1]
  have e2 : upN 2 S = upW (lineB 1 S) (lineB 2 S) c3 c4 c5 := by show upF 2 (lineB 2 S) (upN 1 S) = _; rw [e1, upF_2]
  have e3 : upN 3 S = upW (lineB 1 S) (lineB 2 S) (lineB 3 S) c4 c5 := by show upF 3 (lineB 3 S) (upN 2 S) = _; rw [e2, upF_3]
  have e4 : upN 4 S = upW (lineB 1 S) (lineB 2 S) (lineB 3 S) (lineB 4 S) c5 := by show upF 4 (lineB 4 S) (upN 3 S) = _; rw [e3, upF_4]
  have e5 : upN 5 S = upW (lineB 1 S) (lineB 2 S) (lineB 3 S) (lineB 4 S) (lineB 5 S) := by show upF 5 (lineB 5 S) (upN 4 S) = _; rw [e4, upF_5]
  have : k = 0 ∨ k = 1 ∨ k = 2 ∨ k = 3 ∨ k = 4 ∨ k = 5 := by omega
  rcases this with rfl | rfl | rfl | rfl | rfl | rfl
  · exact ⟨_, _, _, _, _, h⟩
  · exact ⟨_, _, _, _, _, e1⟩
  · exact ⟨_, _, _, _, _, e2⟩
  · exact ⟨_, _, _, _, _, e3⟩
  · exact ⟨_, _, _, _, _, e4⟩
  · exact ⟨_, _, _, _, _, e5⟩
theorem gatN_5 {S : BS} (h : ∃ c1 c2 c3 c4 c5, S.up = upW c1 c2 c3 c4 c5) : gatN 5 S = gat S := by
  obtain ⟨c1, c2, c3, c4, c5, h⟩ := h
  have e1 : upN 1 S = upW (lineB 1 S) c2 c3 c4 c5 := by show upF 1 (lineB 1 S) S.up = _; rw [h, upF_1]
  have e2 : upN 2 S = upW (lineB 1 S) (lineB 2 S) c3 c4 c5 := by show upF 2 (lineB 2 S) (upN 1 S) = _; rw [e1, upF_2]
  have e3 : upN 3 S = upW (lineB 1 S) (lineB 2 S) (lineB 3 S) c4 c5 := by show upF 3 (lineB 3 S) (upN 2 S) = _; rw [e2, upF_3]
  have e4 : upN 4 S = upW (lineB 1 S) (lineB 2 S) (lineB 3 S) (lineB 4 S) c5 := by show upF 4 (lineB 4 S) (upN 3 S) = _; rw [e3, upF_4]
  have e5 : upN 5 S = upW (lineB 1 S) (lineB 2 S) (lineB 3 S) (lineB 4 S) (lineB 5 S) := by show upF 5 (lineB 5 S) (upN 4 S) = _; rw [e4, upF_5]
  unfold gatN gat linesW
  rw [e5]
section
variable {w w' : World} {G : PG} {V : PV} {S : BS} {N : Int}
set_option maxRecDepth 100000 in
set_option maxHeartbeats 2000000 in
theorem pgather_N (h : Px w G V S) (hG : Gk N S) :
    Calls Try.prog 18 #[.pointer (some ⟨G.b, 0, none⟩)] w fun e w' => e = .returned (.tuple #[]) ∧ Px w' G V (gatN 5 S) ∧ CP G V V w w' := by
  have c5 : w.cell? ⟨G.b, 5, none⟩ = some (.slice (some ⟨G.P, 0, none⟩) 5 5) := h.bb.cell (i := 5) (by omega)
  have hGk : ∀ k, k ≤ 5 → Gk N (gatN k S) := fun k hk => hG.words rfl rfl rfl ⟨hG.wo.p0, hG.wo.p1, hG.wo.f, hG.wo.t, hG.wo.n, hG.wo.z, hG.wo.kt, hG.wo.uc, upN_form hG.wo.up k hk⟩ ⟨hG.bt.c, hG.bt.g, hG.bt.o, hG.bt.cl, hG.bt.gl⟩
  go_enter Try.func18, Try.ntmps18
  go_wp2
  go_loopw [9] (fun i wr => ∃ k : Nat, k ≤ 5 ∧ i = .int .i64 k ∧ Px wr G V (gatN k S) ∧ CP G V V w wr) (fun i _ => 5 - (intOf i).toNat)
  case atStart => exact ⟨0, by omega, rfl, h, CP.refl _ _ _⟩
  case round =>
    obtain ⟨k, hk, rfl, hw, hC⟩ := hrel
    by_cases hlt : k < 5
    · have q0 : wr.cell? ⟨G.P, 2 * k, none⟩ = some (pt10 G (2 * k)) := hw.pp.cell (i := 2 * k) (by omega)
      have q1 : wr.cell? ⟨G.P, 2 * k + 1, none⟩ = some (pt10 G (2 * k + 1)) := hw.pp.cell (i := 2 * k + 1) (by omega)
      have : k = 0 ∨ k = 1 ∨ k = 2 ∨ k = 3 ∨ k = 4 := by omega
      rcases this with rfl | rfl | rfl | rfl | rfl
      all_goals
        simp only [pt10, Nat.mul_zero, Nat.zero_add, Nat.reduceMul, Nat.reduceAdd] at q0 q1
      · go_wp2_with fail
        obtain ⟨W1, hW1⟩ : ∃ W1, wr.alloc (Obj.cells #[Value.int IntKind.i64 1, Value.iface 69 (Value.pointer (some { block := G.t0, off := 0 }))] 56) = W1 := ⟨_, rfl⟩
        have h1 : Px W1 G V (gatN 0 S) := by rw [← hW1]; exact hw.alloc _
        have hC1 : CP G V V wr W1 := by rw [← hW1]; exact CP.of_below ((Below.refl _ _).alloc (Nat.le_refl _) _)
        have b0 : W1.drew.cell? ⟨wr.heap.size, 0, none⟩ = some (.int .i64 1) := by rw [← hW1]; exact World.cell?_alloc_at _ _ _ 0 rfl
        have b1 : W1.drew.cell? ⟨wr.heap.size, 1, none⟩ = some (Value.iface 69 (Value.pointer (some { block := G.t0, off := 0 }))) := by rw [← hW1]; exact World.cell?_alloc_at _ _ _ 1 rfl
        have h2 : Px W1.drew G V (gatN 0 S) := h1.drewN 1
        have hG2 : Gk N (gatN 0 S) := hGk 0 (by omega)
        have b2 : W1.drew.cell? ⟨G.b, 2, none⟩ = some (.pointer (some ⟨G.l, 0, none⟩)) := h2.bb.cell (i := 2) (by omega)
        have hXl : ¬ wr.heap.size = G.l := fun e => Nat.lt_irrefl _ (e ▸ hw.ln.lt)
        rw [hW1]
        clear hW1
        generalize wr.heap.size = X at b0 b1 hXl ⊢
        go_region_held3 (fun w' => w'.cell? ⟨X, 0, none⟩ = some (.int .i64 1) ∧ w'.cell? ⟨X, 1, none⟩ = some (Value.iface 69 (Value.pointer (some { block := G.t0, off := 0 }))) ∧ w'.cell? ⟨G.b, 2, none⟩ = some (.pointer (some ⟨G.l, 0, none⟩))) (first | with_reducible exact ⟨b0, b1, b2⟩ | with_reducible exact ⟨y0, y1, y2⟩)
          (first
            | (go_at_call 86; (with_reducible refine (pline1 h2).mono ?_); rintro e w4 ⟨rfl, rfl⟩)
            | (go_at_call 36; (with_reducible refine (lnset_any (w := W1.drew) 1 (lineB 1 (gatN 0 S)) h2.ln).mono ?_); rintro e w4 ⟨rfl, hl4, hf4⟩; have h4 := h2.outL hl4 hf4; have y0 : w4.cell? ⟨X, 0, none⟩ = some (.int .i64 1) := cell_fr hf4 b0 hXl; have y1 : w4.cell? ⟨X, 1, none⟩ = some (Value.iface 69 (Value.pointer (some { block := G.t0, off := 0 }))) := cell_fr hf4 b1 hXl; have y2 : w4.cell? ⟨G.b, 2, none⟩ = some (.pointer (some ⟨G.l, 0, none⟩)) := h4.1.bb.cell (i := 2) (by omega)))
        go_wp2
        go_roundw
        case rel => exact ⟨1, by omega, by go_num, h4.1, ((hC.trans hC1).trans (CP.drewN G V W1 1)).trans h4.2⟩
        case measure => simp [intOf]
      · go_wp2_with fail
        obtain ⟨W1, hW1⟩ : ∃ W1, wr.alloc (Obj.cells #[Value.int IntKind.i64 2, Value.iface 69 (Value.pointer (some { block := G.t1, off := 0 }))] 56) = W1 := ⟨_, rfl⟩
        have h1 : Px W1 G V (gatN 1 S) := by rw [← hW1]; exact hw.alloc _
        have hC1 : CP G V V wr W1 := by rw [← hW1]; exact CP.of_below ((Below.refl _ _).alloc (Nat.le_refl _) _)
        have b0 : W1.drew.cell? ⟨wr.heap.size, 0, none⟩ = some (.int .i64 2) := by rw [← hW1]; exact World.cell?_alloc_at _ _ _ 0 rfl
        have b1 : W1.drew.cell? ⟨wr.heap.size, 1, none⟩ = some (Value.iface 69 (Value.pointer (some { block := G.t1, off := 0 }))) := by rw [← hW1]; exact World.cell?_alloc_at _ _ _ 1 rfl
        have h2 : Px W1.drew G V (gatN 1 S) := h1.drewN 1
        have hG2 : Gk N (gatN 1 S) := hGk 1 (by omega)
        have b2 : W1.drew.cell? ⟨G.b, 2, none⟩ = some (.pointer (some ⟨G.l, 0, none⟩)) := h2.bb.cell (i := 2) (by omega)
        have hXl : ¬ wr.heap.size = G.l := fun e => Nat.lt_irrefl _ (e ▸ hw.ln.lt)
        rw [hW1]
        clear hW1
        generalize wr.heap.size = X at b0 b1 hXl ⊢
        go_region_held3 (fun w' => w'.cell? ⟨X, 0, none⟩ = some (.int .i64 2) ∧ w'.cell? ⟨X, 1, none⟩ = some (Value.iface 69 (Value.pointer (some { block := G.t1, off := 0 }))) ∧ w'.cell? ⟨G.b, 2, none⟩ = some (.pointer (some ⟨G.l, 0, none⟩))) (first | with_reducible exact ⟨b0, b1, b2⟩ | with_reducible exact ⟨y0, y1, y2⟩)
          (first
            | (go_at_call 86; (with_reducible refine (pline2 h2).mono ?_); rintro e w4 ⟨rfl, rfl⟩)
            | (go_at_call 36; (with_reducible refine (lnset_any (w := W1.drew) 2 (lineB 2 (gatN 1 S)) h2.ln).mono ?_); rintro e w4 ⟨rfl, hl4, hf4⟩; have h4 := h2.outL hl4 hf4; have y0 : w4.cell? ⟨X, 0, none⟩ = some (.int .i64 2) := cell_fr hf4 b0 hXl; have y1 : w4.cell? ⟨X, 1, none⟩ = some (Value.iface 69 (Value.pointer (some { block := G.t1, off := 0 }))) := cell_fr hf4 b1 hXl; have y2 : w4.cell? ⟨G.b, 2, none⟩ = some (.pointer (some ⟨G.l, 0, none⟩)) := h4.1.bb.cell (i := 2) (by omega)))
        go_wp2
        go_roundw
        case rel => exact ⟨2, by omega, by go_num, h4.1, ((hC.trans hC1).trans (CP.drewN G V W1 1)).trans h4.2⟩
        case measure => simp [intOf]
      · go_wp2_with fail
        obtain ⟨W1, hW1⟩ : ∃ W1, wr.alloc (Obj.cells #[Value.int IntKind.i64 3, Value.iface 41 (Value.pointer (some { block := G.u, off := 0 }))] 56) = W1 := ⟨_, rfl⟩
        have h1 : Px W1 G V (gatN 2 S) := by rw [← hW1]; exact hw.alloc _
        have hC1 : CP G V V wr W1 := by rw [← hW1]; exact CP.of_below ((Below.refl _ _).alloc (Nat.le_refl _) _)
        have b0 : W1.drew.cell? ⟨wr.heap.size, 0, none⟩ = some (.int .i64 3) := by rw [← hW1]; exact World.cell?_alloc_at _ _ _ 0 rfl
        have b1 : W1.drew.cell? ⟨wr.heap.size, 1, none⟩ = some (Value.iface 41 (Value.pointer (some { block := G.u, off := 0 }))) := by rw [← hW1]; exact World.cell?_alloc_at _ _ _ 1 rfl
        have h2 : Px W1.drew G V (gatN 2 S) := h1.drewN 1
        have hG2 : Gk N (gatN 2 S) := hGk 2 (by omega)
        have b2 : W1.drew.cell? ⟨G.b, 2, none⟩ = some (.pointer (some ⟨G.l, 0, none⟩)) := h2.bb.cell (i := 2) (by omega)
        have hXl : ¬ wr.heap.size = G.l := fun e => Nat.lt_irrefl _ (e ▸ hw.ln.lt)
        rw [hW1]
        clear hW1
        generalize wr.heap.size = X at b0 b1 hXl ⊢
        go_region_held3 (fun w' => w'.cell? ⟨X, 0, none⟩ = some (.int .i64 3) ∧ w'.cell? ⟨X, 1, none⟩ = some (Value.iface 41 (Value.pointer (some { block := G.u, off := 0 }))) ∧ w'.cell? ⟨G.b, 2, none⟩ = some (.pointer (some ⟨G.l, 0, none⟩))) (first | with_reducible exact ⟨b0, b1, b2⟩ | with_reducible exact ⟨y0, y1, y2⟩)
          (first
            | (go_at_call 59; (with_reducible refine (pline3 h2 hG2).mono ?_); rintro e w4 ⟨rfl, rfl⟩)
            | (go_at_call 36; (with_reducible refine (lnset_any (w := W1.drew) 3 (lineB 3 (gatN 2 S)) h2.ln).mono ?_); rintro e w4 ⟨rfl, hl4, hf4⟩; have h4 := h2.outL hl4 hf4; have y0 : w4.cell? ⟨X, 0, none⟩ = some (.int .i64 3) := cell_fr hf4 b0 hXl; have y1 : w4.cell? ⟨X, 1, none⟩ = some (Value.iface 41 (Value.pointer (some { block := G.u, off := 0 }))) := cell_fr hf4 b1 hXl; have y2 : w4.cell? ⟨G.b, 2, none⟩ = some (.pointer (some ⟨G.l, 0, none⟩)) := h4.1.bb.cell (i := 2) (by omega)))
        go_wp2
        go_roundw
        case rel => exact ⟨3, by omega, by go_num, h4.1, ((hC.trans hC1).trans (CP.drewN G V W1 1)).trans h4.2⟩
        case measure => simp [intOf]
      · go_wp2_with fail
        obtain ⟨W1, hW1⟩ : ∃ W1, wr.alloc (Obj.cells #[Value.int IntKind.i64 4, Value.iface 71 (Value.pointer (some { block := G.d, off := 0 }))] 56) = W1 := ⟨_, rfl⟩
        have h1 : Px W1 G V (gatN 3 S) := by rw [← hW1]; exact hw.alloc _
        have hC1 : CP G V V wr W1 := by rw [← hW1]; exact CP.of_below ((Below.refl _ _).alloc (Nat.le_refl _) _)
        have b0 : W1.drew.cell? ⟨wr.heap.size, 0, none⟩ = some (.int .i64 4) := by rw [← hW1]; exact World.cell?_alloc_at _ _ _ 0 rfl
        have b1 : W1.drew.cell? ⟨wr.heap.size, 1, none⟩ = some (Value.iface 71 (Value.pointer (some { block := G.d, off := 0 }))) := by rw [← hW1]; exact World.cell?_alloc_at _ _ _ 1 rfl
        have h2 : Px W1.drew G V (gatN 3 S) := h1.drewN 1
        have hG2 : Gk N (gatN 3 S) := hGk 3 (by omega)
        have b2 : W1.drew.cell? ⟨G.b, 2, none⟩ = some (.pointer (some ⟨G.l, 0, none⟩)) := h2.bb.cell (i := 2) (by omega)
        have hXl : ¬ wr.heap.size = G.l := fun e => Nat.lt_irrefl _ (e ▸ hw.ln.lt)
        rw [hW1]
        clear hW1
        generalize wr.heap.size = X at b0 b1 hXl ⊢
        go_region_held3 (fun w' => w'.cell? ⟨X, 0, none⟩ = some (.int .i64 4) ∧ w'.cell? ⟨X, 1, none⟩ = some (Value.iface 71 (Value.pointer (some { block := G.d, off := 0 }))) ∧ w'.cell? ⟨G.b, 2, none⟩ = some (.pointer (some ⟨G.l, 0, none⟩))) (first | with_reducible exact ⟨b0, b1, b2⟩ | with_reducible exact ⟨y0, y1, y2⟩)
          (first
            | (go_at_call 92; (with_reducible refine (pline4 h2).mono ?_); rintro e w4 ⟨rfl, rfl⟩)
            | (go_at_call 36; (with_reducible refine (lnset_any (w := W1.drew) 4 (lineB 4 (gatN 3 S)) h2.ln).mono ?_); rintro e w4 ⟨rfl, hl4, hf4⟩; have h4 := h2.outL hl4 hf4; have y0 : w4.cell? ⟨X, 0, none⟩ = some (.int .i64 4) := cell_fr hf4 b0 hXl; have y1 : w4.cell? ⟨X, 1, none⟩ = some (Value.iface 71 (Value.pointer (some { block := G.d, off := 0 }))) := cell_fr hf4 b1 hXl; have y2 : w4.cell? ⟨G.b, 2, none⟩ = some (.pointer (some ⟨G.l, 0, none⟩)) := h4.1.bb.cell (i := 2) (by omega)))
        go_wp2
        go_roundw
        case rel => exact ⟨4, by omega, by go_num, h4.1, ((hC.trans hC1).trans (CP.drewN G V W1 1)).trans h4.2⟩
        case measure => simp [intOf]
      · go_wp2_with fail
        obtain ⟨W1, hW1⟩ : ∃ W1, wr.alloc (Obj.cells #[Value.int IntKind.i64 5, Value.iface 42 (Value.pointer (some { block := G.k, off := 0 }))] 56) = W1 := ⟨_, rfl⟩
        have h1 : Px W1 G V (gatN 4 S) := by rw [← hW1]; exact hw.alloc _
        have hC1 : CP G V V wr W1 := by rw [← hW1]; exact CP.of_below ((Below.refl _ _).alloc (Nat.le_refl _) _)
        have b0 : W1.drew.cell? ⟨wr.heap.size, 0, none⟩ = some (.int .i64 5) := by rw [← hW1]; exact World.cell?_alloc_at _ _ _ 0 rfl
        have b1 : W1.drew.cell? ⟨wr.heap.size, 1, none⟩ = some (Value.iface 42 (Value.pointer (some { block := G.k, off := 0 }))) := by rw [← hW1]; exact World.cell?_alloc_at _ _ _ 1 rfl
        have h2 : Px W1.drew G V (gatN 4 S) := h1.drewN 1
        have hG2 : Gk N (gatN 4 S) := hGk 4 (by omega)
        have b2 : W1.drew.cell? ⟨G.b, 2, none⟩ = some (.pointer (some ⟨G.l, 0, none⟩)) := h2.bb.cell (i := 2) (by omega)
        have hXl : ¬ wr.heap.size = G.l := fun e => Nat.lt_irrefl _ (e ▸ hw.ln.lt)
        rw [hW1]
        clear hW1
        generalize wr.heap.size = X at b0 b1 hXl ⊢
        go_region_held3 (fun w' => w'.cell? ⟨X, 0, none⟩ = some (.int .i64 5) ∧ w'.cell? ⟨X, 1, none⟩ = some (Value.iface 42 (Value.pointer (some { block := G.k, off := 0 }))) ∧ w'.cell? ⟨G.b, 2, none⟩ = some (.pointer (some ⟨G.l, 0, none⟩))) (first | with_reducible exact ⟨b0, b1, b2⟩ | with_reducible exact ⟨y0, y1, y2⟩)
          (first
            | (go_at_call 78; (with_reducible refine (pline5 h2).mono ?_); rintro e w4 ⟨rfl, rfl⟩)
            | (go_at_call 36; (with_reducible refine (lnset_any (w := W1.drew) 5 (lineB 5 (gatN 4 S)) h2.ln).mono ?_); rintro e w4 ⟨rfl, hl4, hf4⟩; have h4 := h2.outL hl4 hf4; have y0 : w4.cell? ⟨X, 0, none⟩ = some (.int .i64 5) := cell_fr hf4 b0 hXl; have y1 : w4.cell? ⟨X, 1, none⟩ = some (Value.iface 42 (Value.pointer (some { block := G.k, off := 0 }))) := cell_fr hf4 b1 hXl; have y2 : w4.cell? ⟨G.b, 2, none⟩ = some (.pointer (some ⟨G.l, 0, none⟩)) := h4.1.bb.cell (i := 2) (by omega)))
        go_wp2
        go_roundw
        case rel => exact ⟨5, by omega, by go_num, h4.1, ((hC.trans hC1).trans (CP.drewN G V W1 1)).trans h4.2⟩
        case measure => simp [intOf]
    · obtain rfl : k = 5 := by omega
      go_wp2
      go_end0
      exact ⟨rfl, hw, hC⟩
theorem pgather_any (h : Px w G V S) (hG : Gk N S) :
    Calls Try.prog 18 #[.pointer (some ⟨G.b, 0, none⟩)] w (RetPx (.tuple #[]) w G V (gat S)) :=
  (pgather_N h hG).mono fun e w' ⟨he, hp, hc⟩ => ⟨he, V, by rw [← gatN_5 hG.wo.up]; exact hp, hc⟩
end
end Go.Proofs.Ytkfedihaldpgmaa

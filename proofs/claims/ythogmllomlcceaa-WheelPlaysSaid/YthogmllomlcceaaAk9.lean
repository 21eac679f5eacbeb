/-
  Chapter 9: a list of calls that came in, read as its cells.
-/
import Derived.Test.YthogmllomlcceaaNu9
import Derived.Test.YthogmllomlcceaaOp9
namespace Go.Proofs.Ythogmllomlcceaa
open Go.RowKit Go.ChangeShapes Go.WideShapes Go.Deep
set_option linter.unusedVariables false
set_option linter.unusedSimpArgs false
section
variable {H : Type} {enc : TypeId × Value → H} {W : World}
theorem asks_of {fuel : Nat} {a : Option Addr} {len cap : Nat} {x : DataW H × List MemPlace} (hf : DataW.trod enc Try.prog W 0 (fun _ => true) true fuel 22 [.slice a len cap] = some x) : Asks W W.heap.size a len ∧ len ≤ 9223372036854775807 := by
  rcases open_slice Try.underlying22 hf with ⟨hcs, _⟩ | ⟨ad, l, c, m, n, D, Pl, hcs, _, hl, hc, hm, _, hi⟩
  · injection hcs with e
    injection e with e1 e2 e3
    subst e2
    exact ⟨fun i h => absurd h (by omega), by omega⟩
  · injection hcs with e
    injection e with e1 e2 e3
    subst e1 e2 e3
    simp only [if_true] at hm
    subst hm
    refine ⟨fun i hil => ?_, by unfold maxLen at hc; omega⟩
    have c3 : Try.prog.cellsOf 24 = 3 := by kernel_rfl
    have hspot : ad.spot = none := by
      obtain ⟨cs, hcc, _⟩ := hi 0 (by omega)
      rw [c3] at hcc
      obtain ⟨_, hcl, hat⟩ := World.cells?_some hcc
      have h0 := hat 0 (by omega)
      rw [List.getElem?_eq_getElem (by omega)] at h0
      have := addr_plain h0
      simpa [Addr.add] using this
    obtain ⟨b, o, s⟩ := ad
    have hs : s = none := hspot
    subst hs
    obtain ⟨cs, hcc, htr⟩ := hi i (by omega)
    rw [c3] at hcc
    obtain ⟨_, hcl, hat⟩ := World.cells?_some hcc
    obtain ⟨ys, n', _, _, _, hyl, hfld⟩ := DataW.trod_struct Try.underlying24 htr
    match cs, hcl with
    | [u0, u1, u2], _ =>
      have hy : ∀ j, j < 3 → ∃ y, ys[j]? = some y := fun j hj => ⟨ys[j]'(by rw [hyl]; exact hj), List.getElem?_eq_getElem _⟩
      have i1 : Try.prog.cellsOf 3 = 1 := by kernel_rfl
      have i2 : Try.prog.cellsOf 2 = 1 := by kernel_rfl
      obtain ⟨y0, z0⟩ := hy 0 (by omega)
      obtain ⟨y1, z1⟩ := hy 1 (by omega)
      obtain ⟨y2, z2⟩ := hy 2 (by omega)
      have t0 := hfld 0 _ rfl
      have t1 := hfld 1 _ rfl
      have t2 := hfld 2 _ rfl
      obtain ⟨kd, rfl, wk⟩ := int_of Try.underlying3 t0 z0
      obtain ⟨dd, rfl, wd⟩ := int_of Try.underlying3 t1 z1
      obtain ⟨tt, rfl, wt⟩ := int_of Try.underlying2 t2 z2
      have hcell : ∀ j (hj : j < 3), W.cell? ⟨b, o + i * 3 + j, none⟩ = [Value.int .i64 kd, .int .i64 dd, .int .i64 tt][j]? := fun j hj => by
        rw [← Addr.add_lit, ← Addr.add_lit, hat j hj]
      have q0 := hcell 0 (by omega)
      have hb := block_lt_of_cell q0
      obtain ⟨r1, r2⟩ := rngi wd
      obtain ⟨r3, r4⟩ := rngi wt
      exact ⟨b, o, kd, dd, tt, rfl, hb, q0, hcell 1 (by omega), hcell 2 (by omega), r1, r2, r3, r4⟩
end
end Go.Proofs.Ythogmllomlcceaa

/-
  Chapter 3: arguments that are instructions, opened to their numbers.
-/
import Derived.Test.YtmjlbffphaklgaaInst
import Derived.Deep.Fields
import Derived.ProofKit
import Derived.OpenShut
namespace Go.Proofs.Ytmjlbffphaklgaa
open Go.RowKit Go.ChangeShapes Go.WideShapes Go.Deep
set_option linter.unusedVariables false
theorem laidOut : laidOutB Try.prog = true := by kernel_rfl
section
variable {H : Type} {enc : TypeId × Value → H} {W : World}
theorem int_of {fuel : Nat} {t : TypeId} {k : IntKind} {v : Value} {x : Option (DataW H × List MemPlace)} {y : DataW H × List MemPlace} (ht : Try.prog.underlying t = some (.int k)) (hf : DataW.trod enc Try.prog W 0 (fun _ => true) true fuel t [v] = x) (hx : x = some y) : ∃ n, v = .int k n ∧ (Lit.int k n).wf = true := by
  obtain ⟨n, e, _, hw⟩ := DataW.trod_int ht (hf.trans hx)
  injection e with e
  exact ⟨n, e, hw⟩
theorem open_x {v : Value} {d : DataW H} {p : List MemPlace} {r : Reach} {b0 : Nat} (hv : Value.okWide Try.prog W r b0 29 v) (h : DataW.Trod enc Try.prog W 0 (fun _ => true) true 29 v d p) :
    ∃ x : Nat → Int, v = .agg #[.int .i64 (x 0), .int .i64 (x 1), .int .i64 (x 2), .int .i64 (x 3), .int .i64 (x 4), .int .u32 (x 5), .int .u32 (x 6)] ∧ Hid (InX (x 0) (x 1) (x 2) (x 3) (x 4) (x 5) (x 6)) := by
  obtain ⟨cs, rfl, hsz⟩ := okWide_struct Try.underlying29 hv
  obtain ⟨l⟩ := cs
  match l, hsz.trans (show Try.prog.cellsOf 29 = 7 by kernel_rfl) with
  | [c0, c1, c2, c3, c4, c5, c6], _ =>
    obtain ⟨fuel, hf⟩ := h
    obtain ⟨ys, n', _, _, _, hyl, hfld⟩ := DataW.trod_struct Try.underlying29 hf
    have hy : ∀ j, j < 7 → ∃ y, ys[j]? = some y := fun j hj => ⟨ys[j]'(by rw [hyl]; exact hj), List.getElem?_eq_getElem _⟩
    obtain ⟨y0, z0⟩ := hy 0 (by omega)
    obtain ⟨n0, rfl, w0⟩ := int_of Try.underlying3 (show DataW.trod enc Try.prog W 0 (fun _ => true) true n' 3 [c0] = ys[0]? from hfld 0 _ rfl) z0
    obtain ⟨y1, z1⟩ := hy 1 (by omega)
    obtain ⟨n1, rfl, w1⟩ := int_of Try.underlying3 (show DataW.trod enc Try.prog W 0 (fun _ => true) true n' 3 [c1] = ys[1]? from hfld 1 _ rfl) z1
    obtain ⟨y2, z2⟩ := hy 2 (by omega)
    obtain ⟨n2, rfl, w2⟩ := int_of Try.underlying3 (show DataW.trod enc Try.prog W 0 (fun _ => true) true n' 3 [c2] = ys[2]? from hfld 2 _ rfl) z2
    obtain ⟨y3, z3⟩ := hy 3 (by omega)
    obtain ⟨n3, rfl, w3⟩ := int_of Try.underlying3 (show DataW.trod enc Try.prog W 0 (fun _ => true) true n' 3 [c3] = ys[3]? from hfld 3 _ rfl) z3
    obtain ⟨y4, z4⟩ := hy 4 (by omega)
    obtain ⟨n4, rfl, w4⟩ := int_of Try.underlying3 (show DataW.trod enc Try.prog W 0 (fun _ => true) true n' 3 [c4] = ys[4]? from hfld 4 _ rfl) z4
    obtain ⟨y5, z5⟩ := hy 5 (by omega)
    obtain ⟨n5, rfl, w5⟩ := int_of Try.underlying22 (show DataW.trod enc Try.prog W 0 (fun _ => true) true n' 22 [c5] = ys[5]? from hfld 5 _ rfl) z5
    obtain ⟨y6, z6⟩ := hy 6 (by omega)
    obtain ⟨n6, rfl, w6⟩ := int_of Try.underlying22 (show DataW.trod enc Try.prog W 0 (fun _ => true) true n' 22 [c6] = ys[6]? from hfld 6 _ rfl) z6
    exact ⟨fun j => [n0, n1, n2, n3, n4, n5, n6].getD j 0, rfl, ⟨rng_i64 w0, rng_i64 w1, rng_i64 w2, rng_i64 w3, rng_i64 w4, (rng_u32 w5).1, (rng_u32 w5).2, (rng_u32 w6).1, (rng_u32 w6).2⟩⟩
theorem open_i {v : Value} {d : DataW H} {p : List MemPlace} {r : Reach} {b0 : Nat} (hv : Value.okWide Try.prog W r b0 26 v) (h : DataW.Trod enc Try.prog W 0 (fun _ => true) true 26 v d p) :
    ∃ x : Nat → Int, v = .agg #[.int .i64 (x 0), .int .i64 (x 1), .int .i64 (x 2), .int .i64 (x 3), .int .i64 (x 4), .int .u32 (x 5)] ∧ Hid (InR (x 0) (x 1) (x 2) (x 3) (x 4) (x 5)) := by
  obtain ⟨cs, rfl, hsz⟩ := okWide_struct Try.underlying26 hv
  obtain ⟨l⟩ := cs
  match l, hsz.trans (show Try.prog.cellsOf 26 = 6 by kernel_rfl) with
  | [c0, c1, c2, c3, c4, c5], _ =>
    obtain ⟨fuel, hf⟩ := h
    obtain ⟨ys, n', _, _, _, hyl, hfld⟩ := DataW.trod_struct Try.underlying26 hf
    have hy : ∀ j, j < 6 → ∃ y, ys[j]? = some y := fun j hj => ⟨ys[j]'(by rw [hyl]; exact hj), List.getElem?_eq_getElem _⟩
    obtain ⟨y0, z0⟩ := hy 0 (by omega)
    obtain ⟨n0, rfl, w0⟩ := int_of Try.underlying3 (show DataW.trod enc Try.prog W 0 (fun _ => true) true n' 3 [c0] = ys[0]? from hfld 0 _ rfl) z0
    obtain ⟨y1, z1⟩ := hy 1 (by omega)
    obtain ⟨n1, rfl, w1⟩ := int_of Try.underlying3 (show DataW.trod enc Try.prog W 0 (fun _ => true) true n' 3 [c1] = ys[1]? from hfld 1 _ rfl) z1
    obtain ⟨y2, z2⟩ := hy 2 (by omega)
    obtain ⟨n2, rfl, w2⟩ := int_of Try.underlying3 (show DataW.trod enc Try.prog W 0 (fun _ => true) true n' 3 [c2] = ys[2]? from hfld 2 _ rfl) z2
    obtain ⟨y3, z3⟩ := hy 3 (by omega)
    obtain ⟨n3, rfl, w3⟩ := int_of Try.underlying3 (show DataW.trod enc Try.prog W 0 (fun _ => true) true n' 3 [c3] = ys[3]? from hfld 3 _ rfl) z3
    obtain ⟨y4, z4⟩ := hy 4 (by omega)
    obtain ⟨n4, rfl, w4⟩ := int_of Try.underlying3 (show DataW.trod enc Try.prog W 0 (fun _ => true) true n' 3 [c4] = ys[4]? from hfld 4 _ rfl) z4
    obtain ⟨y5, z5⟩ := hy 5 (by omega)
    obtain ⟨n5, rfl, w5⟩ := int_of Try.underlying22 (show DataW.trod enc Try.prog W 0 (fun _ => true) true n' 22 [c5] = ys[5]? from hfld 5 _ rfl) z5
    exact ⟨fun j => [n0, n1, n2, n3, n4, n5].getD j 0, rfl, ⟨rng_i64 w0, rng_i64 w1, rng_i64 w2, rng_i64 w3, rng_i64 w4, (rng_u32 w5).1, (rng_u32 w5).2⟩⟩
end
end Go.Proofs.Ytmjlbffphaklgaa

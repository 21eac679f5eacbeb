/-
  Chapter 7: lists of calls, of words, of entries that came in, read as their cells.
-/
import Derived.Test.YtckgkelggmhldaaPl7
import Derived.Test.YtckgkelggmhldaaOpen6
namespace Go.Proofs.Ytckgkelggmhldaa
open Go.RowKit Go.ChangeShapes Go.WideShapes Go.Deep
set_option linter.unusedVariables false
section
variable {H : Type} {enc : TypeId × Value → H} {W : World}
theorem asks_of {fuel : Nat} {a : Option Addr} {len cap : Nat} {x : DataW H × List MemPlace} (hf : DataW.trod enc Try.prog W 0 (fun _ => true) true fuel 42 [.slice a len cap] = some x) : Asks W W.heap.size a len ∧ len ≤ 9223372036854775807 := by
  rcases open_slice Try.underlying42 hf with ⟨hcs, _⟩ | ⟨ad, l, c, m, n, D, Pl, hcs, _, hl, hc, hm, _, hi⟩
  · injection hcs with e
    injection e with e1 e2 e3
    subst e2
    exact ⟨fun i h => absurd h (by omega), by omega⟩
  · injection hcs with e
    injection e with e1 e2 e3
    subst e1 e2 e3
    simp only [if_true] at hm
    subst hm
    refine ⟨fun i hil => ?_, by unfold maxLen at hc; omega⟩
    have c4 : Try.prog.cellsOf 33 = 4 := by kernel_rfl
    obtain ⟨b, o, s⟩ := ad
    have hs : s = none := by
      obtain ⟨cs0, hcc0, _⟩ := hi 0 (by omega)
      rw [c4] at hcc0
      obtain ⟨_, hcl0, hat0⟩ := World.cells?_some hcc0
      have h0 := hat0 0 (by omega)
      rw [List.getElem?_eq_getElem (by omega)] at h0
      have := addr_plain h0
      simpa [Addr.add] using this
    subst hs
    obtain ⟨cs, hcc, htr⟩ := hi i (by omega)
    rw [c4] at hcc
    obtain ⟨_, hcl, hat⟩ := World.cells?_some hcc
    obtain ⟨ys, n', _, _, _, hyl, hfld⟩ := DataW.trod_struct Try.underlying33 htr
    match cs, hcl with
    | [u0, u1, u2, u3], _ =>
      have hy : ∀ j, j < 4 → ∃ y, ys[j]? = some y := fun j hj => ⟨ys[j]'(by rw [hyl]; exact hj), List.getElem?_eq_getElem _⟩
      obtain ⟨y0, z0⟩ := hy 0 (by omega)
      obtain ⟨y1, z1⟩ := hy 1 (by omega)
      obtain ⟨y2, z2⟩ := hy 2 (by omega)
      obtain ⟨y3, z3⟩ := hy 3 (by omega)
      obtain ⟨kd, rfl, wk⟩ := int_of Try.underlying3 (show DataW.trod enc Try.prog W 0 (fun _ => true) true n' 3 [u0] = ys[0]? from hfld 0 _ rfl) z0
      obtain ⟨nn, rfl, wn⟩ := int_of Try.underlying3 (show DataW.trod enc Try.prog W 0 (fun _ => true) true n' 3 [u1] = ys[1]? from hfld 1 _ rfl) z1
      obtain ⟨v, rfl, wv⟩ := int_of Try.underlying22 (show DataW.trod enc Try.prog W 0 (fun _ => true) true n' 22 [u2] = ys[2]? from hfld 2 _ rfl) z2
      obtain ⟨f, rfl⟩ := bool_of Try.underlying4 (show DataW.trod enc Try.prog W 0 (fun _ => true) true n' 4 [u3] = ys[3]? from hfld 3 _ rfl) z3
      have hcell : ∀ j (hj : j < 4), W.cell? ⟨b, o + i * 4 + j, none⟩ = [Value.int .i64 kd, .int .i64 nn, .int .u32 v, .bool f][j]? := fun j hj => by
        rw [← Addr.add_mid, ← Addr.add_mid, hat j hj]
      have q0 := hcell 0 (by omega)
      have hn := rng_i64 wn
      exact ⟨b, o, kd, nn, v, f, rfl, block_lt_of_cell q0, q0, hcell 1 (by omega), hcell 2 (by omega), hcell 3 (by omega), rng_u32 wv, hn.1, by have := hn.2; omega⟩
theorem words_at {fuel : Nat} {a : Option Addr} {len cap : Nat} {x : DataW H × List MemPlace} (hf : DataW.trod enc Try.prog W 0 (fun _ => true) true fuel 38 [.slice a len cap] = some x) : WordsAt W W.heap.size a len ∧ len ≤ 9223372036854775807 := by
  obtain ⟨a', len', cap', e, hl, h⟩ := words_of hf
  injection e with e1 e2 e3
  subst e1 e2 e3
  exact ⟨h, hl⟩
theorem ents_at {fuel : Nat} {a : Option Addr} {len cap : Nat} {x : DataW H × List MemPlace} (hf : DataW.trod enc Try.prog W 0 (fun _ => true) true fuel 39 [.slice a len cap] = some x) : EntsAt W W.heap.size a len ∧ len ≤ 9223372036854775807 := by
  obtain ⟨a', len', cap', e, hl, h⟩ := ents_of hf
  injection e with e1 e2 e3
  subst e1 e2 e3
  exact ⟨h, hl⟩
end
end Go.Proofs.Ytckgkelggmhldaa

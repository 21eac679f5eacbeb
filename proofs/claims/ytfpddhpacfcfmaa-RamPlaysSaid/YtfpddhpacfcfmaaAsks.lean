/-
  Chapter 2: a list of calls that came in, read as its cells.
-/
import Derived.Test.YtfpddhpacfcfmaaPlay
import Derived.Deep.Slices
import Derived.Deep.Fields
import Derived.ProofKit
import Derived.OpenShut
namespace Go.Proofs.Ytfpddhpacfcfmaa
open Go.RowKit Go.ChangeShapes Go.WideShapes Go.Deep
set_option linter.unusedVariables false

section
variable {H : Type} {enc : TypeId × Value → H} {W : World} {spare : Nat → Bool}
theorem row_of {fuel : Nat} {v : Value} {x : DataW H × List MemPlace} (hf : DataW.trod enc Try.prog W 0 (fun _ => true) true fuel 24 [v] = some x) : ∃ a len cap zs, v = .slice a len cap ∧ Row .u8 W a len cap zs := by
  rcases open_ints Try.underlying24 Try.underlying5 (by kernel_rfl) hf with ⟨hcs, _⟩ | ⟨x, l, c, zs, hcs, _, hl, hm, hz, _, hcell, hwz⟩
  · injection hcs with e
    exact ⟨_, _, _, [], e, .inl ⟨rfl, rfl, rfl, rfl⟩⟩
  · injection hcs with e
    exact ⟨_, _, _, zs, e, .inr ⟨_, rfl, hl, hm, by simpa using hz, hcell, hwz⟩⟩
theorem int_of {fuel : Nat} {t : TypeId} {k : IntKind} {v : Value} {x : Option (DataW H × List MemPlace)} {y : DataW H × List MemPlace} (ht : Try.prog.underlying t = some (.int k)) (hf : DataW.trod enc Try.prog W 0 (fun _ => true) true fuel t [v] = x) (hx : x = some y) : ∃ n, v = .int k n ∧ (Lit.int k n).wf = true := by
  obtain ⟨n, e, _, hw⟩ := DataW.trod_int ht (hf.trans hx)
  injection e with e
  exact ⟨n, e, hw⟩
theorem asks_of {fuel : Nat} {a : Option Addr} {len cap : Nat} {x : DataW H × List MemPlace} (hf : DataW.trod enc Try.prog W 0 (fun _ => true) true fuel 22 [.slice a len cap] = some x) : Asks W W.heap.size a len ∧ len ≤ 9223372036854775807 := by
  rcases open_slice Try.underlying22 hf with ⟨hcs, _⟩ | ⟨ad, l, c, m, n, D, Pl, hcs, _, hl, hc, hm, _, hi⟩
  · injection hcs with e
    injection e with e1 e2 e3
    subst e2
    exact ⟨fun i h => absurd h (by omega), by omega⟩
  · injection hcs with e
    injection e with e1 e2 e3
    subst e1 e2 e3
    simp only [if_true] at hm
    subst hm
    refine ⟨fun i hil => ?_, by unfold maxLen at hc; omega⟩
    have hspot : ad.spot = none := by
      obtain ⟨cs, hcc, _⟩ := hi 0 (by omega)
      rw [show Try.prog.cellsOf 26 = 6 by kernel_rfl] at hcc
      obtain ⟨_, hcl, hat⟩ := World.cells?_some hcc
      have h0 := hat 0 (by omega)
      rw [List.getElem?_eq_getElem (by omega)] at h0
      have := addr_plain h0
      simpa [Addr.add] using this
    obtain ⟨b, o, s⟩ := ad
    have hs : s = none := hspot
    subst hs
    obtain ⟨cs, hcc, htr⟩ := hi i (by omega)
    rw [show Try.prog.cellsOf 26 = 6 by kernel_rfl] at hcc
    obtain ⟨_, hcl, hat⟩ := World.cells?_some hcc
    obtain ⟨ys, n', _, _, _, hyl, hfld⟩ := DataW.trod_struct Try.underlying26 htr
    match cs, hcl with
    | [u0, u1, u2, u3, u4, u5], _ =>
      have hy : ∀ j, j < 6 → ∃ y, ys[j]? = some y := fun j hj => ⟨ys[j]'(by rw [hyl]; exact hj), List.getElem?_eq_getElem _⟩
      have c3 : Try.prog.cellsOf 3 = 1 := by kernel_rfl
      have c23 : Try.prog.cellsOf 23 = 1 := by kernel_rfl
      have c24 : Try.prog.cellsOf 24 = 1 := by kernel_rfl
      obtain ⟨y0, z0⟩ := hy 0 (by omega)
      obtain ⟨y1, z1⟩ := hy 1 (by omega)
      obtain ⟨y2, z2⟩ := hy 2 (by omega)
      obtain ⟨y3, z3⟩ := hy 3 (by omega)
      obtain ⟨y4, z4⟩ := hy 4 (by omega)
      obtain ⟨y5, z5⟩ := hy 5 (by omega)
      have t0 := hfld 0 _ rfl
      have t1 := hfld 1 _ rfl
      have t2 := hfld 2 _ rfl
      have t3 := hfld 3 _ rfl
      have t4 := hfld 4 _ rfl
      have t5 := hfld 5 _ rfl
      obtain ⟨kd, rfl, wk⟩ := int_of Try.underlying3 t0 z0
      obtain ⟨nn, rfl, wn⟩ := int_of Try.underlying3 t1 z1
      obtain ⟨pg, rfl, wp⟩ := int_of Try.underlying3 t2 z2
      obtain ⟨at_, rfl, wa⟩ := int_of Try.underlying23 t3 z3
      obtain ⟨v, rfl, wv⟩ := int_of Try.underlying23 t4 z4
      obtain ⟨ba, bl, bc, zs, rfl, hrow⟩ := row_of (t5.trans z5)
      have hcell : ∀ j (hj : j < 6), W.cell? ⟨b, o + i * 6 + j, none⟩ = [Value.int .i64 kd, .int .i64 nn, .int .i64 pg, .int .u32 at_, .int .u32 v, .slice ba bl bc][j]? := fun j hj => by
        rw [← add_none, ← add_none, hat j hj]
      have q0 := hcell 0 (by omega)
      have hb := block_lt_of_cell q0
      have := rng_i64 wk; have := rng_i64 wn; have := rng_i64 wp; have := rng_u32 wa; have := rng_u32 wv
      have hbl := len_of hrow
      have hbc := byAt_row hrow bl (Nat.le_refl _)
      refine ⟨b, o, kd, nn, pg, at_, v, _, bl, fun i => zs.getD i 0, rfl, hb, q0, hcell 1 (by omega), hcell 2 (by omega), hcell 3 (by omega), hcell 4 (by omega), hcell 5 (by omega), ?_, ?_, by omega, by omega, by omega, by omega, by omega, by omega, by omega, by omega, by omega, by omega⟩
      · exact hbc
      · unfold maxLen at hbl; omega
end
end Go.Proofs.Ytfpddhpacfcfmaa

/-
  Chapter 3: what the program's tables read as when a call begins, cell by cell; and a start that has them so.
-/
import Derived.Test.YtngfjjgejpkmmaaDoorDec
import Derived.ProofKit
import Derived.LaidMore
import Derived.OpenShut
import Derived.Stop.Joined
import Derived.Deep.Slices
import Derived.Deep.Fields
namespace Go.Proofs.YtngfjjgejpkmmaaDoor
open Go.ChangeShapes Go.WideShapes Go.ChangeAt Go.WideMaps Go.WideElems Go.RowKit Go.Deep
set_option linter.unusedVariables false

def laid2 : List (String × DataW Unit) := [("pianola/decode.keys", Rows.laid_pianola_decode_keys), ("pianola/decode.groups", Rows.laid_pianola_decode_groups)]
theorem own : ownKnob Tryd.prog.godebug = none := by kernel_rfl
theorem gKeys : Tryd.prog.globalNamed "pianola/decode.keys" = some 0 := by kernel_rfl
theorem gGroups : Tryd.prog.globalNamed "pianola/decode.groups" = some 1 := by kernel_rfl
theorem tKeys : (Tryd.prog.globals[0]?).map (·.type) = some 44 := by kernel_rfl
theorem tGroups : (Tryd.prog.globals[1]?).map (·.type) = some 58 := by kernel_rfl
set_option maxRecDepth 100000 in
/-- the heap that the program's own initialisers leave meets the condition -/
theorem door_met (os : Os) (args : Array Value) : laidMetH Tryd.prog laid2 ((World.doorLaid Tryd.prog 400 os).forCall (fun _ _ => 0) ⟨#[], args, []⟩).memory :=
  laidMetH_of_parts3 (fuel := 8) (laidMet_of_run' 8 (by kernel_rfl) (by kernel_rfl)) (by kernel_rfl) (by kernel_rfl)
theorem keys_list : (Rows.laid_pianola_decode_keys : DataW Unit) = .agg ((List.range 78).map fun i => .lit (.int .u32 (D.key i : Int))) := by kernel_rfl
theorem groups_list : (Rows.laid_pianola_decode_groups : DataW Unit) = .slice ((List.range 8).map fun i => .agg [.lit (.int .i64 (D.gF i : Int)), .lit (.int .i64 (D.gL i : Int)), .lit (.int .u32 (D.gS i : Int)), .lit (.int .u32 (D.gA i : Int))]) [] := by kernel_rfl
theorem addr_plain {w : World} {x : Addr} {v : Value} (h : w.cell? x = some v) : x.spot = none := by
  unfold World.cell? at h
  split at h
  · split at h
    · cases h
    · rename_i hs
      cases hx : x.spot
      · rfl
      · simp [hx] at hs
  · cases h
theorem add_none (b o i : Nat) : (⟨b, o, none⟩ : Addr).add i = ⟨b, o + i, none⟩ := by unfold Addr.add; split <;> simp_all
theorem at_one {l : List Value} {i : Nat} {v : Value} (h : (l.drop (i * 1)).take 1 = [v]) : l[i]? = some v := by
  rw [Nat.mul_one] at h
  have := congrArg (fun x => x[0]?) h
  simpa using this
theorem range_at {α : Type} (n i : Nat) (f : Nat → α) (h : i < n) : ((List.range n).map f)[i]? = some (f i) := by simp [h]
set_option maxHeartbeats 1000000 in
theorem of_laid {W : World} (h : laidMetH Tryd.prog laid2 W) : ∃ gb go cap, Laid W gb go cap := by
  rw [MakeChecks.laidMetH_plain _ _ _ (by kernel_rfl)] at h
  obtain ⟨ps, ⟨g0, t0, cs0, f0, p0, q0, hg0, ht0, hv0, hd0, ⟨g1, t1, cs1, f1, p1, q1, hg1, ht1, hv1, hd1, _, _⟩, _⟩, _, _⟩ := h
  obtain rfl := Option.some.inj (gKeys.symm.trans hg0)
  obtain rfl := Option.some.inj (gGroups.symm.trans hg1)
  obtain rfl := Option.some.inj (tKeys.symm.trans ht0)
  obtain rfl := Option.some.inj (tGroups.symm.trans ht1)
  have c22 : Tryd.prog.cellsOf 22 = 1 := by kernel_rfl
  have c3 : Tryd.prog.cellsOf 3 = 1 := by kernel_rfl
  have c60 : Tryd.prog.cellsOf 60 = 4 := by kernel_rfl
  have hkey : ∀ i, i < 78 → W.cell? ⟨0, i, none⟩ = some (.int .u32 (D.key i : Int)) := by
    obtain ⟨xs, m, _, hx, _, hn, hel⟩ := DataW.trod_array Tryd.underlying44 hd0
    rw [keys_list] at hx
    simp only [Prod.mk.injEq, DataW.agg.injEq] at hx
    intro i hi
    have he := hel i hi
    rw [c22, List.getElem?_eq_getElem (by omega)] at he
    obtain ⟨k, e1, e2, _⟩ := DataW.trod_int Tryd.underlying22 he
    have h1 : (xs.map (·.1))[i]? = some (xs[i]'(by omega)).1 := by rw [List.getElem?_map, List.getElem?_eq_getElem (by omega)]; rfl
    rw [← hx.1, range_at 78 i _ hi] at h1
    injection h1 with h1
    rw [e2] at h1
    have hk : (D.key i : Int) = k := by simpa using h1
    rw [World.var?_cell hg0 hv0 i, ← Array.getElem?_toList, at_one e1, hk]
  rcases open_slice Tryd.underlying58 hd1 with ⟨_, hx⟩ | ⟨a, len, cap, m, n, Dt, Pl, hcs, _, hl, hc, hm, hx, hi⟩
  · rw [groups_list] at hx
    simp at hx
  · rw [groups_list] at hx
    simp only [Prod.mk.injEq, DataW.slice.injEq] at hx
    obtain ⟨⟨hx1, hx2⟩, _⟩ := hx
    have hlen : len = 8 := by have := congrArg List.length hx1; simpa using this.symm
    subst hlen
    have hml : 8 ≤ m := by rw [hm]; split <;> omega
    have hD : ∀ i, i < 8 → Dt i = .agg [.lit (.int .i64 (D.gF i : Int)), .lit (.int .i64 (D.gL i : Int)), .lit (.int .u32 (D.gS i : Int)), .lit (.int .u32 (D.gA i : Int))] := fun i h => by
      have := congrArg (fun l => l[i]?) hx1
      simp only [range_at 8 i _ h] at this
      injection this with this
      exact this.symm
    have hspot : a.spot = none := by
      obtain ⟨cs, hcc, _⟩ := hi 0 (by omega)
      rw [c60] at hcc
      obtain ⟨_, hcl, hat⟩ := World.cells?_some hcc
      have h0 := hat 0 (by omega)
      rw [List.getElem?_eq_getElem (by omega)] at h0
      have := addr_plain h0
      simpa [Addr.add] using this
    obtain ⟨gb, go, sp⟩ := a
    have hs : sp = none := hspot
    subst hs
    have hrow : ∀ i, i < 8 → W.cell? ⟨gb, go + i * 4, none⟩ = some (.int .i64 (D.gF i : Int)) ∧ W.cell? ⟨gb, go + i * 4 + 1, none⟩ = some (.int .i64 (D.gL i : Int)) ∧ W.cell? ⟨gb, go + i * 4 + 2, none⟩ = some (.int .u32 (D.gS i : Int)) ∧ W.cell? ⟨gb, go + i * 4 + 3, none⟩ = some (.int .u32 (D.gA i : Int)) := fun i h8 => by
      obtain ⟨cs, hcc, htr⟩ := hi i (by omega)
      rw [c60] at hcc
      obtain ⟨_, hcl, hat⟩ := World.cells?_some hcc
      obtain ⟨ys, n', _, hy0, _, hyl, hfld⟩ := DataW.trod_struct Tryd.underlying60 htr
      rw [hD i h8] at hy0
      simp only [Prod.mk.injEq, DataW.agg.injEq] at hy0
      match cs, hcl with
      | [u0, u1, u2, u3], _ =>
        match ys, hyl, hy0.1 with
        | [y0, y1, y2, y3], _, hy =>
          simp only [List.map_cons, List.map_nil, List.cons.injEq, and_true] at hy
          obtain ⟨r0, r1, r2, r3⟩ := hy
          obtain ⟨k0, e0, z0, _⟩ := DataW.trod_int (x := y0) Tryd.underlying3 (hfld 0 _ rfl)
          obtain ⟨k1, e1, z1, _⟩ := DataW.trod_int (x := y1) Tryd.underlying3 (hfld 1 _ rfl)
          obtain ⟨k2, e2, z2, _⟩ := DataW.trod_int (x := y2) Tryd.underlying22 (hfld 2 _ rfl)
          obtain ⟨k3, e3, z3, _⟩ := DataW.trod_int (x := y3) Tryd.underlying22 (hfld 3 _ rfl)
          have w0 := hat 0 (by omega)
          have w1 := hat 1 (by omega)
          have w2 := hat 2 (by omega)
          have w3 := hat 3 (by omega)
          rw [add_none, add_none] at w0 w1 w2 w3
          have v0 : [u0] = [Value.int .i64 k0] := e0
          have v1 : [u1] = [Value.int .i64 k1] := e1
          have v2 : [u2] = [Value.int .u32 k2] := e2
          have v3 : [u3] = [Value.int .u32 k3] := e3
          rw [z0] at r0
          rw [z1] at r1
          rw [z2] at r2
          rw [z3] at r3
          have t0 : (D.gF i : Int) = k0 := by simpa using r0
          have t1 : (D.gL i : Int) = k1 := by simpa using r1
          have t2 : (D.gS i : Int) = k2 := by simpa using r2
          have t3 : (D.gA i : Int) = k3 := by simpa using r3
          injection v0 with v0
          injection v1 with v1
          injection v2 with v2
          injection v3 with v3
          rw [t0, t1, t2, t3, ← v0, ← v1, ← v2, ← v3]
          exact ⟨w0, w1, w2, w3⟩
    have hcell := World.var?_cell hg1 hv1 0
    rw [Array.eq_one_of_toList hcs] at hcell
    refine ⟨gb, go, cap, hkey, by simpa using hcell, fun i h => (hrow i h).1, fun i h => (hrow i h).2.1, fun i h => (hrow i h).2.2.1, fun i h => (hrow i h).2.2.2, ?_, ?_⟩
    · exact block_lt_of_cell (by simpa using hcell)
    · exact block_lt_of_cell (hrow 0 (by omega)).1
end Go.Proofs.YtngfjjgejpkmmaaDoor

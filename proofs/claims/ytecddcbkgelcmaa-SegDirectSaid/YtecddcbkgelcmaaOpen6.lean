/-
  Arguments opened to their cells: slices of words and of int64, of entries, a State as it is drawn.
-/
import Derived.Test.YtecddcbkgelcmaaStK
import Derived.Deep.Slices
import Derived.Deep.Fields
import Derived.ProofKit
import Derived.OpenShut
namespace Go.Proofs.Ytecddcbkgelcmaa
open Go.RowKit Go.ChangeShapes Go.WideShapes Go.Deep
set_option linter.unusedVariables false
theorem rng_u32 {a : Int} (h : (Lit.int .u32 a).wf = true) : W32 a := by
  have := bounds_u32 h; exact ⟨by omega, by omega⟩
theorem rng_i64 {a : Int} (h : (Lit.int .i64 a).wf = true) : W64 a := by
  have := bounds_i64 h; exact ⟨by omega, by omega⟩
theorem addr_plain {w : World} {x : Addr} {v : Value} (h : w.cell? x = some v) : x.spot = none := by
  unfold World.cell? at h
  split at h
  · split at h
    · cases h
    · rename_i hs
      simpa using hs
  · cases h
/-- a slice of int64, below block B -/
def LongsAt (w : World) (B : Nat) (a : Option Addr) (len : Nat) : Prop :=
  ∀ i, i < len → ∃ (b o : Nat) (v : Int), a = some ⟨b, o, none⟩ ∧ b < B ∧ w.cell? ⟨b, o + i, none⟩ = some (.int .i64 v) ∧ W64 v
section
variable {H : Type} {enc : TypeId × Value → H} {W : World}
theorem int_of {fuel : Nat} {t : TypeId} {k : IntKind} {v : Value} {x : Option (DataW H × List MemPlace)} {y : DataW H × List MemPlace} (ht : Try.prog.underlying t = some (.int k)) (hf : DataW.trod enc Try.prog W 0 (fun _ => true) true fuel t [v] = x) (hx : x = some y) : ∃ n, v = .int k n ∧ (Lit.int k n).wf = true := by
  obtain ⟨n, e, _, hw⟩ := DataW.trod_int ht (hf.trans hx)
  injection e with e
  exact ⟨n, e, hw⟩
theorem bool_of {fuel : Nat} {t : TypeId} {v : Value} {x : Option (DataW H × List MemPlace)} {y : DataW H × List MemPlace} (ht : Try.prog.underlying t = some .bool) (hf : DataW.trod enc Try.prog W 0 (fun _ => true) true fuel t [v] = x) (hx : x = some y) : ∃ b, v = .bool b := by
  obtain ⟨n, e, _⟩ := DataW.trod_bool ht (hf.trans hx)
  injection e with e
  exact ⟨n, e⟩
theorem ints_any {fuel : Nat} {t e : TypeId} {k : IntKind} {v : Value} {x : DataW H × List MemPlace} (ht : Try.prog.underlying t = some (.slice e)) (he : Try.prog.underlying e = some (.int k)) (hc : Try.prog.cellsOf e = 1) (hf : DataW.trod enc Try.prog W 0 (fun _ => true) true fuel t [v] = some x) :
    ∃ a len cap, v = .slice a len cap ∧ len ≤ 9223372036854775807 ∧ ∀ i, i < len → ∃ (b o : Nat) (n : Int), a = some ⟨b, o, none⟩ ∧ b < W.heap.size ∧ W.cell? ⟨b, o + i, none⟩ = some (.int k n) ∧ (Lit.int k n).wf = true := by
  rcases open_ints ht he hc hf with ⟨hcs, _⟩ | ⟨⟨b, o, s⟩, l, c, zs, hcs, _, hl, hm, hz, _, hcell, hwz⟩
  · injection hcs with e
    exact ⟨_, _, _, e, by omega, fun i hi => absurd hi (by omega)⟩
  · injection hcs with e
    refine ⟨_, _, _, e, by unfold maxLen at hm; omega, fun i hi => ?_⟩
    simp only [if_true] at hz
    have h0 := hcell 0 (by omega)
    have hs := addr_plain h0
    have hs' : s = none := by simpa [Addr.add] using hs
    subst hs'
    have hci := hcell i (by omega)
    rw [Addr.add_mid] at hci
    have hli : i < zs.length := by omega
    refine ⟨b, o, zs.getD i 0, rfl, block_lt_of_cell hci, hci, hwz _ ?_⟩
    rw [List.getD_eq_getElem?_getD, List.getElem?_eq_getElem hli]
    exact List.getElem_mem hli
theorem words_of {fuel : Nat} {v : Value} {x : DataW H × List MemPlace} (hf : DataW.trod enc Try.prog W 0 (fun _ => true) true fuel 23 [v] = some x) : ∃ a len cap, v = .slice a len cap ∧ len ≤ 9223372036854775807 ∧ WordsAt W W.heap.size a len := by
  obtain ⟨a, len, cap, e, hl, h⟩ := ints_any Try.underlying23 Try.underlying22 (by kernel_rfl) hf
  refine ⟨a, len, cap, e, hl, fun i hi => ?_⟩
  obtain ⟨b, o, n, e, hb, hc, hw⟩ := h i hi
  exact ⟨b, o, n, e, hb, hc, rng_u32 hw⟩
theorem ents_of {fuel : Nat} {v : Value} {x : DataW H × List MemPlace} (hf : DataW.trod enc Try.prog W 0 (fun _ => true) true fuel 36 [v] = some x) : ∃ a len cap, v = .slice a len cap ∧ len ≤ 9223372036854775807 ∧ EntsAt W W.heap.size a len := by
  rcases open_slice Try.underlying36 hf with ⟨hcs, _⟩ | ⟨ad, l, c, m, n, D, Pl, hcs, _, hl, hc, hm, _, hi⟩
  · injection hcs with e
    exact ⟨_, _, _, e, by omega, fun i h => absurd h (by omega)⟩
  · injection hcs with e
    simp only [if_true] at hm
    subst hm
    refine ⟨_, _, _, e, by unfold maxLen at hc; omega, fun i hil => ?_⟩
    have c2 : Try.prog.cellsOf 27 = 2 := by kernel_rfl
    obtain ⟨cs, hcc, htr⟩ := hi i (by omega)
    rw [c2] at hcc
    obtain ⟨_, hcl, hat⟩ := World.cells?_some hcc
    obtain ⟨b, o, s⟩ := ad
    have hs : s = none := by
      obtain ⟨cs0, hcc0, _⟩ := hi 0 (by omega)
      rw [c2] at hcc0
      obtain ⟨_, hcl0, hat0⟩ := World.cells?_some hcc0
      have h0 := hat0 0 (by omega)
      rw [List.getElem?_eq_getElem (by omega)] at h0
      have := addr_plain h0
      simpa [Addr.add] using this
    subst hs
    obtain ⟨ys, n', _, _, _, hyl, hfld⟩ := DataW.trod_struct Try.underlying27 htr
    match cs, hcl with
    | [u0, u1], _ =>
      have hy : ∀ j, j < 2 → ∃ y, ys[j]? = some y := fun j hj => ⟨ys[j]'(by rw [hyl]; exact hj), List.getElem?_eq_getElem _⟩
      obtain ⟨y0, z0⟩ := hy 0 (by omega)
      obtain ⟨y1, z1⟩ := hy 1 (by omega)
      obtain ⟨n0, rfl, w0⟩ := int_of Try.underlying22 (show DataW.trod enc Try.prog W 0 (fun _ => true) true n' 22 [u0] = ys[0]? from hfld 0 _ rfl) z0
      obtain ⟨n1, rfl, w1⟩ := int_of Try.underlying22 (show DataW.trod enc Try.prog W 0 (fun _ => true) true n' 22 [u1] = ys[1]? from hfld 1 _ rfl) z1
      have hcell : ∀ j (hj : j < 2), W.cell? ⟨b, o + i * 2 + j, none⟩ = [Value.int .u32 n0, .int .u32 n1][j]? := fun j hj => by
        rw [← Addr.add_mid, ← Addr.add_mid, hat j hj]
      have q0 := hcell 0 (by omega)
      exact ⟨b, o, n0, n1, rfl, block_lt_of_cell q0, q0, hcell 1 (by omega), rng_u32 w0, rng_u32 w1⟩
/-- what is drawn, by its parts -/
structure SX where
  ra : Option Addr
  ca : Option Addr
  ta : Option Addr
  rl : Nat
  rc : Nat
  cl : Nat
  cc : Nat
  tl : Nat
  tc : Nat
  pc : Int
  st : Int
  cs : Int
  hi : Int
  ct : Int
  sh : Int
  sl : Bool
  lk : Bool
theorem open_s {v : Value} {d : DataW H} {p : List MemPlace} {r : Reach} {b0 : Nat} (hv : Value.okWide Try.prog W r b0 38 v) (h : DataW.Trod enc Try.prog W 0 (fun _ => true) true 38 v d p) :
    ∃ x : SX, v = drawnV x.ra x.ca x.ta x.rl x.rc x.cl x.cc x.tl x.tc x.pc x.st x.cs x.hi x.ct x.sh x.sl x.lk ∧ DrawnAt W W.heap.size x.ra x.ca x.ta x.rl x.cl x.tl x.pc x.st x.cs x.hi x.ct x.sh := by
  obtain ⟨cs, rfl, hsz⟩ := okWide_struct Try.underlying38 hv
  obtain ⟨l⟩ := cs
  match l, hsz.trans (show Try.prog.cellsOf 38 = 11 by kernel_rfl) with
  | [c0, c1, c2, c3, c4, c5, c6, c7, c8, c9, c10], _ =>
    obtain ⟨fuel, hf⟩ := h
    obtain ⟨ys, n', _, _, _, hyl, hfld⟩ := DataW.trod_struct Try.underlying38 hf
    have hy : ∀ j, j < 11 → ∃ y, ys[j]? = some y := fun j hj => ⟨ys[j]'(by rw [hyl]; exact hj), List.getElem?_eq_getElem _⟩
    obtain ⟨y0, z0⟩ := hy 0 (by omega)
    obtain ⟨y1, z1⟩ := hy 1 (by omega)
    obtain ⟨y2, z2⟩ := hy 2 (by omega)
    obtain ⟨y3, z3⟩ := hy 3 (by omega)
    obtain ⟨y4, z4⟩ := hy 4 (by omega)
    obtain ⟨y5, z5⟩ := hy 5 (by omega)
    obtain ⟨y6, z6⟩ := hy 6 (by omega)
    obtain ⟨y7, z7⟩ := hy 7 (by omega)
    obtain ⟨y8, z8⟩ := hy 8 (by omega)
    obtain ⟨y9, z9⟩ := hy 9 (by omega)
    obtain ⟨y10, z10⟩ := hy 10 (by omega)
    obtain ⟨ra, rl, rc, rfl, l1, r⟩ := words_of ((show DataW.trod enc Try.prog W 0 (fun _ => true) true n' 23 [c0] = ys[0]? from hfld 0 _ rfl).trans z0)
    obtain ⟨pc, rfl, w1⟩ := int_of Try.underlying22 (show DataW.trod enc Try.prog W 0 (fun _ => true) true n' 22 [c1] = ys[1]? from hfld 1 _ rfl) z1
    obtain ⟨st, rfl, w2⟩ := int_of Try.underlying22 (show DataW.trod enc Try.prog W 0 (fun _ => true) true n' 22 [c2] = ys[2]? from hfld 2 _ rfl) z2
    obtain ⟨cs, rfl, w3⟩ := int_of Try.underlying22 (show DataW.trod enc Try.prog W 0 (fun _ => true) true n' 22 [c3] = ys[3]? from hfld 3 _ rfl) z3
    obtain ⟨hi, rfl, w4⟩ := int_of Try.underlying22 (show DataW.trod enc Try.prog W 0 (fun _ => true) true n' 22 [c4] = ys[4]? from hfld 4 _ rfl) z4
    obtain ⟨sl, rfl⟩ := bool_of Try.underlying4 (show DataW.trod enc Try.prog W 0 (fun _ => true) true n' 4 [c5] = ys[5]? from hfld 5 _ rfl) z5
    obtain ⟨lk, rfl⟩ := bool_of Try.underlying4 (show DataW.trod enc Try.prog W 0 (fun _ => true) true n' 4 [c6] = ys[6]? from hfld 6 _ rfl) z6
    obtain ⟨ca, cl, cc, rfl, l2, c⟩ := words_of ((show DataW.trod enc Try.prog W 0 (fun _ => true) true n' 23 [c7] = ys[7]? from hfld 7 _ rfl).trans z7)
    obtain ⟨ta, tl, tc, rfl, l3, t⟩ := ents_of ((show DataW.trod enc Try.prog W 0 (fun _ => true) true n' 36 [c8] = ys[8]? from hfld 8 _ rfl).trans z8)
    obtain ⟨ct, rfl, w9⟩ := int_of Try.underlying22 (show DataW.trod enc Try.prog W 0 (fun _ => true) true n' 22 [c9] = ys[9]? from hfld 9 _ rfl) z9
    obtain ⟨sh, rfl, w10⟩ := int_of Try.underlying22 (show DataW.trod enc Try.prog W 0 (fun _ => true) true n' 22 [c10] = ys[10]? from hfld 10 _ rfl) z10
    exact ⟨⟨ra, ca, ta, rl, rc, cl, cc, tl, tc, pc, st, cs, hi, ct, sh, sl, lk⟩, rfl, ⟨r, c, t, l1, l2, l3, rng_u32 w1, rng_u32 w2, rng_u32 w3, rng_u32 w4, rng_u32 w9, rng_u32 w10⟩⟩
end
end Go.Proofs.Ytecddcbkgelcmaa

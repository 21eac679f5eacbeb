/-
  What the texts on instructions share: worlds that only grew (Below), values that are returned, numbers of instructions, their cells.
-/
import Derived.Test.YtmjlbffphaklgaaLeaf
import Derived.Test.YtmjlbffphaklgaaMath
import Derived.Below
import Derived.OpenShut
import Derived.WalkMore
import Derived.Deep.LoopGhost
import Derived.Deep.RegionHeld3
namespace Go.Proofs.Ytmjlbffphaklgaa
open Go.RowKit
set_option linter.unusedVariables false

theorem band {a b c : World} (h : Below a.heap.size a b) (k : Below b.heap.size b c) : Below a.heap.size a c := h.trans (k.mono h.size)
theorem below_new {w : World} {o : Obj} {B : Nat} (hB : B ≤ w.heap.size := by exact Nat.le_refl _) : Below B w (w.alloc o) := (Below.refl _ _).alloc hB _
theorem bel_set {B : Nat} {a w : World} {p : Addr} {u : Value} (hp : B ≤ p.block) (h : Below B a w) : Below B a (w.setCell p u) := h.setCell hp u
theorem bel_alloc {B : Nat} {a w : World} {o : Obj} (hB : B ≤ w.heap.size) (h : Below B a w) : Below B a (w.alloc o) := h.alloc hB o
theorem bcell {W w1 : World} (hb : Below W.heap.size W w1) : (∀ b o, b < W.heap.size → w1.cell? ⟨b, o, none⟩ = W.cell? ⟨b, o, none⟩) ∧ (∀ b o, b < W.heap.size → w1.frozen? ⟨b, o, none⟩ = W.frozen? ⟨b, o, none⟩) :=
  ⟨fun b o h => hb.cell (p := ⟨b, o, none⟩) h, fun b o h => hb.frozen (p := ⟨b, o, none⟩) h⟩
theorem rng_u32 {a : Int} (h : (Lit.int .u32 a).wf = true) : 0 ≤ a ∧ a < 4294967296 := by
  have := bounds_u32 h; omega
theorem rng_i64 {a : Int} (h : (Lit.int .i64 a).wf = true) : -9223372036854775808 ≤ a ∧ a ≤ 9223372036854775807 := by
  have := bounds_i64 h; omega
def isK (k : Int) : Bool := decide (0 < k ∧ k < 78)
/-- numbers of 64 bits -/
def In64 (x : Int) : Prop := -9223372036854775808 ≤ x ∧ x ≤ 9223372036854775807
/-- the numbers of an instruction, as they may be -/
structure InR (k s t d h i : Int) : Prop where
  k : In64 k
  s : In64 s
  t : In64 t
  d : In64 d
  h : In64 h
  i0 : 0 ≤ i
  i1 : i < 4294967296
theorem below_drewN {B : Nat} {a b : World} (h : Below B a b) (n : Nat) : Below B a (b.drewN n) := ⟨h.os, h.tape, h.output, h.size, h.block⟩
theorem below_then {B : Nat} {a b c : World} (h : Below B a b) (k : Below b.heap.size b c) (hB : B ≤ a.heap.size) : Below B a c := h.trans (k.mono (Nat.le_trans hB h.size))
/-- it returns true, and nothing that was there has turned -/
def TrB (w : World) (e : Ending) (w' : World) : Prop := e = .returned (.bool true) ∧ Below w.heap.size w w'
/-- the cells of an instruction in block b -/
def Ins (w : World) (b : Nat) (k s t d h i : Int) : Prop :=
  w.cell? ⟨b, 0, none⟩ = some (.int .i64 k) ∧ w.cell? ⟨b, 1, none⟩ = some (.int .i64 s) ∧ w.cell? ⟨b, 2, none⟩ = some (.int .i64 t) ∧ w.cell? ⟨b, 3, none⟩ = some (.int .i64 d) ∧ w.cell? ⟨b, 4, none⟩ = some (.int .i64 h) ∧ w.cell? ⟨b, 5, none⟩ = some (.int .u32 i)
theorem ins_below {w w' : World} {b B : Nat} {k s t d h i : Int} (x : Ins w b k s t d h i) (hb : Below B w w') (hB : b < B) : Ins w' b k s t d h i := by
  obtain ⟨a0, a1, a2, a3, a4, a5⟩ := x
  exact ⟨(hb.cell (p := ⟨b, 0, none⟩) hB).trans a0, (hb.cell (p := ⟨b, 1, none⟩) hB).trans a1, (hb.cell (p := ⟨b, 2, none⟩) hB).trans a2, (hb.cell (p := ⟨b, 3, none⟩) hB).trans a3, (hb.cell (p := ⟨b, 4, none⟩) hB).trans a4, (hb.cell (p := ⟨b, 5, none⟩) hB).trans a5⟩
theorem ins_new (w : World) (k s t d h i : Int) : Ins (w.alloc (.cells #[.int .i64 k, .int .i64 s, .int .i64 t, .int .i64 d, .int .i64 h, .int .u32 i] 26)) w.heap.size k s t d h i := by
  refine ⟨?_, ?_, ?_, ?_, ?_, ?_⟩ <;> simp
end Go.Proofs.Ytmjlbffphaklgaa

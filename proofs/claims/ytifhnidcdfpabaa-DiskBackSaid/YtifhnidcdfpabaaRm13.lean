/-
  Chapter 2: what a memory is in the heap (a struct of mem3 slices, its bytes, its marks, its pages written), and the small functions that only look at one.
-/
import Derived.Test.YtifhnidcdfpabaaFr
import Derived.WalkKit
import Derived.WalkSpells
import Derived.Below
import Derived.Deep.OwnRows
import Derived.Deep.QuietTactic
import Derived.BigQuiet
import Derived.Lib.Hide
namespace Go.Proofs.Ytifhnidcdfpabaa
open Go.RowKit
set_option linter.unusedVariables false

/-- a slice over the whole of block b, n cells -/
def whole (b n : Nat) : Value := .slice (some ⟨b, 0, none⟩) n n
/-- a struct of mem3 slices -/
def mem3 (b m t p : Nat) : Nat → Value
  | 0 => .slice (some ⟨b, 0, none⟩) (1024 * p) (1024 * p)
  | 1 => .slice (some ⟨m, 0, none⟩) p p
  | _ => .slice (some ⟨t, 0, none⟩) p p
/-- block g is a memory of p pages (its struct of type T): bytes C, marks M, written D -/
structure Mem (T : TypeId) (w : World) (g b m t p : Nat) (C : Nat → Int) (M D : Nat → Bool) : Prop where
  st : w.rowIs g T 3 (mem3 b m t p)
  hb : w.rowIs b 5 (1024 * p) (fun i => .int .u8 (C i))
  hm : w.rowIs m 4 p (fun i => .bool (M i))
  ht : w.rowIs t 4 p (fun i => .bool (D i))
  gb : g ≠ b
  gm : g ≠ m
  gt : g ≠ t
  bm : b ≠ m
  bt : b ≠ t
  mt : m ≠ t
  p1 : 1 ≤ p
  p2 : p ≤ 64
  c0 : ∀ i, 0 ≤ C i
  c1 : ∀ i, C i ≤ 255
theorem Mem.cell0 {T : TypeId} {w : World} {g b m t p : Nat} {C : Nat → Int} {M D : Nat → Bool} (h : Mem T w g b m t p C M D) : w.cell? ⟨g, 0, none⟩ = some (.slice (some ⟨b, 0, none⟩) (1024 * p) (1024 * p)) := h.st.cell (i := 0) (by omega)
theorem Mem.cell1 {T : TypeId} {w : World} {g b m t p : Nat} {C : Nat → Int} {M D : Nat → Bool} (h : Mem T w g b m t p C M D) : w.cell? ⟨g, 1, none⟩ = some (.slice (some ⟨m, 0, none⟩) p p) := h.st.cell (i := 1) (by omega)
theorem Mem.cell2 {T : TypeId} {w : World} {g b m t p : Nat} {C : Nat → Int} {M D : Nat → Bool} (h : Mem T w g b m t p C M D) : w.cell? ⟨g, 2, none⟩ = some (.slice (some ⟨t, 0, none⟩) p p) := h.st.cell (i := 2) (by omega)

theorem Fr.setRow {S : Nat → Prop} {a b : World} (h : Fr S a b) {x : Nat} (hx : S x ∨ a.heap.size ≤ x) (u : Array Value) : Fr S a (b.setRow x u) :=
  ⟨h.os, h.tape, h.output, by simpa [World.setRow] using h.size, fun i hi hn => (setRow_other b x i u (by
    rintro rfl
    rcases hx with hx | hx
    · exact hn hx
    · omega)).trans (h.block i hi hn)⟩
/-- a memory's own blocks that are written -/
def OwnM (b m t : Nat) (k : Nat) : Prop := k = b ∨ k = m ∨ k = t

section
variable {T : TypeId} {w w' : World} {g b m t p : Nat} {C : Nat → Int} {M D : Nat → Bool}
theorem Mem.keep {S : Nat → Prop} (h : Mem T w g b m t p C M D) (f : Fr S w w') (hg : ¬ S g) (hb : ¬ S b) (hm : ¬ S m) (ht : ¬ S t) : Mem T w' g b m t p C M D :=
  { h with st := h.st.of_block (f.block _ h.st.lt hg), hb := h.hb.of_block (f.block _ h.hb.lt hb), hm := h.hm.of_block (f.block _ h.hm.lt hm), ht := h.ht.of_block (f.block _ h.ht.lt ht) }
theorem Mem.drewN (h : Mem T w g b m t p C M D) (n : Nat) : Mem T (w.drewN n) g b m t p C M D := { h with st := h.st, hb := h.hb, hm := h.hm, ht := h.ht }
theorem Mem.alloc (h : Mem T w g b m t p C M D) (o : Obj) : Mem T (w.alloc o) g b m t p C M D := { h with st := h.st.alloc o, hb := h.hb.alloc o, hm := h.hm.alloc o, ht := h.ht.alloc o }
theorem Mem.setB (h : Mem T w g b m t p C M D) (i : Nat) (x : Int) (x0 : 0 ≤ x) (x1 : x ≤ 255) : Mem T (w.setCell ⟨b, i, none⟩ (.int .u8 x)) g b m t p (fun j => if j = i then x else C j) M D :=
  { h with
    st := h.st.setOther h.gb _
    hb := (h.hb.set i _).congr (fun j _ => by split <;> rfl)
    hm := h.hm.setOther h.bm.symm _
    ht := h.ht.setOther h.bt.symm _
    c0 := fun j => by split; exact x0; exact h.c0 j
    c1 := fun j => by split; exact x1; exact h.c1 j }
theorem Mem.setM (h : Mem T w g b m t p C M D) (i : Nat) (x : Bool) : Mem T (w.setCell ⟨m, i, none⟩ (.bool x)) g b m t p C (fun j => if j = i then x else M j) D :=
  { h with
    st := h.st.setOther h.gm _
    hb := h.hb.setOther h.bm _
    hm := (h.hm.set i _).congr (fun j _ => by split <;> rfl)
    ht := h.ht.setOther h.mt.symm _ }
theorem Mem.setT (h : Mem T w g b m t p C M D) (i : Nat) (x : Bool) : Mem T (w.setCell ⟨t, i, none⟩ (.bool x)) g b m t p C M (fun j => if j = i then x else D j) :=
  { h with
    st := h.st.setOther h.gt _
    hb := h.hb.setOther h.bt _
    hm := h.hm.setOther h.mt _
    ht := (h.ht.set i _).congr (fun j _ => by split <;> rfl) }
end

/-- n bytes from a on are all there -/
def inB (p : Nat) (a n : Int) : Bool := decide (0 ≤ n ∧ a + n ≤ 1024 * p)
/-- a number of n bytes may lie at a -/
def okN (p : Nat) (a n : Int) : Bool := decide ((n = 1 ∨ n = 2 ∨ n = 4) ∧ a % n = 0 ∧ a + n ≤ 1024 * p)
/-- there is such a page -/
def isP (p : Nat) (k : Int) : Bool := decide (0 ≤ k ∧ k < p)

section
variable {w : World} {g b m t p : Nat} {C : Nat → Int} {M D : Nat → Bool}

set_option maxHeartbeats 400000 in
theorem holds_any (a n : Int) (h : Mem 85 w g b m t p C M D) (h0 : 0 ≤ a) (h1 : a < 4294967296) (n0 : -9223372036854775808 ≤ n) (n1 : n ≤ 9223372036854775807) :
    Calls Try.prog 32 #[.pointer (some ⟨g, 0, none⟩), .int .u32 a, .int .i64 n] w fun e w' => e = .returned (.bool (inB p a n)) ∧ w = w' := by
  have c0 := h.cell0
  have p1 := h.p1
  have p2 := h.p2
  by_cases hn : 0 ≤ n
  · go_enter Try.func32, Try.ntmps32
    go_wp2
    go_ret
    exact ⟨ret_bool (by unfold inB; rw [decide_eq_decide]; omega), rfl⟩
  · go_enter Try.func32, Try.ntmps32
    go_wp2
    go_ret
    exact ⟨ret_bool (by unfold inB; rw [eq_comm, decide_eq_false_iff_not]; omega), rfl⟩

set_option maxHeartbeats 400000 in
theorem rin_any (a n : Int) (h : Mem 81 w g b m t p C M D) (h0 : 0 ≤ a) (h1 : a < 4294967296) (n0 : -9223372036854775808 ≤ n) (n1 : n ≤ 9223372036854775807) :
    Calls Try.prog 44 #[.pointer (some ⟨g, 0, none⟩), .int .u32 a, .int .i64 n] w fun e w' => e = .returned (.bool (inB p a n)) ∧ w = w' := by
  have c0 := h.cell0
  have p1 := h.p1
  have p2 := h.p2
  by_cases hn : 0 ≤ n
  · go_enter Try.func44, Try.ntmps44
    go_wp2
    go_ret
    exact ⟨ret_bool (by unfold inB; rw [decide_eq_decide]; omega), rfl⟩
  · go_enter Try.func44, Try.ntmps44
    go_wp2
    go_ret
    exact ⟨ret_bool (by unfold inB; rw [eq_comm, decide_eq_false_iff_not]; omega), rfl⟩

set_option maxHeartbeats 400000 in
theorem number_any (a n : Int) (h : Mem 85 w g b m t p C M D) (h0 : 0 ≤ a) (h1 : a < 4294967296) (n0 : -9223372036854775808 ≤ n) (n1 : n ≤ 9223372036854775807) :
    Calls Try.prog 43 #[.pointer (some ⟨g, 0, none⟩), .int .u32 a, .int .i64 n] w fun e w' => e = .returned (.bool (okN p a n)) ∧ w = w' := by
  by_cases hn : n = 1 ∨ n = 2 ∨ n = 4
  · rcases hn with rfl | rfl | rfl
    all_goals
      have hr : 0 ≤ a % 1 ∧ 0 ≤ a % 2 ∧ 0 ≤ a % 4 := by omega
      go_enter Try.func43, Try.ntmps43
      go_wp2_with (go_at_call 32; refine (holds_any _ _ h (by omega) (by omega) (by omega) (by omega)).mono ?_; rintro e w' ⟨rfl, rfl⟩)
      all_goals
        go_ret
        exact ⟨ret_bool (by first | (simp [okN, inB, *]; done) | (simp [okN, inB, *]; omega)), rfl⟩
  · have e1 : (n == 1) = false := by simp; omega
    have e2 : (n == 2) = false := by simp; omega
    have e4 : (n == 4) = false := by simp; omega
    go_enter Try.func43, Try.ntmps43
    go_wp2
    go_ret
    exact ⟨ret_bool (by unfold okN; rw [eq_comm, decide_eq_false_iff_not]; omega), rfl⟩

/-- a page's mark; of no page: false -/
def mkAt (p : Nat) (M : Nat → Bool) (k : Int) : Bool := isP p k && M k.toNat
end
end Go.Proofs.Ytifhnidcdfpabaa

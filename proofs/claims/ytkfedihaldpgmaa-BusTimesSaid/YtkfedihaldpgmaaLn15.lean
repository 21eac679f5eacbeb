/-
  Chapter 15: lines in memory (a word of those that are up, a word of those that are enabled), and the functions of package lines.
-/
import Derived.Test.YtkfedihaldpgmaaWf9
import Derived.Laws.BitsAllLaws
namespace Go.Proofs.Ytkfedihaldpgmaa
open Go.RowKit
set_option linter.unusedVariables false
set_option linter.unusedSimpArgs false

/-! bits of words -/
theorem lb_back (b : BitVec 32) : BitVec.ofInt 32 ((b.toNat : Nat) : Int) = b := by
  rw [BitVec.ofInt_natCast, BitVec.ofNat_toNat, BitVec.setWidth_eq]
theorem lb_wrap (b : BitVec 32) : IntKind.u32.wrap ((b.toNat : Nat) : Int) = ((b.toNat : Nat) : Int) := by
  rw [IntKind.wrap_u32']
  have := b.isLt
  omega
theorem lb_and (x y : Int) : bits .and .u32 x y = (((BitVec.ofInt 32 x &&& BitVec.ofInt 32 y).toNat : Nat) : Int) := lb_wrap _
theorem lb_or (x y : Int) : bits .or .u32 x y = (((BitVec.ofInt 32 x ||| BitVec.ofInt 32 y).toNat : Nat) : Int) := lb_wrap _
theorem lb_andNot (x y : Int) : bits .andNot .u32 x y = (((BitVec.ofInt 32 x &&& ~~~BitVec.ofInt 32 y).toNat : Nat) : Int) := lb_wrap _
/-- cleared, and then set: set -/
theorem lb_set (a b : Int) : bits .or .u32 (bits .andNot .u32 a b) b = bits .or .u32 a b := by
  simp only [lb_or, lb_andNot, lb_back]
  congr 2
  ext i hi
  simp
  cases (BitVec.ofInt 32 a)[i] <;> cases (BitVec.ofInt 32 b)[i] <;> rfl

/-! what the calls do -/
def lbit (d : Int) : Int := if d = 1 then 2 else if d = 2 then 4 else if d = 3 then 8 else if d = 4 then 16 else 32
def isDev (d : Int) : Prop := 1 ≤ d ∧ d ≤ 5
instance (d : Int) : Decidable (isDev d) := inferInstanceAs (Decidable (1 ≤ d ∧ d ≤ 5))
/-- those that are up, behind Set(d, up) -/
def upF (d : Int) (up : Bool) (a : Int) : Int := if isDev d then (if up then bits .or .u32 a (lbit d) else bits .andNot .u32 a (lbit d)) else a
def isWord (p : Int) : Prop := p = 0 ∨ p = 4 ∨ p = 8 ∨ p = 12
instance (p : Int) : Decidable (isWord p) := inferInstanceAs (Decidable (p = 0 ∨ p = 4 ∨ p = 8 ∨ p = 12))
/-- those that are enabled, behind Write(p, v) -/
def enF (p v e : Int) : Int := if p = 4 then bits .and .u32 v 62 else e
def wordF (p now a e : Int) : Int := if p = 0 then a else if p = 4 then e else if p = 8 then now % 4294967296 else if p = 12 then now / 4294967296 % 4294967296 else 0
def raisB (a e : Int) : Bool := bits .and .u32 a e != 0
theorem dev_any {d : Int} (h : isDev d) : d = 1 ∨ d = 2 ∨ d = 3 ∨ d = 4 ∨ d = 5 := by unfold isDev at h; omega

/-! lines in memory -/
def pair (a e : Int) : Nat → Value
  | 0 => .int .u32 a
  | _ => .int .u32 e
/-- block g holds lines: a are up, e enabled -/
def Ln (w : World) (g : Nat) (a e : Int) : Prop := w.rowIs g 85 2 (pair a e)
section
variable {w w' : World} {g : Nat} {a e : Int}
theorem Ln.c0 (h : Ln w g a e) : w.cell? ⟨g, 0, none⟩ = some (.int .u32 a) := World.rowIs.cell h (i := 0) (by omega)
theorem Ln.c1 (h : Ln w g a e) : w.cell? ⟨g, 1, none⟩ = some (.int .u32 e) := World.rowIs.cell h (i := 1) (by omega)
theorem Ln.lt (h : Ln w g a e) : g < w.heap.size := World.rowIs.lt h
theorem Ln.fr {S : Nat → Prop} (h : Ln w g a e) (f : Fr S w w') (hs : ¬ S g) : Ln w' g a e := World.rowIs.of_block h (f.block _ h.lt hs)
theorem Ln.below (h : Ln w g a e) (b : Below w.heap.size w w') : Ln w' g a e := World.rowIs.of_block h (b.block _ h.lt)
theorem Ln.drewN (h : Ln w g a e) (n : Nat) : Ln (w.drewN n) g a e := h
theorem Ln.setUp (h : Ln w g a e) (x : Int) : Ln (w.setCell ⟨g, 0, none⟩ (.int .u32 x)) g x e :=
  (World.rowIs.set h 0 (.int .u32 x)).congr fun i hi => by
    have : i = 0 ∨ i = 1 := by omega
    rcases this with rfl | rfl <;> rfl
theorem Ln.setEn (h : Ln w g a e) (x : Int) : Ln (w.setCell ⟨g, 1, none⟩ (.int .u32 x)) g a x :=
  (World.rowIs.set h 1 (.int .u32 x)).congr fun i hi => by
    have : i = 0 ∨ i = 1 := by omega
    rcases this with rfl | rfl <;> rfl
theorem Ln.new (w : World) : Ln (w.alloc (.cells #[.int .u32 0, .int .u32 0] 85)) w.heap.size 0 0 :=
  World.rowIs_alloc w _ _ _ fun i hi => by
    have : i = 0 ∨ i = 1 := by have : i < 2 := hi; omega
    rcases this with rfl | rfl <;> rfl
theorem fr1 (w : World) (g o : Nat) (u : Value) : Fr (fun k => k = g) w (w.setCell ⟨g, o, none⟩ u) := Fr.setCell (x := ⟨g, o, none⟩) (Fr.refl (fun k => k = g) w) (.inl rfl) u
/-- it returns x; the lines are a, e then; nothing else has turned -/
def RetL (x : Value) (w : World) (g : Nat) (a e : Int) (en : Ending) (w' : World) : Prop := en = .returned x ∧ Ln w' g a e ∧ Fr (fun k => k = g) w w'

theorem lnew_any (w : World) : Calls Try.prog 29 #[] w fun en w' => ∃ g, w.heap.size ≤ g ∧ en = .returned (.pointer (some ⟨g, 0, none⟩)) ∧ Ln w' g 0 0 ∧ Below w.heap.size w w' := by
  go_enter Try.func29, Try.ntmps29
  go_wp2
  go_ret
  exact ⟨_, Nat.le_refl _, rfl, Ln.new w, (Below.refl _ _).alloc (Nat.le_refl _) _⟩

set_option maxHeartbeats 1000000 in
theorem lnset_any (d : Int) (up : Bool) (h : Ln w g a e) :
    Calls Try.prog 36 #[.pointer (some ⟨g, 0, none⟩), .int .i64 d, .bool up] w (RetL (.tuple #[]) w g (upF d up a) e) := by
  have c0 := h.c0
  have f0 := World.rowIs.frozen h 0
  by_cases hd : isDev d
  · rcases dev_any hd with rfl | rfl | rfl | rfl | rfl
    all_goals
      clear hd
      cases up
      all_goals
        go_enter Try.func36, Try.ntmps36
        go_wp2
        go_end0
        exact ⟨rfl, h.setUp _, fr1 _ _ _ _⟩
  · have hu := Lib.hid (show upF d up a = a by unfold upF; rw [if_neg hd])
    by_cases h1 : d < 1
    · clear hd
      go_enter Try.func36, Try.ntmps36
      go_wp2
      go_end0
      exact ⟨rfl, by rw [hu.out]; exact h, Fr.refl _ _⟩
    · have h5 : 5 < d := by unfold isDev at hd; omega
      clear hd
      go_enter Try.func36, Try.ntmps36
      go_wp2
      go_end0
      exact ⟨rfl, by rw [hu.out]; exact h, Fr.refl _ _⟩

set_option maxHeartbeats 1000000 in
theorem lnraised_any (h : Ln w g a e) : Calls Try.prog 20 #[.pointer (some ⟨g, 0, none⟩)] w fun en w' => en = .returned (.bool (raisB a e)) ∧ ∃ n, w' = w.drewN n := by
  have c0 := h.c0
  have c1 := h.c1
  go_enter Try.func20, Try.ntmps20
  go_wp2
  go_region
  go_wp2
  go_ret
  exact ⟨rfl, 1, rfl⟩

set_option maxHeartbeats 1000000 in
theorem lnread_any (p now : Int) (h : Ln w g a e) (n0 : -9223372036854775808 ≤ now) (n1 : now ≤ 9223372036854775807) :
    Calls Try.prog 41 #[.pointer (some ⟨g, 0, none⟩), .int .u32 p, .int .i64 now] w fun en w' => en = .returned (.tuple #[.int .u32 (wordF p now a e), .bool (decide (isWord p))]) ∧ w = w' := by
  have c0 := h.c0
  have c1 := h.c1
  by_cases hp : isWord p
  · have hp' := hp
    rcases hp' with rfl | rfl | rfl | rfl
    all_goals
      go_enter Try.func41, Try.ntmps41
      go_wp2
      go_ret2
      exact ⟨rfl, rfl⟩
  · have hp' := hp
    unfold isWord at hp'
    have q0 : (p == 0) = false := beq_false_of_ne (by omega)
    have q4 : (p == 4) = false := beq_false_of_ne (by omega)
    have q8 : (p == 8) = false := beq_false_of_ne (by omega)
    have q12 : (p == 12) = false := beq_false_of_ne (by omega)
    have H := Lib.hid (show wordF p now a e = 0 by unfold wordF; rw [if_neg (by omega), if_neg (by omega), if_neg (by omega), if_neg (by omega)])
    clear hp'
    go_enter Try.func41, Try.ntmps41
    go_wp2
    go_ret2
    refine ⟨?_, rfl⟩
    rw [H.out, decide_eq_false hp]
    rfl

set_option maxHeartbeats 1000000 in
theorem lnwrite_any (p v : Int) (h : Ln w g a e) :
    Calls Try.prog 34 #[.pointer (some ⟨g, 0, none⟩), .int .u32 p, .int .u32 v] w (RetL (.bool (decide (isWord p))) w g a (enF p v e)) := by
  have c1 := h.c1
  have f1 := World.rowIs.frozen h 1
  by_cases hp : isWord p
  · have hp' := hp
    rcases hp' with rfl | rfl | rfl | rfl
    · go_enter Try.func34, Try.ntmps34
      go_wp2
      go_ret
      exact ⟨rfl, h, Fr.refl _ _⟩
    · go_enter Try.func34, Try.ntmps34
      go_wp2
      go_ret
      exact ⟨rfl, h.setEn _, fr1 _ _ _ _⟩
    all_goals
      go_enter Try.func34, Try.ntmps34
      go_wp2
      go_ret
      exact ⟨rfl, h, Fr.refl _ _⟩
  · have hp' := hp
    unfold isWord at hp'
    have q0 : (p == 0) = false := beq_false_of_ne (by omega)
    have q4 : (p == 4) = false := beq_false_of_ne (by omega)
    have q8 : (p == 8) = false := beq_false_of_ne (by omega)
    have q12 : (p == 12) = false := beq_false_of_ne (by omega)
    have H := Lib.hid (show enF p v e = e by unfold enF; rw [if_neg (by omega)])
    clear hp'
    go_enter Try.func34, Try.ntmps34
    go_wp2
    go_ret
    refine ⟨?_, by rw [H.out]; exact h, Fr.refl _ _⟩
    rw [decide_eq_false hp]
    rfl
end
end Go.Proofs.Ytkfedihaldpgmaa

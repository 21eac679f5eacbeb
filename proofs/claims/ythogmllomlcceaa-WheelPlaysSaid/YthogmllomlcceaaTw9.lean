/-
  Chapter 9: both wheels side by side; a call in its box; a number brought into bounds (Within).
-/
import Derived.Test.YthogmllomlcceaaKn9
import Derived.Test.YthogmllomlcceaaRt9
import Derived.Deep.RegionHeld3
import Derived.Deep.RegionWith
import Derived.Deep.DeepCutAuto
import Derived.Deep.CutBlock
namespace Go.Proofs.Ythogmllomlcceaa
open Go.RowKit
set_option linter.unusedVariables false
set_option linter.unusedSimpArgs false

/-- both wheels hold the same; their blocks are apart, all new since W0 -/
structure Two (W0 w : World) (g : Nat) (v : Value) (m : Nat) (u : Value) (L : List Ev) (a : Int) : Prop where
  wa : Wh 50 w g v L a
  wb : Wh 43 w m u L a
  sep : ∀ k, Own g v k → ¬ Own m u k
  na : ∀ k, Own g v k → W0.heap.size ≤ k
  nb : ∀ k, Own m u k → W0.heap.size ≤ k
  bl : Below W0.heap.size W0 w
section
variable {W0 w w1 w2 : World} {g m : Nat} {v v2 u u2 : Value} {L L2 : List Ev} {a a2 : Int}
theorem Two.left (h : Two W0 w g v m u L a) (hch : Ch g v v2 w w1) : Wh 43 w1 m u L a := h.wb.fr hch.fr (fun k hk e => h.sep k e hk)
theorem Two.both (h : Two W0 w g v m u L a) (hw : Wh 50 w1 g v2 L2 a2) (hch : Ch g v v2 w w1) (hw' : Wh 43 w2 m u2 L2 a2) (hch' : Ch m u u2 w1 w2) : Two W0 w2 g v2 m u2 L2 a2 := by
  have hsep : ∀ k, Own g v2 k → ¬ Own m u k := by
    rintro k (e | e) h2
    · exact h.sep k (.inl e) h2
    · rcases hch.nw k e with e | e
      · exact h.sep k (.inr e) h2
      · have := h.wb.lt k h2; omega
  have hna : ∀ k, Own g v2 k → W0.heap.size ≤ k := by
    rintro k (e | e)
    · exact h.na k (.inl e)
    · rcases hch.nw k e with e | e
      · exact h.na k (.inr e)
      · have := h.bl.size; omega
  have hs1 := hch.fr.size
  refine ⟨hw.fr hch'.fr hsep, hw', ?_, hna, ?_, ?_⟩
  · rintro k h1 (e | e)
    · exact hsep k h1 (.inl e)
    · rcases hch'.nw k e with e | e
      · exact hsep k h1 (.inr e)
      · have := hw.lt k h1; omega
  · rintro k (e | e)
    · exact h.nb k (.inl e)
    · rcases hch'.nw k e with e | e
      · exact h.nb k (.inr e)
      · have := h.bl.size; omega
  · have b1 := h.bl.trans (hch.fr.below h.bl.size (fun k hk e => by have := h.na k e; omega))
    exact b1.trans (hch'.fr.below b1.size (fun k hk e => by have := h.nb k e; omega))
theorem Two.fr {S : Nat → Prop} (h : Two W0 w g v m u L a) (f : Fr S w w1) (ha : ∀ k, Own g v k → ¬ S k) (hb : ∀ k, Own m u k → ¬ S k) (hB : ∀ k, k < W0.heap.size → ¬ S k) : Two W0 w1 g v m u L a :=
  ⟨h.wa.fr f ha, h.wb.fr f hb, h.sep, h.na, h.nb, h.bl.trans (f.below h.bl.size hB)⟩
theorem Two.below (h : Two W0 w g v m u L a) (b : Below w.heap.size w w1) : Two W0 w1 g v m u L a := h.fr (Fr.of_below (S := fun _ => False) b) (fun _ _ => id) (fun _ _ => id) (fun _ _ => id)
theorem Two.alloc (h : Two W0 w g v m u L a) (o : Obj) : Two W0 (w.alloc o) g v m u L a := h.below ((Below.refl _ _).alloc (Nat.le_refl _) o)
theorem Two.drewN (h : Two W0 w g v m u L a) (n : Nat) : Two W0 (w.drewN n) g v m u L a := h.fr ((Fr.refl (fun _ => False) w).drewN n) (fun _ _ => id) (fun _ _ => id) (fun _ _ => id)
/-- a call's cells -/
def ask3 (kd d t : Int) : Nat → Value
  | 0 => .int .i64 kd
  | 1 => .int .i64 d
  | _ => .int .i64 t
/-- a call in its box, beside both wheels -/
structure Ab (W0 w : World) (X g : Nat) (v : Value) (m : Nat) (u : Value) (kd d t : Int) : Prop where
  row : w.rowIs X 24 3 (ask3 kd d t)
  na : ¬ Own g v X
  nb : ¬ Own m u X
  nw : W0.heap.size ≤ X
theorem Ab.new (h : Two W0 w g v m u L a) (kd d t : Int) : Ab W0 (w.alloc (.cells #[.int .i64 kd, .int .i64 d, .int .i64 t] 24)) w.heap.size g v m u kd d t :=
  ⟨World.rowIs_alloc w _ _ _ fun i hi => by
    have : i = 0 ∨ i = 1 ∨ i = 2 := by have : i < 3 := hi; omega
    rcases this with rfl | rfl | rfl <;> rfl, fun e => Nat.lt_irrefl _ (h.wa.lt _ e), fun e => Nat.lt_irrefl _ (h.wb.lt _ e), h.bl.size⟩
section
variable {X : Nat} {kd d t : Int}
theorem Ab.left (h : Ab W0 w X g v m u kd d t) (hch : Ch g v v2 w w1) : Ab W0 w1 X g v2 m u kd d t := by
  refine ⟨h.row.of_block (hch.fr.block _ h.row.lt h.na), ?_, h.nb, h.nw⟩
  rintro (e | e)
  · exact h.na (.inl e)
  · rcases hch.nw _ e with e | e
    · exact h.na (.inr e)
    · have := h.row.lt; omega
theorem Ab.right (h : Ab W0 w X g v m u kd d t) (hch : Ch m u u2 w w1) : Ab W0 w1 X g v m u2 kd d t := by
  refine ⟨h.row.of_block (hch.fr.block _ h.row.lt h.nb), h.na, ?_, h.nw⟩
  rintro (e | e)
  · exact h.nb (.inl e)
  · rcases hch.nw _ e with e | e
    · exact h.nb (.inr e)
    · have := h.row.lt; omega
theorem Ab.below (h : Ab W0 w X g v m u kd d t) (b : Below w.heap.size w w1) : Ab W0 w1 X g v m u kd d t := ⟨h.row.of_block (b.block _ h.row.lt), h.na, h.nb, h.nw⟩
theorem Ab.alloc (h : Ab W0 w X g v m u kd d t) (o : Obj) : Ab W0 (w.alloc o) X g v m u kd d t := h.below ((Below.refl _ _).alloc (Nat.le_refl _) o)
theorem Ab.drewN (h : Ab W0 w X g v m u kd d t) (n : Nat) : Ab W0 (w.drewN n) X g v m u kd d t := ⟨h.row, h.na, h.nb, h.nw⟩
theorem Ab.c0 (h : Ab W0 w X g v m u kd d t) : w.cell? ⟨X, 0, none⟩ = some (.int .i64 kd) := h.row.cell (i := 0) (by omega)
theorem Ab.c1 (h : Ab W0 w X g v m u kd d t) : w.cell? ⟨X, 1, none⟩ = some (.int .i64 d) := h.row.cell (i := 1) (by omega)
theorem Ab.c2 (h : Ab W0 w X g v m u kd d t) : w.cell? ⟨X, 2, none⟩ = some (.int .i64 t) := h.row.cell (i := 2) (by omega)
/-- the call's device and time are others -/
theorem Ab.put (hT : Two W0 w g v m u L a) (h : Ab W0 w X g v m u kd d t) (d2 t2 : Int) :
    Two W0 ((w.setCell ⟨X, 1, none⟩ (.int .i64 d2)).setCell ⟨X, 2, none⟩ (.int .i64 t2)) g v m u L a ∧ Ab W0 ((w.setCell ⟨X, 1, none⟩ (.int .i64 d2)).setCell ⟨X, 2, none⟩ (.int .i64 t2)) X g v m u kd d2 t2 := by
  have hF : Fr (fun k => k = X) w ((w.setCell ⟨X, 1, none⟩ (.int .i64 d2)).setCell ⟨X, 2, none⟩ (.int .i64 t2)) := (Fr.setCell (x := ⟨X, 1, none⟩) (Fr.refl (fun k => k = X) w) (.inl rfl) _).setCell (x := ⟨X, 2, none⟩) (.inl rfl) _
  refine ⟨hT.fr hF (fun k hk e => h.na (e ▸ hk)) (fun k hk e => h.nb (e ▸ hk)) (fun k hk e => by have := h.nw; omega), ⟨((h.row.set 1 _).set 2 _).congr fun j hj => ?_, h.na, h.nb, h.nw⟩⟩
  have : j = 0 ∨ j = 1 ∨ j = 2 := by omega
  rcases this with rfl | rfl | rfl <;> rfl
end
end

/-- it returns a number from lo to hi, and the world stands -/
def InP (lo hi : Int) (w : World) (e : Ending) (w' : World) : Prop := ∃ v : Int, lo ≤ v ∧ v ≤ hi ∧ e = .returned (.int .i64 v) ∧ w = w'
theorem tmod_pos (n K : Int) (hK : 0 < K) : -K < n.tmod K ∧ n.tmod K < K := by
  by_cases h : 0 ≤ n
  · rw [Int.tmod_eq_emod_of_nonneg h]
    have := Int.emod_nonneg n (show K ≠ 0 by omega)
    have := Int.emod_lt_of_pos n hK
    omega
  · have e : n.tmod K = -((-n) % K) := by rw [← Int.tmod_eq_emod_of_nonneg (by omega), Int.neg_tmod]; omega
    have := Int.emod_nonneg (-n) (show K ≠ 0 by omega)
    have := Int.emod_lt_of_pos (-n) hK
    omega
set_option maxHeartbeats 400000 in
theorem within_any (n lo hi : Int) (w : World) (h0 : -1000000000 ≤ lo) (h1 : lo ≤ hi) (h2 : hi ≤ 1000000000) (n0 : -9223372036854775808 ≤ n) (n1 : n ≤ 9223372036854775807) :
    Calls Try.prog 14 #[.int .i64 n, .int .i64 lo, .int .i64 hi] w (InP lo hi w) := by
  by_cases hin : lo ≤ n ∧ n ≤ hi
  · obtain ⟨i0, i1⟩ := hin
    go_enter Try.func14, Try.ntmps14
    go_wp2
    go_ret
    exact ⟨n, i0, i1, rfl, rfl⟩
  · obtain ⟨t0, t1⟩ := tmod_pos n (hi - lo + 1) (by omega)
    have hd : (decide (lo ≤ n) && decide (n ≤ hi)) = false := by simp; omega
    by_cases hlo : lo ≤ n
    · have hh : ¬ n ≤ hi := by omega
      by_cases hneg : n.tmod (hi - lo + 1) < 0
      all_goals
        go_enter Try.func14, Try.ntmps14
        go_wp2
        go_ret
        exact ⟨_, by omega, by omega, rfl, rfl⟩
    · by_cases hneg : n.tmod (hi - lo + 1) < 0
      all_goals
        go_enter Try.func14, Try.ntmps14
        go_wp2
        go_ret
        exact ⟨_, by omega, by omega, rfl, rfl⟩
end Go.Proofs.Ythogmllomlcceaa

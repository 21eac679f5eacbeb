/-
  Chapter 14: a disk of package disk beside the document's bus; what a Take and a Fire do; a call in its box.
-/
import Derived.Test.YtifhnidcdfpabaaWi14
namespace Go.Proofs.Ytifhnidcdfpabaa
open Go.RowKit
set_option linter.unusedVariables false
set_option linter.unusedSimpArgs false

/-- one round: what is due is taken and done -/
def spD (p n : Nat) (now : Int) (S : DS) : DS := if duB now S then fiD p n { S with q := none } else S
theorem spD_yes {p n : Nat} {now : Int} {S : DS} (h : duB now S = true) : spD p n now S = fiD p n { S with q := none } := by unfold spD; rw [h]; rfl
theorem spD_no {p n : Nat} {now : Int} {S : DS} (h : duB now S = false) : spD p n now S = S := by unfold spD; rw [h]; rfl
theorem Gd.step {n : Int} {S : DS} {p m : Nat} {now : Int} (h : Gd n S) : Gd n (spD p m now S) := by
  unfold spD
  split
  · exact h.noq.fire
  · exact h
section
variable {w w' w1 w2 : World} {x g r y m r2 y2 p n : Nat} {O P : Nat → Prop} {v v2 u u2 : Value} {S S2 R R2 : DS} {C : Nat → Value}
/-- a mover and a bus; their blocks are apart, all new since W0 -/
structure Two (W0 : World) (C : Nat → Value) (p n : Nat) (w : World) (x g r y : Nat) (O : Nat → Prop) (v : Value) (S : DS) (m r2 y2 : Nat) (P : Nat → Prop) (u : Value) (R : DS) : Prop where
  ta : Dk w x g r y O p n 5 v S
  tb : Bu C w m r2 y2 P p n u R
  sep : ∀ k, OwnD x g O v k → ¬ OwnD m m P u k
  na : ∀ k, OwnD x g O v k → W0.heap.size ≤ k
  nb : ∀ k, OwnD m m P u k → W0.heap.size ≤ k
  bl : Below W0.heap.size W0 w
variable {W0 : World}
theorem Two.left (h : Two W0 C p n w x g r y O v S m r2 y2 P u R) (h1 : Dk w1 x g r y O p n 5 v2 S2) (c : CD x g O v v2 w w1) : Two W0 C p n w1 x g r y O v2 S2 m r2 y2 P u R := by
  refine ⟨h1, h.tb.fr c.fr (fun k hk e => h.sep k e hk), ?_, ?_, h.nb, h.bl.trans (c.fr.below h.bl.size (fun k hk e => by have := h.na k e; omega))⟩
  · intro k hk hm
    rcases c.own k hk with e | e
    · exact h.sep k e hm
    · have := h.tb.lt k hm; omega
  · intro k hk
    rcases c.own k hk with e | e
    · exact h.na k e
    · have := h.bl.size; omega
theorem Two.right (h : Two W0 C p n w x g r y O v S m r2 y2 P u R) (h1 : Bu C w1 m r2 y2 P p n u2 R2) (c : CD m m P u u2 w w1) : Two W0 C p n w1 x g r y O v S m r2 y2 P u2 R2 := by
  refine ⟨h.ta.fr c.fr (fun k hk e => h.sep k hk e), h1, ?_, h.na, ?_, h.bl.trans (c.fr.below h.bl.size (fun k hk e => by have := h.nb k e; omega))⟩
  · intro k hk hm
    rcases c.own k hm with e | e
    · exact h.sep k hk e
    · have := h.ta.lt k hk; omega
  · intro k hk
    rcases c.own k hk with e | e
    · exact h.nb k e
    · have := h.bl.size; omega
theorem Two.below (h : Two W0 C p n w x g r y O v S m r2 y2 P u R) (b : Below w.heap.size w w1) : Two W0 C p n w1 x g r y O v S m r2 y2 P u R := h.left (h.ta.below b) (CD.of_below b)
theorem Two.alloc (h : Two W0 C p n w x g r y O v S m r2 y2 P u R) (o : Obj) : Two W0 C p n (w.alloc o) x g r y O v S m r2 y2 P u R := h.below ((Below.refl _ _).alloc (Nat.le_refl _) o)
theorem Two.drewN (h : Two W0 C p n w x g r y O v S m r2 y2 P u R) (k : Nat) : Two W0 C p n (w.drewN k) x g r y O v S m r2 y2 P u R := h.left (h.ta.drewN k) (CD.drewN x g O v w k)
/-- a call's cells -/
def ask5 (kd kk yv by_ bb : Int) : Nat → Value
  | 0 => .int .i64 kd
  | 1 => .int .i64 kk
  | 2 => .int .u32 yv
  | 3 => .int .i64 by_
  | _ => .int .u8 bb
/-- a call in its box, beside both -/
structure Ab (w : World) (X x g : Nat) (O : Nat → Prop) (v : Value) (m : Nat) (P : Nat → Prop) (u : Value) (kd kk yv by_ bb : Int) : Prop where
  row : w.rowIs X 26 5 (ask5 kd kk yv by_ bb)
  na : ¬ OwnD x g O v X
  nb : ¬ OwnD m m P u X
section
variable {X : Nat} {kd kk yv by_ bb : Int}
theorem Ab.new (h : Two W0 C p n w x g r y O v S m r2 y2 P u R) (kd kk yv by_ bb : Int) : Ab (w.alloc (.cells #[.int .i64 kd, .int .i64 kk, .int .u32 yv, .int .i64 by_, .int .u8 bb] 26)) w.heap.size x g O v m P u kd kk yv by_ bb :=
  ⟨World.rowIs_alloc w _ _ _ fun i hi => by
    have : i = 0 ∨ i = 1 ∨ i = 2 ∨ i = 3 ∨ i = 4 := by have : i < 5 := hi; omega
    rcases this with rfl | rfl | rfl | rfl | rfl <;> rfl, fun e => Nat.lt_irrefl _ (h.ta.lt _ e), fun e => Nat.lt_irrefl _ (h.tb.lt _ e)⟩
theorem Ab.left (h : Ab w X x g O v m P u kd kk yv by_ bb) (c : CD x g O v v2 w w1) : Ab w1 X x g O v2 m P u kd kk yv by_ bb := by
  refine ⟨h.row.of_block (c.fr.block _ h.row.lt h.na), fun e => ?_, h.nb⟩
  rcases c.own _ e with e | e
  · exact h.na e
  · have := h.row.lt; omega
theorem Ab.right (h : Ab w X x g O v m P u kd kk yv by_ bb) (c : CD m m P u u2 w w1) : Ab w1 X x g O v m P u2 kd kk yv by_ bb := by
  refine ⟨h.row.of_block (c.fr.block _ h.row.lt h.nb), h.na, fun e => ?_⟩
  rcases c.own _ e with e | e
  · exact h.nb e
  · have := h.row.lt; omega
theorem Ab.drewN (h : Ab w X x g O v m P u kd kk yv by_ bb) (n : Nat) : Ab (w.drewN n) X x g O v m P u kd kk yv by_ bb := ⟨h.row, h.na, h.nb⟩
theorem Ab.c0 (h : Ab w X x g O v m P u kd kk yv by_ bb) : w.cell? ⟨X, 0, none⟩ = some (.int .i64 kd) := h.row.cell (i := 0) (by omega)
theorem Ab.c1 (h : Ab w X x g O v m P u kd kk yv by_ bb) : w.cell? ⟨X, 1, none⟩ = some (.int .i64 kk) := h.row.cell (i := 1) (by omega)
theorem Ab.c2 (h : Ab w X x g O v m P u kd kk yv by_ bb) : w.cell? ⟨X, 2, none⟩ = some (.int .u32 yv) := h.row.cell (i := 2) (by omega)
theorem Ab.c3 (h : Ab w X x g O v m P u kd kk yv by_ bb) : w.cell? ⟨X, 3, none⟩ = some (.int .i64 by_) := h.row.cell (i := 3) (by omega)
theorem Ab.c4 (h : Ab w X x g O v m P u kd kk yv by_ bb) : w.cell? ⟨X, 4, none⟩ = some (.int .u8 bb) := h.row.cell (i := 4) (by omega)
end
end
/-- the cells of a slice of calls, as the walk asks for them -/
def Asks (w : World) (B : Nat) (a : Option Addr) (len : Nat) : Prop :=
  ∀ i, i < len → ∃ (b o : Nat) (kd kk yv by_ bb : Int), a = some ⟨b, o, none⟩ ∧ b < B ∧
    w.cell? ⟨b, o + i * 5, none⟩ = some (.int .i64 kd) ∧ w.cell? ⟨b, o + i * 5 + 1, none⟩ = some (.int .i64 kk) ∧ w.cell? ⟨b, o + i * 5 + 2, none⟩ = some (.int .u32 yv) ∧ w.cell? ⟨b, o + i * 5 + 3, none⟩ = some (.int .i64 by_) ∧ w.cell? ⟨b, o + i * 5 + 4, none⟩ = some (.int .u8 bb) ∧
    -9223372036854775808 ≤ kk ∧ kk ≤ 9223372036854775807 ∧ 0 ≤ yv ∧ yv < 4294967296 ∧ -9223372036854775808 ≤ by_ ∧ by_ ≤ 9223372036854775807 ∧ 0 ≤ bb ∧ bb < 256
theorem two_new {W0 w1 w2 w3 w4 : World} {C : Nat → Value} {x g r y m r2 y2 n : Nat} {O P : Nat → Prop} {D : Nat → Int} (hg : W0.heap.size ≤ g) (hb : Below W0.heap.size W0 w1) (hgl : g < w1.heap.size)
    (ho : ∀ k, O k → w1.heap.size ≤ k) (hb2 : Below w1.heap.size w1 w2) (hx : w2.heap.size ≤ x) (hD : Dk w3 x g r y O 2 n 5 (.slice none 0 0) (S00 Z0 D)) (hb3 : Below w2.heap.size w2 w3)
    (hp : ∀ k, P k → w3.heap.size ≤ k) (hm : w3.heap.size ≤ m) (hU : Bu C w4 m r2 y2 P 2 n (.slice none 0 0) (S00 Z0 D)) (hb4 : Below w3.heap.size w3 w4) :
    Two W0 C 2 n w4 x g r y O (.slice none 0 0) (S00 Z0 D) m r2 y2 P (.slice none 0 0) (S00 Z0 D) := by
  have s1 := hb.size
  have s2 := hb2.size
  have s3 := hb3.size
  have hn : ∀ k, OwnD m m P (.slice none 0 0) k → w3.heap.size ≤ k := by
    rintro k (rfl | (rfl | e) | e)
    · exact hm
    · exact hm
    · cases e
    · exact hp k e
  refine ⟨hD.below hb4, hU, fun k hk e => ?_, ?_, fun k hk => ?_, ((hb.trans (hb2.mono s1)).trans (hb3.mono (by omega))).trans (hb4.mono (by omega))⟩
  · have h1 := hD.lt k hk
    have h2 := hn k e
    omega
  · rintro k (rfl | (rfl | e) | e)
    · omega
    · exact hg
    · cases e
    · have := ho k e; omega
  · have := hn k hk; omega
end Go.Proofs.Ytifhnidcdfpabaa

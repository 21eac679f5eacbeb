/-
  Chapter 12: a line of bytes in memory: its block, its two queues, what was put out, its wheel; all new since W0.
-/
import Derived.Test.YtmmikcpkaehooaaWa9
import Derived.Test.YtmmikcpkaehooaaQu12
import Derived.Deep.RegionHeld3
namespace Go.Proofs.Ytmmikcpkaehooaa
open Go.RowKit
set_option linter.unusedVariables false
set_option linter.unusedSimpArgs false

/-- what a line is: what came, what is to go, what was put out, one was lost, control; when it is due and which Arm's that is; the wheel's next number -/
structure US where
  came : List Int
  goes : List Int
  out : List Int
  lost : Bool
  ct : Int
  q : Option (Int × Int)
  a : Int
/-- the list of what is due: the device's event, if there is one -/
def qL (d : Int) (q : Option (Int × Int)) : List Ev := match q with
  | none => []
  | some (t, s) => [⟨t, d, s⟩]
theorem qL_len (d : Int) (q : Option (Int × Int)) : (qL d q).length ≤ 1 := by
  cases q with
  | none => exact Nat.zero_le _
  | some x => exact Nat.le_refl _
theorem arm_q (d t a : Int) (q : Option (Int × Int)) : armF d t a (qL d q) = qL d (some (t, a)) := by
  cases q with
  | none => rfl
  | some x =>
    obtain ⟨u, s⟩ := x
    have e : delF d (qL d (some (u, s))) = [] := by simp [delF, ixD, qL, List.findIdx_cons]
    unfold armF
    rw [e]
    rfl
def ut7 (d : Int) (g c1 c2 : Nat) (o : Value) (l : Bool) (ct : Int) : Nat → Value
  | 0 => .int .i64 d
  | 1 => .pointer (some ⟨g, 0, none⟩)
  | 2 => .chan (some c1)
  | 3 => .chan (some c2)
  | 4 => o
  | 5 => .bool l
  | _ => .int .u32 ct
/-- block t is a line of device d on the wheel in block g (its slice: v), its queues in c1 and c2, what was put out in o; it is S; all is new since W0, and what was there is as it was -/
structure One (W0 w : World) (t g c1 c2 : Nat) (d : Int) (v o : Value) (S : US) : Prop where
  tm : w.rowIs t 47 7 (ut7 d g c1 c2 o S.lost S.ct)
  q1 : Qu w c1 S.came
  q2 : Qu w c2 S.goes
  ou : w.ownsRow W0.heap.size 5 1 o S.out.length (bys S.out)
  wh : Wh 44 w g v (qL d S.q) S.a
  nc : c1 ≠ c2
  nt : t ≠ c1 ∧ t ≠ c2
  no : ∀ k, o.ownBlock = some k → k ≠ t ∧ k ≠ c1 ∧ k ≠ c2 ∧ ¬ Own g v k
  nw : ∀ k, Own g v k → k ≠ t ∧ k ≠ c1 ∧ k ≠ c2
  nb : W0.heap.size ≤ t ∧ W0.heap.size ≤ c1 ∧ W0.heap.size ≤ c2
  ng : ∀ k, Own g v k → W0.heap.size ≤ k
  bl : Below W0.heap.size W0 w
/-- it returns x; the line is S2 then -/
def RetO (x : Value) (W0 : World) (t g c1 c2 : Nat) (d : Int) (S2 : US) (e : Ending) (w' : World) : Prop := e = .returned x ∧ ∃ v2 o2, One W0 w' t g c1 c2 d v2 o2 S2
theorem own_lt {w : World} {base : Nat} {e : TypeId} {size n : Nat} {v : Value} {xs : List Value} (h : w.ownsRow base e size v n xs) : ∀ k, v.ownBlock = some k → base ≤ k ∧ k < w.heap.size := fun k hk => World.ownsRow.lt h k hk
theorem own_fr {S : Nat → Prop} {w w' : World} {base : Nat} {e : TypeId} {size n : Nat} {v : Value} {xs : List Value} (h : w.ownsRow base e size v n xs) (f : Fr S w w') (hs : ∀ k, v.ownBlock = some k → ¬ S k) : w'.ownsRow base e size v n xs := by
  refine ⟨h.1, ?_⟩
  rcases h.2 with h2 | ⟨g, cap, cur, rfl, hb, hh, r⟩
  · exact .inl h2
  · have hl : g < w.heap.size := (Array.getElem?_eq_some_iff.1 hh).1
    exact .inr ⟨g, cap, cur, rfl, hb, (f.block g hl (hs g rfl)).trans hh, r⟩
section
variable {W0 w w' : World} {t g c1 c2 : Nat} {d : Int} {v v2 o o2 : Value} {S : US}
theorem One.k0 (h : One W0 w t g c1 c2 d v o S) : w.cell? ⟨t, 0, none⟩ = some (.int .i64 d) := h.tm.cell (i := 0) (by omega)
theorem One.k1 (h : One W0 w t g c1 c2 d v o S) : w.cell? ⟨t, 1, none⟩ = some (.pointer (some ⟨g, 0, none⟩)) := h.tm.cell (i := 1) (by omega)
theorem One.k2 (h : One W0 w t g c1 c2 d v o S) : w.cell? ⟨t, 2, none⟩ = some (.chan (some c1)) := h.tm.cell (i := 2) (by omega)
theorem One.k3 (h : One W0 w t g c1 c2 d v o S) : w.cell? ⟨t, 3, none⟩ = some (.chan (some c2)) := h.tm.cell (i := 3) (by omega)
theorem One.k4 (h : One W0 w t g c1 c2 d v o S) : w.cell? ⟨t, 4, none⟩ = some o := h.tm.cell (i := 4) (by omega)
theorem One.k5 (h : One W0 w t g c1 c2 d v o S) : w.cell? ⟨t, 5, none⟩ = some (.bool S.lost) := h.tm.cell (i := 5) (by omega)
theorem One.k6 (h : One W0 w t g c1 c2 d v o S) : w.cell? ⟨t, 6, none⟩ = some (.int .u32 S.ct) := h.tm.cell (i := 6) (by omega)
theorem One.l1 (h : One W0 w t g c1 c2 d v o S) {n : Nat} (hn : S.came.length = n) : ∀ ty, (Builtin.len_ #[45] ty #[.chan (some c1)]).run Try.prog w = .ok (.int .i64 n) w := fun ty => by rw [← hn]; exact run_len_qu h.q1 _ _ Try.underlying45
theorem One.l2 (h : One W0 w t g c1 c2 d v o S) {n : Nat} (hn : S.goes.length = n) : ∀ ty, (Builtin.len_ #[45] ty #[.chan (some c2)]).run Try.prog w = .ok (.int .i64 n) w := fun ty => by rw [← hn]; exact run_len_qu h.q2 _ _ Try.underlying45
theorem One.below (h : One W0 w t g c1 c2 d v o S) (b : Below w.heap.size w w') : One W0 w' t g c1 c2 d v o S := by
  have f : Fr (fun _ => False) w w' := Fr.of_below b
  exact ⟨h.tm.of_block (f.block _ h.tm.lt id), h.q1.fr f id, h.q2.fr f id, own_fr h.ou f (fun _ _ => id), h.wh.fr f (fun _ _ => id), h.nc, h.nt, h.no, h.nw, h.nb, h.ng, h.bl.trans (b.mono h.bl.size)⟩
theorem One.alloc (h : One W0 w t g c1 c2 d v o S) (x : Obj) : One W0 (w.alloc x) t g c1 c2 d v o S := h.below ((Below.refl _ _).alloc (Nat.le_refl _) x)
theorem One.drewN (h : One W0 w t g c1 c2 d v o S) (n : Nat) : One W0 (w.drewN n) t g c1 c2 d v o S := h.below ((Fr.refl (fun _ => False) w).drewN n |>.below (Nat.le_refl _) (fun _ _ => id))
theorem One.que1 (h : One W0 w t g c1 c2 d v o S) {L : List Int} (hq : Qu w' c1 L) (f : Fr (fun k => k = c1) w w') : One W0 w' t g c1 c2 d v o { S with came := L } :=
  ⟨h.tm.of_block (f.block _ h.tm.lt h.nt.1), hq, h.q2.fr f (fun e => h.nc e.symm), own_fr h.ou f (fun k hk => (h.no k hk).2.1), h.wh.fr f (fun k hk => (h.nw k hk).2.1), h.nc, h.nt, h.no, h.nw, h.nb, h.ng, h.bl.trans (f.below h.bl.size (fun k hk e => by have := h.nb; omega))⟩
theorem One.que2 (h : One W0 w t g c1 c2 d v o S) {L : List Int} (hq : Qu w' c2 L) (f : Fr (fun k => k = c2) w w') : One W0 w' t g c1 c2 d v o { S with goes := L } :=
  ⟨h.tm.of_block (f.block _ h.tm.lt h.nt.2), h.q1.fr f h.nc, hq, own_fr h.ou f (fun k hk => (h.no k hk).2.2.1), h.wh.fr f (fun k hk => (h.nw k hk).2.2), h.nc, h.nt, h.no, h.nw, h.nb, h.ng, h.bl.trans (f.below h.bl.size (fun k hk e => by have := h.nb; omega))⟩
theorem One.wheel (h : One W0 w t g c1 c2 d v o S) {q : Option (Int × Int)} {a : Int} (hw : Wh 44 w' g v2 (qL d q) a) (hch : Ch g v v2 w w') : One W0 w' t g c1 c2 d v2 o { S with q := q, a := a } := by
  have f := hch.fr
  have ht := h.tm.lt
  have h1 := h.q1.lt
  have h2 := h.q2.lt
  have hs := h.bl.size
  have hx : ∀ k, Own g v2 k → Own g v k ∨ w.heap.size ≤ k := by
    rintro k (e | e)
    · exact .inl (.inl e)
    · rcases hch.nw k e with e | e
      · exact .inl (.inr e)
      · exact .inr e
  refine ⟨h.tm.of_block (f.block _ ht (fun e => (h.nw _ e).1 rfl)), h.q1.fr f (fun e => (h.nw _ e).2.1 rfl), h.q2.fr f (fun e => (h.nw _ e).2.2 rfl), own_fr h.ou f (fun k hk => (h.no k hk).2.2.2), hw, h.nc, h.nt, fun k hk => ?_, fun k hk => ?_, h.nb, fun k hk => ?_, h.bl.trans (f.below hs (fun k hk e => by have := h.ng k e; omega))⟩
  · obtain ⟨n1, n2, n3, n4⟩ := h.no k hk
    refine ⟨n1, n2, n3, fun e => ?_⟩
    rcases hx k e with e | e
    · exact n4 e
    · have := (own_lt h.ou k hk).2; omega
  · rcases hx k hk with e | e
    · exact h.nw k e
    · omega
  · rcases hx k hk with e | e
    · exact h.ng k e
    · omega
theorem One.setT (h : One W0 w t g c1 c2 d v o S) (i : Nat) (u : Value) (l : Bool) (ct : Int) (hu : ∀ j, j < 7 → (if j = i then u else ut7 d g c1 c2 o S.lost S.ct j) = ut7 d g c1 c2 o l ct j) :
    One W0 (w.setCell ⟨t, i, none⟩ u) t g c1 c2 d v o { S with lost := l, ct := ct } := by
  have f : Fr (fun k => k = t) w (w.setCell ⟨t, i, none⟩ u) := (Fr.refl (fun k => k = t) w).setCell (x := ⟨t, i, none⟩) (.inl rfl) u
  exact ⟨(h.tm.set i u).congr hu, h.q1.fr f (fun e => h.nt.1 e.symm), h.q2.fr f (fun e => h.nt.2 e.symm), own_fr h.ou f (fun k hk => (h.no k hk).1), h.wh.fr f (fun k hk => (h.nw k hk).1), h.nc, h.nt, h.no, h.nw, h.nb, h.ng, h.bl.trans (f.below h.bl.size (fun k hk e => by have := h.nb; omega))⟩
theorem One.setL (h : One W0 w t g c1 c2 d v o S) (l : Bool) : One W0 (w.setCell ⟨t, 5, none⟩ (.bool l)) t g c1 c2 d v o { S with lost := l } :=
  h.setT 5 (.bool l) l S.ct (fun j hj => by
    have : j = 0 ∨ j = 1 ∨ j = 2 ∨ j = 3 ∨ j = 4 ∨ j = 5 ∨ j = 6 := by omega
    rcases this with rfl | rfl | rfl | rfl | rfl | rfl | rfl <;> rfl)
theorem One.setC (h : One W0 w t g c1 c2 d v o S) (ct : Int) : One W0 (w.setCell ⟨t, 6, none⟩ (.int .u32 ct)) t g c1 c2 d v o { S with ct := ct } :=
  h.setT 6 (.int .u32 ct) S.lost ct (fun j hj => by
    have : j = 0 ∨ j = 1 ∨ j = 2 ∨ j = 3 ∨ j = 4 ∨ j = 5 ∨ j = 6 := by omega
    rcases this with rfl | rfl | rfl | rfl | rfl | rfl | rfl <;> rfl)
/-- a byte was put out: behind append and the store -/
theorem One.app (h : One W0 w t g c1 c2 d v o S) {b : Int} {n : Nat} (hn : n = S.out.length + 1) (hO : w'.ownsRow W0.heap.size 5 1 o2 n (bys S.out ++ [.int .u8 b])) (hg : w.grownBy w' o.ownBlock) (he : o2.ownBlock = o.ownBlock ∨ o2.ownBlock = some w.heap.size) :
    (w'.rowIs t 47 7 (ut7 d g c1 c2 o S.lost S.ct)) ∧ One W0 (w'.setCell ⟨t, 4, none⟩ o2) t g c1 c2 d v o2 { S with out := S.out ++ [b] } := by
  have ht := h.tm.lt
  have h1 := h.q1.lt
  have h2 := h.q2.lt
  have hs := h.bl.size
  have hb := own_lt h.ou
  have f0 : Fr (fun k => o.ownBlock = some k) w w' := ⟨hg.os, hg.tape, hg.output, hg.size, fun k hk hn => hg.block k hk (fun e => hn e.symm)⟩
  have f1 : Fr (fun k => k = t) w' (w'.setCell ⟨t, 4, none⟩ o2) := (Fr.refl (fun k => k = t) w').setCell (x := ⟨t, 4, none⟩) (.inl rfl) o2
  have hr := h.tm.of_block (f0.block _ ht (fun e => (h.no t e).1 rfl))
  have hx : ∀ k, o2.ownBlock = some k → o.ownBlock = some k ∨ k = w.heap.size := by
    intro k hk
    rcases he with e | e
    · exact .inl (e ▸ hk)
    · rw [e] at hk; cases hk; exact .inr rfl
  have hno : ∀ k, o2.ownBlock = some k → k ≠ t ∧ k ≠ c1 ∧ k ≠ c2 ∧ ¬ Own g v k := by
    intro k hk
    rcases hx k hk with e | e
    · exact h.no k e
    · exact ⟨by omega, by omega, by omega, fun e2 => by have := h.wh.lt k e2; omega⟩
  refine ⟨hr, (hr.set 4 o2).congr ?_, (h.q1.fr f0 (fun e => (h.no _ e).2.1 rfl)).fr f1 (fun e => h.nt.1 e.symm), (h.q2.fr f0 (fun e => (h.no _ e).2.2.1 rfl)).fr f1 (fun e => h.nt.2 e.symm), own_fr ?_ f1 (fun k hk => (hno k hk).1), (h.wh.fr f0 (fun k hk e => (h.no k e).2.2.2 hk)).fr f1 (fun k hk => (h.nw k hk).1), h.nc, h.nt, hno, h.nw, h.nb, h.ng, ?_⟩
  · intro j hj
    have : j = 0 ∨ j = 1 ∨ j = 2 ∨ j = 3 ∨ j = 4 ∨ j = 5 ∨ j = 6 := by omega
    rcases this with rfl | rfl | rfl | rfl | rfl | rfl | rfl <;> rfl
  · show w'.ownsRow _ _ 1 o2 (S.out ++ [b]).length (bys (S.out ++ [b]))
    have e1 : (S.out ++ [b]).length = n := by rw [hn]; simp
    have e2 : bys (S.out ++ [b]) = bys S.out ++ [.int .u8 b] := by simp [bys]
    rw [e1, e2]
    exact hO
  · exact (h.bl.trans (f0.below hs (fun k hk e => by have := (hb k e).1; omega))).trans (f1.below (by have := f0.size; omega) (fun k hk e => by have := h.nb; omega))
end
end Go.Proofs.Ytmmikcpkaehooaa

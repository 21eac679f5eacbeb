/-
  Chapter 9: what a wheel's calls do to its list; New, find, behind, Next, At of package wheel.
-/
import Derived.Test.YtkfedihaldpgmaaGreatRows
import Derived.WalkKit
import Derived.WalkSpells
import Derived.Below
import Derived.Deep.OwnRows
import Derived.Deep.QuietTactic
import Derived.BigQuiet
import Derived.Lib.Hide
import Derived.Maps.AppendAt
import Derived.Deep.AppendLies
import Derived.Deep.DeepAppendRoom
import Derived.Lib.AppendZerosOnto
import Derived.Lib.Overlaps
import Derived.Laws.IdiomCopy
import Derived.Deep.MidRow
import Derived.OwnWalk
/-
  A frame that composes: only the blocks of S have turned; new ones may be there.
-/
namespace Go.Proofs.YtkfedihaldpgmaaGreat
open Go.RowKit
set_option linter.unusedVariables false

/-- only the blocks of S have turned; new ones may be there -/
structure Fr (S : Nat → Prop) (w w' : World) : Prop where
  os : w'.os = w.os
  tape : w'.tape = w.tape
  output : w'.output = w.output
  size : w.heap.size ≤ w'.heap.size
  block : ∀ k, k < w.heap.size → ¬ S k → w'.heap[k]? = w.heap[k]?
theorem Fr.refl (S : Nat → Prop) (w : World) : Fr S w w := ⟨rfl, rfl, rfl, Nat.le_refl _, fun _ _ _ => rfl⟩
theorem Fr.trans {S : Nat → Prop} {a b c : World} (h : Fr S a b) (k : Fr S b c) : Fr S a c :=
  ⟨k.os.trans h.os, k.tape.trans h.tape, k.output.trans h.output, Nat.le_trans h.size k.size, fun i hi hs => (k.block i (Nat.lt_of_lt_of_le hi h.size) hs).trans (h.block i hi hs)⟩
theorem Fr.mono {S S' : Nat → Prop} {a b : World} (h : Fr S a b) (hs : ∀ k, S k → S' k) : Fr S' a b := ⟨h.os, h.tape, h.output, h.size, fun i hi hn => h.block i hi fun x => hn (hs _ x)⟩
theorem Fr.drewN {S : Nat → Prop} {a b : World} (h : Fr S a b) (n : Nat) : Fr S a (b.drewN n) := ⟨h.os, h.tape, h.output, h.size, h.block⟩
theorem Fr.drew {S : Nat → Prop} {a b : World} (h : Fr S a b) : Fr S a b.drew := ⟨h.os, h.tape, h.output, h.size, h.block⟩
theorem Fr.alloc {S : Nat → Prop} {a b : World} (h : Fr S a b) (o : Obj) : Fr S a (b.alloc o) :=
  h.trans ⟨rfl, rfl, rfl, by simp, fun k hk _ => Below.heap_alloc _ _ _ hk⟩
theorem Fr.setCell {S : Nat → Prop} {a b : World} (h : Fr S a b) {x : Addr} (hx : S x.block ∨ a.heap.size ≤ x.block) (u : Value) : Fr S a (b.setCell x u) :=
  ⟨h.os, h.tape, h.output, by simpa [World.setCell] using h.size, fun i hi hn => (Below.heap_setCell b x u i (by
    rintro rfl
    rcases hx with hx | hx
    · exact hn hx
    · omega)).trans (h.block i hi hn)⟩
theorem Fr.of_below {S : Nat → Prop} {a b : World} (h : Below a.heap.size a b) : Fr S a b := ⟨h.os, h.tape, h.output, h.size, fun i hi _ => h.block i hi⟩
theorem Fr.below {S : Nat → Prop} {a b : World} {B : Nat} (h : Fr S a b) (hB : B ≤ a.heap.size) (hs : ∀ k, k < B → ¬ S k) : Below B a b := ⟨h.os, h.tape, h.output, h.size, fun i hi => h.block i (by omega) (hs i hi)⟩
theorem cell_fr {S : Nat → Prop} {w w' : World} {a : Addr} {v : Value} (f : Fr S w w') (h : w.cell? a = some v) (hs : ¬ S a.block) : w'.cell? a = some v := (World.cell?_of_block (f.block _ (block_lt_of_cell h) hs)).trans h
theorem ret_int {k : IntKind} {a b : Int} (h : a = b) : Ending.returned (.int k a) = .returned (.int k b) := by rw [h]
theorem ret_bool {a b : Bool} (h : a = b) : Ending.returned (.bool a) = .returned (.bool b) := by rw [h]
end Go.Proofs.YtkfedihaldpgmaaGreat

/-
  Chapter 9: events, lists of them, and what a slice of them is in memory; append, copy and clear of such slices; what a wheel is in memory.
-/
namespace Go.Proofs.YtkfedihaldpgmaaGreat
open Go.RowKit
set_option linter.unusedVariables false
set_option linter.unusedSimpArgs false

/-- an event: when, of which device, which Arm's -/
structure Ev where
  t : Int
  d : Int
  s : Int
def Ev.cells (e : Ev) : List Value := [.int .i64 e.t, .int .i64 e.d, .int .i64 e.s]
def Ev.agg (e : Ev) : Value := .agg #[.int .i64 e.t, .int .i64 e.d, .int .i64 e.s]
/-- the cells of a list of events -/
def evs (L : List Ev) : List Value := L.flatMap Ev.cells
theorem evs_nil : evs [] = [] := rfl
theorem evs_cons (e : Ev) (L : List Ev) : evs (e :: L) = e.cells ++ evs L := rfl
theorem evs_append (L M : List Ev) : evs (L ++ M) = evs L ++ evs M := by simp [evs]
theorem evs_len (L : List Ev) : (evs L).length = L.length * 3 := by
  induction L with
  | nil => rfl
  | cons e L ih => rw [evs_cons, List.length_append, ih, List.length_cons]; show 3 + _ = _; omega
theorem evs_take (L : List Ev) (i : Nat) : evs (L.take i) = (evs L).take (i * 3) := by
  induction L generalizing i with
  | nil => simp [evs]
  | cons e L ih =>
    cases i with
    | zero => simp [evs]
    | succ i => rw [List.take_succ_cons, evs_cons, evs_cons, ih, show (i + 1) * 3 = i * 3 + 1 + 1 + 1 by omega]; rfl
theorem evs_drop (L : List Ev) (i : Nat) : evs (L.drop i) = (evs L).drop (i * 3) := by
  induction L generalizing i with
  | nil => simp [evs]
  | cons e L ih =>
    cases i with
    | zero => simp [evs]
    | succ i => rw [List.drop_succ_cons, evs_cons, ih, show (i + 1) * 3 = i * 3 + 1 + 1 + 1 by omega]; rfl
theorem evs_one (L : List Ev) : ∀ u ∈ evs L, u.oneCell' = true := by
  intro u hu
  obtain ⟨e, _, he⟩ := List.mem_flatMap.1 hu
  simp [Ev.cells] at he
  rcases he with rfl | rfl | rfl <;> rfl
theorem evs_at (L : List Ev) (i : Nat) (hi : i < L.length) : (evs L)[i * 3]? = some (.int .i64 (L[i]).t) ∧ (evs L)[i * 3 + 1]? = some (.int .i64 (L[i]).d) ∧ (evs L)[i * 3 + 2]? = some (.int .i64 (L[i]).s) := by
  have e : L.drop i = L[i] :: L.drop (i + 1) := List.drop_eq_getElem_cons hi
  have h := evs_drop L i
  rw [e, evs_cons] at h
  have h0 : ∀ j, (evs L)[i * 3 + j]? = ((L[i]).cells ++ evs (L.drop (i + 1)))[j]? := fun j => by rw [h, List.getElem?_drop]
  exact ⟨h0 0, h0 1, h0 2⟩

/-! a slice of events that lies in a block of its own -/
/-- v holds the events L, from the start of a block of its own on -/
abbrev Ow (w : World) (v : Value) (L : List Ev) : Prop := w.ownsRow 0 84 3 v L.length (evs L)
theorem info_ev : (Tryz.prog.info? 84).map (fun i => (i.zero, i.size, i.bytes)) = some (some (.agg #[.int .i64 0, .int .i64 0, .int .i64 0]), 3, 24) := by kernel_rfl
theorem size_ev : (Tryz.prog.info? 84).map (·.size) = some 3 := by kernel_rfl
section
variable {w w' : World} {v : Value} {L : List Ev}
theorem Ow.form (h : Ow w v L) : ∃ A c, v = .slice A L.length c ∧ L.length ≤ c ∧ c ≤ 140737488355328 * 65536 ∧ (A = none → c = 0) ∧ (0 < L.length → ∃ b, A = some ⟨b, 0, none⟩) := by
  rcases h.2 with ⟨rfl, hn⟩ | ⟨g, cap, cur, rfl, _, _, hc, hm, _⟩
  · exact ⟨none, 0, by rw [hn], by omega, by omega, fun _ => rfl, fun h => by omega⟩
  · exact ⟨_, _, rfl, hc, by unfold maxLen at hm; omega, fun h => (by cases h), fun _ => ⟨_, rfl⟩⟩
theorem Ow.fr {S : Nat → Prop} (h : Ow w v L) (f : Fr S w w') (hs : ∀ k, v.ownBlock = some k → ¬ S k) : Ow w' v L := by
  refine ⟨h.1, ?_⟩
  rcases h.2 with h2 | ⟨g, cap, cur, rfl, hb, hh, r⟩
  · exact .inl h2
  · have hl : g < w.heap.size := (Array.getElem?_eq_some_iff.1 hh).1
    exact .inr ⟨g, cap, cur, rfl, hb, (f.block g hl (hs g rfl)).trans hh, r⟩
theorem Ow.lt (h : Ow w v L) : ∀ k, v.ownBlock = some k → k < w.heap.size := fun k hk => (World.ownsRow.lt h k hk).2
theorem Ow.cell {b c : Nat} (h : Ow w (.slice (some ⟨b, 0, none⟩) L.length c) L) (j : Nat) (u : Value) (hu : (evs L)[j]? = some u) : w.cell? ⟨b, j, none⟩ = some u := by
  have := World.ownsRow.cells h (g := b) rfl j u hu
  rwa [Addr.add_lit, Nat.zero_add] at this
theorem Ow.at {b c : Nat} (h : Ow w (.slice (some ⟨b, 0, none⟩) L.length c) L) {i : Nat} (hi : i < L.length) :
    w.cell? ⟨b, i * 3, none⟩ = some (.int .i64 (L[i]).t) ∧ w.cell? ⟨b, i * 3 + 1, none⟩ = some (.int .i64 (L[i]).d) ∧ w.cell? ⟨b, i * 3 + 2, none⟩ = some (.int .i64 (L[i]).s) := by
  obtain ⟨h0, h1, h2⟩ := evs_at L i hi
  exact ⟨h.cell _ _ h0, h.cell _ _ h1, h.cell _ _ h2⟩
end

/-! the row as a list of cells -/
/-- block g is a row of cap events, its cells cs -/
structure Rw (w : World) (g cap : Nat) (cs : List Value) : Prop where
  hp : w.heap[g]? = some (.cells cs.toArray 84 (0, 0))
  len : cs.length = cap * 3
  max : cap ≤ maxLen
/-- news laid over cs from place o on -/
def spl (cs : List Value) (o : Nat) (news : List Value) : List Value := cs.take o ++ news ++ cs.drop (o + news.length)
theorem spl_len (cs : List Value) (o : Nat) (news : List Value) (h : o + news.length ≤ cs.length) : (spl cs o news).length = cs.length := by
  simp [spl]; omega
section
variable {w w' : World} {g cap : Nat} {cs : List Value}
theorem Rw.of {L : List Ev} {n c : Nat} (h : Ow w (.slice (some ⟨g, 0, none⟩) n c) L) : ∃ cs, Rw w g c cs ∧ cs.take (L.length * 3) = evs L ∧ L.length ≤ c := by
  rcases h.2 with ⟨h0, _⟩ | ⟨g', cap, cur, hv, _, hh, hn, hm, hs, ht⟩
  · cases h0
  · cases hv
    exact ⟨cur.toList, ⟨by simpa using hh, by simpa using hs, hm⟩, ht, hn⟩
theorem Rw.ow {L : List Ev} (h : Rw w g cap cs) (hn : L.length ≤ cap) (ht : cs.take (L.length * 3) = evs L) : Ow w (.slice (some ⟨g, 0, none⟩) L.length cap) L :=
  ⟨evs_len L, .inr ⟨g, cap, _, rfl, Nat.zero_le _, h.hp, hn, h.max, by simpa using h.len, by simpa using ht⟩⟩
theorem Rw.set (h : Rw w g cap cs) (o : Nat) (news : List Value) (hf : o + news.length ≤ cs.length) : Rw (w.setRow g (spl cs o news).toArray) g cap (spl cs o news) :=
  ⟨setRow_heap w g _ _ _ _ h.hp, by rw [spl_len cs o news hf]; exact h.len, h.max⟩
theorem Rw.lt (h : Rw w g cap cs) : g < w.heap.size := (Array.getElem?_eq_some_iff.1 h.hp).1
theorem Rw.cell (h : Rw w g cap cs) (j : Nat) : w.cell? ⟨g, j, none⟩ = cs[j]? := by
  rw [cell_of_row w g j cs.toArray _ (0, 0) h.hp]; simp
theorem fr_setRow (w : World) (g : Nat) (u : Array Value) : Fr (fun k => k = g) w (w.setRow g u) :=
  ⟨rfl, rfl, rfl, by simp [World.setRow], fun i _ hn => setRow_other w g i u hn⟩
theorem fr_grown {row : Option Nat} (h : w.grownBy w' row) : Fr (fun k => row = some k) w w' := ⟨h.os, h.tape, h.output, h.size, fun k hk hn => h.block k hk (fun e => hn e.symm)⟩
theorem Rw.fr {S : Nat → Prop} (h : Rw w g cap cs) (f : Fr S w w') (hs : ¬ S g) : Rw w' g cap cs := ⟨(f.block g h.lt hs).trans h.hp, h.len, h.max⟩
end

/-! the builtins -/
/-- slice x shows the events L -/
def Sh (w : World) (x : Value) (L : List Ev) : Prop := (∃ c, x = .slice none 0 c ∧ L = []) ∨ ∃ b o c, x = .slice (some ⟨b, o, none⟩) L.length c ∧ ∀ j u, (evs L)[j]? = some u → w.cell? ⟨b, o + j, none⟩ = some u
section
variable {w w' : World} {L M : List Ev}
theorem Ow.sh {v : Value} (h : Ow w v L) : Sh w v L := by
  rcases h.2 with ⟨rfl, hn⟩ | ⟨g, cap, cur, rfl, r⟩
  · exact .inl ⟨0, rfl, List.eq_nil_of_length_eq_zero hn⟩
  · exact .inr ⟨g, 0, cap, rfl, fun j u hu => by rw [Nat.zero_add]; exact h.cell j u hu⟩
theorem Sh.fr {S : Nat → Prop} {x : Value} (h : Sh w x L) (f : Fr S w w') (hs : ∀ k, x.ownBlock = some k → ¬ S k) : Sh w' x L := by
  rcases h with h | ⟨b, o, c, rfl, h⟩
  · exact .inl h
  · exact .inr ⟨b, o, c, rfl, fun j u hu => cell_fr f (h j u hu) (hs b rfl)⟩
theorem run_append_nil9 (ty : TypeId) {v : Value} (hown : Ow w v L) (c : Nat) : (Builtin.append_ #[46, 46] ty #[v, .slice none 0 c]).run Tryz.prog w = .ok v w := by
  obtain ⟨i0, hi, hi3⟩ := Option.map_eq_some_iff.1 info_ev
  rcases hown.2 with ⟨rfl, _⟩ | ⟨g, cap, cur, rfl, _, _, hnc, _⟩
  · simp [Builtin.append_, run_underlying Tryz.underlying46, sizeOf, typeInfo, hi, Builtin.lenOf, Builtin.firstCells]
  · simp [Builtin.append_, run_underlying Tryz.underlying46, sizeOf, typeInfo, hi, Builtin.lenOf, Builtin.firstCells, hnc, storeCells]
/-- append of events to events that lie in a block of their own -/
theorem run_append_ev (ty : TypeId) {v x : Value} (hown : Ow w v L) (hx : Sh w x M) (hb : L.length + M.length ≤ 1000000) :
    ∃ v' w', (Builtin.append_ #[46, 46] ty #[v, x]).run Tryz.prog w = .ok v' w' ∧ Ow w' v' (L ++ M) ∧ Fr (fun k => v.ownBlock = some k) w w' ∧ (v'.ownBlock = v.ownBlock ∨ v'.ownBlock = some w.heap.size) := by
  rcases hx with ⟨c, rfl, rfl⟩ | ⟨b, o, c, rfl, hc⟩
  · exact ⟨v, w, run_append_nil9 ty hown c, by simpa using hown, Fr.refl _ _, .inl rfl⟩
  · obtain ⟨i0, hi, hi3⟩ := Option.map_eq_some_iff.1 info_ev
    simp only [Prod.mk.injEq] at hi3
    obtain ⟨hz0, hz1, hz2⟩ := hi3
    obtain ⟨v', w', hr, h1, h2, _, h4⟩ := run_append_own_at (P := Tryz.prog) w 0 46 ty 84 i0 _ 3 24 Tryz.underlying46 hi hz0 hz1 hz2 rfl (by decide) v L.length (evs L) hown ⟨b, o, none⟩ M.length c (evs M) (evs_len M)
      (fun j u hu => by rw [Addr.add_lit]; exact hc j u hu) (evs_one M) (by unfold maxLen; omega) (by omega) (Nat.zero_le _)
    refine ⟨v', w', hr, ?_, fr_grown h2, h4⟩
    show w'.ownsRow 0 _ 3 v' (L ++ M).length (evs (L ++ M))
    rw [List.length_append, evs_append]
    exact h1
/-- append where there is room: in its place -/
theorem run_append_in {w : World} (ty : TypeId) {g cap n m : Nat} {cs news : List Value} (h : Rw w g cap cs) (b o c : Nat) (hl : news.length = m * 3) (hc : ∀ j u, news[j]? = some u → w.cell? ⟨b, o + j, none⟩ = some u) (h1 : ∀ u ∈ news, u.oneCell' = true) (hr : n + m ≤ cap) :
    (Builtin.append_ #[46, 46] ty #[.slice (some ⟨g, 0, none⟩) n cap, .slice (some ⟨b, o, none⟩) m c]).run Tryz.prog w = .ok (.slice (some ⟨g, 0, none⟩) (n + m) cap) (w.setRow g (spl cs (n * 3) news).toArray) := by
  obtain ⟨i0, hi, hi3⟩ := Option.map_eq_some_iff.1 size_ev
  have hi3 : i0.size = 3 := hi3
  have := run_append_room (P := Tryz.prog) w 46 ty 84 i0 Tryz.underlying46 hi g n cap cs.toArray h.hp ⟨b, o, none⟩ m c news (by rw [hi3]; exact hl) (fun j u hu => by rw [Addr.add_lit]; exact hc j u hu) h1 hr (by have := h.len; rw [hi3]; simp; omega)
  rw [this, hi3]
  rfl
/-- copy into a row -/
theorem run_copy_in {w : World} (ty : TypeId) {g cap o m : Nat} {cs news : List Value} (h : Rw w g cap cs) (dLen dCap sLen sCap b p : Nat) (hm : Nat.min sLen dLen = m) (hl : news.length = m * 3) (hc : ∀ j u, news[j]? = some u → w.cell? ⟨b, p + j, none⟩ = some u) (h1 : ∀ u ∈ news, u.oneCell' = true) (hr : o + m * 3 ≤ cap * 3) :
    (Builtin.copy_ #[46, 46] ty #[.slice (some ⟨g, o, none⟩) dLen dCap, .slice (some ⟨b, p, none⟩) sLen sCap]).run Tryz.prog w = .ok (goInt m) (w.setRow g (spl cs o news).toArray) := by
  obtain ⟨i0, hi, hi3⟩ := Option.map_eq_some_iff.1 size_ev
  have hi3 : i0.size = 3 := hi3
  have hld := run_loadCells_list (P := Tryz.prog) w ⟨b, p, none⟩ news (fun j u hu => by rw [Addr.add_lit]; exact hc j u hu)
  have hst := run_storeCells_at Tryz.prog g o 84 news 0 cs.toArray w h.hp (by have := h.len; simp; omega) h1
  simp only [Nat.add_zero] at hst
  rw [hl] at hld
  simp [Builtin.copy_, run_underlying Tryz.underlying46, Builtin.lenOf, Builtin.firstCells, sizeOf, typeInfo, hi, hi3, hm, hld, hst, spl]
/-- clear of one event -/
theorem run_clear_in {w : World} (ty : TypeId) {g cap o : Nat} {cs : List Value} (h : Rw w g cap cs) (c : Nat) (hr : o + 3 ≤ cap * 3) :
    (Builtin.clear_ #[46] ty #[.slice (some ⟨g, o, none⟩) 1 c]).run Tryz.prog w = .ok (.tuple #[]) (w.setRow g (spl cs o [.int .i64 0, .int .i64 0, .int .i64 0]).toArray) := by
  obtain ⟨i0, hi, hi3⟩ := Option.map_eq_some_iff.1 info_ev
  simp only [Prod.mk.injEq] at hi3
  obtain ⟨hz0, hz1, hz2⟩ := hi3
  have hst := run_storeCells_at Tryz.prog g o 84 [.int .i64 0, .int .i64 0, .int .i64 0] 0 cs.toArray w h.hp (by have := h.len; simp; omega) (by intro u hu; simp at hu; subst hu; rfl)
  simp only [Nat.add_zero] at hst
  have hzc : (Builtin.zeroCells (Value.cells (.agg #[.int .i64 0, .int .i64 0, .int .i64 0])) 1).toList = [.int .i64 0, .int .i64 0, .int .i64 0] := by kernel_rfl
  simp [Builtin.clear_, run_underlying Tryz.underlying46, zeroValue, typeInfo, hi, hz0, hzc, hst, spl]
end

/-! a wheel -/
def two (u v : Value) : Nat → Value
  | 0 => u
  | _ => v
/-- block g is a wheel (its struct of type T) whose slice v holds the events L; a Arms were let by -/
structure Wh (T : TypeId) (w : World) (g : Nat) (v : Value) (L : List Ev) (a : Int) : Prop where
  st : w.rowIs g T 2 (two v (.int .i64 a))
  ev : Ow w v L
  ne : v.ownBlock ≠ some g
/-- its own blocks -/
def Own (g : Nat) (v : Value) (k : Nat) : Prop := k = g ∨ v.ownBlock = some k
section
variable {T : TypeId} {w w' : World} {g : Nat} {v : Value} {L : List Ev} {a : Int}
theorem Wh.c0 (h : Wh T w g v L a) : w.cell? ⟨g, 0, none⟩ = some v := h.st.cell (i := 0) (by omega)
theorem Wh.c1 (h : Wh T w g v L a) : w.cell? ⟨g, 1, none⟩ = some (.int .i64 a) := h.st.cell (i := 1) (by omega)
theorem Wh.fr {S : Nat → Prop} (h : Wh T w g v L a) (f : Fr S w w') (hs : ∀ k, Own g v k → ¬ S k) : Wh T w' g v L a :=
  ⟨h.st.of_block (f.block _ h.st.lt (hs g (.inl rfl))), h.ev.fr f (fun k hk => hs k (.inr hk)), h.ne⟩
theorem Wh.lt (h : Wh T w g v L a) : ∀ k, Own g v k → k < w.heap.size := by
  rintro k (rfl | hk)
  · exact h.st.lt
  · exact h.ev.lt k hk
theorem Wh.drewN (h : Wh T w g v L a) (n : Nat) : Wh T (w.drewN n) g v L a := h.fr ((Fr.refl (fun _ => False) w).drewN n) (fun _ _ => id)
theorem Wh.below (h : Wh T w g v L a) (b : Below w.heap.size w w') : Wh T w' g v L a := h.fr (Fr.of_below (S := fun _ => False) b) (fun _ _ => id)
/-- the slice is another one -/
theorem Wh.setV {v2 : Value} {L2 : List Ev} (h : w.rowIs g T 2 (two v (.int .i64 a))) (hv : Ow w v2 L2) (hn : v2.ownBlock ≠ some g) : Wh T (w.setCell ⟨g, 0, none⟩ v2) g v2 L2 a :=
  ⟨(h.set 0 v2).congr (fun j hj => by
      have : j = 0 ∨ j = 1 := by omega
      rcases this with rfl | rfl <;> rfl), hv.fr ((Fr.refl (fun k => k = g) w).setCell (x := ⟨g, 0, none⟩) (.inl rfl) v2) (fun k hk e => hn (e ▸ hk)), hn⟩
theorem Wh.setA (h : Wh T w g v L a) (a2 : Int) : Wh T (w.setCell ⟨g, 1, none⟩ (.int .i64 a2)) g v L a2 :=
  ⟨(h.st.set 1 _).congr (fun j hj => by
      have : j = 0 ∨ j = 1 := by omega
      rcases this with rfl | rfl <;> rfl), h.ev.fr ((Fr.refl (fun k => k = g) w).setCell (x := ⟨g, 1, none⟩) (.inl rfl) _) (fun k hk e => h.ne (e ▸ hk)), h.ne⟩
end
/-- of what was there a wheel's own blocks alone have turned, and its slice lies where it lay or in new memory -/
structure Ch (g : Nat) (v v2 : Value) (w w' : World) : Prop where
  fr : Fr (Own g v) w w'
  nw : ∀ k, v2.ownBlock = some k → v.ownBlock = some k ∨ w.heap.size ≤ k
theorem Ch.of_below {g : Nat} {v : Value} {w w' : World} (b : Below w.heap.size w w') : Ch g v v w w' := ⟨Fr.of_below b, fun _ h => .inl h⟩
theorem Ch.trans {g : Nat} {v v2 v3 : Value} {w w1 w2 : World} (h : Ch g v v2 w w1) (k : Ch g v2 v3 w1 w2) : Ch g v v3 w w2 := by
  refine ⟨⟨k.fr.os.trans h.fr.os, k.fr.tape.trans h.fr.tape, k.fr.output.trans h.fr.output, Nat.le_trans h.fr.size k.fr.size, fun i hi hn => ?_⟩, fun i hi => ?_⟩
  · refine (k.fr.block i (Nat.lt_of_lt_of_le hi h.fr.size) ?_).trans (h.fr.block i hi hn)
    rintro (e | e)
    · exact hn (.inl e)
    · rcases h.nw i e with e | e
      · exact hn (.inr e)
      · omega
  · rcases k.nw i hi with e | e
    · exact h.nw i e
    · exact .inr (Nat.le_trans h.fr.size e)
/-- it returns x; the wheel holds L2 now, a2 Arms were let by -/
def RetW (T : TypeId) (x : Value) (w : World) (g : Nat) (v : Value) (L2 : List Ev) (a2 : Int) (e : Ending) (w' : World) : Prop :=
  e = .returned x ∧ ∃ v2, Wh T w' g v2 L2 a2 ∧ Ch g v v2 w w'
/-- it returns x, and what was there is as it was -/
def RetB (x : Value) (w : World) (e : Ending) (w' : World) : Prop := e = .returned x ∧ Below w.heap.size w w'
end Go.Proofs.YtkfedihaldpgmaaGreat

namespace Go.Proofs.YtkfedihaldpgmaaGreat
open Go.RowKit
set_option linter.unusedVariables false
set_option linter.unusedSimpArgs false

/-- the place of the device's event; of none: the list's length -/
def ixD (d : Int) (L : List Ev) : Nat := L.findIdx fun e => e.d == d
/-- the place behind all events up to t -/
def ixA (t : Int) (L : List Ev) : Nat := L.findIdx fun e => decide (t < e.t)
def delF (d : Int) (L : List Ev) : List Ev := L.eraseIdx (ixD d L)
def cancB (d : Int) (L : List Ev) : Bool := decide (ixD d L < L.length)
def insF (L : List Ev) (i : Nat) (e : Ev) : List Ev := L.take i ++ e :: L.drop i
def okB (d t : Int) : Bool := decide (0 ≤ d ∧ d < 16 ∧ 0 ≤ t)
def armF (d t a : Int) (L : List Ev) : List Ev := insF (delF d L) (ixA t (delF d L)) ⟨t, d, a⟩
def armL (d t a : Int) (L : List Ev) : List Ev := if okB d t = true then armF d t a L else L
def armA (d t a : Int) : Int := if okB d t = true then a + 1 else a
def atV (d : Int) (L : List Ev) : Int := match L[ixD d L]? with
  | some e => e.t
  | none => 0
def nextV (L : List Ev) : Int := match L with
  | e :: _ => e.t
  | [] => 0
def dueB (now : Int) (L : List Ev) : Bool := match L with
  | e :: _ => decide (e.t ≤ now)
  | [] => false
def headE (L : List Ev) : Ev := match L with
  | e :: _ => e
  | [] => ⟨0, 0, 0⟩
def takeE (now : Int) (L : List Ev) : Ev := if dueB now L = true then headE L else ⟨0, 0, 0⟩
def takeL (now : Int) (L : List Ev) : List Ev := if dueB now L = true then L.eraseIdx 0 else L
/-- what find answers -/
def fdV (d : Int) (L : List Ev) : Int := if ixD d L < L.length then (ixD d L : Int) else -1
theorem ixD_le (d : Int) (L : List Ev) : ixD d L ≤ L.length := List.findIdx_le_length
theorem ixA_le (t : Int) (L : List Ev) : ixA t L ≤ L.length := List.findIdx_le_length
theorem ixD_hit {d : Int} {L : List Ev} {k : Nat} (hk : k < L.length) (h : (L[k]).d = d) (hb : ∀ j (hj : j < k), (L[j]'(by omega)).d ≠ d) : ixD d L = k := by
  unfold ixD
  rw [List.findIdx_eq hk]
  exact ⟨by simpa using h, fun j hj => by simpa using hb j hj⟩
theorem ixD_none {d : Int} {L : List Ev} (hb : ∀ j (hj : j < L.length), (L[j]).d ≠ d) : ixD d L = L.length := by
  unfold ixD
  rw [List.findIdx_eq_length]
  intro x hx
  obtain ⟨j, hj, rfl⟩ := List.getElem_of_mem hx
  simpa using hb j hj
theorem ixA_hit {t : Int} {L : List Ev} {k : Nat} (hk : k < L.length) (h : t < (L[k]).t) (hb : ∀ j (hj : j < k), (L[j]'(by omega)).t ≤ t) : ixA t L = k := by
  unfold ixA
  rw [List.findIdx_eq hk]
  exact ⟨by simpa using h, fun j hj => by simpa using hb j hj⟩
theorem ixA_none {t : Int} {L : List Ev} (hb : ∀ j (hj : j < L.length), (L[j]).t ≤ t) : ixA t L = L.length := by
  unfold ixA
  rw [List.findIdx_eq_length]
  intro x hx
  obtain ⟨j, hj, rfl⟩ := List.getElem_of_mem hx
  simpa using hb j hj
theorem delF_len (d : Int) (L : List Ev) : (delF d L).length ≤ L.length := by
  unfold delF
  rw [List.length_eraseIdx]
  split <;> omega
theorem insF_len (L : List Ev) (i : Nat) (e : Ev) (hi : i ≤ L.length) : (insF L i e).length = L.length + 1 := by simp [insF]; omega

section
variable {w : World} {g : Nat} {v : Value} {L : List Ev} {a : Int}
set_option maxHeartbeats 400000 in
theorem wnew_any (w : World) : Calls Tryz.prog 52 #[] w fun e w' => ∃ g, w.heap.size ≤ g ∧ e = .returned (.pointer (some ⟨g, 0, none⟩)) ∧ Wh 125 w' g (.slice none 0 0) [] 0 ∧ Below w.heap.size w w' := by
  go_enter Tryz.func52, Tryz.ntmps52
  go_wp2
  go_ret
  refine ⟨_, Nat.le_refl _, rfl, ⟨World.rowIs_alloc w _ _ _ fun i hi => ?_, World.ownsRow_nil _ _ _ _, by simp [Value.ownBlock]⟩, (Below.refl _ _).alloc (Nat.le_refl _) _⟩
  have : i = 0 ∨ i = 1 := by have : i < 2 := hi; omega
  rcases this with rfl | rfl <;> rfl

set_option maxHeartbeats 1000000 in
theorem find_any (d : Int) (h : Wh 125 w g v L a) (hl : L.length ≤ 1000000) :
    Calls Tryz.prog 117 #[.pointer (some ⟨g, 0, none⟩), .int .i64 d] w (RetB (.int .i64 (fdV d L)) w) := by
  have c0 := h.c0
  obtain ⟨A, c, rfl, hc, hcm, hz, hA⟩ := h.ev.form
  have HA := Lib.hid hA
  clear hA hz
  go_enter Tryz.func117, Tryz.ntmps117
  go_wp2
  go_loopw [12] (fun i wr => ∃ k : Nat, k ≤ L.length ∧ i = .int .i64 k ∧ Below w.heap.size w wr ∧ Hid (∀ j (hj : j < L.length), j < k → (L[j]).d ≠ d)) (fun i _ => L.length - (intOf i).toNat)
  case atStart => exact ⟨0, by omega, rfl, Below.refl _ _, fun j _ hj => by omega⟩
  case round =>
    obtain ⟨k, hk, rfl, hB, HN⟩ := hrel
    by_cases hlt : k < L.length
    · obtain ⟨b, rfl⟩ := HA.out (by omega)
      obtain ⟨q0, q1, q2⟩ := (h.below hB).ev.at hlt
      by_cases hd : (L[k]).d = d
      · have HD := Lib.hid hd
        have hdb : ((L[k]).d == d) = true := by simpa using hd
        clear hd
        go_wp2
        go_ret
        refine ⟨?_, hB.alloc hB.size _⟩
        have e := ixD_hit hlt HD.out (fun j hj => HN.out j (by omega) hj)
        exact ret_int (by unfold fdV; rw [if_pos (by rw [e]; exact hlt), e])
      · have HD := Lib.hid hd
        have hdb : ((L[k]).d == d) = false := by simpa using hd
        clear hd
        go_wp2
        go_roundw
        case rel =>
          refine ⟨k + 1, by omega, by go_num, hB.alloc hB.size _, fun j hj hjk => ?_⟩
          by_cases e : j = k
          · subst e; exact HD.out
          · exact HN.out j hj (by omega)
        case measure => simp [intOf]; omega
    · go_wp2
      go_ret
      refine ⟨?_, hB⟩
      have e := ixD_none (d := d) (L := L) (fun j hj => HN.out j hj (by omega))
      exact ret_int (by unfold fdV; rw [if_neg (by omega)])


set_option maxHeartbeats 1000000 in
theorem behind_any (t : Int) (h : Wh 125 w g v L a) (hl : L.length ≤ 1000000) :
    Calls Tryz.prog 116 #[.pointer (some ⟨g, 0, none⟩), .int .i64 t] w (RetB (.int .i64 (ixA t L : Int)) w) := by
  have c0 := h.c0
  obtain ⟨A, c, rfl, hc, hcm, hz, hA⟩ := h.ev.form
  have HA := Lib.hid hA
  clear hA hz
  go_enter Tryz.func116, Tryz.ntmps116
  go_wp2
  go_loopw [12] (fun i wr => ∃ k : Nat, k ≤ L.length ∧ i = .int .i64 k ∧ Below w.heap.size w wr ∧ Hid (∀ j (hj : j < L.length), j < k → (L[j]).t ≤ t)) (fun i _ => L.length - (intOf i).toNat)
  case atStart => exact ⟨0, by omega, rfl, Below.refl _ _, fun j _ hj => by omega⟩
  case round =>
    obtain ⟨k, hk, rfl, hB, HN⟩ := hrel
    have c0' := (h.below hB).c0
    by_cases hlt : k < L.length
    · obtain ⟨b, rfl⟩ := HA.out (by omega)
      obtain ⟨q0, q1, q2⟩ := (h.below hB).ev.at hlt
      by_cases hd : t < (L[k]).t
      · go_wp2
        go_ret
        refine ⟨?_, hB.alloc hB.size _⟩
        have e := ixA_hit hlt hd (fun j hj => HN.out j (by omega) hj)
        rw [e]
        rfl
      · have HD := Lib.hid hd
        have hdb : decide (t < (L[k]).t) = false := by simpa using hd
        clear hd
        go_wp2
        go_roundw
        case rel =>
          refine ⟨k + 1, by omega, by go_num, hB.alloc hB.size _, fun j hj hjk => ?_⟩
          by_cases e : j = k
          · subst e; exact Int.not_lt.1 HD.out
          · exact HN.out j hj (by omega)
        case measure => simp [intOf]; omega
    · go_wp2
      go_ret
      refine ⟨?_, hB⟩
      have e := ixA_none (t := t) (L := L) (fun j hj => HN.out j hj (by omega))
      rw [e]
      rfl

theorem nextV_cons {L : List Ev} (h : 0 < L.length) : nextV L = (L[0]).t := by
  cases L with
  | nil => simp at h
  | cons e L => rfl
set_option maxHeartbeats 400000 in
theorem next_any (h : Wh 125 w g v L a) :
    Calls Tryz.prog 72 #[.pointer (some ⟨g, 0, none⟩)] w fun e w' => e = .returned (.tuple #[.int .i64 (nextV L), .bool (decide (0 < L.length))]) ∧ w = w' := by
  have c0 := h.c0
  obtain ⟨A, c, rfl, hc, hcm, hz, hA⟩ := h.ev.form
  have HA := Lib.hid hA
  clear hA hz
  by_cases h0 : 0 < L.length
  · obtain ⟨b, rfl⟩ := HA.out h0
    obtain ⟨q0, q1, q2⟩ := h.ev.at h0
    have hN := Lib.hid (nextV_cons h0)
    have hne : ((L.length : Int) == 0) = false := beq_false_of_ne (by omega)
    rw [Nat.zero_mul] at q0
    go_enter Tryz.func72, Tryz.ntmps72
    go_wp2
    go_ret2
    exact ⟨by rw [hN.out, decide_eq_true h0]; rfl, rfl⟩
  · have hn : L.length = 0 := by omega
    have hL : L = [] := List.eq_nil_of_length_eq_zero hn
    subst hL
    clear h0 hn
    go_enter Tryz.func72, Tryz.ntmps72
    go_wp2
    go_ret2
    exact ⟨rfl, rfl⟩

theorem fdV_hit {d : Int} (h : ixD d L < L.length) : fdV d L = (ixD d L : Int) := by unfold fdV; rw [if_pos h]
theorem fdV_none {d : Int} (h : ¬ ixD d L < L.length) : fdV d L = -1 := by unfold fdV; rw [if_neg h]
theorem atV_hit {d : Int} (h : ixD d L < L.length) : atV d L = (L[ixD d L]).t := by unfold atV; rw [List.getElem?_eq_getElem h]
theorem atV_none {d : Int} (h : ¬ ixD d L < L.length) : atV d L = 0 := by unfold atV; rw [List.getElem?_eq_none (by omega)]
end
end Go.Proofs.YtkfedihaldpgmaaGreat

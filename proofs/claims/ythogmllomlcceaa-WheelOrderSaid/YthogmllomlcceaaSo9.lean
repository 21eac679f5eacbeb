/-
  Chapter 9: what the walk of WheelOrder keeps: the list is in order, each event is its device's.
-/
import Derived.Test.YthogmllomlcceaaKn9
import Derived.Test.YthogmllomlcceaaRt9
namespace Go.Proofs.Ythogmllomlcceaa
open Go.RowKit
set_option linter.unusedVariables false
set_option linter.unusedSimpArgs false

def Ev.lt (x y : Ev) : Prop := x.t < y.t ∨ x.t = y.t ∧ x.s < y.s
/-- behind i Arms -/
structure Arms (F : Nat → Int) (i : Nat) (L : List Ev) : Prop where
  len : L.length = i
  srt : L.Pairwise Ev.lt
  all : ∀ e ∈ L, ∃ j : Nat, j < i ∧ e.d = j ∧ e.t = F j ∧ e.s < i
theorem Arms.zero (F : Nat → Int) : Arms F 0 [] := ⟨rfl, List.Pairwise.nil, fun e h => by cases h⟩
theorem take_ixA {t : Int} {L : List Ev} : ∀ e ∈ L.take (ixA t L), e.t ≤ t := by
  intro e he
  obtain ⟨j, hj, rfl⟩ := List.getElem_of_mem he
  rw [List.length_take] at hj
  rw [List.getElem_take]
  have := List.not_of_lt_findIdx (p := fun e : Ev => decide (t < e.t)) (xs := L) (i := j) (by unfold ixA at hj; omega)
  have h2 : ¬ t < (L[j]'(by omega)).t := by simpa using this
  omega
theorem drop_ixA {t : Int} {L : List Ev} (hs : L.Pairwise Ev.lt) : ∀ e ∈ L.drop (ixA t L), t < e.t := by
  intro e he
  have hlt : ixA t L < L.length := by
    rcases Nat.lt_or_ge (ixA t L) L.length with h | h
    · exact h
    · rw [List.drop_eq_nil_of_le h] at he; cases he
  have h0 : t < (L[ixA t L]).t := by
    have := List.findIdx_getElem (p := fun e : Ev => decide (t < e.t)) (xs := L) (w := hlt)
    exact of_decide_eq_true this
  have hp := hs.drop (i := ixA t L)
  rw [List.drop_eq_getElem_cons hlt] at he hp
  rcases List.mem_cons.1 he with rfl | he
  · exact h0
  · have := (List.pairwise_cons.1 hp).1 e he
    unfold Ev.lt at this
    omega
theorem Arms.arm {F : Nat → Int} {i : Nat} {L : List Ev} (h : Arms F i L) {t : Int} (ht : t = F i) : Arms F (i + 1) (armF i t i L) := by
  have hd : delF (i : Int) L = L := by
    apply delF_none
    rw [ixD_none]
    · omega
    · intro j hj e
      obtain ⟨k, hk, hd, _⟩ := h.all _ (List.getElem_mem hj)
      omega
  unfold armF
  rw [hd]
  refine ⟨by rw [insF_len _ _ _ (ixA_le _ _), h.len], ?_, ?_⟩
  · unfold insF
    rw [List.pairwise_append]
    refine ⟨h.srt.take, ?_, ?_⟩
    · rw [List.pairwise_cons]
      exact ⟨fun e he => .inl (drop_ixA h.srt e he), h.srt.drop⟩
    · intro x hx y hy
      have h1 := take_ixA x hx
      obtain ⟨k, hk, _, _, hs⟩ := h.all x (List.mem_of_mem_take hx)
      rcases List.mem_cons.1 hy with rfl | hy
      · show x.t < t ∨ x.t = t ∧ x.s < (i : Int)
        omega
      · exact .inl (by have := drop_ixA h.srt y hy; omega)
  · intro e he
    unfold insF at he
    have : e ∈ L ∨ e = ⟨t, i, i⟩ := by
      rcases List.mem_append.1 he with he | he
      · exact .inl (List.mem_of_mem_take he)
      · rcases List.mem_cons.1 he with he | he
        · exact .inr he
        · exact .inl (List.mem_of_mem_drop he)
    rcases this with he | rfl
    · obtain ⟨k, hk, h1, h2, h3⟩ := h.all e he
      exact ⟨k, by omega, h1, h2, by omega⟩
    · exact ⟨i, by omega, rfl, ht, by show (i : Int) < ((i + 1 : Nat) : Int); omega⟩
/-- while events are taken: the last one was x -/
structure Goes (F : Nat → Int) (n : Nat) (L : List Ev) (x : Ev) (now : Int) : Prop where
  srt : L.Pairwise Ev.lt
  all : ∀ e ∈ L, ∃ j : Nat, j < n ∧ e.d = j ∧ e.t = F j
  lst : ∀ e ∈ L, x.lt e
  now : ∀ e ∈ L, now ≤ e.t
theorem Arms.goes {F : Nat → Int} {n : Nat} {L : List Ev} (h : Arms F n L) (hF : ∀ j, 0 ≤ F j) : Goes F n L ⟨-1, 0, 0⟩ 0 :=
  ⟨h.srt, fun e he => by obtain ⟨j, h1, h2, h3, _⟩ := h.all e he; exact ⟨j, h1, h2, h3⟩, fun e he => by obtain ⟨j, h1, h2, h3, _⟩ := h.all e he; exact .inl (by have := hF j; show (-1 : Int) < e.t; omega), fun e he => by obtain ⟨j, h1, h2, h3, _⟩ := h.all e he; have := hF j; omega⟩
theorem Goes.take {F : Nat → Int} {n : Nat} {L : List Ev} {x e : Ev} {now : Int} (h : Goes F n (e :: L) x now) : Goes F n L e now :=
  ⟨(List.pairwise_cons.1 h.srt).2, fun y hy => h.all y (List.mem_cons_of_mem _ hy), fun y hy => (List.pairwise_cons.1 h.srt).1 y hy, fun y hy => h.now y (List.mem_cons_of_mem _ hy)⟩
theorem Goes.next {F : Nat → Int} {n : Nat} {L : List Ev} {x : Ev} {now : Int} (h : Goes F n L x now) (hd : dueB now L = false) : Goes F n L x (now + 1) := by
  refine ⟨h.srt, h.all, h.lst, ?_⟩
  cases L with
  | nil => intro e he; cases he
  | cons y r =>
    have hy : now < y.t := by simpa [dueB] using hd
    intro e he
    rcases List.mem_cons.1 he with rfl | he
    · omega
    · have := (List.pairwise_cons.1 h.srt).1 e he
      unfold Ev.lt at this
      omega
theorem Goes.fin {F : Nat → Int} {n : Nat} {L : List Ev} {x : Ev} (h : Goes F n L x 60) (hF : ∀ j, F j < 50) : L = [] := by
  cases L with
  | nil => rfl
  | cons y r =>
    obtain ⟨j, _, _, e⟩ := h.all y (by simp)
    have := h.now y (by simp)
    have := hF j
    omega
theorem One.drewN {W0 w : World} {g : Nat} {v : Value} {L : List Ev} {a : Int} (h : One W0 w g v L a) (n : Nat) : One W0 (w.drewN n) g v L a := ⟨h.wh.drewN n, h.nw, ⟨h.bl.os, h.bl.tape, h.bl.output, h.bl.size, h.bl.block⟩⟩
theorem Bx.drewN {w : World} {X g : Nat} {v : Value} {x : Ev} (h : Bx w X g v x) (n : Nat) : Bx (w.drewN n) X g v x := ⟨h.row, h.no⟩
theorem One.box {W0 w : World} {g X : Nat} {v : Value} {L : List Ev} {a : Int} {x : Ev} (h : One W0 w g v L a) (hb : Bx w X g v x) (hX : W0.heap.size ≤ X) (y : Ev) :
    One W0 (((w.setCell ⟨X, 0, none⟩ (.int .i64 y.t)).setCell ⟨X, 1, none⟩ (.int .i64 y.d)).setCell ⟨X, 2, none⟩ (.int .i64 y.s)) g v L a ∧ Bx (((w.setCell ⟨X, 0, none⟩ (.int .i64 y.t)).setCell ⟨X, 1, none⟩ (.int .i64 y.d)).setCell ⟨X, 2, none⟩ (.int .i64 y.s)) X g v y := by
  have hF := fr3 w X (.int .i64 y.t) (.int .i64 y.d) (.int .i64 y.s)
  have hr := three_set hb.row y
  refine ⟨⟨h.wh.fr hF (fun k hk e => hb.no (e ▸ hk)), h.nw, h.bl.trans (hF.below h.bl.size (fun k hk e => by omega))⟩, ⟨hr, hb.no⟩⟩
end Go.Proofs.Ythogmllomlcceaa

/-
  Chapter 9: what a wheel's calls do to its list; New, find, behind, Next, At of package wheel.
-/
import Derived.Test.YtifhnidcdfpabaaEv9
namespace Go.Proofs.Ytifhnidcdfpabaa
open Go.RowKit
set_option linter.unusedVariables false
set_option linter.unusedSimpArgs false

/-- the place of the device's event; of none: the list's length -/
def ixD (d : Int) (L : List Ev) : Nat := L.findIdx fun e => e.d == d
/-- the place behind all events up to t -/
def ixA (t : Int) (L : List Ev) : Nat := L.findIdx fun e => decide (t < e.t)
def delF (d : Int) (L : List Ev) : List Ev := L.eraseIdx (ixD d L)
def cancB (d : Int) (L : List Ev) : Bool := decide (ixD d L < L.length)
def insF (L : List Ev) (i : Nat) (e : Ev) : List Ev := L.take i ++ e :: L.drop i
def okB (d t : Int) : Bool := decide (0 ≤ d ∧ d < 16 ∧ 0 ≤ t)
def armF (d t a : Int) (L : List Ev) : List Ev := insF (delF d L) (ixA t (delF d L)) ⟨t, d, a⟩
def armL (d t a : Int) (L : List Ev) : List Ev := if okB d t = true then armF d t a L else L
def armA (d t a : Int) : Int := if okB d t = true then a + 1 else a
def atV (d : Int) (L : List Ev) : Int := match L[ixD d L]? with
  | some e => e.t
  | none => 0
def nextV (L : List Ev) : Int := match L with
  | e :: _ => e.t
  | [] => 0
def dueB (now : Int) (L : List Ev) : Bool := match L with
  | e :: _ => decide (e.t ≤ now)
  | [] => false
def headE (L : List Ev) : Ev := match L with
  | e :: _ => e
  | [] => ⟨0, 0, 0⟩
def takeE (now : Int) (L : List Ev) : Ev := if dueB now L = true then headE L else ⟨0, 0, 0⟩
def takeL (now : Int) (L : List Ev) : List Ev := if dueB now L = true then L.eraseIdx 0 else L
/-- what find answers -/
def fdV (d : Int) (L : List Ev) : Int := if ixD d L < L.length then (ixD d L : Int) else -1
theorem ixD_le (d : Int) (L : List Ev) : ixD d L ≤ L.length := List.findIdx_le_length
theorem ixA_le (t : Int) (L : List Ev) : ixA t L ≤ L.length := List.findIdx_le_length
theorem ixD_hit {d : Int} {L : List Ev} {k : Nat} (hk : k < L.length) (h : (L[k]).d = d) (hb : ∀ j (hj : j < k), (L[j]'(by omega)).d ≠ d) : ixD d L = k := by
  unfold ixD
  rw [List.findIdx_eq hk]
  exact ⟨by simpa using h, fun j hj => by simpa using hb j hj⟩
theorem ixD_none {d : Int} {L : List Ev} (hb : ∀ j (hj : j < L.length), (L[j]).d ≠ d) : ixD d L = L.length := by
  unfold ixD
  rw [List.findIdx_eq_length]
  intro x hx
  obtain ⟨j, hj, rfl⟩ := List.getElem_of_mem hx
  simpa using hb j hj
theorem ixA_hit {t : Int} {L : List Ev} {k : Nat} (hk : k < L.length) (h : t < (L[k]).t) (hb : ∀ j (hj : j < k), (L[j]'(by omega)).t ≤ t) : ixA t L = k := by
  unfold ixA
  rw [List.findIdx_eq hk]
  exact ⟨by simpa using h, fun j hj => by simpa using hb j hj⟩
theorem ixA_none {t : Int} {L : List Ev} (hb : ∀ j (hj : j < L.length), (L[j]).t ≤ t) : ixA t L = L.length := by
  unfold ixA
  rw [List.findIdx_eq_length]
  intro x hx
  obtain ⟨j, hj, rfl⟩ := List.getElem_of_mem hx
  simpa using hb j hj
theorem delF_len (d : Int) (L : List Ev) : (delF d L).length ≤ L.length := by
  unfold delF
  rw [List.length_eraseIdx]
  split <;> omega
theorem insF_len (L : List Ev) (i : Nat) (e : Ev) (hi : i ≤ L.length) : (insF L i e).length = L.length + 1 := by simp [insF]; omega

section
variable {w : World} {g : Nat} {v : Value} {L : List Ev} {a : Int}
set_option maxHeartbeats 400000 in
theorem wnew_any (w : World) : Calls Try.prog 8 #[] w fun e w' => ∃ g, w.heap.size ≤ g ∧ e = .returned (.pointer (some ⟨g, 0, none⟩)) ∧ Wh 83 w' g (.slice none 0 0) [] 0 ∧ Below w.heap.size w w' := by
  go_enter Try.func8, Try.ntmps8
  go_wp2
  go_ret
  refine ⟨_, Nat.le_refl _, rfl, ⟨World.rowIs_alloc w _ _ _ fun i hi => ?_, World.ownsRow_nil _ _ _ _, by simp [Value.ownBlock]⟩, (Below.refl _ _).alloc (Nat.le_refl _) _⟩
  have : i = 0 ∨ i = 1 := by have : i < 2 := hi; omega
  rcases this with rfl | rfl <;> rfl

set_option maxHeartbeats 1000000 in
theorem find_any (d : Int) (h : Wh 83 w g v L a) (hl : L.length ≤ 1000000) :
    Calls Try.prog 58 #[.pointer (some ⟨g, 0, none⟩), .int .i64 d] w (RetB (.int .i64 (fdV d L)) w) := by
  have c0 := h.c0
  obtain ⟨A, c, rfl, hc, hcm, hz, hA⟩ := h.ev.form
  have HA := Lib.hid hA
  clear hA hz
  go_enter Try.func58, Try.ntmps58
  go_wp2
  go_loopw [12] (fun i wr => ∃ k : Nat, k ≤ L.length ∧ i = .int .i64 k ∧ Below w.heap.size w wr ∧ Hid (∀ j (hj : j < L.length), j < k → (L[j]).d ≠ d)) (fun i _ => L.length - (intOf i).toNat)
  case atStart => exact ⟨0, by omega, rfl, Below.refl _ _, fun j _ hj => by omega⟩
  case round =>
    obtain ⟨k, hk, rfl, hB, HN⟩ := hrel
    by_cases hlt : k < L.length
    · obtain ⟨b, rfl⟩ := HA.out (by omega)
      obtain ⟨q0, q1, q2⟩ := (h.below hB).ev.at hlt
      by_cases hd : (L[k]).d = d
      · have HD := Lib.hid hd
        have hdb : ((L[k]).d == d) = true := by simpa using hd
        clear hd
        go_wp2
        go_ret
        refine ⟨?_, hB.alloc hB.size _⟩
        have e := ixD_hit hlt HD.out (fun j hj => HN.out j (by omega) hj)
        exact ret_int (by unfold fdV; rw [if_pos (by rw [e]; exact hlt), e])
      · have HD := Lib.hid hd
        have hdb : ((L[k]).d == d) = false := by simpa using hd
        clear hd
        go_wp2
        go_roundw
        case rel =>
          refine ⟨k + 1, by omega, by go_num, hB.alloc hB.size _, fun j hj hjk => ?_⟩
          by_cases e : j = k
          · subst e; exact HD.out
          · exact HN.out j hj (by omega)
        case measure => simp [intOf]; omega
    · go_wp2
      go_ret
      refine ⟨?_, hB⟩
      have e := ixD_none (d := d) (L := L) (fun j hj => HN.out j hj (by omega))
      exact ret_int (by unfold fdV; rw [if_neg (by omega)])


set_option maxHeartbeats 1000000 in
theorem behind_any (t : Int) (h : Wh 83 w g v L a) (hl : L.length ≤ 1000000) :
    Calls Try.prog 57 #[.pointer (some ⟨g, 0, none⟩), .int .i64 t] w (RetB (.int .i64 (ixA t L : Int)) w) := by
  have c0 := h.c0
  obtain ⟨A, c, rfl, hc, hcm, hz, hA⟩ := h.ev.form
  have HA := Lib.hid hA
  clear hA hz
  go_enter Try.func57, Try.ntmps57
  go_wp2
  go_loopw [12] (fun i wr => ∃ k : Nat, k ≤ L.length ∧ i = .int .i64 k ∧ Below w.heap.size w wr ∧ Hid (∀ j (hj : j < L.length), j < k → (L[j]).t ≤ t)) (fun i _ => L.length - (intOf i).toNat)
  case atStart => exact ⟨0, by omega, rfl, Below.refl _ _, fun j _ hj => by omega⟩
  case round =>
    obtain ⟨k, hk, rfl, hB, HN⟩ := hrel
    have c0' := (h.below hB).c0
    by_cases hlt : k < L.length
    · obtain ⟨b, rfl⟩ := HA.out (by omega)
      obtain ⟨q0, q1, q2⟩ := (h.below hB).ev.at hlt
      by_cases hd : t < (L[k]).t
      · go_wp2
        go_ret
        refine ⟨?_, hB.alloc hB.size _⟩
        have e := ixA_hit hlt hd (fun j hj => HN.out j (by omega) hj)
        rw [e]
        rfl
      · have HD := Lib.hid hd
        have hdb : decide (t < (L[k]).t) = false := by simpa using hd
        clear hd
        go_wp2
        go_roundw
        case rel =>
          refine ⟨k + 1, by omega, by go_num, hB.alloc hB.size _, fun j hj hjk => ?_⟩
          by_cases e : j = k
          · subst e; exact Int.not_lt.1 HD.out
          · exact HN.out j hj (by omega)
        case measure => simp [intOf]; omega
    · go_wp2
      go_ret
      refine ⟨?_, hB⟩
      have e := ixA_none (t := t) (L := L) (fun j hj => HN.out j hj (by omega))
      rw [e]
      rfl

theorem nextV_cons {L : List Ev} (h : 0 < L.length) : nextV L = (L[0]).t := by
  cases L with
  | nil => simp at h
  | cons e L => rfl
set_option maxHeartbeats 400000 in
theorem next_any (h : Wh 83 w g v L a) :
    Calls Try.prog 35 #[.pointer (some ⟨g, 0, none⟩)] w fun e w' => e = .returned (.tuple #[.int .i64 (nextV L), .bool (decide (0 < L.length))]) ∧ w = w' := by
  have c0 := h.c0
  obtain ⟨A, c, rfl, hc, hcm, hz, hA⟩ := h.ev.form
  have HA := Lib.hid hA
  clear hA hz
  by_cases h0 : 0 < L.length
  · obtain ⟨b, rfl⟩ := HA.out h0
    obtain ⟨q0, q1, q2⟩ := h.ev.at h0
    have hN := Lib.hid (nextV_cons h0)
    have hne : ((L.length : Int) == 0) = false := beq_false_of_ne (by omega)
    rw [Nat.zero_mul] at q0
    go_enter Try.func35, Try.ntmps35
    go_wp2
    go_ret2
    exact ⟨by rw [hN.out, decide_eq_true h0]; rfl, rfl⟩
  · have hn : L.length = 0 := by omega
    have hL : L = [] := List.eq_nil_of_length_eq_zero hn
    subst hL
    clear h0 hn
    go_enter Try.func35, Try.ntmps35
    go_wp2
    go_ret2
    exact ⟨rfl, rfl⟩

theorem fdV_hit {d : Int} (h : ixD d L < L.length) : fdV d L = (ixD d L : Int) := by unfold fdV; rw [if_pos h]
theorem fdV_none {d : Int} (h : ¬ ixD d L < L.length) : fdV d L = -1 := by unfold fdV; rw [if_neg h]
theorem atV_hit {d : Int} (h : ixD d L < L.length) : atV d L = (L[ixD d L]).t := by unfold atV; rw [List.getElem?_eq_getElem h]
theorem atV_none {d : Int} (h : ¬ ixD d L < L.length) : atV d L = 0 := by unfold atV; rw [List.getElem?_eq_none (by omega)]
end
end Go.Proofs.Ytifhnidcdfpabaa

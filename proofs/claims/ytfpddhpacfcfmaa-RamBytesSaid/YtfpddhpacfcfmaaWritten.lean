/-
  Chapter 2: Written, of the program's memory and of the document's; two lists of numbers held against each other (Same); a number brought into bounds (Within).
-/
import Derived.Test.YtfpddhpacfcfmaaMem
import Derived.Deep.AppendLies
import Derived.Maps.AppendAt
import Derived.OwnWalk
import Derived.Deep.Draws
namespace Go.Proofs.Ytfpddhpacfcfmaa
open Go.RowKit
set_option linter.unusedVariables false

/-- the pages below k that were written, rising -/
def wl (D : Nat → Bool) (k : Nat) : List Nat := (List.range k).filter D
/-- nothing below k is written any more -/
def clD (D : Nat → Bool) (k : Nat) : Nat → Bool := fun j => if j < k then false else D j
theorem wl_yes (D : Nat → Bool) (k : Nat) (h : D k = true) : wl D (k + 1) = wl D k ++ [k] := by simp [wl, List.range_succ, h]
theorem wl_no (D : Nat → Bool) (k : Nat) (h : D k = false) : wl D (k + 1) = wl D k := by simp [wl, List.range_succ, h]
theorem wl_len (D : Nat → Bool) (k : Nat) : (wl D k).length ≤ k := by have := List.length_filter_le D (List.range k); simpa [wl] using this
theorem clD_zero (D : Nat → Bool) : clD D 0 = D := by funext j; simp [clD]
theorem clD_yes (D : Nat → Bool) (k : Nat) : (fun j => if j = k then false else clD D k j) = clD D (k + 1) := by
  funext j
  by_cases e : j = k
  · subst e; simp [clD]
  · simp only [clD, if_neg e]
    by_cases q : j < k
    · rw [if_pos q, if_pos (by omega)]
    · rw [if_neg q, if_neg (by omega)]
theorem clD_no (D : Nat → Bool) (k : Nat) (h : D k = false) : clD D k = clD D (k + 1) := by
  funext j
  by_cases e : j = k
  · subst e; simp [clD, h]
  · simp only [clD]
    by_cases q : j < k
    · rw [if_pos q, if_pos (by omega)]
    · rw [if_neg q, if_neg (by omega)]
theorem clD_at (D : Nat → Bool) (k : Nat) : clD D k k = D k := by simp [clD]
/-- numbers as values -/
def ints (l : List Nat) : List Value := l.map fun k : Nat => Value.int .i64 (k : Int)
theorem ints_len (l : List Nat) : (ints l).length = l.length := by simp [ints]
theorem ints_snoc (l : List Nat) (k : Nat) : ints (l ++ [k]) = ints l ++ [.int .i64 (k : Int)] := by simp [ints]

theorem own_zero (w : World) (base : Nat) (D : Nat → Bool) : w.ownsRow base 3 1 (.slice none 0 0) (wl D 0).length (ints (wl D 0)) := World.ownsRow_nil _ _ _ _
theorem own_snoc {w : World} {base : Nat} {v : Value} {D : Nat → Bool} {k : Nat} (hD : D k = true) (h : w.ownsRow base 3 1 v ((wl D k).length + 1) (ints (wl D k) ++ [.int .i64 (k : Int)])) : w.ownsRow base 3 1 v (wl D (k + 1)).length (ints (wl D (k + 1))) := by
  rw [wl_yes D k hD, ints_snoc, List.length_append]; exact h
theorem fr_of_grown {w w' : World} {row : Option Nat} (h : w.grownBy w' row) : Fr (fun k => some k = row) w w' := ⟨h.os, h.tape, h.output, h.size, fun k hk hn => h.block k hk hn⟩
theorem own_lt {w : World} {base : Nat} {e : TypeId} {size n : Nat} {v : Value} {xs : List Value} (h : w.ownsRow base e size v n xs) : ∀ k, some k = v.ownBlock → base ≤ k := by
  intro k hk
  rcases h.2 with ⟨rfl, _⟩ | ⟨g, cap, cur, rfl, hb, _⟩
  · simp [Value.ownBlock] at hk
  · have : k = g := by simpa [Value.ownBlock] using hk
    omega
theorem own_fr {S : Nat → Prop} {w w' : World} {base : Nat} {e : TypeId} {size n : Nat} {v : Value} {xs : List Value} (h : w.ownsRow base e size v n xs) (f : Fr S w w') (hs : ∀ k, base ≤ k → ¬ S k) : w'.ownsRow base e size v n xs := by
  refine ⟨h.1, ?_⟩
  rcases h.2 with h2 | ⟨g, cap, cur, hv, hb, hh, r⟩
  · exact .inl h2
  · have hl : g < w.heap.size := by
      rcases Nat.lt_or_ge g w.heap.size with hlt | hge
      · exact hlt
      · rw [Array.getElem?_eq_none hge] at hh; cases hh
    exact .inr ⟨g, cap, cur, hv, hb, (f.block g hl (hs g hb)).trans hh, r⟩

theorem info_int : (Try.prog.info? 3).map (fun i => (i.zero, i.size, i.bytes)) = some (some (.int .i64 0), 1, 8) := by kernel_rfl

/-- what Written leaves: a list of numbers in new memory, and the memory -/
def WrP (T : TypeId) (w : World) (g b m t p : Nat) (C : Nat → Int) (M D : Nat → Bool) (e : Ending) (w' : World) : Prop :=
  ∃ v, e = .returned v ∧ w'.ownsRow w.heap.size 3 1 v (wl D p).length (ints (wl D p)) ∧ Mem T w' g b m t p C M (clD D p) ∧ Fr (Own b m t) w w'
section
variable {w : World} {g b m t p : Nat} {C : Nat → Int} {M D : Nat → Bool}
set_option maxHeartbeats 1000000 in
theorem written_any (h : Mem 57 w g b m t p C M D) :
    Calls Try.prog 19 #[.pointer (some ⟨g, 0, none⟩)] w (WrP 57 w g b m t p C M D) := by
  have p2 := h.p2
  have c2 := h.cell2
  have lg := h.st.lt
  have lb := h.hb.lt
  have lm := h.hm.lt
  have lt := h.ht.lt
  obtain ⟨i0, hi, hi3⟩ := Option.map_eq_some_iff.1 info_int
  simp only [Prod.mk.injEq] at hi3
  obtain ⟨hz0, hz1, hz2⟩ := hi3
  have HI := Lib.hid hi
  have HZ0 := Lib.hid hz0
  have HZ1 := Lib.hid hz1
  have HZ2 := Lib.hid hz2
  clear hi hz0 hz1 hz2
  go_enter Try.func19, Try.ntmps19
  go_wp2
  go_loopw [3, 11] (fun v i wr => ∃ k : Nat, k ≤ p ∧ i = .int .i64 k ∧ wr.ownsRow w.heap.size 3 1 v (wl D k).length (ints (wl D k)) ∧ Mem 57 wr g b m t p C M (clD D k) ∧ Fr (Own b m t) w wr) (fun _ i _ => p - (intOf i).toNat)
  case atStart => exact ⟨0, by omega, rfl, own_zero _ _ _, by rw [clD_zero]; exact h, Fr.refl _ _⟩
  case round =>
    obtain ⟨k, hk, rfl, hown, hm, hf⟩ := hrel
    have c2' := hm.cell2
    by_cases hlt : k < p
    · have hct := hm.ht.cell (i := k) hlt
      have hfz := hm.ht.frozen k
      rw [clD_at] at hct
      have hl := wl_len D k
      have hsz := hf.size
      cases hD : D k
      · rw [hD] at hct
        have HD := Lib.hid hD
        clear hD
        go_wp2
        go_roundw
        case rel => exact ⟨k + 1, by omega, by go_num, by rw [wl_no D k HD.out]; exact hown, by rw [← clD_no D k HD.out]; exact hm, hf⟩
        case measure => simp [intOf]; omega
      · rw [hD] at hct
        have HD := Lib.hid hD
        clear hD
        have hown2 := hown.alloc (.cells #[.int .i64 (k : Int)] 3)
        have hm2 := hm.alloc (.cells #[.int .i64 (k : Int)] 3)
        have hsz2 : w.heap.size ≤ (wr.alloc (.cells #[.int .i64 (k : Int)] 3)).heap.size := by simp; omega
        go_wp2_with (at_builtin; refine wpList_append_own_at _ rfl (.tmp 17) (.tmp 19) 42 rfl w.heap.size 3 i0 (.int .i64 0) 1 8 Try.underlying42 HI.out HZ0.out HZ1.out HZ2.out rfl (by decide) _ _ _ rfl hown2 ⟨wr.heap.size, 0, none⟩ 1 1 [.int .i64 (k : Int)] rfl rfl (cell_one_new _ _ _) (by intro u hu; simp at hu; subst hu; rfl) (by unfold maxLen; omega) (by omega) hsz2 ?_)
        intro v1 w1 hown1 hgrow1 _ _
        have hf1 := fr_of_grown hgrow1
        have hno : ∀ k, k < w.heap.size → ¬ some k = Value.ownBlock _ := fun k hk he => by have := own_lt hown _ he; omega
        have hm1 := hm2.keep hf1 (hno _ lg) (hno _ lb) (hno _ lm) (hno _ lt)
        have hfr1 : Fr (Own b m t) w w1 := ⟨hf1.os.trans hf.os, hf1.tape.trans hf.tape, hf1.output.trans hf.output, Nat.le_trans hsz2 hf1.size, fun i hi hn => (hf1.block i (by omega) (hno i hi)).trans ((Below.heap_alloc _ _ _ (by omega)).trans (hf.block i hi hn))⟩
        have d2 := hm1.cell2
        have dt := hm1.ht.cell (i := k) hlt
        have dz := hm1.ht.frozen k
        clear hno hgrow1 hf1 hown2 hm2
        go_wp2
        go_roundw
        case rel => exact ⟨k + 1, by omega, by go_num, (own_fr (own_snoc HD.out hown1) ((Fr.refl (Own b m t) _).setCell (.inl (.inr (.inr rfl))) _) (by rintro x hx (rfl | rfl | rfl) <;> omega)), by rw [← clD_yes D k]; exact hm1.setT _ _, hfr1.setCell (.inl (.inr (.inr rfl))) _⟩
        case measure => simp [intOf]; omega
    · obtain rfl : k = p := by omega
      go_wp2
      go_ret
      exact ⟨_, rfl, hown, hm, hf⟩

set_option maxHeartbeats 1000000 in
theorem rwritten_any (h : Mem 54 w g b m t p C M D) :
    Calls Try.prog 22 #[.pointer (some ⟨g, 0, none⟩)] w (WrP 54 w g b m t p C M D) := by
  have p2 := h.p2
  have c2 := h.cell2
  have lg := h.st.lt
  have lb := h.hb.lt
  have lm := h.hm.lt
  have lt := h.ht.lt
  obtain ⟨i0, hi, hi3⟩ := Option.map_eq_some_iff.1 info_int
  simp only [Prod.mk.injEq] at hi3
  obtain ⟨hz0, hz1, hz2⟩ := hi3
  have HI := Lib.hid hi
  have HZ0 := Lib.hid hz0
  have HZ1 := Lib.hid hz1
  have HZ2 := Lib.hid hz2
  clear hi hz0 hz1 hz2
  go_enter Try.func22, Try.ntmps22
  go_wp2
  go_loopw [3, 4] (fun v i wr => ∃ k : Nat, k ≤ p ∧ i = .int .i64 k ∧ wr.ownsRow w.heap.size 3 1 v (wl D k).length (ints (wl D k)) ∧ Mem 54 wr g b m t p C M (clD D k) ∧ Fr (Own b m t) w wr) (fun _ i _ => p - (intOf i).toNat)
  case atStart => exact ⟨0, by omega, rfl, own_zero _ _ _, by rw [clD_zero]; exact h, Fr.refl _ _⟩
  case round =>
    obtain ⟨k, hk, rfl, hown, hm, hf⟩ := hrel
    have c2' := hm.cell2
    by_cases hlt : k < p
    · have hct := hm.ht.cell (i := k) hlt
      have hfz := hm.ht.frozen k
      rw [clD_at] at hct
      have hl := wl_len D k
      have hsz := hf.size
      cases hD : D k
      · rw [hD] at hct
        have HD := Lib.hid hD
        clear hD
        go_wp2
        go_roundw
        case rel => exact ⟨k + 1, by omega, by go_num, by rw [wl_no D k HD.out]; exact hown, by rw [← clD_no D k HD.out]; exact hm, hf⟩
        case measure => simp [intOf]; omega
      · rw [hD] at hct
        have HD := Lib.hid hD
        clear hD
        have hown2 := hown.alloc (.cells #[.int .i64 (k : Int)] 3)
        have hm2 := hm.alloc (.cells #[.int .i64 (k : Int)] 3)
        have hsz2 : w.heap.size ≤ (wr.alloc (.cells #[.int .i64 (k : Int)] 3)).heap.size := by simp; omega
        go_wp2_with (at_builtin; refine wpList_append_own_at _ rfl (.tmp 21) (.tmp 23) 42 rfl w.heap.size 3 i0 (.int .i64 0) 1 8 Try.underlying42 HI.out HZ0.out HZ1.out HZ2.out rfl (by decide) _ _ _ rfl hown2 ⟨wr.heap.size, 0, none⟩ 1 1 [.int .i64 (k : Int)] rfl rfl (cell_one_new _ _ _) (by intro u hu; simp at hu; subst hu; rfl) (by unfold maxLen; omega) (by omega) hsz2 ?_)
        intro v1 w1 hown1 hgrow1 _ _
        have hf1 := fr_of_grown hgrow1
        have hno : ∀ k, k < w.heap.size → ¬ some k = Value.ownBlock _ := fun k hk he => by have := own_lt hown _ he; omega
        have hm1 := hm2.keep hf1 (hno _ lg) (hno _ lb) (hno _ lm) (hno _ lt)
        have hfr1 : Fr (Own b m t) w w1 := ⟨hf1.os.trans hf.os, hf1.tape.trans hf.tape, hf1.output.trans hf.output, Nat.le_trans hsz2 hf1.size, fun i hi hn => (hf1.block i (by omega) (hno i hi)).trans ((Below.heap_alloc _ _ _ (by omega)).trans (hf.block i hi hn))⟩
        have d2 := hm1.cell2
        have dt := hm1.ht.cell (i := k) hlt
        have dz := hm1.ht.frozen k
        clear hno hgrow1 hf1 hown2 hm2
        go_wp2
        go_roundw
        case rel => exact ⟨k + 1, by omega, by go_num, (own_fr (own_snoc HD.out hown1) ((Fr.refl (Own b m t) _).setCell (.inl (.inr (.inr rfl))) _) (by rintro x hx (rfl | rfl | rfl) <;> omega)), by rw [← clD_yes D k]; exact hm1.setT _ _, hfr1.setCell (.inl (.inr (.inr rfl))) _⟩
        case measure => simp [intOf]; omega
    · obtain rfl : k = p := by omega
      go_wp2
      go_ret
      exact ⟨_, rfl, hown, hm, hf⟩

end
/-- it returns v, and the world has at most made draws -/
def Dr (v : Value) (w : World) (e : Ending) (w' : World) : Prop := e = .returned v ∧ ∃ n, w' = w.drewN n
/-- a slice of numbers in memory -/
def IntsAt (w : World) (v : Value) (l : List Nat) : Prop := ∃ A c, v = .slice A l.length c ∧ (∀ i, i < l.length → ∃ b o, A = some ⟨b, o, none⟩ ∧ w.cell? ⟨b, o + i, none⟩ = some (.int .i64 (l.getD i 0 : Nat)))
theorem IntsAt.of_own {w : World} {base : Nat} {v : Value} {l : List Nat} (h : w.ownsRow base 3 1 v l.length (ints l)) : IntsAt w v l := by
  rcases Nat.eq_zero_or_pos l.length with h0 | h0
  · rcases h.2 with ⟨rfl, h2⟩ | ⟨g, cap, cur, rfl, _⟩
    · exact ⟨none, 0, by rw [h2], fun i hi => by omega⟩
    · exact ⟨_, cap, rfl, fun i hi => by omega⟩
  · obtain ⟨g, cap, rfl, _, _⟩ := h.form h0
    refine ⟨_, cap, rfl, fun i hi => ⟨g, 0, rfl, ?_⟩⟩
    have := h.cellAt i (by omega)
    rw [Nat.zero_add, this, ints, List.getElem?_map, List.getElem?_eq_getElem hi, List.getD_eq_getElem?_getD, List.getElem?_eq_getElem hi]
    rfl
theorem IntsAt.fr {S : Nat → Prop} {w w' : World} {base : Nat} {v : Value} {l : List Nat} (h : w.ownsRow base 3 1 v l.length (ints l)) (f : Fr S w w') (hs : ∀ k, base ≤ k → k < w.heap.size → ¬ S k) : w'.ownsRow base 3 1 v l.length (ints l) := by
  refine ⟨h.1, ?_⟩
  rcases h.2 with h2 | ⟨g, cap, cur, hv, hb, hh, r⟩
  · exact .inl h2
  · have hl : g < w.heap.size := by
      rcases Nat.lt_or_ge g w.heap.size with hlt | hge
      · exact hlt
      · rw [Array.getElem?_eq_none hge] at hh; cases hh
    exact .inr ⟨g, cap, cur, hv, hb, (f.block g hl (hs g hb hl)).trans hh, r⟩

set_option maxHeartbeats 1000000 in
theorem same_any (w : World) (x y : Value) (l : List Nat) (hx : IntsAt w x l) (hy : IntsAt w y l) (hl : l.length ≤ 1000) :
    Calls Try.prog 18 #[x, y] w (Dr (.bool true) w) := by
  obtain ⟨A, c, rfl, hA⟩ := hx
  obtain ⟨B, d, rfl, hB⟩ := hy
  obtain ⟨n, HN⟩ : ∃ n, Hid (l.length = n) := ⟨_, rfl⟩
  rw [HN.out] at hl hA hB ⊢
  have HA := Lib.hid hA
  have HB := Lib.hid hB
  clear hA hB
  go_enter Try.func18, Try.ntmps18
  go_wp2
  go_loopw [5] (fun i wr => ∃ k r : Nat, k ≤ n ∧ i = .int .i64 k ∧ wr = w.drewN r) (fun i _ => n - (intOf i).toNat)
  case atStart => exact ⟨0, 0, by omega, rfl, rfl⟩
  case round =>
    obtain ⟨k, r, hk, rfl, rfl⟩ := hrel
    by_cases hlt : k < n
    · obtain ⟨b, o, rfl, hc⟩ := HA.out k hlt
      obtain ⟨b', o', rfl, hc'⟩ := HB.out k hlt
      have hlt2 : (k : Int) < (n : Int) := by omega
      go_wp2_with fail
      go_quiet (fail)
      go_wp2
      go_roundw
      case rel => exact ⟨k + 1, _, by omega, by go_num, rfl⟩
      case measure => simp [intOf]; omega
    · go_wp2
      go_ret
      exact ⟨rfl, _, rfl⟩

/-- it returns a number from lo to hi, and the world stands -/
def InP (lo hi : Int) (w : World) (e : Ending) (w' : World) : Prop := ∃ v : Int, lo ≤ v ∧ v ≤ hi ∧ e = .returned (.int .i64 v) ∧ w = w'
theorem tmod_pos (n K : Int) (hK : 0 < K) : -K < n.tmod K ∧ n.tmod K < K := by
  by_cases h : 0 ≤ n
  · rw [Int.tmod_eq_emod_of_nonneg h]
    have := Int.emod_nonneg n (show K ≠ 0 by omega)
    have := Int.emod_lt_of_pos n hK
    omega
  · have e : n.tmod K = -((-n) % K) := by rw [← Int.tmod_eq_emod_of_nonneg (by omega), Int.neg_tmod]; omega
    have := Int.emod_nonneg (-n) (show K ≠ 0 by omega)
    have := Int.emod_lt_of_pos (-n) hK
    omega
set_option maxHeartbeats 400000 in
theorem within_any (n lo hi : Int) (w : World) (h0 : -1000000000 ≤ lo) (h1 : lo ≤ hi) (h2 : hi ≤ 1000000000) (n0 : -9223372036854775808 ≤ n) (n1 : n ≤ 9223372036854775807) :
    Calls Try.prog 11 #[.int .i64 n, .int .i64 lo, .int .i64 hi] w (InP lo hi w) := by
  by_cases hin : lo ≤ n ∧ n ≤ hi
  · obtain ⟨i0, i1⟩ := hin
    go_enter Try.func11, Try.ntmps11
    go_wp2
    go_ret
    exact ⟨n, i0, i1, rfl, rfl⟩
  · obtain ⟨t0, t1⟩ := tmod_pos n (hi - lo + 1) (by omega)
    have hd : (decide (lo ≤ n) && decide (n ≤ hi)) = false := by simp; omega
    by_cases hlo : lo ≤ n
    · have hh : ¬ n ≤ hi := by omega
      by_cases hneg : n.tmod (hi - lo + 1) < 0
      all_goals
        go_enter Try.func11, Try.ntmps11
        go_wp2
        go_ret
        exact ⟨_, by omega, by omega, rfl, rfl⟩
    · by_cases hneg : n.tmod (hi - lo + 1) < 0
      all_goals
        go_enter Try.func11, Try.ntmps11
        go_wp2
        go_ret
        exact ⟨_, by omega, by omega, rfl, rfl⟩
end Go.Proofs.Ytfpddhpacfcfmaa

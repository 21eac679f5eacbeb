/-
  Chapter 11: the document's bus as far as a timer reaches: Word, Set, Line, B1 of a timer's device.
-/
import Derived.Test.YtgpphbganpoinaaBt11
import Derived.Test.YtgpphbganpoinaaTi11
namespace Go.Proofs.Ytgpphbganpoinaa
open Go.RowKit
set_option linter.unusedVariables false
set_option linter.unusedSimpArgs false
/-- the other cells of a bus: the timer's three from o on, and C of all others -/
def cT (C : Nat → Value) (o : Nat) (S : TS) : Nat → Value := fun j => if j = o then .int .u32 (cw S.r S.ag) else if j = o + 1 then .int .u32 S.p else if j = o + 2 then .int .u32 (ib S.s) else C j
/-- device d's words lie from o on -/
def Dv (d : Int) (o : Nat) : Prop := d = 1 ∧ o = 3 ∨ d = 2 ∧ o = 6
/-- block m is the document's bus: the timer of device d (its words from o on) is S, the wheel's slice is u -/
abbrev Bu (C : Nat → Value) (o : Nat) (w : World) (m : Nat) (d : Int) (u : Value) (S : TS) : Prop := Wb (cT C o S) w m u (qL d S.q) S.a
/-- it returns x; the timer of device d is S2 then -/
def RetU (x : Value) (C : Nat → Value) (o : Nat) (w : World) (m : Nat) (d : Int) (u : Value) (S2 : TS) (e : Ending) (w' : World) : Prop :=
  e = .returned x ∧ ∃ u2, Bu C o w' m d u2 S2 ∧ Ch m u u2 w w'
section
variable {C : Nat → Value} {o : Nat} {w w' : World} {m : Nat} {d : Int} {u u2 : Value} {S : TS}
theorem Bu.b0 (h : Bu C o w m d u S) (ho : Dv d o) : w.cell? ⟨m, o, none⟩ = some (.int .u32 (cw S.r S.ag)) := by
  rcases ho with ⟨_, rfl⟩ | ⟨_, rfl⟩
  · exact h.cC 3 (by omega) (by omega) (by omega)
  · exact h.cC 6 (by omega) (by omega) (by omega)
theorem Bu.b1 (h : Bu C o w m d u S) (ho : Dv d o) : w.cell? ⟨m, o + 1, none⟩ = some (.int .u32 S.p) := by
  rcases ho with ⟨_, rfl⟩ | ⟨_, rfl⟩
  · exact h.cC 4 (by omega) (by omega) (by omega)
  · exact h.cC 7 (by omega) (by omega) (by omega)
theorem Bu.b2 (h : Bu C o w m d u S) (ho : Dv d o) : w.cell? ⟨m, o + 2, none⟩ = some (.int .u32 (ib S.s)) := by
  rcases ho with ⟨_, rfl⟩ | ⟨_, rfl⟩
  · exact h.cC 5 (by omega) (by omega) (by omega)
  · exact h.cC 8 (by omega) (by omega) (by omega)
theorem Bu.wheel {q : Option (Int × Int)} {a : Int} (h : Wb (cT C o S) w m u (qL d q) a) : Bu C o w m d u { S with q := q, a := a } := h
theorem Bu.setC (h : Bu C o w m d u S) (ho : Dv d o) (r ag : Bool) : Bu C o (w.setCell ⟨m, o, none⟩ (.int .u32 (cw r ag))) m d u { S with r := r, ag := ag } := by
  have h1 : o ≠ 1 := by rcases ho with ⟨_, rfl⟩ | ⟨_, rfl⟩ <;> omega
  have h2 : o ≠ 2 := by rcases ho with ⟨_, rfl⟩ | ⟨_, rfl⟩ <;> omega
  refine (Wb.setC h o _ h1 h2).congr fun j _ => ?_
  unfold cT
  by_cases e : j = o
  · rw [if_pos e, if_pos e]
  · rw [if_neg e, if_neg e, if_neg e]
theorem Bu.setP (h : Bu C o w m d u S) (ho : Dv d o) (p : Int) : Bu C o (w.setCell ⟨m, o + 1, none⟩ (.int .u32 p)) m d u { S with p := p } := by
  have h1 : o + 1 ≠ 1 := by rcases ho with ⟨_, rfl⟩ | ⟨_, rfl⟩ <;> omega
  have h2 : o + 1 ≠ 2 := by rcases ho with ⟨_, rfl⟩ | ⟨_, rfl⟩ <;> omega
  refine (Wb.setC h (o + 1) _ h1 h2).congr fun j _ => ?_
  unfold cT
  by_cases e : j = o + 1
  · rw [if_pos e, if_neg (by omega), if_pos e]
  · rw [if_neg e]
    by_cases e0 : j = o
    · rw [if_pos e0, if_pos e0]
    · rw [if_neg e0, if_neg e0, if_neg e, if_neg e]
theorem Bu.setS (h : Bu C o w m d u S) (ho : Dv d o) (s : Bool) : Bu C o (w.setCell ⟨m, o + 2, none⟩ (.int .u32 (ib s))) m d u { S with s := s } := by
  have h1 : o + 2 ≠ 1 := by rcases ho with ⟨_, rfl⟩ | ⟨_, rfl⟩ <;> omega
  have h2 : o + 2 ≠ 2 := by rcases ho with ⟨_, rfl⟩ | ⟨_, rfl⟩ <;> omega
  refine (Wb.setC h (o + 2) _ h1 h2).congr fun j _ => ?_
  unfold cT
  by_cases e : j = o + 2
  · rw [if_pos e, if_neg (by omega), if_neg (by omega), if_pos e]
  · rw [if_neg e]
    by_cases e0 : j = o
    · rw [if_pos e0, if_pos e0]
    · by_cases e1 : j = o + 1
      · rw [if_neg e0, if_neg e0, if_pos e1, if_pos e1]
      · rw [if_neg e0, if_neg e0, if_neg e1, if_neg e1, if_neg e, if_neg e]
theorem rarm_T {W : World} {D : Nat → Value} {a : Int} {q : Option (Int × Int)} (T : Int) (hw : Wb D W m u (qL d q) a) (hok : okB d T = true) (ha : 0 ≤ a ∧ a ≤ 1000000) :
    Calls Try.prog 32 #[.pointer (some ⟨m, 1, none⟩), .int .i64 d, .int .i64 T] W (RetX D (.bool true) W m u (qL d (some (T, a))) (a + 1)) := by
  have hl := qL_len d q
  have := rarm_any d T hw (by omega) ha
  unfold armL armA at this
  rw [hok, if_pos rfl, if_pos rfl, arm_q] at this
  exact this
theorem rcancel_T {W : World} {D : Nat → Value} {a : Int} {q : Option (Int × Int)} (hw : Wb D W m u (qL d q) a) :
    Calls Try.prog 43 #[.pointer (some ⟨m, 1, none⟩), .int .i64 d] W (RetX D (.bool (cancB d (qL d q))) W m u (qL d none) a) := by
  have hl := qL_len d q
  have := rcancel_any d hw (by omega)
  rw [del_q] at this
  exact this

set_option maxHeartbeats 1000000 in
theorem rline_any (h : Bu C o w m d u S) (ho : Dv d o) :
    Calls Try.prog 22 #[.pointer (some ⟨m, 0, none⟩), .int .i64 d] w fun e w' => e = .returned (.bool S.s) ∧ w = w' := by
  have b2 := h.b2 ho
  rcases ho with ⟨rfl, rfl⟩ | ⟨rfl, rfl⟩
  all_goals
    cases hs : S.s
    all_goals
      rw [hs] at b2
      simp only [ib] at b2
      clear hs
      go_enter Try.func22, Try.ntmps22
      go_wp2
      go_ret
      exact ⟨rfl, rfl⟩
set_option maxHeartbeats 2000000 in
set_option maxRecDepth 100000 in
theorem rword_any (k : Nat) (z now : Int) (h : Bu C o w m d u S) (ho : Dv d o) (hk : k ≤ 4) (hz : z = (k : Int) * 4) :
    Calls Try.prog 18 #[.pointer (some ⟨m, 0, none⟩), .int .i64 d, .int .u32 z, .int .i64 now] w (RetB (.tuple #[.int .u32 (wordT k S), .bool (decide (k < 3))]) w) := by
  subst hz
  have b0 := h.b0 ho
  have b1 := h.b1 ho
  have b2 := h.b2 ho
  have : k = 0 ∨ k = 1 ∨ k = 2 ∨ k = 3 ∨ k = 4 := by omega
  have hgl := h.st.lt
  rcases ho with ⟨rfl, rfl⟩ | ⟨rfl, rfl⟩
  all_goals
    rcases this with rfl | rfl | rfl | rfl | rfl
    all_goals
      go_enter Try.func18, Try.ntmps18
      go_wp2
      go_ret2
      exact ⟨rfl, (((Below.refl _ _).alloc (Nat.le_refl _) _).alloc (by simp) _).alloc (by simp; omega) _⟩
end
end Go.Proofs.Ytgpphbganpoinaa

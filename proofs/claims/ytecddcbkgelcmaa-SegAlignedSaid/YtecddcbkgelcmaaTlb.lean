/-
  Chapter 7: the functions of package tlb, each on any State: what it returns, what the State holds behind it.
-/
import Derived.Test.YtecddcbkgelcmaaTlM
import Derived.WalkMore
import Derived.Deep.LoopGhost
import Derived.Deep.RegionWith
namespace Go.Proofs.Ytecddcbkgelcmaa
open Go.RowKit
set_option linter.unusedVariables false
/-! the table taken whole -/
def St.tab (s : St) : List Value := (List.range 16).map fun i => s.cell (55 + i)
theorem St.tab_at (s : St) (j : Nat) (h : j < 16) : s.tab[j]? = some (s.cell (55 + j)) := by
  unfold St.tab
  rw [List.getElem?_map, List.getElem?_range h]
  rfl
theorem St.tab_len (s : St) : s.tab.length = 16 := by unfold St.tab; rw [List.length_map, List.length_range]
theorem StAt.range {w : World} {g : Nat} {s : St} (h : StAt w g s) : w.rangeAt g 55 s.tab := fun j v hv => by
  have hj : j < 16 := by
    have := (List.getElem?_eq_some_iff.1 hv).1
    rw [s.tab_len] at this; exact this
  rw [s.tab_at j hj] at hv
  injection hv with e
  rw [← e]
  exact h.cellAt (55 + j) (by omega)
section
variable {ops : Array Oper} {rest : List Oper} {a : Act} {w : World} {Q : Exit → Act → World → Prop} {dst : Option Tmp} {ty : TypeId} {pos : String} {aft : Array Edge} {s : St} {g : Nat}
theorem size_tab : (Try.prog.info? 28).map (·.size) = some 16 := by kernel_rfl
theorem wpList_loadTab {x : Operand} (hx : a.eval x = .pointer (some ⟨g, 55, none⟩)) (hs : StAt w g s) (h : wpList Try.prog ops Q rest (a.put dst (.agg s.tab.toArray)) w) :
    wpList Try.prog ops Q (⟨dst, .load 28 x, ty, pos, aft, none⟩ :: rest) a w :=
  wpList_load_mid rfl 28 x rfl g 55 hx s.tab _ hs.range Try.underlying28 rfl (by rw [s.tab_len]; exact size_tab) h
theorem info_ent : ∃ i, Try.prog.info? 27 = some i ∧ i.size = 2 := by
  have h : (Try.prog.info? 27).map (·.size) = some 2 := by kernel_rfl
  cases hi : Try.prog.info? 27 with
  | none => rw [hi] at h; cases h
  | some i => rw [hi] at h; exact ⟨i, rfl, by simpa using h⟩
theorem tab_part (s : St) (k : Nat) (hk : k < 8) : s.tab.toArray.extract (k * 2) (k * 2 + 2) = #[.int .u32 (s.H k), .int .u32 (s.L k)] := by
  apply Array.ext_getElem?
  intro j
  rw [Array.getElem?_extract]
  by_cases h0 : j = 0
  · subst h0
    simp only [List.size_toArray, s.tab_len, Nat.add_zero]
    rw [if_pos (by omega), List.getElem?_toArray, s.tab_at _ (by omega), s.cellH k hk]
    rfl
  · by_cases h1 : j = 1
    · subst h1
      simp only [List.size_toArray, s.tab_len]
      rw [if_pos (by omega), List.getElem?_toArray, s.tab_at _ (by omega), show 55 + (k * 2 + 1) = 55 + k * 2 + 1 by omega, s.cellL k hk]
      rfl
    · rw [if_neg (by simp only [List.size_toArray, s.tab_len]; omega)]
      symm
      apply Array.getElem?_eq_none
      simp; omega
theorem wpList_indexTab {x y : Operand} {k : Nat} (hx : a.eval x = .agg s.tab.toArray) (hy : a.eval y = .int .i64 (k : Int)) (hk : k < 8) (h : wpList Try.prog ops Q rest (a.put dst (.agg #[.int .u32 (s.H k), .int .u32 (s.L k)])) w) :
    wpList Try.prog ops Q (⟨dst, .index 28 x y, ty, pos, aft, none⟩ :: rest) a w :=
  wpList_plain rfl fun K hK => by
    obtain ⟨i, hi, hs⟩ := info_ent
    have hp : (part 27 s.tab.toArray (k * 2)).run Try.prog w = .ok (.agg #[.int .u32 (s.H k), .int .u32 (s.L k)]) w := by
      have := tab_part s k hk
      have h2 := congrArg Array.toList this
      rw [Array.toList_extract] at h2
      simp [part, isAgg, run_underlying Try.underlying27]
      simpa [List.extract] using h2
    have hz : (sizeOf 27).run Try.prog w = .ok 2 w := by rw [run_sizeOf w hi]; rfl
    unfold Oper.wp execOp
    simp only [hx, hy, Instr.index, asIntOf, Sem.run_bind, Sem.run_pure, Result.andThen_ok, run_underlying Try.underlying28 w]
    rw [if_pos (by omega)]
    simp only [Sem.run_bind, hz, Result.andThen_ok, Int.toNat_natCast, hp]
    exact hK _ _ h
end
end Go.Proofs.Ytecddcbkgelcmaa

/-
  Chapter 14: append of zeros to a row of one's own.
-/
import Derived.Test.YtifhnidcdfpabaaOn14
import Derived.Lib.AppendZerosOnto
namespace Go.Proofs.Ytifhnidcdfpabaa
open Go.RowKit
set_option linter.unusedVariables false
set_option linter.unusedSimpArgs false
theorem zc_size (k : Nat) : (Builtin.zeroCells (Value.cells (.int .u8 0)) k).size = k := by
  unfold Builtin.zeroCells
  simp [Value.cells]
theorem zc_at (k i : Nat) (h : i < k) : (Builtin.zeroCells (Value.cells (.int .u8 0)) k)[i]? = some (.int .u8 0) := by
  unfold Builtin.zeroCells
  simp [Value.cells, h, Nat.mod_one]
/-- the first n of f, then 0 -/
def padF (n : Nat) (f : Nat → Int) : Nat → Int := fun i => if i < n then f i else 0
theorem padF_bd {n : Nat} {f : Nat → Int} (hf : ∀ i, 0 ≤ f i ∧ f i ≤ 255) (i : Nat) : 0 ≤ padF n f i ∧ padF n f i ≤ 255 := by
  unfold padF
  split
  · exact hf i
  · omega
theorem Fr.after {B : Nat} {S : Nat → Prop} {w0 w w' : World} (f : Fr S w w') (h : Below B w0 w) (hB : B ≤ w.heap.size) (hs : ∀ k, S k → B ≤ k) : Below B w0 w' :=
  h.trans (f.below hB (fun k hk e => by have := hs k e; omega))
theorem cell_blk {w : World} {g : Nat} {cs : Array Value} {t : TypeId} {fr : Nat × Nat} (h : w.heap[g]? = some (.cells cs t fr)) (i : Nat) : w.cell? ⟨g, i, none⟩ = cs[i]? := by simp [World.cell?, h]
theorem app_zeros {w : World} {B n k : Nat} {v : Value} {f : Nat → Int} (ty : TypeId) (hown : w.ownsRow B 5 1 v n ((List.range n).map fun i => Value.int .u8 (f i))) (hf : ∀ i, 0 ≤ f i ∧ f i ≤ 255) (hB : B ≤ w.heap.size) (hk : n + k = 256) :
    ∃ v' w', (Builtin.append_ #[28, 3] ty #[v, .int .i64 (k : Int)]).run Try.prog w = .ok v' w' ∧ ByAt (fun j => B ≤ j) w' v' 256 (padF n f) ∧ ∀ w0, Below B w0 w → Below B w0 w' := by
  obtain ⟨i0, hi, hi3⟩ := Option.map_eq_some_iff.1 info_u8
  simp only [Prod.mk.injEq] at hi3
  obtain ⟨hz0, hz1, hz2⟩ := hi3
  rcases hown.2 with ⟨rfl, rfl⟩ | ⟨g, cap, cur, rfl, hg, hh, hn, hm, hcs, htk⟩
  · have hr := Lib.run_append_nil_zeros (P := Try.prog) w 28 3 ty 5 i0 (.int .u8 0) .i64 .i64 Try.underlying28 Try.underlying3 hi hz0 k (by omega) (by rw [hz1]; omega) (by omega) (by rw [hz2]; omega)
    obtain rfl : k = 256 := by omega
    refine ⟨_, _, hr, .inr ⟨⟨w.heap.size, 0, none⟩, _, rfl, ?_, fun _ => ⟨rfl, hB⟩, fun i hi => ⟨?_, padF_bd hf i⟩⟩, fun w0 h => h.drew.alloc (by show B ≤ w.heap.size; exact hB) _⟩
    · exact grownCap_ge _ _ _ _
    · rw [add_none, Nat.zero_add]
      show (w.drew.alloc _).cell? ⟨w.drew.heap.size, i, none⟩ = _
      rw [World.cell?_alloc_mark, Array.getElem?_append_left (by rw [zc_size]; exact hi), zc_at _ _ hi]
      unfold padF
      rw [if_neg (by omega)]
  · have hlen : cur.toList.length = cap := by rw [Array.length_toList]; omega
    have hat : ∀ i, i < n → cur[i]? = some (.int .u8 (f i)) := fun i hi => by
      have e : (cur.toList.take (n * 1))[i]? = some (.int .u8 (f i)) := by rw [htk, List.getElem?_map, List.getElem?_range hi]; rfl
      rw [List.getElem?_take, if_pos (by omega), Array.getElem?_toList] at e
      exact e
    by_cases hroom : n + k ≤ cap
    · have hst := run_storeCells_at (P := Try.prog) g n 5 (Builtin.zeroCells (Value.cells (.int .u8 0)) k).toList 0 cur w hh (by rw [Array.length_toList, zc_size]; omega) (by
        intro u hu
        obtain ⟨j, hj, e⟩ := List.getElem_of_mem hu
        rw [Array.length_toList, zc_size] at hj
        have := zc_at k j hj
        rw [← Array.getElem?_toList, List.getElem?_eq_getElem (by rw [Array.length_toList, zc_size]; exact hj), e] at this
        cases this
        rfl)
      have hw : IntKind.i64.wrap (k : Int) = k := by rw [IntKind.wrap_i64]; omega
      have hneg : ¬ ((k : Int) < 0) := by omega
      have h48i : ¬ (281474976710656 < (k : Int) * (i0.bytes : Int)) := by rw [hz2]; omega
      have hmul : n * i0.size = n := by rw [hz1]; omega
      have hadd : (⟨g, 0, none⟩ : Addr).add n = ⟨g, n, none⟩ := by rw [add_none, Nat.zero_add]
      have hr : (Builtin.append_ #[28, 3] ty #[.slice (some ⟨g, 0, none⟩) n cap, .int .i64 (k : Int)]).run Try.prog w = .ok (.slice (some ⟨g, 0, none⟩) (n + k) cap) (w.setRow g (cur.toList.take (n + 0) ++ (Builtin.zeroCells (Value.cells (.int .u8 0)) k).toList ++ cur.toList.drop (n + 0 + (Builtin.zeroCells (Value.cells (.int .u8 0)) k).toList.length)).toArray) := by
        by_cases hk0 : k = 0
        · subst hk0
          have e0 : (Builtin.zeroCells (Value.cells (.int .u8 0)) 0).toList = [] := List.eq_nil_of_length_eq_zero (by rw [Array.length_toList, zc_size])
          have hw0 : IntKind.i64.wrap 0 = 0 := by rw [IntKind.wrap_i64]; omega
          have hroom0 : n ≤ cap := hn
          rw [e0] at hst ⊢
          have hst2 : (storeCells ⟨g, n, none⟩ []).run Try.prog w = .ok () (w.setRow g cur) := by simpa using hst
          simp [Builtin.append_, run_underlying Try.underlying28, run_underlying Try.underlying3, sizeOf, typeInfo, hi, hz1, hz2, asInt, asIntOf, hw0, hroom0, hadd, hst2]
        · have hns : ¬ (k * i0.size = 0) := by rw [hz1]; omega
          simp [Builtin.append_, run_underlying Try.underlying28, run_underlying Try.underlying3, sizeOf, typeInfo, zeroValue, hi, hz0, hz1, hz2, asInt, asIntOf, hw, hneg, hroom, hk0, hadd, hst]
          intro h
          omega
      have hz : (Builtin.zeroCells (Value.cells (.int .u8 0)) k).toList.length = k := by rw [Array.length_toList, zc_size]
      rw [hz] at hr
      have hcell : ∀ i, i < 256 → (w.setRow g (cur.toList.take (n + 0) ++ (Builtin.zeroCells (Value.cells (.int .u8 0)) k).toList ++ cur.toList.drop (n + 0 + k)).toArray).cell? ⟨g, i, none⟩ = some (.int .u8 (padF n f i)) := by
        intro i hi
        have h2 := setRow_heap w g cur (cur.toList.take (n + 0) ++ (Builtin.zeroCells (Value.cells (.int .u8 0)) k).toList ++ cur.toList.drop (n + 0 + k)).toArray 5 (0, 0) hh
        rw [cell_blk h2 i, List.getElem?_toArray, List.append_assoc]
        have hlt : (cur.toList.take (n + 0)).length = n := by rw [List.length_take]; omega
        unfold padF
        by_cases hin : i < n
        · rw [List.getElem?_append_left (by rw [hlt]; exact hin), List.getElem?_take, if_pos (by omega), Array.getElem?_toList, hat i hin, if_pos hin]
        · rw [List.getElem?_append_right (by rw [hlt]; omega), hlt, List.getElem?_append_left (by rw [hz]; omega), Array.getElem?_toList, zc_at _ _ (by omega), if_neg hin]
      refine ⟨_, _, hr, .inr ⟨⟨g, 0, none⟩, cap, by rw [hk], by omega, fun _ => ⟨rfl, hg⟩, fun i hi => ⟨?_, padF_bd hf i⟩⟩, fun w0 h => ?_⟩
      · rw [add_none, Nat.zero_add]
        exact hcell i hi
      · exact ((Fr.refl (fun k => k = g) w).setRow (x := g) (.inl rfl) _).after h hB (fun k hk => hk ▸ hg)
    · have hwp := fun i (hi : i < n) => hat i hi
      have hold : (Builtin.firstCells i0.size n (.slice (some ⟨g, 0, none⟩) n cap)).run Try.prog w.drew = .ok ((List.range n).map fun i => Value.int .u8 (f i)).toArray w.drew := by
        have := run_loadCells_list (P := Try.prog) w.drew ⟨g, 0, none⟩ ((List.range n).map fun i => Value.int .u8 (f i)) (fun j u hj => by
          have hjn : j < n := by
            rcases Nat.lt_or_ge j n with q | q
            · exact q
            · rw [List.getElem?_eq_none (by simpa using q)] at hj; cases hj
          rw [List.getElem?_map, List.getElem?_range hjn] at hj
          have e : Value.int .u8 (f j) = u := by simpa using hj
          rw [add_none, Nat.zero_add, ← e]
          show w.cell? ⟨g, j, none⟩ = _
          have e2 : w.cell? ⟨g, j, none⟩ = cur[j]? := by simp [World.cell?, hh]
          rw [e2, hat j hjn])
        rw [hz1]
        simpa [Builtin.firstCells] using this
      have hr := Lib.run_append_grow_zeros (P := Try.prog) w 28 3 ty 5 i0 (.int .u8 0) .i64 .i64 Try.underlying28 Try.underlying3 hi hz0 (some ⟨g, 0, none⟩) n cap _ hold k (by omega) (by rw [hz1]; omega) (by omega) (by omega) (by rw [hz2]; omega) (by
        rw [hz2, hk]
        unfold Builtin.nextslicecap
        split
        · omega
        · rw [if_pos (by omega)]; omega)
      refine ⟨_, _, hr, .inr ⟨⟨w.heap.size, 0, none⟩, _, by rw [hk], ?_, fun _ => ⟨rfl, hB⟩, fun i hi => ⟨?_, padF_bd hf i⟩⟩, fun w0 h => h.drew.alloc (by show B ≤ w.heap.size; exact hB) _⟩
      · rw [← hk]; exact grownCap_ge _ _ _ _
      · rw [add_none, Nat.zero_add]
        show (w.drew.alloc _).cell? ⟨w.drew.heap.size, i, none⟩ = _
        rw [World.cell?_alloc_mark, Array.append_assoc]
        unfold padF
        by_cases hin : i < n
        · rw [Array.getElem?_append_left (by simp; exact hin), if_pos hin]
          simp [hin]
        · rw [Array.getElem?_append_right (by simp; omega), if_neg hin, Array.getElem?_append_left (by rw [zc_size]; simp; omega), zc_at _ _ (by simp; omega)]
end Go.Proofs.Ytifhnidcdfpabaa

/-
  A processor's State in memory, taken whole: a new one, loaded, stored, compared with itself.
-/
import Derived.Test.YtecddcbkgelcmaaSt
namespace Go.Proofs.Ytecddcbkgelcmaa
open Go.RowKit
set_option linter.unusedVariables false

/-- a State of which all is 0 -/
def St.zero : St := { R := fun _ => 0, Hi := 0, Lo := 0, PC := 0, Next := 0, Slot := false, Link := false, Linked := 0, C := fun _ => 0, H := fun _ => 0, L := fun _ => 0, Waits := false, Time := 0 }
theorem w32_0 : W32 0 := ⟨by omega, by omega⟩
theorem St.zero_ok : St.zero.Ok := ⟨fun _ => w32_0, w32_0, w32_0, w32_0, w32_0, w32_0, fun _ => w32_0, fun _ => w32_0, fun _ => w32_0, ⟨by decide, by decide⟩⟩
theorem info_st : (Try.prog.info? 30).map (fun i => (i.zero, i.size)) = some (some (.agg St.zero.arr), 73) := by kernel_rfl
theorem size_st : (Try.prog.info? 30).map (·.size) = some 73 := (zero_of_info info_st).2
theorem St.one (s : St) (j : Nat) : (s.cell j).oneCell' = true := by
  simp only [St.cell, apply_ite Value.oneCell']
  simp [Value.oneCell']
theorem St.all_one (s : St) : s.arr.all (·.oneCell') = true := by
  rw [Array.all_eq_true]
  intro i hi
  simp only [St.arr, Array.getElem_ofFn]
  exact s.one i
/-- a new world in which only block g has turned, and holds s -/
structure Turned (w w' : World) (g : Nat) (s : St) : Prop where
  at_ : StAt w' g s
  fr : Fr (fun k => k = g) w w'
  size : w'.heap.size = w.heap.size
section
variable {ops : Array Oper} {rest : List Oper} {a : Act} {w : World} {Q : Exit → Act → World → Prop} {dst : Option Tmp} {ty : TypeId} {pos : String} {aft : Array Edge}
theorem wpList_allocSt (h : ∀ b w', w.heap.size ≤ b → StAt w' b St.zero → Fr (fun _ => False) w w' → wpList Try.prog ops Q rest (a.put dst (.pointer (some ⟨b, 0, none⟩))) w') :
    wpList Try.prog ops Q (⟨dst, .alloc 30, ty, pos, aft, none⟩ :: rest) a w :=
  wpList_plain rfl fun K hK => by
    unfold Oper.wp execOp
    simp only [Instr.alloc, Sem.run_bind, (zero_of_info info_st).1, Result.andThen_ok, newVar, newRow, Value.cells, run_newObj_alloc, Sem.run_pure]
    exact hK _ _ (h _ _ (Nat.le_refl _) ⟨heap_alloc_last w _, St.zero_ok⟩ ((Fr.refl _ w).alloc _))
theorem wpList_loadSt {x : Operand} {g : Nat} {s : St} (hx : a.eval x = .pointer (some ⟨g, 0, none⟩)) (hs : StAt w g s) (h : wpList Try.prog ops Q rest (a.put dst (.agg s.arr)) w) :
    wpList Try.prog ops Q (⟨dst, .load 30 x, ty, pos, aft, none⟩ :: rest) a w :=
  wpList_load_row rfl 30 x rfl g hx _ _ _ _ hs.blk Try.underlying30 rfl (by rw [s.arr_size]; exact size_st) h
theorem turned_row {g : Nat} {s0 s : St} (h0 : StAt w g s0) (ok : s.Ok) : Turned w (w.setRow g s.arr) g s := by
  obtain ⟨b, _⟩ := h0
  have hlt := (Array.getElem?_eq_some_iff.1 b).1
  refine ⟨⟨?_, ok⟩, ⟨rfl, rfl, rfl, by simp, fun k _ hk => setRow_other w g k _ hk⟩, by simp⟩
  simp only [World.setRow, Array.getElem?_modify, b]
  simp
theorem wpList_storeSt {x y : Operand} {g : Nat} {s0 s : St} (hx : a.eval x = .pointer (some ⟨g, 0, none⟩)) (hy : a.eval y = .agg s.arr) (h0 : StAt w g s0) (ok : s.Ok)
    (h : ∀ w', Turned w w' g s → wpList Try.prog ops Q rest (a.put dst undef) w') :
    wpList Try.prog ops Q (⟨dst, .store 30 x y, ty, pos, aft, none⟩ :: rest) a w :=
  wpList_store_row rfl 30 x y rfl g s.arr hx hy _ _ h0.blk (by rw [s.arr_size]; exact size_st) (by rw [s.arr_size, s0.arr_size]) s.all_one (h _ (turned_row h0 ok))
/-- a State as a result -/
theorem results_st {fn : Func} {p : Tmp} {tmps : Array Value} {w : World} {g : Nat} {s : St} (h : fn.results = #[.cell p 30]) (hp : tmps.getD p undef = .pointer (some ⟨g, 0, none⟩)) (hs : StAt w g s) :
    (results fn tmps).run Try.prog w = .ok (.agg s.arr) w :=
  results_cell_row h tmps w g _ _ _ _ hp hs.blk Try.underlying30 rfl (by rw [s.arr_size]; exact size_st)
end
/-! a value of integers and bools is equal to itself -/
/-- the cells are as the type asks: bools, integers, arrays and structs of such -/
def shp (P : Program) : Nat → TypeId → List Value → Bool
  | 0, _, _ => false
  | d + 1, t, cs =>
    match P.underlying t with
    | some .bool => (match cs with | [.bool _] => true | _ => false)
    | some (.int _) => (match cs with | [.int _ _] => true | _ => false)
    | some (.array n e) => (P.info? e).isSome && (P.info? t).isSome && (List.range n).all fun i => shp P d e ((cs.drop (i * P.cellsOf e)).take (P.cellsOf e))
    | some (.struct fs) => (P.info? t).isSome && !P.stoodInHeld t && fs.toList.all fun f => f.name != "_" && shp P d f.type ((cs.drop f.offset).take (P.cellsOf f.type))
    | _ => false
def SelfAt (P : Program) (d m : Nat) (e : TypeId) : Prop := ∀ (w : World) (xs : Array Value) (off : Nat), shp P m e ((xs.toList.drop off).take (P.cellsOf e)) = true → ∃ a, (part e xs off).run P w = .ok a w ∧ (Op.equalIn (d + m) e a a).run P w = .ok true w
theorem self_items {P : Program} {d m : Nat} {e : TypeId} (w : World) (xs : Array Value) (ih : SelfAt P d m e) : ∀ is : List Nat, (∀ i ∈ is, shp P m e ((xs.toList.drop (i * P.cellsOf e)).take (P.cellsOf e)) = true) → (Op.eqItems (d + m) e (P.cellsOf e) xs xs is).run P w = .ok true w
  | [], _ => by simp [Op.eqItems]
  | i :: is, h => by
    obtain ⟨a, ha, he⟩ := ih w xs (i * P.cellsOf e) (h i (by simp))
    simp only [Op.eqItems, Sem.run_bind, ha, he, Result.andThen_ok]
    simpa using self_items w xs ih is (fun j hj => h j (by simp [hj]))
theorem self_fields {P : Program} {d m : Nat} (w : World) (xs : Array Value) : ∀ fs : List Field, (∀ f ∈ fs, SelfAt P d m f.type) → (∀ f ∈ fs, f.name ≠ "_" ∧ shp P m f.type ((xs.toList.drop f.offset).take (P.cellsOf f.type)) = true) → (Op.eqFields (d + m) xs xs fs).run P w = .ok true w
  | [], _, _ => by simp [Op.eqFields]
  | f :: fs, ih, h => by
    obtain ⟨hn, hs⟩ := h f (by simp)
    obtain ⟨a, ha, he⟩ := ih f (by simp) w xs f.offset hs
    simp only [Op.eqFields, hn, ne_eq, not_false_eq_true, if_true, Sem.run_bind, ha, he, Result.andThen_ok]
    simpa using self_fields w xs fs (fun j hj => ih j (by simp [hj])) (fun j hj => h j (by simp [hj]))
theorem agg_self {P : Program} {d m : Nat} {t : TypeId} (w : World) (xs : Array Value) (ih : ∀ e, SelfAt P d m e) (h : shp P (m + 1) t xs.toList = true) (ha : ∃ D, P.underlying t = some D ∧ D.isRow = true) : (Op.equalIn (d + (m + 1)) t (.agg xs) (.agg xs)).run P w = .ok true w := by
  unfold shp at h
  obtain ⟨D, hu, hd⟩ := ha
  rw [hu] at h
  cases D <;> simp only [TypeDesc.isRow, Bool.false_eq_true] at hd
  · rename_i n e
    simp only [Bool.and_eq_true, List.all_eq_true] at h
    obtain ⟨i, hi⟩ := Option.isSome_iff_exists.1 h.1.1
    rw [show d + (m + 1) = (d + m) + 1 from rfl, run_equalIn_array w (d + m) xs xs hu hi]
    exact self_items w xs (ih e) _ h.2
  · rename_i fs
    simp only [Bool.and_eq_true, List.all_eq_true, Bool.not_eq_true', bne_iff_ne] at h
    have hfs : P.fieldsOf t = fs := by simp [Program.fieldsOf, hu]
    rw [show d + (m + 1) = (d + m) + 1 from rfl, run_equalIn_struct w (d + m) t xs xs (by rw [hfs]; exact hu) h.1.2, hfs]
    exact self_fields w xs _ (fun f _ => ih f.type) h.2
theorem self_at (P : Program) (d : Nat) : ∀ (m : Nat) (e : TypeId), SelfAt P d m e
  | 0, e => fun w xs off h => by simp [shp] at h
  | m + 1, e => fun w xs off h => by
    have hs := h
    unfold shp at h
    cases hu : P.underlying e with
    | none => simp [hu] at h
    | some D =>
      rw [hu] at h
      cases D <;> simp only [Bool.false_eq_true] at h
      case bool =>
        split at h
        · rename_i b hb
          exact ⟨_, run_part_plain w (by simp [Program.plainKey, hu]) (getElem?_of_chunk hb), by rw [show d + (m + 1) = (d + m) + 1 from rfl, run_equalIn_bool w (d + m) e b b hu]; simp⟩
        · cases h
      case int k =>
        split at h
        · rename_i k' n hb
          exact ⟨_, run_part_plain w (by simp [Program.plainKey, hu]) (getElem?_of_chunk hb), by rw [show d + (m + 1) = (d + m) + 1 from rfl, run_equalIn_int w (d + m) e k' k n n hu]; simp⟩
        · cases h
      case array n e' =>
        have h2 := h
        simp only [Bool.and_eq_true] at h2
        obtain ⟨i, hi⟩ := Option.isSome_iff_exists.1 h2.1.2
        refine ⟨.agg (xs.extract off (off + P.cellsOf e)), by simp [part, isAgg, run_underlying hu, run_sizeOf w hi], ?_⟩
        exact agg_self w _ (self_at P d m) (by rw [Array.toList_extract]; simpa [List.extract] using hs) ⟨_, hu, rfl⟩
      case struct fs =>
        have h2 := h
        simp only [Bool.and_eq_true] at h2
        obtain ⟨i, hi⟩ := Option.isSome_iff_exists.1 h2.1.1
        refine ⟨.agg (xs.extract off (off + P.cellsOf e)), by simp [part, isAgg, run_underlying hu, run_sizeOf w hi], ?_⟩
        exact agg_self w _ (self_at P d m) (by rw [Array.toList_extract]; simpa [List.extract] using hs) ⟨_, hu, rfl⟩
/-- a State is equal to itself -/
theorem St.shape (s : St) : shp Try.prog 4 30 s.arr.toList = true := by kernel_rfl
theorem St.self (s : St) (w : World) : (Op.equalIn 10000 30 (.agg s.arr) (.agg s.arr)).run Try.prog w = .ok true w :=
  agg_self (d := 9996) (m := 3) w s.arr (self_at _ _ 3) s.shape ⟨_, Try.underlying30, rfl⟩
theorem St.eql (s : St) (w : World) : (binOp .eql 30 (.agg s.arr) (.agg s.arr)).run Try.prog w = .ok (.bool true) w := by
  rw [run_eql_struct, s.self]; rfl
theorem St.neq (s : St) (w : World) : (binOp .neq 30 (.agg s.arr) (.agg s.arr)).run Try.prog w = .ok (.bool false) w := by
  rw [run_neq_struct, s.self]; rfl
end Go.Proofs.Ytecddcbkgelcmaa

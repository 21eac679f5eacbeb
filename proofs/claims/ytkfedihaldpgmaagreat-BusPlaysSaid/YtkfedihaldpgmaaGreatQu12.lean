/-
  Chapter 12: a queue of bytes: a channel with room for sixteen; put and take of package uart (a select of one case with a default); len of a channel; make.
-/
import Derived.Test.YtkfedihaldpgmaaGreatWf9
import Derived.Conc.LoneSelect
import Derived.Conc.LoneSelectN
import Derived.KernelRfl
import Derived.Laws.Rows
namespace Go.Proofs.YtkfedihaldpgmaaGreat
open Go.Conc Go.RowKit
set_option linter.unusedVariables false
set_option linter.unusedSimpArgs false

/-- bytes as values -/
def bys (L : List Int) : List Value := L.map (Value.int .u8)
theorem bys_len (L : List Int) : (bys L).length = L.length := by simp [bys]
/-- block c is a channel with room for sixteen, in which the bytes L lie -/
def Qu (w : World) (c : Nat) (L : List Int) : Prop := ∃ s r, w.heap[c]? = some (.chan 16 (bys L).toArray false s r false)
section
variable {w w' : World} {c : Nat} {L : List Int}
theorem Qu.lt (h : Qu w c L) : c < w.heap.size := by
  obtain ⟨s, r, h⟩ := h
  exact (Array.getElem?_eq_some_iff.1 h).1
theorem Qu.fr {S : Nat → Prop} (h : Qu w c L) (f : Fr S w w') (hs : ¬ S c) : Qu w' c L := by
  have hl := h.lt
  obtain ⟨s, r, h⟩ := h
  exact ⟨s, r, (f.block c hl hs).trans h⟩
theorem fr_setChan (w : World) (c cap : Nat) (buf : Array Value) (cl : Bool) (s r : Nat) (tm : Bool) : Fr (fun k => k = c) w (w.setChan c cap buf cl s r tm) :=
  ⟨rfl, rfl, rfl, by simp [World.setChan], fun k _ hn => by simp only [World.setChan]; rw [Array.getElem?_setIfInBounds_ne (fun e => hn e.symm)]⟩
theorem qu_new (w : World) : Qu (w.alloc (.chan 16 #[] false 0 0 false)) w.heap.size [] := ⟨0, 0, heap_alloc_new w _⟩
theorem run_len_qu (h : Qu w c L) (t ty : TypeId) {dir : ChanDir} {e : TypeId} (ht : Tryz.prog.underlying t = some (.chan dir e)) :
    (Builtin.len_ #[t] ty #[.chan (some c)]).run Tryz.prog w = .ok (.int .i64 L.length) w := by
  obtain ⟨s, r, h⟩ := h
  have := run_len_chan (P := Tryz.prog) t ty ht h
  simpa [bys, goInt] using this
theorem bytes_u8 : ∃ i, Tryz.prog.info? 5 = some i ∧ i.bytes = 1 := by
  have h : (Tryz.prog.info? 5).map (·.bytes) = some 1 := by kernel_rfl
  obtain ⟨i, hi, hb⟩ := Option.map_eq_some_iff.1 h
  exact ⟨i, hi, hb⟩
theorem mk16 (w : World) : (Instr.makeChan 130 (.int .i64 16)).run Tryz.prog w = .ok (.chan (some w.heap.size)) (w.alloc (.chan 16 #[] false 0 0 false)) := by
  obtain ⟨i, hi, hb⟩ := bytes_u8
  simpa using run_makeChan (P := Tryz.prog) (w := w) Tryz.underlying130 hi .i64 16 (by omega) (by rw [hb]; omega)

set_option maxRecDepth 100000 in
theorem put_yes (b : Int) (h : Qu w c L) (hl : L.length < 16) :
    Calls Tryz.prog 86 #[.chan (some c), .int .u8 b] w fun e w' => e = .returned (.bool true) ∧ Qu w' c (L ++ [b]) ∧ Fr (fun k => k = c) w w' := by
  have hc := h.lt
  obtain ⟨s, r, h⟩ := h
  refine calls_of_loneTo fun cs => ?_
  have e : Frame.enter Tryz.prog 86 #[.chan (some c), .int .u8 b] .normal = (base 86).at ⟨#[.chan (some c), .int .u8 b, undef, undef, undef, undef, undef, undef, undef, undef], []⟩ [.code (Tryz.f86.body.getD .skip)] := by
    simp [Frame.enter, Frame.at, Tryz.func86, base, Tryz.f86]
  rw [e]
  refine LoneTo.goes (n := 14) ?_
  simp only [Tryz.f86, Option.getD_some]
  s_c stepG_seq
  s_reg
  s_op
  s_c stepG_region_end
  s_c stepG_seq
  s_c stepG_seq
  s_reg
  s_op
  s_c stepG_region_end
  s_reg
  s_op
  s_c stepG_region_end
  s_c stepG_seq
  s_reg
  s_stop
  refine LoneTo.step (step_lone_select_send_room (c := c) (cap := 16) (buf := (bys L).toArray) (s := s) (r := r) (tm := false) (stepG_comm (cases := #[scase c (.int .u8 b) (.int .u8 0)]) (blocking := false) (shape := .select) (w' := w) rfl rfl (by decide) (by simp [go_sem, execOp, scase, Act.eval])) h (by simp [bys]; exact hl)) ?_
  rw [Frame.finish_at]
  walk_nrm
  refine LoneTo.goes (n := 10) ?_
  s_op
  s_op
  s_c stepG_region_end
  s_c stepG_block
  s_cond true
  s_c stepG_seq
  s_reg
  s_op
  s_c stepG_region_end
  s_c stepG_ret'
  s_stop
  refine LoneTo.done ⟨.returned (.bool true), _, rfl, ⟨rfl, ⟨s + 1, r, ?_⟩, fr_setChan _ _ _ _ _ _ _ _⟩, rfl, rfl, rfl, rfl, _, Tryz.func86, by simp [results, Tryz.f86, Frame.at]⟩
  rw [heap_setChan _ _ _ _ _ _ _ _ hc]
  simp [bys]

set_option maxRecDepth 100000 in
theorem put_no (b : Int) (h : Qu w c L) (hl : 16 ≤ L.length) :
    Calls Tryz.prog 86 #[.chan (some c), .int .u8 b] w fun e w' => e = .returned (.bool false) ∧ w = w' := by
  obtain ⟨s, r, h⟩ := h
  refine calls_of_loneTo fun cs => ?_
  have e : Frame.enter Tryz.prog 86 #[.chan (some c), .int .u8 b] .normal = (base 86).at ⟨#[.chan (some c), .int .u8 b, undef, undef, undef, undef, undef, undef, undef, undef], []⟩ [.code (Tryz.f86.body.getD .skip)] := by
    simp [Frame.enter, Frame.at, Tryz.func86, base, Tryz.f86]
  rw [e]
  refine LoneTo.goes (n := 14) ?_
  simp only [Tryz.f86, Option.getD_some]
  s_c stepG_seq
  s_reg
  s_op
  s_c stepG_region_end
  s_c stepG_seq
  s_c stepG_seq
  s_reg
  s_op
  s_c stepG_region_end
  s_reg
  s_op
  s_c stepG_region_end
  s_c stepG_seq
  s_reg
  s_stop
  refine LoneTo.step (step_lone_select_send_full (c := c) (cap := 16) (buf := (bys L).toArray) (s := s) (r := r) (tm := false) (stepG_comm (cases := #[scase c (.int .u8 b) (.int .u8 0)]) (blocking := false) (shape := .select) (w' := w) rfl rfl (by decide) (by simp [go_sem, execOp, scase, Act.eval])) h (by simp [bys]; exact hl)) ?_
  rw [Frame.finish_at]
  walk_nrm
  refine LoneTo.goes (n := 10) ?_
  s_op
  s_op
  s_c stepG_region_end
  s_c stepG_block
  s_cond false
  s_c stepG_seq
  s_reg
  s_op
  s_c stepG_region_end
  s_c stepG_ret'
  s_stop
  exact LoneTo.done ⟨.returned (.bool false), _, rfl, ⟨rfl, rfl⟩, rfl, rfl, rfl, rfl, _, Tryz.func86, by simp [results, Tryz.f86, Frame.at]⟩

set_option maxRecDepth 100000 in
theorem take_byte (b : Int) (h : Qu w c (b :: L)) :
    Calls Tryz.prog 108 #[.chan (some c)] w fun e w' => e = .returned (.tuple #[.int .u8 b, .bool true]) ∧ Qu w' c L ∧ Fr (fun k => k = c) w w' := by
  have hc := h.lt
  obtain ⟨s, r, h⟩ := h
  have hx : (bys (b :: L)).toArray.getD 0 undef = .int .u8 b := by simp [bys]
  have hy : (bys (b :: L)).toArray.extract 1 (bys (b :: L)).toArray.size = (bys L).toArray := by
    simp [bys]
    exact List.take_of_length_le (by simp)
  refine calls_of_loneTo fun cs => ?_
  have e : Frame.enter Tryz.prog 108 #[.chan (some c)] .normal = (base 108).at ⟨#[.chan (some c), undef, undef, undef, undef, undef, undef, undef, undef, undef, undef], []⟩ [.code (Tryz.f108.body.getD .skip)] := by
    simp [Frame.enter, Frame.at, Tryz.func108, base, Tryz.f108]
  rw [e]
  refine LoneTo.goes (n := 11) ?_
  simp only [Tryz.f108, Option.getD_some]
  s_c stepG_seq
  s_reg
  s_op
  s_op
  s_c stepG_region_end
  s_c stepG_seq
  s_reg
  s_op
  s_c stepG_region_end
  s_c stepG_seq
  s_reg
  s_stop
  refine LoneTo.step (step_lone_select_recv_buf (c := c) (z := .int .u8 0) (cap := 16) (buf := (bys (b :: L)).toArray) (closed := false) (s := s) (r := r) (tm := false) (stepG_comm (cases := #[rcase c (.int .u8 0)]) (blocking := false) (shape := .select) (w' := w) rfl rfl (by decide) (by simp [go_sem, execOp, rcase, Act.eval])) h (by simp [bys])) ?_
  rw [Frame.finish_at, hx, hy]
  walk_nrm
  refine LoneTo.goes (n := 16) ?_
  s_op
  s_op
  s_c stepG_region_end
  s_c stepG_block
  s_cond true
  s_c stepG_seq
  s_reg
  s_op
  s_op
  s_c stepG_region_end
  s_c stepG_seq
  s_reg
  s_op
  s_op
  s_op
  s_c stepG_region_end
  s_stop
  refine LoneTo.goes (n := 1) ?_
  s_c stepG_ret'
  s_stop
  exact LoneTo.done ⟨.returned (.tuple #[.int .u8 b, .bool true]), _, rfl, ⟨rfl, ⟨s, r + 1, heap_setChan _ _ _ _ _ _ _ _ hc⟩, fr_setChan _ _ _ _ _ _ _ _⟩, rfl, rfl, rfl, rfl, _, Tryz.func108, by simp [results, Tryz.f108, Frame.at]⟩

set_option maxRecDepth 100000 in
theorem take_none (h : Qu w c []) :
    Calls Tryz.prog 108 #[.chan (some c)] w fun e w' => e = .returned (.tuple #[.int .u8 0, .bool false]) ∧ w = w' := by
  obtain ⟨s, r, h⟩ := h
  have h : w.heap[c]? = some (.chan 16 #[] false s r false) := h
  refine calls_of_loneTo fun cs => ?_
  have e : Frame.enter Tryz.prog 108 #[.chan (some c)] .normal = (base 108).at ⟨#[.chan (some c), undef, undef, undef, undef, undef, undef, undef, undef, undef, undef], []⟩ [.code (Tryz.f108.body.getD .skip)] := by
    simp [Frame.enter, Frame.at, Tryz.func108, base, Tryz.f108]
  rw [e]
  refine LoneTo.goes (n := 11) ?_
  simp only [Tryz.f108, Option.getD_some]
  s_c stepG_seq
  s_reg
  s_op
  s_op
  s_c stepG_region_end
  s_c stepG_seq
  s_reg
  s_op
  s_c stepG_region_end
  s_c stepG_seq
  s_reg
  s_stop
  refine LoneTo.step (step_lone_select_default (c := c) (z := .int .u8 0) (cap := 16) (s := s) (r := r) (tm := false) (stepG_comm (cases := #[rcase c (.int .u8 0)]) (blocking := false) (shape := .select) (w' := w) rfl rfl (by decide) (by simp [go_sem, execOp, rcase, Act.eval])) h) ?_
  rw [Frame.finish_at]
  walk_nrm
  refine LoneTo.goes (n := 11) ?_
  s_op
  s_op
  s_c stepG_region_end
  s_c stepG_block
  s_cond false
  s_c stepG_seq
  s_reg
  s_op
  s_op
  s_c stepG_region_end
  s_c stepG_ret'
  s_stop
  exact LoneTo.done ⟨.returned (.tuple #[.int .u8 0, .bool false]), _, rfl, ⟨rfl, rfl⟩, rfl, rfl, rfl, rfl, _, Tryz.func108, by simp [results, Tryz.f108, Frame.at]⟩
end
end Go.Proofs.YtkfedihaldpgmaaGreat

/-
  Chapter 8: where an address lies is what the document says, in any State, for any (the walk of SegTells).
-/
import Derived.Test.YtecddcbkgelcmaaDi8
namespace Go.Proofs.Ytecddcbkgelcmaa
open Go.RowKit
set_option linter.unusedVariables false
section
variable {K : Act → Prop} {C : World → Prop} {a : Act} {dst : Option Tmp} {t ty : TypeId} {pos : String} {aft : Array Edge} {gd : Option (Nat × Bool)} {x : Operand} {p : Addr} {v : Value}
theorem quiet_loadK (hx : a.eval x = .pointer (some p)) (hr : ∀ w, C w → (Instr.loadAt t (.pointer (some p))).run Try.prog w = .ok v w) (h : K (a.put dst v)) : Oper.quiet Try.prog ⟨dst, .load t x, ty, pos, aft, gd⟩ a C K :=
  ⟨v, fun w hw => by
    unfold Oper.quietAt execOp
    simp only [hx, Sem.run_bind, hr w hw, Result.andThen_ok, Sem.run_pure, Oper.quietUpon, and_self], h⟩
theorem wpList_eqlSt {ops : Array Oper} {rest : List Oper} {w : World} {Q : Exit → Act → World → Prop} {y : Operand} {ty' : TypeId} {s : St} (hx : a.eval x = .agg s.arr) (hy : a.eval y = .agg s.arr) (h : wpList Try.prog ops Q rest (a.put dst (.bool true)) w) :
    wpList Try.prog ops Q (⟨dst, .binOp .eql 30 x y ty', ty, pos, aft, none⟩ :: rest) a w :=
  wpList_plain rfl fun K hK => by
    have hg : (eqGuard .eql 30 x y (.agg s.arr) (.agg s.arr)).run Try.prog w = .ok () w := by
      unfold eqGuard
      simp
    unfold Oper.wp execOp
    simp only [hx, hy, Sem.run_bind, hg, s.eql w, Result.andThen_ok, Sem.run_pure]
    exact hK _ _ h
theorem run_loadW {w : World} (hc : w.cell? p = some v) : (Instr.loadAt 22 (.pointer (some p))).run Try.prog w = .ok v w := by go_simp
theorem run_loadE {w : World} (hc : w.cell? p = some v) : (Instr.loadAt 36 (.pointer (some p))).run Try.prog w = .ok v w := by go_simp
end
section
variable {w : World} {ra ca ta : Option Addr} {rl rc cl cc tl tc : Nat} {pc st cs hi ct sh : Int} {sl lk : Bool}
set_option maxRecDepth 100000 in
set_option maxHeartbeats 4000000 in
theorem tells_walk (va : Option Addr) (vl vc : Nat) (n : Int) (h : DrawnAt w w.heap.size ra ca ta rl cl tl pc st cs hi ct sh) (hva : WordsAt w w.heap.size va vl) (hvl : vl ≤ 9223372036854775807) :
    Calls Try.prog 4 #[drawnV ra ca ta rl rc cl cc tl tc pc st cs hi ct sh sl lk, .slice va vl vc, .int .i64 n] w (RetB (.bool true) w) := by
  have HD := Lib.hid h
  have HV := Lib.hid hva
  clear h hva
  unfold drawnV
  go_enter Try.func4, Try.ntmps4
  go_wp2_with fail
  have b0 := (Below.refl w.heap.size w).alloc (Nat.le_refl _) (.cells #[.slice ra rl rc, .int .u32 pc, .int .u32 st, .int .u32 cs, .int .u32 hi, .bool sl, .bool lk, .slice ca cl cc, .slice ta tl tc, .int .u32 ct, .int .u32 sh] 38)
  have g0 := (Fr.refl (New w.heap.size) w).alloc (.cells #[.slice ra rl rc, .int .u32 pc, .int .u32 st, .int .u32 cs, .int .u32 hi, .bool sl, .bool lk, .slice ca cl cc, .slice ta tl tc, .int .u32 ct, .int .u32 sh] 38)
  have x8 : (w.alloc (.cells #[.slice ra rl rc, .int .u32 pc, .int .u32 st, .int .u32 cs, .int .u32 hi, .bool sl, .bool lk, .slice ca cl cc, .slice ta tl tc, .int .u32 ct, .int .u32 sh] 38)).cell? ⟨w.heap.size, 8, none⟩ = some (.slice ta tl tc) := cell_of_row _ _ 8 _ _ _ (heap_alloc_last w _)
  refine (state_any (rc := rc) (cc := cc) (tc := tc) (sl := sl) (lk := lk) 0 ((HD.out.below b0).up b0.size) ⟨by omega, by omega⟩).mono ?_
  rintro e w1 ⟨s, rfl, ok, dn, tm, b1⟩
  have g1 := g0.trans (Fr.of_below (S := New w.heap.size) b1)
  have x81 := Bl.cell b1 x8
  have z0 : w.heap.size < w1.heap.size := block_lt_of_cell x81
  have z1 := g1.size
  clear b0 g0 b1 dn tm x8
  go_wp2_with (with_reducible refine wpList_allocSt ?_)
  intro g w2 l2 h2 f2
  go_wp2_with ((with_reducible refine wpList_storeSt ?_ ?_ h2 ok ?_); rfl; rfl)
  intro w3 t3
  have TA := t3.at_
  go_wp2_with (first | ((with_reducible refine wpList_loadSt ?_ TA ?_); rfl) | (with_reducible refine wpList_allocSt ?_))
  intro m w4 l4 h4 f4
  go_wp2_with ((with_reducible refine wpList_storeSt ?_ ?_ h4 ok ?_); rfl; rfl)
  intro w5 t5
  have q1 := t3.at_.lt
  have q2 := t3.size
  have q3 := f2.size
  have hT : Two w5 g m s := ⟨(t3.at_.fr f4 id).fr t5.fr (by omega), t5.at_, by omega⟩
  have hg : w.heap.size ≤ g := by omega
  have hm : w.heap.size ≤ m := by omega
  have x85 := cell_fr t5.fr (cell_fr f4 (cell_fr t3.fr (cell_fr f2 x81 id) (show ¬ w.heap.size = g by omega)) id) (show ¬ w.heap.size = m by omega)
  have g5 := (((g1.trans (f2.new (fun _ x => x.elim))).trans (t3.fr.new (by rintro k rfl; exact hg))).trans (f4.new (fun _ x => x.elim))).trans (t5.fr.new (by rintro k rfl; exact hm))
  clear q1 q2 q3 t3 t5 h2 h4 f2 f4 l2 l4 g1 z0 z1 TA x81
  go_wp2_with fail
  go_loopw [9] (fun i wr => ∃ k : Nat, k ≤ 20 ∧ k ≤ vl ∧ i = .int .i64 k ∧ Bl w5 wr) (fun i _ => 20 - (intOf i).toNat)
  case atStart => exact ⟨0, by omega, by omega, by go_num, Below.refl _ _⟩
  case round =>
    obtain ⟨k, hk, hkl, rfl, hb⟩ := hrel
    by_cases hlt : k < 20 ∧ k < vl
    · obtain ⟨x0, x1⟩ := hlt
      obtain ⟨vb, vo, v, rfl, hvb, qv, hv⟩ := HV.out k x1
      have c5 := cell_fr g5 qv (show ¬ New w.heap.size vb by unfold New; omega)
      have c6 := hb.cell c5
      clear qv
      have z20 : (k : Int) < 20 := by omega
      obtain ⟨v0, v1⟩ := id hv
      have WV := Lib.hid hv
      clear hv
      go_wp2_with fail
      refine (same_any v n (hT.a.below hb) WV.out).mono ?_
      rintro e w6 ⟨rfl, b6⟩
      have hb6 := hb.step b6
      have c7 := hb6.cell c5
      clear c6 hb b6
      go_wp2_with fail
      refine (same_any _ 4 (hT.a.below hb6) (w_andNot _ _)).mono ?_
      rintro e w7 ⟨rfl, b7⟩
      have hb7 := hb6.step b7
      have c8 := hb7.cell c5
      clear c7 hb6 b7
      go_wp2_with fail
      refine (same_any _ 1 (hT.a.below hb7) ⟨by omega, by omega⟩).mono ?_
      rintro e w8 ⟨rfl, b8⟩
      have hb8 := hb7.step b8
      have c9 := hb8.cell c5
      have y8 := hb8.cell x85
      clear c8 hb7 b8
      go_wp2_with fail
      by_cases htl : 0 < tl
      · have htl' : (0 : Int) < tl := by omega
        obtain ⟨j, hj, ej⟩ : ∃ j : Nat, j < tl ∧ (k : Int).tmod tl = j := ⟨k % tl, Nat.mod_lt _ htl, by rw [Int.tmod_eq_emod_of_nonneg (by omega)]; omega⟩
        have hj' : (j : Int) < tl := by omega
        have tlb := HD.out.tl
        obtain ⟨eb, eo, th, tw, rfl, heb, p0, p1, hth, htw⟩ := HD.out.t j hj
        have d8 := hb8.cell (cell_fr g5 p0 (show ¬ New w.heap.size eb by unfold New; omega))
        clear p0 p1 htw
        refine wp_region_bl (by kernel_rfl) (by kernel_rfl) ?_
        go_big_quiet_step (exact fun _ => rfl)
        go_big_quiet_want
        refine quiet_loadK (p := ⟨w.heap.size, 8, none⟩) rfl (fun w' hw' => run_loadE (hw'.cell y8)) ?_
        go_big_quiet_on
        quiet_step (exact fun _ => rfl)
        go_big_quiet_step (exact fun _ => rfl)
        go_big_quiet_step (exact fun _ => rfl)
        go_big_quiet_step (exact fun _ => rfl)
        go_big_quiet_want
        refine quiet_loadK (p := ⟨w.heap.size, 8, none⟩) rfl (fun w' hw' => run_loadE (hw'.cell y8)) ?_
        go_big_quiet_on
        quiet_step (exact fun _ => rfl)
        go_big_quiet_step (exact fun _ => rfl)
        go_big_quiet_want
        refine quiet_loadK (p := ⟨w.heap.size, 8, none⟩) rfl (fun w' hw' => run_loadE (hw'.cell y8)) ?_
        go_big_quiet_on
        quiet_step (exact fun _ => rfl)
        go_big_quiet_step (exact fun _ => rfl)
        go_big_quiet_step (exact fun _ => rfl)
        go_big_quiet_step (exact fun _ => rfl)
        go_big_quiet_want
        refine quiet_loadK (p := ⟨eb, eo + j * 2, none⟩) rfl (fun w' hw' => run_loadW (hw'.cell d8)) ?_
        go_big_quiet_on
        quiet_step (exact fun _ => rfl)
        go_big_quiet_step (exact fun _ => rfl)
        go_big_quiet_step (exact fun _ => rfl)
        go_big_quiet_want
        refine quiet_loadK (p := ⟨vb, vo + k, none⟩) rfl (fun w' hw' => run_loadW (hw'.cell c9)) ?_
        go_big_quiet_on
        quiet_step (exact fun _ => rfl)
        repeat go_big_quiet_step ((first
          | exact fun _ => rfl
          | (intro hw'; go_at_call 9; exact (same_any _ 4 (hT.a.below (hb8.step hw')) (w_or _ _)).mono (RetB.bl hw'))))
        refine wpQuiet_nil ?_
        intro w9 hb9
        have hb10 := hb8.step hb9
        clear hb8 hb9 c9 y8 d8
        go_wp2_with fail
        go_roundw
        case rel => exact ⟨k + 1, by omega, by omega, by go_num, hb10⟩
        case measure => simp [intOf]; omega
      · have htl0 : tl = 0 := by omega
        subst htl0
        refine wp_region_bl (by kernel_rfl) (by kernel_rfl) ?_
        go_big_quiet_step (exact fun _ => rfl)
        go_big_quiet_want
        refine quiet_loadK (p := ⟨w.heap.size, 8, none⟩) rfl (fun w' hw' => run_loadE (hw'.cell y8)) ?_
        go_big_quiet_on
        quiet_step (exact fun _ => rfl)
        repeat go_big_quiet_step (exact fun _ => rfl)
        refine wpQuiet_nil ?_
        intro w9 hb9
        have hb10 := hb8.step hb9
        clear hb8 hb9 c9 y8
        go_wp2_with fail
        go_roundw
        case rel => exact ⟨k + 1, by omega, by omega, by go_num, hb10⟩
        case measure => simp [intOf]; omega
    · have hlt2 : ¬ k < 20 ∨ ¬ k < vl := by omega
      clear hlt
      have T9 := hT.below hb
      have TA := T9.a
      have TB := T9.b
      by_cases hkk : k < vl
      · have z20 : ¬ (k : Int) < 20 := by omega
        have z21 : decide ((k : Int) < 20) = false := by simp; omega
        go_wp2_with (first
          | ((with_reducible refine wpList_loadSt ?_ TA ?_); rfl)
          | ((with_reducible refine wpList_loadSt ?_ TB ?_); rfl)
          | ((with_reducible refine wpList_eqlSt (s := s) ?_ ?_ ?_); rfl; rfl))
        refine (known_any _).mono ?_
        rintro e w6 ⟨rfl, b6⟩
        go_wp2_with fail
        go_ret
        exact ⟨rfl, ((g5.trans (Fr.of_below (S := New w.heap.size) hb)).trans (Fr.of_below (S := New w.heap.size) b6)).newB⟩
      · have z21 : decide ((k : Int) < vl) = false := by simp; omega
        go_wp2_with (first
          | ((with_reducible refine wpList_loadSt ?_ TA ?_); rfl)
          | ((with_reducible refine wpList_loadSt ?_ TB ?_); rfl)
          | ((with_reducible refine wpList_eqlSt (s := s) ?_ ?_ ?_); rfl; rfl))
        refine (known_any _).mono ?_
        rintro e w6 ⟨rfl, b6⟩
        go_wp2_with fail
        go_ret
        exact ⟨rfl, ((g5.trans (Fr.of_below (S := New w.heap.size) hb)).trans (Fr.of_below (S := New w.heap.size) b6)).newB⟩
end
end Go.Proofs.Ytecddcbkgelcmaa

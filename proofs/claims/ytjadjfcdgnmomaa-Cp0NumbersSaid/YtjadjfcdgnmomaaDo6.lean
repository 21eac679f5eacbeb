/-
  Chapter 6: one call of both, the program's and the document's, on two States that are the same: they answer the same, and stay the same (function 'do').
-/
import Derived.Test.YtjadjfcdgnmomaaKn6
import Derived.Test.YtjadjfcdgnmomaaBit
import Derived.Deep.DeepCutAuto
import Derived.Deep.CutBlock
import Derived.Deep.RegionHeld3
import Derived.Deep.RegionWith
namespace Go.Proofs.Ytjadjfcdgnmomaa
open Go.RowKit
set_option linter.unusedVariables false

/-- two blocks hold the same State -/
structure Two (w : World) (g m : Nat) (s : St) : Prop where
  a : StAt w g s
  b : StAt w m s
  ne : g ≠ m
def Own2 (g m k : Nat) : Prop := k = g ∨ k = m
section
variable {w w' w1 w2 : World} {g m : Nat} {s s' : St}
theorem Two.fr {S : Nat → Prop} (h : Two w g m s) (f : Fr S w w') (hg : ¬ S g) (hm : ¬ S m) : Two w' g m s := ⟨h.a.fr f hg, h.b.fr f hm, h.ne⟩
theorem Two.drewN (h : Two w g m s) (n : Nat) : Two (w.drewN n) g m s := ⟨h.a.drewN n, h.b.drewN n, h.ne⟩
/-- both have turned alike -/
theorem Two.both (h : Two w g m s) (t1 : Turned w w1 g s') (t2 : Turned w1 w2 m s') : Two w2 g m s' := ⟨t1.at_.fr t2.fr h.ne, t2.at_, h.ne⟩
theorem Two.fr2 (t1 : Turned w w1 g s') (t2 : Turned w1 w2 m s') : Fr (Own2 g m) w w2 := (t1.fr.mono fun _ e => .inl e).trans (t2.fr.mono fun _ e => .inr e)
theorem Two.rest (h : Two w g m s) (t1 : Turned w w1 g s') : StAt w1 m s := h.b.fr t1.fr (fun e => h.ne e.symm)
end
/-- a call's cells -/
def askF (kd n v : Int) (f : Bool) (t : Int) : Nat → Value
  | 0 => .int .i64 kd
  | 1 => .int .i64 n
  | 2 => .int .u32 v
  | 3 => .bool f
  | _ => .int .i64 t
theorem ask_row (w : World) (kd n v : Int) (f : Bool) (t : Int) : (w.alloc (.cells #[.int .i64 kd, .int .i64 n, .int .u32 v, .bool f, .int .i64 t] 35)).rowIs w.heap.size 35 5 (askF kd n v f t) :=
  World.rowIs_alloc w _ _ _ fun i hi => by
    have : i = 0 ∨ i = 1 ∨ i = 2 ∨ i = 3 ∨ i = 4 := by have : i < 5 := hi; omega
    rcases this with rfl | rfl | rfl | rfl | rfl <;> rfl
theorem own2_new {g m B : Nat} (hg : B ≤ g) (hm : B ≤ m) : ∀ k, Own2 g m k → B ≤ k := by rintro k (rfl | rfl); exact hg; exact hm
def DoP (w : World) (g m : Nat) (e : Ending) (w' : World) : Prop := e = .returned (.bool true) ∧ (∃ s, Two w' g m s) ∧ Fr (Own2 g m) w w'
theorem row_two {w1 w2 w3 : World} {g m X T n : Nat} {s s' : St} {F : Nat → Value} (h : w1.rowIs X T n F) (t1 : Turned w1 w2 g s) (t2 : Turned w2 w3 m s') (hX : ¬ X = g ∧ ¬ X = m) : w3.rowIs X T n F :=
  (h.of_block (t1.fr.block _ h.lt hX.1)).of_block (t2.fr.block _ (h.of_block (t1.fr.block _ h.lt hX.1)).lt hX.2)
/-! a State loaded whole, and compared with itself, in a region that draws its order -/
section
variable {ops : Array Oper} {rest : List Oper} {C : World → Prop} {Q : Act → Prop} {a : Act} {dst : Option Tmp} {ty ty' : TypeId} {pos : String} {aft : Array Edge} {g : Nat} {s : St}
theorem run_loadSt {w : World} (h : StAt w g s) : (Instr.loadAt 29 (.pointer (some ⟨g, 0, none⟩))).run Try.prog w = .ok (.agg s.arr) w := by
  simp only [Instr.loadAt, Instr.sureAddr, Sem.run_bind, Sem.run_pure, Result.andThen_ok]
  exact run_loadVar_row w g _ _ _ _ _ h.blk Try.underlying29 rfl (by rw [s.arr_size]; exact size_st)
theorem quiet_loadSt {x : Operand} (hx : a.eval x = .pointer (some ⟨g, 0, none⟩)) (hC : ∀ w, C w → StAt w g s) (h : wpQuiet Try.prog ops C Q rest (a.put dst (.agg s.arr))) :
    wpQuiet Try.prog ops C Q (⟨dst, .load 29 x, ty, pos, aft, none⟩ :: rest) a :=
  BigFrame.wpQuiet_want rfl fun K hK => ⟨.agg s.arr, fun w hw => by
    unfold Oper.quietAt execOp
    simp only [hx, Sem.run_bind, run_loadSt (hC w hw), Result.andThen_ok, Sem.run_pure, Oper.quietUpon, and_self], hK _ h⟩
theorem quiet_eqlSt {x y : Operand} (hx : a.eval x = .agg s.arr) (hy : a.eval y = .agg s.arr) (h : wpQuiet Try.prog ops C Q rest (a.put dst (.bool true))) :
    wpQuiet Try.prog ops C Q (⟨dst, .binOp .eql 29 x y ty', ty, pos, aft, none⟩ :: rest) a :=
  BigFrame.wpQuiet_want rfl fun K hK => ⟨.bool true, fun w hw => by
    have hg : (eqGuard .eql 29 x y (.agg s.arr) (.agg s.arr)).run Try.prog w = .ok () w := by
      unfold eqGuard
      simp
    unfold Oper.quietAt execOp
    simp only [hx, hy, Sem.run_bind, hg, s.eql w, Result.andThen_ok, Sem.run_pure, Oper.quietUpon, and_self], hK _ h⟩
end
section
variable {w : World} {g m : Nat} {s : St}
set_option maxRecDepth 100000 in
set_option maxHeartbeats 4000000 in
theorem do_any (kd n v t : Int) (f : Bool) (h : Two w g m s) (hv : W32 v) (n0 : -9223372036854775808 ≤ n) (n1 : n ≤ 9223372036854775807) (t0 : -9223372036854775808 ≤ t) (t1 : t ≤ 9223372036854775807) :
    Calls Try.prog 9 #[.pointer (some ⟨g, 0, none⟩), .pointer (some ⟨m, 0, none⟩), .agg #[.int .i64 kd, .int .i64 n, .int .u32 v, .bool f, .int .i64 t]] w (DoP w g m) := by
  go_enter Try.func9, Try.ntmps9
  go_upto_block 0 with fail
  go_cut [5] (fun s5 wc => s5 = .pointer (some ⟨w.heap.size, 0, none⟩) ∧ ∃ s2, Two wc g m s2 ∧ wc.rowIs w.heap.size 35 5 (askF kd n v f t) ∧ Fr (Own2 g m) w wc)
  case first =>
    have hx0 := ask_row w kd n v f t
    have h0 := h.fr ((Fr.refl (fun _ => False) w).alloc (.cells #[.int .i64 kd, .int .i64 n, .int .u32 v, .bool f, .int .i64 t] 35)) id id
    have hf0 := (Fr.refl (Own2 g m) w).alloc (.cells #[.int .i64 kd, .int .i64 n, .int .u32 v, .bool f, .int .i64 t] 35)
    have hXo : ¬ w.heap.size = g ∧ ¬ w.heap.size = m := ⟨by have := h.a.lt; omega, by have := h.b.lt; omega⟩
    clear h
    generalize w.alloc (.cells #[.int .i64 kd, .int .i64 n, .int .u32 v, .bool f, .int .i64 t] 35) = W0 at hx0 h0 hf0 ⊢
    have x0 := hx0.cell (i := 0) (by omega)
    have x1 := hx0.cell (i := 1) (by omega)
    have x2 := hx0.cell (i := 2) (by omega)
    have x3 := hx0.cell (i := 3) (by omega)
    have x4 := hx0.cell (i := 4) (by omega)
    simp only [askF] at x0 x1 x2 x3 x4
    by_cases k4 : kd = 4
    · subst k4
      go_wp2_with fail
      refine (enter_any _ f h0.a).mono ?_
      rintro e w2 ⟨rfl, t2⟩
      have hb2 := h0.rest t2
      have y1 := cell_fr t2.fr x1 hXo.1
      have y3 := cell_fr t2.fr x3 hXo.1
      go_wp2_with fail
      refine (renter_any _ f hb2).mono ?_
      rintro e w3 ⟨rfl, t3⟩
      go_wp2_with fail
      go_meet
      exact ⟨rfl, _, h0.both t2 t3, row_two hx0 t2 t3 hXo, hf0.trans (Two.fr2 t2 t3)⟩
    · by_cases k5 : kd = 5
      · subst k5
        go_wp2_with fail
        refine (bad_any v f h0.a hv).mono ?_
        rintro e w2 ⟨rfl, t2⟩
        have hb2 := h0.rest t2
        have y2 := cell_fr t2.fr x2 hXo.1
        have y3 := cell_fr t2.fr x3 hXo.1
        go_wp2_with fail
        refine (rbad_any v f hb2 hv).mono ?_
        rintro e w3 ⟨rfl, t3⟩
        go_wp2_with fail
        go_meet
        exact ⟨rfl, _, h0.both t2 t3, row_two hx0 t2 t3 hXo, hf0.trans (Two.fr2 t2 t3)⟩
      · by_cases k6 : kd = 6
        · subst k6
          go_wp2_with fail
          refine (return_any h0.a).mono ?_
          rintro e w2 ⟨rfl, t2⟩
          have hb2 := h0.rest t2
          go_wp2_with fail
          refine (rreturn_any hb2).mono ?_
          rintro e w3 ⟨rfl, t3⟩
          go_wp2_with fail
          go_meet
          exact ⟨rfl, _, h0.both t2 t3, row_two hx0 t2 t3 hXo, hf0.trans (Two.fr2 t2 t3)⟩
        · by_cases k9 : kd = 9
          · subst k9
            go_wp2_with fail
            refine (line_any f h0.a).mono ?_
            rintro e w2 ⟨rfl, t2⟩
            have hb2 := h0.rest t2
            have y3 := cell_fr t2.fr x3 hXo.1
            go_wp2_with fail
            refine (rline_any f hb2).mono ?_
            rintro e w3 ⟨rfl, t3⟩
            go_wp2_with fail
            go_meet
            exact ⟨rfl, _, h0.both t2 t3, row_two hx0 t2 t3 hXo, hf0.trans (Two.fr2 t2 t3)⟩
          · by_cases k7 : kd = 7
            · subst k7
              by_cases hA : 1099511627776 < t ∨ t < -1099511627776
              · have hd := tmod_pos t 1099511627776 (by omega)
                rcases hA with hA | hA
                all_goals
                  go_wp2_with fail
                  refine (go_any _ h0.a (by omega) (by omega)).mono ?_
                  rintro e w2 ⟨rfl, t2⟩
                  have hb2 := h0.rest t2
                  go_wp2_with fail
                  refine (rgo_any _ hb2 (by omega) (by omega)).mono ?_
                  rintro e w3 ⟨rfl, t3⟩
                  go_wp2_with fail
                  go_meet
                  exact ⟨rfl, _, h0.both t2 t3, row_two hx0 t2 t3 hXo, hf0.trans (Two.fr2 t2 t3)⟩
              · have hA1 : ¬ 1099511627776 < t := by omega
                have hA2 : ¬ t < -1099511627776 := by omega
                clear hA
                go_wp2_with fail
                refine (go_any _ h0.a (by omega) (by omega)).mono ?_
                rintro e w2 ⟨rfl, t2⟩
                have hb2 := h0.rest t2
                go_wp2_with fail
                refine (rgo_any _ hb2 (by omega) (by omega)).mono ?_
                rintro e w3 ⟨rfl, t3⟩
                go_wp2_with fail
                go_meet
                exact ⟨rfl, _, h0.both t2 t3, row_two hx0 t2 t3 hXo, hf0.trans (Two.fr2 t2 t3)⟩
            · by_cases k8 : kd = 8
              · subst k8
                have hd := tmod_pos t 60 (by omega)
                go_wp2_with fail
                refine (go_any _ h0.a (by omega) (by omega)).mono ?_
                rintro e w2 ⟨rfl, t2⟩
                have hb2 := h0.rest t2
                go_wp2_with fail
                refine (rgo_any _ hb2 (by omega) (by omega)).mono ?_
                rintro e w3 ⟨rfl, t3⟩
                go_wp2_with fail
                go_meet
                exact ⟨rfl, _, h0.both t2 t3, row_two hx0 t2 t3 hXo, hf0.trans (Two.fr2 t2 t3)⟩
              · have e4 : (kd == 4) = false := by simpa using k4
                have e5 : (kd == 5) = false := by simpa using k5
                have e6 : (kd == 6) = false := by simpa using k6
                have e7 : (kd == 7) = false := by simpa using k7
                have e8 : (kd == 8) = false := by simpa using k8
                have e9 : (kd == 9) = false := by simpa using k9
                clear k4 k5 k6 k7 k8 k9
                go_wp2_with fail
                refine (write_any n v h0.a hv).mono ?_
                rintro e w2 ⟨rfl, t2⟩
                have hb2 := h0.rest t2
                have y1 := cell_fr t2.fr x1 hXo.1
                have y2 := cell_fr t2.fr x2 hXo.1
                go_wp2_with fail
                refine (rwrite_any n v hb2 hv).mono ?_
                rintro e w3 ⟨rfl, t3⟩
                go_wp2_with fail
                go_meet
                exact ⟨rfl, _, h0.both t2 t3, row_two hx0 t2 t3 hXo, hf0.trans (Two.fr2 t2 t3)⟩
  case rest =>
    obtain ⟨rfl, s2, h2, hx, hf2⟩ := hcut
    have x1 := hx.cell (i := 1) (by omega)
    simp only [askF] at x1
    clear h hx
    go_wp2_with fail
    go_loop [8] (fun i => ∃ k : Int, -1 ≤ k ∧ k ≤ 18 ∧ i = .int .i64 k) (fun i => (18 - intOf i).toNat)
    case atStart => exact ⟨-1, by omega, by omega, rfl⟩
    case round =>
      obtain ⟨k, k0, k1, rfl⟩ := hrel
      by_cases hlt : k < 18
      · go_wp2_with fail
        refine (read_any k h2.a).mono ?_
        rintro e w3 ⟨rfl, rfl⟩
        go_wp2_with fail
        refine (rread_any k h2.b).mono ?_
        rintro e w3 ⟨rfl, rfl⟩
        go_wp2_with fail
        go_round
        case rel => exact ⟨k + 1, by omega, by omega, rfl⟩
        case measure => simp [intOf]; omega
      · go_wp2_with fail
        refine wp_region_quiet_lit (by kernel_rfl) (by kernel_rfl) ?_
        go_big_quiet_step (fail)
        go_big_quiet_step (fail)
        refine quiet_loadSt rfl (fun w' hw' => by obtain ⟨q, rfl⟩ := hw'; exact h2.a.drewN q) ?_
        quiet_step (fail)
        go_big_quiet_step (fail)
        refine quiet_loadSt rfl (fun w' hw' => by obtain ⟨q, rfl⟩ := hw'; exact h2.b.drewN q) ?_
        refine quiet_eqlSt rfl rfl ?_
        quiet_step (fail)
        repeat go_big_quiet_step ((first
          | (go_at_call 13; exact (user_any (h2.a.drewN _)).mono fun _ _ h => ⟨h.1, _, h.2.symm⟩)
          | (go_at_call 29; exact (ruser_any (h2.b.drewN _)).mono fun _ _ h => ⟨h.1, _, h.2.symm⟩)
          | (go_at_call 14; exact (read_any n (h2.a.drewN _)).mono fun _ _ h => ⟨h.1, _, h.2.symm⟩)
          | (go_at_call 28; exact (rread_any n (h2.b.drewN _)).mono fun _ _ h => ⟨h.1, _, h.2.symm⟩)
          | (go_at_call 30; exact Calls.quiet_of (pending_any (h2.a.drewN _)))
          | (go_at_call 31; exact Calls.quiet_of (rpending_any (h2.b.drewN _)))
          | (go_at_call 17; exact Calls.quiet_of (taken_any (h2.a.drewN _)))
          | (go_at_call 32; exact Calls.quiet_of (rtaken_any (h2.b.drewN _)))))
        refine wpQuiet_nil ?_
        intro _ hw'
        obtain ⟨nq, hw''⟩ := hw'
        subst hw''
        go_wp2_with fail
        go_ret
        exact ⟨rfl, ⟨s2, h2.drewN _⟩, hf2.drewN _⟩
end
end Go.Proofs.Ytjadjfcdgnmomaa

/-
  Chapter 7: one call of both, the program's and the document's, on two States that are the same: they stay the same (function 'do').
-/
import Derived.Test.YtckgkelggmhldaaSm7
namespace Go.Proofs.Ytckgkelggmhldaa
open Go.RowKit
set_option linter.unusedVariables false
theorem and3i (n : Int) : bits .and .i64 n 3 = n % 4 := by
  have e : (BitVec.ofInt 64 n &&& BitVec.ofInt 64 3).toNat = (n % 4).toNat := by
    rw [BitVec.toNat_and]
    have h3 : (BitVec.ofInt 64 3).toNat = 2 ^ 2 - 1 := by decide
    rw [h3, Nat.and_two_pow_sub_one_eq_mod, BitVec.toNat_ofInt]
    omega
  show IntKind.i64.wrap ((BitVec.ofInt 64 n &&& BitVec.ofInt 64 3).toNat : Int) = n % 4
  rw [e, IntKind.wrap_i64]; omega
/-- a call's cells -/
def askF (kd n v : Int) (f : Bool) : Nat → Value
  | 0 => .int .i64 kd
  | 1 => .int .i64 n
  | 2 => .int .u32 v
  | _ => .bool f
theorem ask_row (w : World) (kd n v : Int) (f : Bool) : (w.alloc (.cells #[.int .i64 kd, .int .i64 n, .int .u32 v, .bool f] 33)).rowIs w.heap.size 33 4 (askF kd n v f) :=
  World.rowIs_alloc w _ _ _ fun i hi => by
    have : i = 0 ∨ i = 1 ∨ i = 2 ∨ i = 3 := by have : i < 4 := hi; omega
    rcases this with rfl | rfl | rfl | rfl <;> rfl
def DoP (w : World) (g m : Nat) (e : Ending) (w' : World) : Prop := e = .returned (.bool true) ∧ (∃ s, Two w' g m s) ∧ Fr (Own2 g m) w w'
section
variable {w : World} {g m : Nat} {s : St}
set_option maxRecDepth 100000 in
set_option maxHeartbeats 2000000 in
theorem do_any (kd n v : Int) (f : Bool) (h : Two w g m s) (hv : W32 v) :
    Calls Try.prog 8 #[.pointer (some ⟨g, 0, none⟩), .pointer (some ⟨m, 0, none⟩), .agg #[.int .i64 kd, .int .i64 n, .int .u32 v, .bool f]] w (DoP w g m) := by
  go_enter Try.func8, Try.ntmps8
  go_upto_block 0 with fail
  go_cut [5, 7] (fun s5 s7 wc => ∃ s2, Two wc g m s2 ∧ Fr (Own2 g m) w wc)
  case first =>
    have hx0 := ask_row w kd n v f
    have h0 := h.fr ((Fr.refl (fun _ => False) w).alloc (.cells #[.int .i64 kd, .int .i64 n, .int .u32 v, .bool f] 33)) id id
    have hf0 := (Fr.refl (Own2 g m) w).alloc (.cells #[.int .i64 kd, .int .i64 n, .int .u32 v, .bool f] 33)
    have hXo : ¬ w.heap.size = g ∧ ¬ w.heap.size = m := ⟨by have := h.a.lt; omega, by have := h.b.lt; omega⟩
    clear h
    generalize w.alloc (.cells #[.int .i64 kd, .int .i64 n, .int .u32 v, .bool f] 33) = W0 at hx0 h0 hf0 ⊢
    have x0 := hx0.cell (i := 0) (by omega)
    have x1 := hx0.cell (i := 1) (by omega)
    have x2 := hx0.cell (i := 2) (by omega)
    have x3 := hx0.cell (i := 3) (by omega)
    simp only [askF] at x0 x1 x2 x3
    by_cases k2 : kd = 2
    · subst k2
      go_wp2_with fail
      refine (get_any h0.a).mono ?_
      rintro e w2 ⟨rfl, t2⟩
      go_wp2_with fail
      refine (rget_any (h0.rest t2)).mono ?_
      rintro e w3 ⟨rfl, t3⟩
      go_wp2_with fail
      go_meet
      exact ⟨_, h0.both t2 t3, hf0.trans (Two.fr2 t2 t3)⟩
    · by_cases k3 : kd = 3
      · subst k3
        go_wp2_with fail
        refine (probe_any h0.a).mono ?_
        rintro e w2 ⟨rfl, t2⟩
        go_wp2_with fail
        refine (rprobe_any (h0.rest t2)).mono ?_
        rintro e w3 ⟨rfl, t3⟩
        go_wp2_with fail
        go_meet
        exact ⟨_, h0.both t2 t3, hf0.trans (Two.fr2 t2 t3)⟩
      · by_cases k4 : kd = 4
        · subst k4
          have hn := and3i n
          have hl : bits .and .i64 n 3 = 0 ∨ bits .and .i64 n 3 = 1 ∨ bits .and .i64 n 3 = 2 ∨ bits .and .i64 n 3 = 3 := by omega
          clear hn
          have z0 := block_lt_of_cell x0
          have A0 := (h0.fr ((Fr.refl (fun _ => False) W0).alloc (.cells #[.int .i64 0, .int .i64 2, .int .i64 10, .int .i64 9] 3)) id id)
          have G0 := hf0.alloc (.cells #[.int .i64 0, .int .i64 2, .int .i64 10, .int .i64 9] 3)
          have R0 := ((Fr.refl (fun _ => False) W0).alloc (.cells #[.int .i64 0, .int .i64 2, .int .i64 10, .int .i64 9] 3))
          have y2 := cell_fr R0 x2 id
          rcases hl with hl | hl | hl | hl
          · go_wp2_with fail
            refine (write_any 0 v A0.a hv).mono ?_
            rintro e w2 ⟨rfl, t2⟩
            have y3 := cell_fr t2.fr y2 hXo.1
            go_wp2_with fail
            refine (rwrite_any 0 v (A0.rest t2.tn) hv).mono ?_
            rintro e w3 ⟨rfl, t3⟩
            go_wp2_with fail
            go_meet
            exact ⟨_, A0.both t2.tn t3.tn, G0.trans (Two.fr2 t2.tn t3.tn)⟩
          · go_wp2_with fail
            refine (write_any 2 v A0.a hv).mono ?_
            rintro e w2 ⟨rfl, t2⟩
            have y3 := cell_fr t2.fr y2 hXo.1
            go_wp2_with fail
            refine (rwrite_any 2 v (A0.rest t2.tn) hv).mono ?_
            rintro e w3 ⟨rfl, t3⟩
            go_wp2_with fail
            go_meet
            exact ⟨_, A0.both t2.tn t3.tn, G0.trans (Two.fr2 t2.tn t3.tn)⟩
          · go_wp2_with fail
            refine (write_any 10 v A0.a hv).mono ?_
            rintro e w2 ⟨rfl, t2⟩
            have y3 := cell_fr t2.fr y2 hXo.1
            go_wp2_with fail
            refine (rwrite_any 10 v (A0.rest t2.tn) hv).mono ?_
            rintro e w3 ⟨rfl, t3⟩
            go_wp2_with fail
            go_meet
            exact ⟨_, A0.both t2.tn t3.tn, G0.trans (Two.fr2 t2.tn t3.tn)⟩
          · go_wp2_with fail
            refine (write_any 9 v A0.a hv).mono ?_
            rintro e w2 ⟨rfl, t2⟩
            have y3 := cell_fr t2.fr y2 hXo.1
            go_wp2_with fail
            refine (rwrite_any 9 v (A0.rest t2.tn) hv).mono ?_
            rintro e w3 ⟨rfl, t3⟩
            go_wp2_with fail
            go_meet
            exact ⟨_, A0.both t2.tn t3.tn, G0.trans (Two.fr2 t2.tn t3.tn)⟩
        · have e2 : (kd == 2) = false := by simpa using k2
          have e3 : (kd == 3) = false := by simpa using k3
          have e4 : (kd == 4) = false := by simpa using k4
          clear k2 k3 k4
          go_wp2_with fail
          refine (put7_any f h0.a).mono ?_
          rintro e w2 ⟨rfl, t2⟩
          have y3 := cell_fr t2.fr x3 hXo.1
          go_wp2_with fail
          refine (rput7_any f (h0.rest t2)).mono ?_
          rintro e w3 ⟨rfl, t3⟩
          go_wp2_with fail
          go_meet
          exact ⟨_, h0.both t2 t3, hf0.trans (Two.fr2 t2 t3)⟩
  case rest =>
    obtain ⟨s2, h2, hf2⟩ := hcut
    clear h
    go_wp2_with fail
    refine wp_region_quiet_lit (by kernel_rfl) (by kernel_rfl) ?_
    go_big_quiet_step (fail)
    go_big_quiet_step (fail)
    refine quiet_loadSt rfl (fun w' hw' => by obtain ⟨q, rfl⟩ := hw'; exact h2.a.drewN q) ?_
    quiet_step (fail)
    go_big_quiet_step (fail)
    refine quiet_loadSt rfl (fun w' hw' => by obtain ⟨q, rfl⟩ := hw'; exact h2.b.drewN q) ?_
    refine quiet_eqlSt rfl rfl ?_
    quiet_step (fail)
    repeat go_big_quiet_step (fail)
    refine wpQuiet_nil ?_
    intro _ hw'
    obtain ⟨nq, hw''⟩ := hw'
    subst hw''
    go_wp2_with fail
    go_ret
    exact ⟨rfl, ⟨s2, ⟨h2.a.drewN _, h2.b.drewN _, h2.ne⟩⟩, hf2.drewN _⟩
end
end Go.Proofs.Ytckgkelggmhldaa

/-
  Chapter 6: an exception that is entered from outside, and returned from (the walk of Cp0Returns).
-/
import Derived.Test.YtjadjfcdgnmomaaKn6
import Derived.Test.YtjadjfcdgnmomaaStK
import Derived.Test.YtjadjfcdgnmomaaBit
namespace Go.Proofs.Ytjadjfcdgnmomaa
open Go.RowKit
set_option linter.unusedVariables false

/-- the registers as a value -/
def St.rs (s : St) : Array Value := Array.ofFn (n := 32) fun i => .int .u32 (s.R i.val)
theorem St.rs_len (s : St) : s.rs.toList.length = 32 := by simp [St.rs]
theorem size_rs : (Try.prog.info? 23).map (·.size) = some 32 := by kernel_rfl
theorem StAt.rs {w : World} {g : Nat} {s : St} (h : StAt w g s) : w.rangeAt g 0 s.rs.toList := fun j v hv => by
  have hj : j < 32 := by have := (List.getElem?_eq_some_iff.1 hv).1; rwa [s.rs_len] at this
  have e : s.rs[j]? = some (.int .u32 (s.R j)) := by unfold St.rs; rw [Array.getElem?_ofFn, dif_pos hj]
  rw [Array.getElem?_toList, e] at hv
  rw [Nat.zero_add, h.cR j hj, hv]
section
variable {ops : Array Oper} {rest : List Oper} {a : Act} {w : World} {Q : Exit → Act → World → Prop} {dst : Option Tmp} {ty ty' : TypeId} {pos : String} {aft : Array Edge}
theorem wpList_loadRs {x : Operand} {g : Nat} {s : St} (hx : a.eval x = .pointer (some ⟨g, 0, none⟩)) (hs : StAt w g s) (h : wpList Try.prog ops Q rest (a.put dst (.agg s.rs)) w) :
    wpList Try.prog ops Q (⟨dst, .load 23 x, ty, pos, aft, none⟩ :: rest) a w := by
  have h' : wpList Try.prog ops Q rest (a.put dst (.agg s.rs.toList.toArray)) w := by rw [Array.toArray_toList]; exact h
  have := wpList_load_mid (P := Try.prog) (ops := ops) (rest := rest) (op := ⟨dst, .load 23 x, ty, pos, aft, none⟩) (a := a) (Q := Q) rfl 23 x rfl g 0 hx s.rs.toList _ hs.rs Try.underlying23 rfl (by rw [s.rs_len]; exact size_rs)
  exact this h'
theorem St.rs_self (s : St) (w : World) : (Op.equalIn 10000 23 (.agg s.rs) (.agg s.rs)).run Try.prog w = .ok true w :=
  agg_self (d := 9998) (m := 1) w s.rs (self_at _ _ 1) (by kernel_rfl) ⟨_, Try.underlying23, rfl⟩
theorem wpList_neqRs {x y : Operand} {s : St} (hx : a.eval x = .agg s.rs) (hy : a.eval y = .agg s.rs) (h : wpList Try.prog ops Q rest (a.put dst (.bool false)) w) :
    wpList Try.prog ops Q (⟨dst, .binOp .neq 23 x y ty', ty, pos, aft, none⟩ :: rest) a w :=
  wpList_plain rfl fun K hK => by
    have hg : (eqGuard .neq 23 x y (.agg s.rs) (.agg s.rs)).run Try.prog w = .ok () w := by
      unfold eqGuard
      simp
    have hn : (binOp .neq 23 (.agg s.rs) (.agg s.rs)).run Try.prog w = .ok (.bool false) w := by
      rw [run_neq_struct, s.rs_self]; rfl
    unfold Oper.wp execOp
    simp only [hx, hy, Sem.run_bind, hg, hn, Result.andThen_ok, Sem.run_pure]
    exact hK _ _ h
end
/-! what Enter leaves -/
section
variable {s : St} {c : Int} {r : Bool}
theorem keep_R : (keepF s).R = s.R := by unfold keepF; split <;> rfl
theorem keep_Time : (keepF s).Time = s.Time := by unfold keepF; split <;> rfl
theorem keep_12 : (keepF s).C 12 = s.C 12 := by unfold keepF; split <;> rfl
theorem keep_14 : (keepF s).C 14 = if s.Slot then (s.PC - 4) % 4294967296 else s.PC := by unfold keepF; split <;> rfl
theorem en_R : (enterF s c r).R = s.R := by
  unfold enterF
  split
  · rfl
  · exact keep_R
theorem en_Time : (enterF s c r).Time = s.Time := by
  unfold enterF
  split
  · rfl
  · exact keep_Time
theorem en_Slot : (enterF s c r).Slot = false := by unfold enterF; split <;> rfl
theorem en_Next : (enterF s c r).Next = ((enterF s c r).PC + 4) % 4294967296 := by unfold enterF; split <;> rfl
theorem en_12 : (enterF s c r).C 12 = pu (s.C 12) 2 2 := by
  unfold enterF
  split
  · rfl
  · exact congrArg (fun x => pu x 2 2) keep_12
theorem en_13i (h : inX s = true) : (enterF s c r).C 13 = pu (s.C 13) 124 (c % 4294967296 * 4 % 4294967296) := by unfold enterF; rw [h]; rfl
theorem en_14i (h : inX s = true) : (enterF s c r).C 14 = s.C 14 := by unfold enterF; rw [h]; rfl
theorem en_PCi (h : inX s = true) : (enterF s c r).PC = 2147484032 := by unfold enterF; rw [h]; rfl
theorem en_13o (h : inX s = false) : (enterF s c r).C 13 = pu ((keepF s).C 13) 124 (c % 4294967296 * 4 % 4294967296) := by unfold enterF; rw [h]; rfl
theorem en_14o (h : inX s = false) : (enterF s c r).C 14 = if s.Slot then (s.PC - 4) % 4294967296 else s.PC := by unfold enterF; rw [h]; exact keep_14
theorem keep_13 : W32 ((keepF s).C 13) := by unfold keepF; split <;> exact w_pu _ _ _
end
section
variable {w : World} {ra ca ta : Option Addr} {rl rc cl cc tl tc : Nat} {pc st cs hi ct sh : Int} {sl lk : Bool}
set_option maxRecDepth 100000 in
set_option maxHeartbeats 4000000 in
theorem returns_walk (code : Int) (refill : Bool) (h : DrawnAt w w.heap.size ra ca ta rl cl tl pc st cs hi ct sh) :
    Calls Try.prog 5 #[drawnV ra ca ta rl rc cl cc tl tc pc st cs hi ct sh sl lk, .int .i64 code, .bool refill] w (RetB (.bool true) w) := by
  have HD := Lib.hid h
  clear h
  unfold drawnV
  go_enter Try.func5, Try.ntmps5
  go_wp2_with fail
  have b0 := (Below.refl w.heap.size w).alloc (Nat.le_refl _) (.cells #[.slice ra rl rc, .int .u32 pc, .int .u32 st, .int .u32 cs, .int .u32 hi, .bool sl, .bool lk, .slice ca cl cc, .slice ta tl tc, .int .u32 ct, .int .u32 sh] 45)
  have g0 := (Fr.refl (New w.heap.size) w).alloc (.cells #[.slice ra rl rc, .int .u32 pc, .int .u32 st, .int .u32 cs, .int .u32 hi, .bool sl, .bool lk, .slice ca cl cc, .slice ta tl tc, .int .u32 ct, .int .u32 sh] 45)
  refine (state_any (rc := rc) (cc := cc) (tc := tc) (sl := sl) (lk := lk) 0 ((HD.out.below b0).up b0.size) ⟨by omega, by omega⟩).mono ?_
  rintro e w1 ⟨s0, rfl, ok, dn, tm, b1⟩
  have g1 := g0.trans (Fr.of_below (S := New w.heap.size) b1)
  have z1 := g1.size
  clear b0 g0 b1 dn tm HD
  go_wp2_with (with_reducible refine wpList_allocSt ?_)
  intro g w2 l2 h2 f2
  go_wp2_with ((with_reducible refine wpList_storeSt ?_ ?_ h2 ok ?_); rfl; rfl)
  intro w3 t3
  have c12 := t3.at_.c12
  have f12 := t3.at_.frozenAt 51
  go_upto_region 3 with fail
  rw [pu_clear]
  have t4 : Turned w2 (w3.setCell ⟨g, 51, none⟩ (.int .u32 (pu (s0.C 12) 2 0))) g (s0.setC 12 (pu (s0.C 12) 2 0)) := t3.setC 12 (by omega) _ (w_pu _ _ _)
  generalize w3.setCell ⟨g, 51, none⟩ (.int .u32 (pu (s0.C 12) 2 0)) = w4 at t4 ⊢
  have hx1 : inX (s0.setC 12 (pu (s0.C 12) 2 0)) = false := exl_clear _ (ok.c 12)
  have e12 : (s0.setC 12 (pu (s0.C 12) 2 0)).C 12 = pu (s0.C 12) 2 0 := rfl
  have hw12 := ok.c 12
  generalize s0.setC 12 (pu (s0.C 12) 2 0) = s1 at t4 hx1 e12
  have HX := Lib.hid hx1
  have E12 := Lib.hid e12
  clear hx1 e12 c12 f12 t3
  have TA := t4.at_
  have hgw : w.heap.size ≤ g := by omega
  have g4 := (g1.trans (f2.new (fun _ x => x.elim))).trans (t4.fr.new (by rintro k rfl; exact hgw))
  have z4 := t4.size
  clear t4 g1 h2
  go_step
  with_reducible refine wpList_loadSt ?_ TA ?_
  · rfl
  with_reducible refine wpList_allocSt ?_
  intro m w5 l5 h5 f5
  with_reducible refine wpList_storeSt ?_ ?_ h5 TA.ok ?_
  · rfl
  · rfl
  intro w6 t6
  have hmg : g ≠ m := by have := TA.lt; omega
  have hmw : w.heap.size ≤ m := by have := f2.size; omega
  have A6 := (TA.fr f5 id).fr t6.fr hmg
  have B6 := t6.at_
  have g6 := (g4.trans (f5.new (fun _ x => x.elim))).trans (t6.fr.new (by rintro k rfl; exact hmw))
  clear t6 TA g4 h5 f5 l5
  have HC := Lib.hid (and31 code)
  obtain ⟨cd, hcd⟩ : ∃ cd, Hid (bits .and .i64 code 31 = cd) := ⟨_, rfl⟩
  have cd0 : 0 ≤ cd := by rw [← hcd.out, HC.out]; omega
  have cd1 : cd < 32 := by rw [← hcd.out, HC.out]; omega
  go_wp2_with fail
  rw [hcd.out]
  refine (enter_any cd refill A6).mono ?_
  rintro e w7 ⟨rfl, t7⟩
  have A7 := t7.at_
  have B7 := B6.fr t7.fr (fun x => hmg x.symm)
  have g7 := g6.trans (t7.fr.new (by rintro k rfl; exact hgw))
  clear t7 g6 A6 B6
  have hx7 : inX (enterF s1 cd refill) = true := by unfold inX; rw [en_12]; exact exl_set _ (B7.ok.c 12)
  have HX7 := Lib.hid hx7
  have u7 : userB (enterF s1 cd refill) = false := by unfold userB; rw [hx7]; simp
  have k7 : takenB (enterF s1 cd refill) = false := by unfold takenB; rw [hx7]; simp
  have U7 := Lib.hid u7
  have K7 := Lib.hid k7
  clear hx7 u7 k7
  have hr7 : (enterF s1 cd refill).rs = s1.rs := by unfold St.rs; rw [en_R]
  have HR7 := Lib.hid hr7
  clear hr7
  have ct7 : w7.cell? ⟨g, 72, none⟩ = some (.int .i64 s1.Time) := by rw [A7.cTime, en_Time]
  have cs7 : w7.cell? ⟨g, 36, none⟩ = some (.bool false) := by rw [A7.cSlot, en_Slot]
  have cp7 := A7.cPC
  have cn7 : w7.cell? ⟨g, 35, none⟩ = some (.int .u32 (((enterF s1 cd refill).PC + 4) % 4294967296)) := by rw [A7.cNext, en_Next]
  have c127 : w7.cell? ⟨g, 51, none⟩ = some (.int .u32 (bits .or .u32 (s1.C 12) 2)) := by rw [A7.c12, en_12, pu_set]
  have c137 : w7.cell? ⟨g, 52, none⟩ = some (.int .u32 (pu ((keepF s1).C 13) 124 (cd % 4294967296 * 4 % 4294967296))) := by rw [A7.c13, en_13o HX.out]
  have dt7 := B7.cTime
  have d127 := B7.c12
  have e137 : (bits .and .u32 (pu ((keepF s1).C 13) 124 (cd % 4294967296 * 4 % 4294967296) / 4) 31 != cd % 4294967296) = false := by
    rw [code_back _ _ keep_13 cd0 cd1, show cd % 4294967296 = cd by omega]; simp
  have hcd2 := hcd.out
  have q7 : (Op.equalIn 10000 23 (.agg (enterF s1 cd refill).rs) (.agg s1.rs)).run Try.prog w7 = .ok true w7 := by rw [HR7.out]; exact s1.rs_self w7
  go_upto_region 5 with fail
  go_step
  go_wp2_with (first | ((with_reducible refine wpList_loadRs ?_ A7 ?_); rfl) | ((with_reducible refine wpList_loadRs ?_ B7 ?_); rfl))
  refine (user_any A7).mono ?_
  rintro e w8 ⟨rfl, rfl⟩
  rw [U7.out]
  go_wp2_with fail
  refine (taken_any A7).mono ?_
  rintro e w8 ⟨rfl, nq, rfl⟩
  rw [K7.out]
  have E14 := Lib.hid (en_14o (c := cd) (r := refill) HX.out)
  have E122 := Lib.hid (en_12 (s := s1) (c := cd) (r := refill))
  go_upto_region 7 with fail
  clear U7 K7 HR7 q7 ct7 cs7 cp7 cn7 c127 c137 dt7 d127 e137
  have A8 := A7.drewN nq
  have B8 := B7.drewN nq
  have g8 := g7.drewN nq
  clear A7 B7 g7
  generalize w7.drewN nq = w8 at A8 B8 g8 ⊢
  generalize enterF s1 cd refill = s2 at A8 HX7 E14 E122 ⊢
  go_step
  with_reducible refine wpList_loadSt ?_ A8 ?_
  · rfl
  with_reducible refine wpList_allocSt ?_
  intro n w9 l9 h9 f9
  with_reducible refine wpList_storeSt ?_ ?_ h9 A8.ok ?_
  · rfl
  · rfl
  intro w10 t10
  have hng : g ≠ n := by have := A8.lt; omega
  have hnm : m ≠ n := by have := B8.lt; omega
  have hnw : w.heap.size ≤ n := by have := g8.size; omega
  have A10 := (A8.fr f9 id).fr t10.fr hng
  have B10 := (B8.fr f9 id).fr t10.fr hnm
  have N10 := t10.at_
  have g10 := (g8.trans (f9.new (fun _ x => x.elim))).trans (t10.fr.new (by rintro k rfl; exact hnw))
  clear t10 A8 B8 g8 h9 f9 l9
  go_wp2_with fail
  refine (enter_any 1 true A10).mono ?_
  rintro e w11 ⟨rfl, t11⟩
  have A11 := t11.at_
  have B11 := B10.fr t11.fr (fun x => hmg x.symm)
  have N11 := N10.fr t11.fr (fun x => hng x.symm)
  have g11 := g10.trans (t11.fr.new (by rintro k rfl; exact hgw))
  have ok2 := A10.ok
  clear t11 A10 B10 N10 g10
  have c14 : w11.cell? ⟨g, 53, none⟩ = some (.int .u32 (s2.C 14)) := by rw [A11.c14, en_14i HX7.out]
  have cp : w11.cell? ⟨g, 34, none⟩ = some (.int .u32 2147484032) := by rw [A11.cPC, en_PCi HX7.out]
  have c13 : w11.cell? ⟨g, 52, none⟩ = some (.int .u32 (pu (s2.C 13) 124 4)) := by rw [A11.c13, en_13i HX7.out]; rfl
  have d14 := N11.c14
  have d13 := N11.c13
  have e13 : (pu (s2.C 13) 124 4 / 2147483648 != s2.C 13 / 2147483648) = false := by rw [code_top _ _ (ok2.c 13) ⟨by decide, by decide⟩]; simp
  go_wp2_with fail
  refine (return_any A11).mono ?_
  rintro e w12 ⟨rfl, t12⟩
  have A12 := t12.at_
  have B12 := B11.fr t12.fr (fun x => hmg x.symm)
  have g12 := g11.trans (t12.fr.new (by rintro k rfl; exact hgw))
  clear t12 c14 cp c13 d14 d13 e13 N11 A11 B11 g11
  have r12 : (retF (enterF s2 1 true)).C 12 = s1.C 12 := by
    show pu ((enterF s2 1 true).C 12) 2 0 = s1.C 12
    rw [en_12, E122.out, E12.out, exl_back _ hw12]
  have rpc : (retF (enterF s2 1 true)).PC = s2.C 14 := en_14i HX7.out
  have rnx : (retF (enterF s2 1 true)).Next = (s2.C 14 + 4) % 4294967296 := by
    show ((enterF s2 1 true).C 14 + 4) % 4294967296 = _
    rw [en_14i HX7.out]
  have k12 : w12.cell? ⟨g, 51, none⟩ = some (.int .u32 (s1.C 12)) := by rw [A12.c12, r12]
  have kl : w12.cell? ⟨g, 37, none⟩ = some (.bool false) := A12.cLink
  have j12 := B12.c12
  have jp := B12.cPC
  cases hs : s1.Slot
  · have E14' : s2.C 14 = s1.PC := by rw [E14.out, hs]; rfl
    have kp : w12.cell? ⟨g, 34, none⟩ = some (.int .u32 s1.PC) := by rw [A12.cPC, rpc, E14']
    have kn : w12.cell? ⟨g, 35, none⟩ = some (.int .u32 ((s1.PC + 4) % 4294967296)) := by rw [A12.cNext, rnx, E14']
    have js : w12.cell? ⟨m, 36, none⟩ = some (.bool false) := by rw [B12.cSlot, hs]
    clear E14' r12 rpc rnx hs E14 E122 E12
    go_wp2_with fail
    refine (known_any _).mono ?_
    rintro e w13 ⟨rfl, b13⟩
    go_wp2_with fail
    go_ret
    exact ⟨rfl, (g12.trans (Fr.of_below (S := New w.heap.size) b13)).newB⟩
  · have E14' : s2.C 14 = (s1.PC - 4) % 4294967296 := by rw [E14.out, hs]; rfl
    have kp : w12.cell? ⟨g, 34, none⟩ = some (.int .u32 ((s1.PC - 4) % 4294967296)) := by rw [A12.cPC, rpc, E14']
    have kn : w12.cell? ⟨g, 35, none⟩ = some (.int .u32 (((s1.PC - 4) % 4294967296 + 4) % 4294967296)) := by rw [A12.cNext, rnx, E14']
    have js : w12.cell? ⟨m, 36, none⟩ = some (.bool true) := by rw [B12.cSlot, hs]
    clear E14' r12 rpc rnx hs E14 E122 E12
    go_wp2_with fail
    refine (known_any _).mono ?_
    rintro e w13 ⟨rfl, b13⟩
    go_wp2_with fail
    go_ret
    exact ⟨rfl, (g12.trans (Fr.of_below (S := New w.heap.size) b13)).newB⟩
end
end Go.Proofs.Ytjadjfcdgnmomaa

/-
  Chapter 3: the document's own answer: functions rows, Of.
-/
import Derived.Test.YtngfjjgejpkmmaaDoorRW
namespace Go.Proofs.YtngfjjgejpkmmaaDoor
open Go.RowKit
set_option linter.unusedVariables false

/-- in which table an op is looked up -/
def LT (o : Nat) : Nat := if o = 0 then 0 else if o = 1 ∨ o = 16 ∨ o = 28 then 2 else 1
theorem lt_lt (o : Nat) : LT o < 3 := by unfold LT; split <;> (try split) <;> omega
theorem lt_all : ∀ k, k < 78 → 1 ≤ k → ∃ i, i < LN (LT (D.op k)) ∧ LK (LT (D.op k)) i = k := by
  have h : ∀ k, k < 78 → 1 ≤ k → ((List.range (LN (LT (D.op k)))).any fun i => LK (LT (D.op k)) i == k) = true := by decide +kernel
  intro k hk h1
  have := h k hk h1
  simp only [List.any_eq_true, List.mem_range, beq_iff_eq] at this
  exact this
set_option maxHeartbeats 1000000 in
theorem rows_any (o : Nat) (w : World) : Calls Tryd.prog 26 #[.int .i64 (o : Int)] w (TabP w (LN (LT o)) (LK (LT o))) := by
  by_cases h0 : o = 0
  · subst h0
    go_enter Tryd.func26, Tryd.ntmps26
    go_wp2_with fail
    refine (special_any _).mono ?_
    rintro e w1 ⟨b, rfl, h1, h2, h3⟩
    go_wp2
    go_ret
    exact ⟨b, rfl, h1, h2, h3⟩
  · have e0 : ((o : Int) == 0) = false := by simp; omega
    by_cases h2 : o = 1 ∨ o = 16 ∨ o = 28
    · have hT : LT o = 2 := by simp [LT, h0, h2]
      rw [hT]
      clear hT
      rcases h2 with rfl | rfl | rfl
      all_goals
        go_enter Tryd.func26, Tryd.ntmps26
        go_wp2_with fail
        refine (others_any _).mono ?_
        rintro e w1 ⟨b, rfl, h1, h2, h3⟩
        go_wp2
        go_ret
        exact ⟨b, rfl, h1, h2, h3⟩
    · have hT : LT o = 1 := by simp [LT, h0, h2]
      rw [hT]
      have e1 : ((o : Int) == 1) = false := by simp; omega
      have e2 : ((o : Int) == 16) = false := by simp; omega
      have e3 : ((o : Int) == 28) = false := by simp; omega
      clear hT h0 h2
      go_enter Tryd.func26, Tryd.ntmps26
      go_wp2_with fail
      refine (plain_any _).mono ?_
      rintro e w1 ⟨b, rfl, h1, h2, h3⟩
      go_wp2
      go_ret
      exact ⟨b, rfl, h1, h2, h3⟩

theorem sub_and' (W p m q : Nat) (h : W < 4294967296) (hm : m = 2 ^ q - 1) (hq : q ≤ 26) : bits .and .u32 ((W : Int) / (p : Int)) (m : Int) = (W : Int) / (p : Int) % ((2 ^ q : Nat) : Int) := by
  have e : (W : Int) / (p : Int) = ((W / p : Nat) : Int) := by simp
  rw [e, sub_and (W / p) (Nat.lt_of_le_of_lt (Nat.div_le_self _ _) h) m q hm hq]
  simp
theorem fx_lt : ∀ k, k < 78 → D.fx k < 12 := by decide +kernel
/-- the fields of a word by the letters of its row -/
def vS (W : Nat) (b : Bool) : Int := if b = true then (W : Int) / 2097152 % 32 else 0
def vT (W : Nat) (b : Bool) : Int := if b = true then (W : Int) / 65536 % 32 else 0
def vD (W : Nat) (b : Bool) : Int := if b = true then (W : Int) / 2048 % 32 else 0
def vH (W : Nat) (b : Bool) : Int := if b = true then (W : Int) / 64 % 32 else 0
def vI (W : Nat) (b c : Bool) : Int := if b = true then (W : Int) % 65536 else if c = true then (W : Int) % 67108864 else 0
theorem m31 (m : Nat) (h : m = 0 ∨ m = 31) : (m == 31) = true ∧ m = 31 ∨ (m == 31) = false ∧ m = 0 := by rcases h with rfl | rfl <;> decide
theorem v_all (W : Nat) : vS W (hasB (D.fld (D.kW W)) 115) = (D.fS W : Int) ∧ vT W (hasB (D.fld (D.kW W)) 116) = (D.fT W : Int) ∧ vD W (hasB (D.fld (D.kW W)) 100) = (D.fD W : Int) ∧ vH W (hasB (D.fld (D.kW W)) 104) = (D.fH W : Int) ∧ vI W (hasB (D.fld (D.kW W)) 105) (hasB (D.fld (D.kW W)) 106) = (D.fI W : Int) := by
  have hk : D.kW W < 78 := Nat.lt_succ_of_le (D.kW_le W)
  rw [hb_s _ hk, hb_t _ hk, hb_d _ hk, hb_h _ hk, hb_i _ hk, hb_j _ hk]
  unfold vS vT vD vH vI D.fS D.fT D.fD D.fH D.fI
  refine ⟨?_, ?_, ?_, ?_, ?_⟩
  · rcases m31 _ (D.ms _ hk) with ⟨a, b⟩ | ⟨a, b⟩ <;> rw [a, b] <;> simp <;> omega
  · rcases m31 _ (D.mt _ hk) with ⟨a, b⟩ | ⟨a, b⟩ <;> rw [a, b] <;> simp <;> omega
  · rcases m31 _ (D.md _ hk) with ⟨a, b⟩ | ⟨a, b⟩ <;> rw [a, b] <;> simp <;> omega
  · rcases m31 _ (D.mh _ hk) with ⟨a, b⟩ | ⟨a, b⟩ <;> rw [a, b] <;> simp <;> omega
  · rcases D.mi _ hk with a | a | a <;> rw [a] <;> simp <;> omega

/-- no row ahead of k is the word's -/
def NotR (W T k : Nat) : Prop := ∀ i, i < k → ¬ (D.op (LK T i) = W / 67108864 ∧ D.sb (LK T i) = D.subW W)
theorem notr_next {W T k : Nat} (h : NotR W T k) (hn : ¬ (D.op (LK T k) = W / 67108864 ∧ D.sb (LK T k) = D.subW W)) : NotR W T (k + 1) := fun i hi => by
  by_cases e : i = k
  · subst e; exact hn
  · exact h i (by omega)
theorem notr_end {W : Nat} (h : NotR W (LT (W / 67108864)) (LN (LT (W / 67108864)))) : D.kW W = 0 := by
  by_cases e : D.kW W = 0
  · exact e
  · exfalso
    have hp := D.kOS_pos (o := W / 67108864) (s := D.subW W) (show 1 ≤ D.kW W by omega)
    obtain ⟨i, hi, ei⟩ := lt_all (D.kW W) (Nat.lt_succ_of_le (D.kW_le W)) (by omega)
    have ho : D.op (D.kW W) = W / 67108864 := hp.1
    rw [ho] at hi ei
    exact h i hi (by rw [ei]; exact hp)
set_option maxRecDepth 100000 in
set_option maxHeartbeats 8000000 in
theorem rof_any (W : Nat) (w : World) (hW : W < 4294967296) : Calls Tryd.prog 16 #[.int .u32 (W : Int)] w fun e w' => e = .returned (.agg #[.int .i64 ((D.kW W : Int)), .int .i64 ((D.fS W : Int)), .int .i64 ((D.fT W : Int)), .int .i64 ((D.fD W : Int)), .int .i64 ((D.fH W : Int)), .int .u32 ((D.fI W : Int))]) ∧ Below w.heap.size w w' := by
  have HV := Lib.hid (v_all W)
  obtain ⟨T, HT⟩ : ∃ T, Hid (T = LT (W / 67108864)) := ⟨_, rfl⟩
  obtain ⟨n, HN⟩ : ∃ n, Hid (n = LN T) := ⟨_, rfl⟩
  have hT3 : T < 3 := by rw [HT.out]; exact lt_lt _
  have hn : n ≤ 35 := by rw [HN.out]; have : T = 0 ∨ T = 1 ∨ T = 2 := by omega
                         rcases this with e | e | e <;> rw [e] <;> decide
  have RA : ∀ w, Calls Tryd.prog 26 #[.int .i64 ((W : Int) / 67108864)] w (TabP w n (LK T)) := fun w => by
    have := rows_any (W / 67108864) w
    rw [show ((W / 67108864 : Nat) : Int) = (W : Int) / 67108864 by omega] at this
    rw [HN.out, HT.out]
    exact this
  have A1 : bits .and .u32 ((W : Int) / 2097152) 31 = (W : Int) / 2097152 % 32 := sub_and' W 2097152 31 5 hW rfl (by omega)
  have A2 : bits .and .u32 ((W : Int) / 65536) 31 = (W : Int) / 65536 % 32 := sub_and' W 65536 31 5 hW rfl (by omega)
  have A3 : bits .and .u32 ((W : Int) / 2048) 31 = (W : Int) / 2048 % 32 := sub_and' W 2048 31 5 hW rfl (by omega)
  have A4 : bits .and .u32 ((W : Int) / 64) 31 = (W : Int) / 64 % 32 := sub_and' W 64 31 5 hW rfl (by omega)
  have A5 : bits .and .u32 (W : Int) 65535 = (W : Int) % 65536 := by have := sub_and' W 1 65535 16 hW rfl (by omega); simpa using this
  have A6 : bits .and .u32 (W : Int) 67108863 = (W : Int) % 67108864 := by have := sub_and' W 1 67108863 26 hW rfl (by omega); simpa using this
  have B1 : 0 ≤ (W : Int) / 2097152 % 32 := by omega
  have B1' : (W : Int) / 2097152 % 32 < 32 := by omega
  have B2 : 0 ≤ (W : Int) / 65536 % 32 := by omega
  have B2' : (W : Int) / 65536 % 32 < 32 := by omega
  have B3 : 0 ≤ (W : Int) / 2048 % 32 := by omega
  have B3' : (W : Int) / 2048 % 32 < 32 := by omega
  have B4 : 0 ≤ (W : Int) / 64 % 32 := by omega
  have B4' : (W : Int) / 64 % 32 < 32 := by omega
  go_enter Tryd.func16, Tryd.ntmps16
  go_wp2_with fail
  refine (RA _).mono ?_
  rintro e w1 ⟨b, rfl, hl1, ht1, hb1⟩
  have HTB := Lib.hid ht1
  clear ht1 RA
  go_wp2_with fail
  go_loopg [4] n (fun ig i wr => ∃ k : Nat, k + ig = n ∧ i = .int .i64 k ∧ Hid (NotR W T k) ∧ Below w1.heap.size w1 wr)
  case atStart => exact ⟨0, by omega, rfl, fun i hi => absurd hi (by omega), Below.refl _ _⟩
  case round =>
    obtain ⟨k, hk, rfl, HK, hb⟩ := hrel
    have hb2 := band hb1 hb
    have hbz := HTB.out.l
    have hsz := hb.size
    obtain ⟨hc, hf⟩ := bcell hb2
    have hz : w.heap.size < wr.heap.size := by have := hb2.size; simp at this; omega
    cases gk with
    | succ ig =>
      have hkn : k < n := by omega
      have HR := Lib.hid (lk_rng T hT3 k (by rw [← HN.out]; exact hkn))
      obtain ⟨q0, q1, q2, q3⟩ := tb_cells (HTB.out.below hb hbz) k hkn
      obtain ⟨kk, HKK⟩ : ∃ kk, Hid (kk = LK T k) := ⟨_, rfl⟩
      rw [← HKK.out] at q0 q1 q2 q3 HR
      by_cases ho : D.op kk = W / 67108864
      · have HO := Lib.hid ho
        have e1 : ((D.op kk : Int) != (W : Int) / 67108864) = false := by simp; omega
        by_cases hs : D.sb kk = D.subW W
        · have HS := Lib.hid hs
          have e2 : ((D.sb kk : Int) != (D.subW W : Int)) = false := by simp; omega
          clear ho hs
          have hkW : D.kW W = kk := D.kOS_of HR.out.1 HR.out.2 HO.out HS.out
          rw [hkW] at HV
          have HKW := Lib.hid hkW
          clear hkW
          have hfl := fld_le kk (by have := HR.out; omega)
          have hx := fx_lt kk (by have := HR.out; omega)
          have HF := Lib.hid (show D.fld kk = D.fstr (D.fx kk) from rfl)
          have hx12 : D.fx kk = 0 ∨ D.fx kk = 1 ∨ D.fx kk = 2 ∨ D.fx kk = 3 ∨ D.fx kk = 4 ∨ D.fx kk = 5 ∨ D.fx kk = 6 ∨ D.fx kk = 7 ∨ D.fx kk = 8 ∨ D.fx kk = 9 ∨ D.fx kk = 10 ∨ D.fx kk = 11 := by omega
          rw [← HKW.out] at HV
          go_wp2_with fail
          go_quiet ((go_at_call 27; exact (sub_any _ _ hW).mono fun _ _ h => ⟨h.1, _, h.2.symm⟩))
          clear e1 e2
          rcases hx12 with hx | hx | hx | hx | hx | hx | hx | hx | hx | hx | hx | hx

          · rw [hx] at HF
            have g1 : hasB (D.fld kk) 115 = false := by rw [HF.out]; decide +kernel
            have g2 : hasB (D.fld kk) 116 = false := by rw [HF.out]; decide +kernel
            have g3 : hasB (D.fld kk) 100 = false := by rw [HF.out]; decide +kernel
            have g4 : hasB (D.fld kk) 104 = false := by rw [HF.out]; decide +kernel
            have g5 : hasB (D.fld kk) 105 = false := by rw [HF.out]; decide +kernel
            have g6 : hasB (D.fld kk) 106 = false := by rw [HF.out]; decide +kernel
            rw [HKW.out, g1, g2, g3, g4, g5, g6] at HV
            clear hx
            go_wp2_with (go_at_call 28; refine (has_any _ _ _ hfl).mono ?_; rintro e w2 ⟨rfl, rfl⟩)
            obtain ⟨r1, r2, r3, r4, r5⟩ := HV.out
            refine bodyPost_ret (v := .agg #[.int .i64 ((kk : Int)), .int .i64 0, .int .i64 0, .int .i64 0, .int .i64 0, .int .u32 0]) (by simp [results, Tryd.results16, go_sem, hc, hz]) rfl ⟨by rw [HKW.out, ← r1, ← r2, ← r3, ← r4, ← r5]; rfl, ?_⟩
            have hb9 := below_then (below_new (w := w)) (hb2.mono (by simp)) (Nat.le_refl _)
            (repeat' (first | (with_reducible exact hb9) | (with_reducible apply bel_set) | (with_reducible apply bel_alloc) | (with_reducible apply below_drewN) | (simp; done) | (simp; omega) | omega | (simp [World.setCell]; done) | (simp [World.setCell]; omega)))
          · rw [hx] at HF
            have g1 : hasB (D.fld kk) 115 = false := by rw [HF.out]; decide +kernel
            have g2 : hasB (D.fld kk) 116 = false := by rw [HF.out]; decide +kernel
            have g3 : hasB (D.fld kk) 100 = true := by rw [HF.out]; decide +kernel
            have g4 : hasB (D.fld kk) 104 = false := by rw [HF.out]; decide +kernel
            have g5 : hasB (D.fld kk) 105 = false := by rw [HF.out]; decide +kernel
            have g6 : hasB (D.fld kk) 106 = false := by rw [HF.out]; decide +kernel
            rw [HKW.out, g1, g2, g3, g4, g5, g6] at HV
            clear hx
            go_wp2_with (go_at_call 28; refine (has_any _ _ _ hfl).mono ?_; rintro e w2 ⟨rfl, rfl⟩)
            obtain ⟨r1, r2, r3, r4, r5⟩ := HV.out
            refine bodyPost_ret (v := .agg #[.int .i64 ((kk : Int)), .int .i64 0, .int .i64 0, .int .i64 ((W : Int) / 2048 % 32), .int .i64 0, .int .u32 0]) (by simp [results, Tryd.results16, go_sem, hc, hz]) rfl ⟨by rw [HKW.out, ← r1, ← r2, ← r3, ← r4, ← r5]; rfl, ?_⟩
            have hb9 := below_then (below_new (w := w)) (hb2.mono (by simp)) (Nat.le_refl _)
            (repeat' (first | (with_reducible exact hb9) | (with_reducible apply bel_set) | (with_reducible apply bel_alloc) | (with_reducible apply below_drewN) | (simp; done) | (simp; omega) | omega | (simp [World.setCell]; done) | (simp [World.setCell]; omega)))
          · rw [hx] at HF
            have g1 : hasB (D.fld kk) 115 = false := by rw [HF.out]; decide +kernel
            have g2 : hasB (D.fld kk) 116 = false := by rw [HF.out]; decide +kernel
            have g3 : hasB (D.fld kk) 100 = false := by rw [HF.out]; decide +kernel
            have g4 : hasB (D.fld kk) 104 = false := by rw [HF.out]; decide +kernel
            have g5 : hasB (D.fld kk) 105 = false := by rw [HF.out]; decide +kernel
            have g6 : hasB (D.fld kk) 106 = true := by rw [HF.out]; decide +kernel
            rw [HKW.out, g1, g2, g3, g4, g5, g6] at HV
            clear hx
            go_wp2_with (go_at_call 28; refine (has_any _ _ _ hfl).mono ?_; rintro e w2 ⟨rfl, rfl⟩)
            obtain ⟨r1, r2, r3, r4, r5⟩ := HV.out
            refine bodyPost_ret (v := .agg #[.int .i64 ((kk : Int)), .int .i64 0, .int .i64 0, .int .i64 0, .int .i64 0, .int .u32 ((W : Int) % 67108864)]) (by simp [results, Tryd.results16, go_sem, hc, hz]) rfl ⟨by rw [HKW.out, ← r1, ← r2, ← r3, ← r4, ← r5]; rfl, ?_⟩
            have hb9 := below_then (below_new (w := w)) (hb2.mono (by simp)) (Nat.le_refl _)
            (repeat' (first | (with_reducible exact hb9) | (with_reducible apply bel_set) | (with_reducible apply bel_alloc) | (with_reducible apply below_drewN) | (simp; done) | (simp; omega) | omega | (simp [World.setCell]; done) | (simp [World.setCell]; omega)))
          · rw [hx] at HF
            have g1 : hasB (D.fld kk) 115 = true := by rw [HF.out]; decide +kernel
            have g2 : hasB (D.fld kk) 116 = false := by rw [HF.out]; decide +kernel
            have g3 : hasB (D.fld kk) 100 = false := by rw [HF.out]; decide +kernel
            have g4 : hasB (D.fld kk) 104 = false := by rw [HF.out]; decide +kernel
            have g5 : hasB (D.fld kk) 105 = false := by rw [HF.out]; decide +kernel
            have g6 : hasB (D.fld kk) 106 = false := by rw [HF.out]; decide +kernel
            rw [HKW.out, g1, g2, g3, g4, g5, g6] at HV
            clear hx
            go_wp2_with (go_at_call 28; refine (has_any _ _ _ hfl).mono ?_; rintro e w2 ⟨rfl, rfl⟩)
            obtain ⟨r1, r2, r3, r4, r5⟩ := HV.out
            refine bodyPost_ret (v := .agg #[.int .i64 ((kk : Int)), .int .i64 ((W : Int) / 2097152 % 32), .int .i64 0, .int .i64 0, .int .i64 0, .int .u32 0]) (by simp [results, Tryd.results16, go_sem, hc, hz]) rfl ⟨by rw [HKW.out, ← r1, ← r2, ← r3, ← r4, ← r5]; rfl, ?_⟩
            have hb9 := below_then (below_new (w := w)) (hb2.mono (by simp)) (Nat.le_refl _)
            (repeat' (first | (with_reducible exact hb9) | (with_reducible apply bel_set) | (with_reducible apply bel_alloc) | (with_reducible apply below_drewN) | (simp; done) | (simp; omega) | omega | (simp [World.setCell]; done) | (simp [World.setCell]; omega)))
          · rw [hx] at HF
            have g1 : hasB (D.fld kk) 115 = true := by rw [HF.out]; decide +kernel
            have g2 : hasB (D.fld kk) 116 = false := by rw [HF.out]; decide +kernel
            have g3 : hasB (D.fld kk) 100 = true := by rw [HF.out]; decide +kernel
            have g4 : hasB (D.fld kk) 104 = false := by rw [HF.out]; decide +kernel
            have g5 : hasB (D.fld kk) 105 = false := by rw [HF.out]; decide +kernel
            have g6 : hasB (D.fld kk) 106 = false := by rw [HF.out]; decide +kernel
            rw [HKW.out, g1, g2, g3, g4, g5, g6] at HV
            clear hx
            go_wp2_with (go_at_call 28; refine (has_any _ _ _ hfl).mono ?_; rintro e w2 ⟨rfl, rfl⟩)
            obtain ⟨r1, r2, r3, r4, r5⟩ := HV.out
            refine bodyPost_ret (v := .agg #[.int .i64 ((kk : Int)), .int .i64 ((W : Int) / 2097152 % 32), .int .i64 0, .int .i64 ((W : Int) / 2048 % 32), .int .i64 0, .int .u32 0]) (by simp [results, Tryd.results16, go_sem, hc, hz]) rfl ⟨by rw [HKW.out, ← r1, ← r2, ← r3, ← r4, ← r5]; rfl, ?_⟩
            have hb9 := below_then (below_new (w := w)) (hb2.mono (by simp)) (Nat.le_refl _)
            (repeat' (first | (with_reducible exact hb9) | (with_reducible apply bel_set) | (with_reducible apply bel_alloc) | (with_reducible apply below_drewN) | (simp; done) | (simp; omega) | omega | (simp [World.setCell]; done) | (simp [World.setCell]; omega)))
          · rw [hx] at HF
            have g1 : hasB (D.fld kk) 115 = true := by rw [HF.out]; decide +kernel
            have g2 : hasB (D.fld kk) 116 = false := by rw [HF.out]; decide +kernel
            have g3 : hasB (D.fld kk) 100 = false := by rw [HF.out]; decide +kernel
            have g4 : hasB (D.fld kk) 104 = false := by rw [HF.out]; decide +kernel
            have g5 : hasB (D.fld kk) 105 = true := by rw [HF.out]; decide +kernel
            have g6 : hasB (D.fld kk) 106 = false := by rw [HF.out]; decide +kernel
            rw [HKW.out, g1, g2, g3, g4, g5, g6] at HV
            clear hx
            go_wp2_with (go_at_call 28; refine (has_any _ _ _ hfl).mono ?_; rintro e w2 ⟨rfl, rfl⟩)
            obtain ⟨r1, r2, r3, r4, r5⟩ := HV.out
            refine bodyPost_ret (v := .agg #[.int .i64 ((kk : Int)), .int .i64 ((W : Int) / 2097152 % 32), .int .i64 0, .int .i64 0, .int .i64 0, .int .u32 ((W : Int) % 65536)]) (by simp [results, Tryd.results16, go_sem, hc, hz]) rfl ⟨by rw [HKW.out, ← r1, ← r2, ← r3, ← r4, ← r5]; rfl, ?_⟩
            have hb9 := below_then (below_new (w := w)) (hb2.mono (by simp)) (Nat.le_refl _)
            (repeat' (first | (with_reducible exact hb9) | (with_reducible apply bel_set) | (with_reducible apply bel_alloc) | (with_reducible apply below_drewN) | (simp; done) | (simp; omega) | omega | (simp [World.setCell]; done) | (simp [World.setCell]; omega)))
          · rw [hx] at HF
            have g1 : hasB (D.fld kk) 115 = true := by rw [HF.out]; decide +kernel
            have g2 : hasB (D.fld kk) 116 = true := by rw [HF.out]; decide +kernel
            have g3 : hasB (D.fld kk) 100 = false := by rw [HF.out]; decide +kernel
            have g4 : hasB (D.fld kk) 104 = false := by rw [HF.out]; decide +kernel
            have g5 : hasB (D.fld kk) 105 = false := by rw [HF.out]; decide +kernel
            have g6 : hasB (D.fld kk) 106 = false := by rw [HF.out]; decide +kernel
            rw [HKW.out, g1, g2, g3, g4, g5, g6] at HV
            clear hx
            go_wp2_with (go_at_call 28; refine (has_any _ _ _ hfl).mono ?_; rintro e w2 ⟨rfl, rfl⟩)
            obtain ⟨r1, r2, r3, r4, r5⟩ := HV.out
            refine bodyPost_ret (v := .agg #[.int .i64 ((kk : Int)), .int .i64 ((W : Int) / 2097152 % 32), .int .i64 ((W : Int) / 65536 % 32), .int .i64 0, .int .i64 0, .int .u32 0]) (by simp [results, Tryd.results16, go_sem, hc, hz]) rfl ⟨by rw [HKW.out, ← r1, ← r2, ← r3, ← r4, ← r5]; rfl, ?_⟩
            have hb9 := below_then (below_new (w := w)) (hb2.mono (by simp)) (Nat.le_refl _)
            (repeat' (first | (with_reducible exact hb9) | (with_reducible apply bel_set) | (with_reducible apply bel_alloc) | (with_reducible apply below_drewN) | (simp; done) | (simp; omega) | omega | (simp [World.setCell]; done) | (simp [World.setCell]; omega)))
          · rw [hx] at HF
            have g1 : hasB (D.fld kk) 115 = true := by rw [HF.out]; decide +kernel
            have g2 : hasB (D.fld kk) 116 = true := by rw [HF.out]; decide +kernel
            have g3 : hasB (D.fld kk) 100 = true := by rw [HF.out]; decide +kernel
            have g4 : hasB (D.fld kk) 104 = false := by rw [HF.out]; decide +kernel
            have g5 : hasB (D.fld kk) 105 = false := by rw [HF.out]; decide +kernel
            have g6 : hasB (D.fld kk) 106 = false := by rw [HF.out]; decide +kernel
            rw [HKW.out, g1, g2, g3, g4, g5, g6] at HV
            clear hx
            go_wp2_with (go_at_call 28; refine (has_any _ _ _ hfl).mono ?_; rintro e w2 ⟨rfl, rfl⟩)
            obtain ⟨r1, r2, r3, r4, r5⟩ := HV.out
            refine bodyPost_ret (v := .agg #[.int .i64 ((kk : Int)), .int .i64 ((W : Int) / 2097152 % 32), .int .i64 ((W : Int) / 65536 % 32), .int .i64 ((W : Int) / 2048 % 32), .int .i64 0, .int .u32 0]) (by simp [results, Tryd.results16, go_sem, hc, hz]) rfl ⟨by rw [HKW.out, ← r1, ← r2, ← r3, ← r4, ← r5]; rfl, ?_⟩
            have hb9 := below_then (below_new (w := w)) (hb2.mono (by simp)) (Nat.le_refl _)
            (repeat' (first | (with_reducible exact hb9) | (with_reducible apply bel_set) | (with_reducible apply bel_alloc) | (with_reducible apply below_drewN) | (simp; done) | (simp; omega) | omega | (simp [World.setCell]; done) | (simp [World.setCell]; omega)))
          · rw [hx] at HF
            have g1 : hasB (D.fld kk) 115 = true := by rw [HF.out]; decide +kernel
            have g2 : hasB (D.fld kk) 116 = true := by rw [HF.out]; decide +kernel
            have g3 : hasB (D.fld kk) 100 = false := by rw [HF.out]; decide +kernel
            have g4 : hasB (D.fld kk) 104 = false := by rw [HF.out]; decide +kernel
            have g5 : hasB (D.fld kk) 105 = true := by rw [HF.out]; decide +kernel
            have g6 : hasB (D.fld kk) 106 = false := by rw [HF.out]; decide +kernel
            rw [HKW.out, g1, g2, g3, g4, g5, g6] at HV
            clear hx
            go_wp2_with (go_at_call 28; refine (has_any _ _ _ hfl).mono ?_; rintro e w2 ⟨rfl, rfl⟩)
            obtain ⟨r1, r2, r3, r4, r5⟩ := HV.out
            refine bodyPost_ret (v := .agg #[.int .i64 ((kk : Int)), .int .i64 ((W : Int) / 2097152 % 32), .int .i64 ((W : Int) / 65536 % 32), .int .i64 0, .int .i64 0, .int .u32 ((W : Int) % 65536)]) (by simp [results, Tryd.results16, go_sem, hc, hz]) rfl ⟨by rw [HKW.out, ← r1, ← r2, ← r3, ← r4, ← r5]; rfl, ?_⟩
            have hb9 := below_then (below_new (w := w)) (hb2.mono (by simp)) (Nat.le_refl _)
            (repeat' (first | (with_reducible exact hb9) | (with_reducible apply bel_set) | (with_reducible apply bel_alloc) | (with_reducible apply below_drewN) | (simp; done) | (simp; omega) | omega | (simp [World.setCell]; done) | (simp [World.setCell]; omega)))
          · rw [hx] at HF
            have g1 : hasB (D.fld kk) 115 = false := by rw [HF.out]; decide +kernel
            have g2 : hasB (D.fld kk) 116 = true := by rw [HF.out]; decide +kernel
            have g3 : hasB (D.fld kk) 100 = true := by rw [HF.out]; decide +kernel
            have g4 : hasB (D.fld kk) 104 = false := by rw [HF.out]; decide +kernel
            have g5 : hasB (D.fld kk) 105 = false := by rw [HF.out]; decide +kernel
            have g6 : hasB (D.fld kk) 106 = false := by rw [HF.out]; decide +kernel
            rw [HKW.out, g1, g2, g3, g4, g5, g6] at HV
            clear hx
            go_wp2_with (go_at_call 28; refine (has_any _ _ _ hfl).mono ?_; rintro e w2 ⟨rfl, rfl⟩)
            obtain ⟨r1, r2, r3, r4, r5⟩ := HV.out
            refine bodyPost_ret (v := .agg #[.int .i64 ((kk : Int)), .int .i64 0, .int .i64 ((W : Int) / 65536 % 32), .int .i64 ((W : Int) / 2048 % 32), .int .i64 0, .int .u32 0]) (by simp [results, Tryd.results16, go_sem, hc, hz]) rfl ⟨by rw [HKW.out, ← r1, ← r2, ← r3, ← r4, ← r5]; rfl, ?_⟩
            have hb9 := below_then (below_new (w := w)) (hb2.mono (by simp)) (Nat.le_refl _)
            (repeat' (first | (with_reducible exact hb9) | (with_reducible apply bel_set) | (with_reducible apply bel_alloc) | (with_reducible apply below_drewN) | (simp; done) | (simp; omega) | omega | (simp [World.setCell]; done) | (simp [World.setCell]; omega)))
          · rw [hx] at HF
            have g1 : hasB (D.fld kk) 115 = false := by rw [HF.out]; decide +kernel
            have g2 : hasB (D.fld kk) 116 = true := by rw [HF.out]; decide +kernel
            have g3 : hasB (D.fld kk) 100 = true := by rw [HF.out]; decide +kernel
            have g4 : hasB (D.fld kk) 104 = true := by rw [HF.out]; decide +kernel
            have g5 : hasB (D.fld kk) 105 = false := by rw [HF.out]; decide +kernel
            have g6 : hasB (D.fld kk) 106 = false := by rw [HF.out]; decide +kernel
            rw [HKW.out, g1, g2, g3, g4, g5, g6] at HV
            clear hx
            go_wp2_with (go_at_call 28; refine (has_any _ _ _ hfl).mono ?_; rintro e w2 ⟨rfl, rfl⟩)
            obtain ⟨r1, r2, r3, r4, r5⟩ := HV.out
            refine bodyPost_ret (v := .agg #[.int .i64 ((kk : Int)), .int .i64 0, .int .i64 ((W : Int) / 65536 % 32), .int .i64 ((W : Int) / 2048 % 32), .int .i64 ((W : Int) / 64 % 32), .int .u32 0]) (by simp [results, Tryd.results16, go_sem, hc, hz]) rfl ⟨by rw [HKW.out, ← r1, ← r2, ← r3, ← r4, ← r5]; rfl, ?_⟩
            have hb9 := below_then (below_new (w := w)) (hb2.mono (by simp)) (Nat.le_refl _)
            (repeat' (first | (with_reducible exact hb9) | (with_reducible apply bel_set) | (with_reducible apply bel_alloc) | (with_reducible apply below_drewN) | (simp; done) | (simp; omega) | omega | (simp [World.setCell]; done) | (simp [World.setCell]; omega)))
          · rw [hx] at HF
            have g1 : hasB (D.fld kk) 115 = false := by rw [HF.out]; decide +kernel
            have g2 : hasB (D.fld kk) 116 = true := by rw [HF.out]; decide +kernel
            have g3 : hasB (D.fld kk) 100 = false := by rw [HF.out]; decide +kernel
            have g4 : hasB (D.fld kk) 104 = false := by rw [HF.out]; decide +kernel
            have g5 : hasB (D.fld kk) 105 = true := by rw [HF.out]; decide +kernel
            have g6 : hasB (D.fld kk) 106 = false := by rw [HF.out]; decide +kernel
            rw [HKW.out, g1, g2, g3, g4, g5, g6] at HV
            clear hx
            go_wp2_with (go_at_call 28; refine (has_any _ _ _ hfl).mono ?_; rintro e w2 ⟨rfl, rfl⟩)
            obtain ⟨r1, r2, r3, r4, r5⟩ := HV.out
            refine bodyPost_ret (v := .agg #[.int .i64 ((kk : Int)), .int .i64 0, .int .i64 ((W : Int) / 65536 % 32), .int .i64 0, .int .i64 0, .int .u32 ((W : Int) % 65536)]) (by simp [results, Tryd.results16, go_sem, hc, hz]) rfl ⟨by rw [HKW.out, ← r1, ← r2, ← r3, ← r4, ← r5]; rfl, ?_⟩
            have hb9 := below_then (below_new (w := w)) (hb2.mono (by simp)) (Nat.le_refl _)
            (repeat' (first | (with_reducible exact hb9) | (with_reducible apply bel_set) | (with_reducible apply bel_alloc) | (with_reducible apply below_drewN) | (simp; done) | (simp; omega) | omega | (simp [World.setCell]; done) | (simp [World.setCell]; omega)))
        · have HS := Lib.hid hs
          have e2 : ((D.sb kk : Int) != (D.subW W : Int)) = true := by simp; omega
          clear ho hs
          go_wp2_with fail
          go_quiet ((go_at_call 27; exact (sub_any _ _ hW).mono fun _ _ h => ⟨h.1, _, h.2.symm⟩))
          go_wp2
          go_roundg ig
          case measure => omega
          case rel => exact ⟨k + 1, by omega, by go_num, notr_next HK.out (by rw [← HKK.out]; exact fun h => HS.out h.2), by apply below_drewN; (repeat' (first | (with_reducible exact hb) | (with_reducible apply bel_set) | (with_reducible apply bel_alloc) | (with_reducible apply below_drewN) | (simp; done) | (simp; omega) | omega | (simp [World.setCell]; done) | (simp [World.setCell]; omega)))⟩
      · have HO := Lib.hid ho
        have e1 : ((D.op kk : Int) != (W : Int) / 67108864) = true := by simp; omega
        clear ho
        go_wp2_with fail
        go_quiet ((go_at_call 27; exact (sub_any _ _ hW).mono fun _ _ h => ⟨h.1, _, h.2.symm⟩))
        go_wp2
        go_roundg ig
        case measure => omega
        case rel => exact ⟨k + 1, by omega, by go_num, notr_next HK.out (by rw [← HKK.out]; exact fun h => HO.out h.1), by apply below_drewN; (repeat' (first | (with_reducible exact hb) | (with_reducible apply bel_set) | (with_reducible apply bel_alloc) | (with_reducible apply below_drewN) | (simp; done) | (simp; omega) | omega | (simp [World.setCell]; done) | (simp [World.setCell]; omega)))⟩
    | zero =>
      obtain rfl : k = n := by omega
      go_wp2
      have h0 : D.kW W = 0 := notr_end (by have := HK.out; rw [HN.out, HT.out] at this; exact this)
      obtain ⟨f1, f2, f3, f4, f5⟩ := D.f_zero h0
      refine bodyPost_ret (v := .agg #[.int .i64 0, .int .i64 0, .int .i64 0, .int .i64 0, .int .i64 0, .int .u32 0]) (by simp [results, Tryd.results16, go_sem, hc]) rfl ⟨by rw [h0, f1, f2, f3, f4, f5]; rfl, ?_⟩
      have hb9 := below_then (below_new (w := w)) (hb2.mono (by simp)) (Nat.le_refl _)
      (repeat' (first | (with_reducible exact hb9) | (with_reducible apply bel_set) | (with_reducible apply bel_alloc) | (with_reducible apply below_drewN) | (simp; done) | (simp; omega) | omega | (simp [World.setCell]; done) | (simp [World.setCell]; omega)))
end Go.Proofs.YtngfjjgejpkmmaaDoor

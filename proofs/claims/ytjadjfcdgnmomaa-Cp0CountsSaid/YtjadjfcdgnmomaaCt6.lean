/-
  Chapter 6: Compare is met once, just when Count comes to it, however the steps are cut (the walk of Cp0Counts).
-/
import Derived.Test.YtjadjfcdgnmomaaKn6
import Derived.Test.YtjadjfcdgnmomaaBit
import Derived.Test.YtjadjfcdgnmomaaOpen6
namespace Go.Proofs.Ytjadjfcdgnmomaa
open Go.RowKit
set_option linter.unusedVariables false

/-- a State of which wnt steps have gone by, of d that are missing to Compare -/
structure Cnt (s : St) (count d wnt : Int) : Prop where
  t : s.Time = wnt
  c9 : s.C 9 = (count + wnt) % 4294967296
  c11 : s.C 11 = (count + d) % 4294967296
  c13 : tb (s.C 13) 15 = decide (d ≤ wnt)
theorem and_line (c : Int) (hc : W32 c) : bits .and .u32 c 32768 = if tb c 15 then 32768 else 0 := by
  have := and_pow c 15 hc (by omega)
  rw [show ((2 ^ 15 : Nat) : Int) = 32768 from rfl] at this
  rw [this]; cases tb c 15 <;> rfl
theorem cnt_miss {s : St} {count d wnt : Int} (h : Cnt s count d wnt) (d0 : 1 ≤ d) (d1 : d ≤ 200) (w0 : 0 ≤ wnt) (w1 : wnt ≤ 1200) (n : Int) (n0 : 0 ≤ n) (n1 : n < 60) : goB s n = decide (wnt < d ∧ d ≤ wnt + n) := by
  unfold goB missI
  rw [h.c9, h.c11, decide_eq_decide]
  split <;> omega
theorem cnt_zero {s : St} {count d wnt : Int} (h : Cnt s count d wnt) : Cnt (goF s 0) count d (wnt + 0) := by
  rw [show goF s 0 = s from by unfold goF; rw [if_pos (by omega)], Int.add_zero]
  exact h
theorem cnt_go {s : St} {count d wnt : Int} (ok : s.Ok) (h : Cnt s count d wnt) (d0 : 1 ≤ d) (d1 : d ≤ 200) (w0 : 0 ≤ wnt) (w1 : wnt ≤ 1200) (n : Int) (n0 : 0 ≤ n) (n1 : n < 60) : Cnt (goF s n) count d (wnt + n) := by
  by_cases hz : n = 0
  · subst hz; exact cnt_zero h
  · have hb := cnt_miss h d0 d1 w0 w1 n n0 n1
    have ht : wrap64 (s.Time + n) = wnt + n := by rw [h.t]; unfold wrap64; omega
    have h9 : (s.C 9 + n) % 4294967296 = (count + (wnt + n)) % 4294967296 := by rw [h.c9]; omega
    unfold goB at hb
    rw [decide_eq_decide] at hb
    unfold goF
    rw [if_neg (by omega)]
    by_cases hm : missI s ≤ n
    · rw [if_pos hm]
      have hh := hb.1 ⟨by omega, hm⟩
      refine ⟨ht, h9, h.c11, ?_⟩
      show tb (pu (s.C 13) 32768 32768) 15 = _
      rw [tb_pu _ _ _ (ok.c 13) ⟨by decide, by decide⟩ ⟨by decide, by decide⟩, eq_comm]
      rw [show (if tb 32768 15 = true then tb 32768 15 else tb (s.C 13) 15) = true from rfl, decide_eq_true_iff]
      omega
    · rw [if_neg hm]
      refine ⟨ht, h9, h.c11, ?_⟩
      show tb (s.C 13) 15 = _
      rw [h.c13, decide_eq_decide]
      have := fun x => hm (hb.2 x).2
      omega
section
variable {w : World}
set_option maxRecDepth 100000 in
set_option maxHeartbeats 2000000 in
theorem counts_walk (count short : Int) (a : Option Addr) (len cap : Nat) (hc : W32 count) (hs : W32 short) (ha : LongsAt w w.heap.size a len) (hl : len ≤ 9223372036854775807) :
    Calls Try.prog 6 #[.int .u32 count, .int .u32 short, .slice a len cap] w (RetB (.bool true) w) := by
  have HA := Lib.hid ha
  have HCW := Lib.hid hc
  clear ha
  obtain ⟨c0, c1⟩ := hc
  obtain ⟨s0, s1⟩ := hs
  go_enter Try.func6, Try.ntmps6
  go_wp2_with fail
  refine (fresh_any w).mono ?_
  rintro e w1 ⟨rfl, b1⟩
  have z1 := b1.size
  go_wp2_with (with_reducible refine wpList_allocSt ?_)
  intro g w2 l2 h2 f2
  have okf := St.Ok.of_fresh
  go_wp2_with ((with_reducible refine wpList_storeSt ?_ ?_ h2 okf ?_); rfl; rfl)
  intro w3 t3
  have hgw : w.heap.size ≤ g := by omega
  go_wp2_with fail
  refine (write_any 9 count t3.at_ HCW.out).mono ?_
  rintro e w4 ⟨rfl, t4⟩
  go_wp2_with fail
  refine (write_any 11 _ t4.at_ (w_mod _)).mono ?_
  rintro e w5 ⟨rfl, t5⟩
  have C5 : Cnt (wrF (wrF freshF 9 count) 11 ((count + (short % 200 + 1)) % 4294967296)) count (short % 200 + 1) 0 := by
    refine ⟨rfl, ?_, rfl, ?_⟩
    · show count = (count + 0) % 4294967296
      omega
    · show tb (pu 0 32768 0) 15 = _
      rw [eq_comm, show tb (pu 0 32768 0) 15 = false from by decide, decide_eq_false_iff_not]
      omega
  have A5 := t5.at_
  have g5 : Fr (New w.heap.size) w w5 := ((((Fr.of_below (S := New w.heap.size) b1).trans (f2.new (fun _ x => x.elim))).trans (t3.fr.new (by rintro k rfl; exact hgw))).trans (t4.fr.new (by rintro k rfl; exact hgw))).trans (t5.fr.new (by rintro k rfl; exact hgw))
  generalize wrF (wrF freshF 9 count) 11 ((count + (short % 200 + 1)) % 4294967296) = s5 at C5 A5 t5
  clear t5 t4 t3 h2 f2 l2 okf b1 z1
  generalize hd : short % 200 + 1 = d at C5 ⊢
  have d0 : 1 ≤ d := by omega
  have d1 : d ≤ 200 := by omega
  clear hd
  go_wp2_with fail
  go_loopw [9, 10] (fun x i wr => ∃ (k : Nat) (wnt : Int) (s : St), k ≤ 20 ∧ k ≤ len ∧ i = .int .i64 k ∧ x = .int .i64 wnt ∧ 0 ≤ wnt ∧ wnt ≤ 60 * k ∧ StAt wr g s ∧ Cnt s count d wnt ∧ Fr (New w.heap.size) w wr) (fun _ i _ => 20 - (intOf i).toNat)
  case atStart => exact ⟨0, 0, s5, by omega, by omega, by go_num, by go_num, by omega, by omega, A5, C5, g5⟩
  case round =>
    clear A5 C5 g5
    obtain ⟨k, wnt, s, hk, hkl, rfl, rfl, wn0, wn1, A, C, F⟩ := hrel
    by_cases hlt : k < 20 ∧ k < len
    · obtain ⟨x0, x1⟩ := hlt
      obtain ⟨ab, ao, v, rfl, hab, hv, hw⟩ := HA.out k x1
      have cv := cell_fr F hv (show ¬ New w.heap.size ab by unfold New; omega)
      have z20 : (k : Int) < 20 := by omega
      have hw1 : wnt ≤ 1200 := by omega
      have tb1 := tmod_pos v 60 (by omega)
      have hn : 0 ≤ (wrap64 (v.tmod 60 + 60)).tmod 60 ∧ (wrap64 (v.tmod 60 + 60)).tmod 60 < 60 := by
        have e : wrap64 (v.tmod 60 + 60) = v.tmod 60 + 60 := by unfold wrap64; omega
        rw [e]
        exact ⟨Int.tmod_nonneg 60 (by omega), Int.tmod_lt_of_pos _ (by omega)⟩
      have HN := Lib.hid hn
      clear hn tb1
      go_wp2_with fail
      have hn := HN.out
      generalize (wrap64 (v.tmod 60 + 60)).tmod 60 = n at hn ⊢
      obtain ⟨n0, n1⟩ := hn
      clear HN
      refine (go_any n A (by omega) (by omega)).mono ?_
      rintro e w6 ⟨rfl, t6⟩
      have A6 := t6.at_
      have C6 := cnt_go A.ok C d0 d1 wn0 hw1 n n0 n1
      have F6 := F.trans (t6.fr.new (by rintro k rfl; exact hgw))
      have c13 := A6.c13
      clear t6
      by_cases h1 : wnt < d
      · by_cases h2 : d ≤ wnt + n
        · have hb : goB s n = true := by rw [cnt_miss C d0 d1 wn0 hw1 n n0 n1, decide_eq_true_iff]; omega
          have HB := Lib.hid hb
          have hc13 : (bits .and .u32 ((goF s n).C 13) 32768 != 0) = true := by
            rw [and_line _ (A6.ok.c 13), C6.c13, decide_eq_true (show d ≤ wnt + n by omega)]; rfl
          have e1 : decide (wnt < d) = true := by simp; omega
          clear hb
          rw [HB.out]
          go_wp2_with fail
          go_roundw
          case rel => exact ⟨k + 1, wnt + n, _, by omega, by omega, by go_num, rfl, by omega, by omega, A6, C6, F6⟩
          case measure => simp [intOf]; omega
        · have hb : goB s n = false := by rw [cnt_miss C d0 d1 wn0 hw1 n n0 n1, decide_eq_false_iff_not]; omega
          have HB := Lib.hid hb
          have hc13 : (bits .and .u32 ((goF s n).C 13) 32768 != 0) = false := by
            rw [and_line _ (A6.ok.c 13), C6.c13, decide_eq_false (show ¬ d ≤ wnt + n by omega)]; rfl
          have e1 : decide (wnt < d) = true := by simp; omega
          clear hb
          rw [HB.out]
          go_wp2_with fail
          go_roundw
          case rel => exact ⟨k + 1, wnt + n, _, by omega, by omega, by go_num, rfl, by omega, by omega, A6, C6, F6⟩
          case measure => simp [intOf]; omega
      · by_cases h2 : d ≤ wnt + n
        · have hb : goB s n = false := by rw [cnt_miss C d0 d1 wn0 hw1 n n0 n1, decide_eq_false_iff_not]; omega
          have HB := Lib.hid hb
          have hc13 : (bits .and .u32 ((goF s n).C 13) 32768 != 0) = true := by
            rw [and_line _ (A6.ok.c 13), C6.c13, decide_eq_true (show d ≤ wnt + n by omega)]; rfl
          have e1 : decide (wnt < d) = false := by simp; omega
          clear hb
          rw [HB.out]
          go_wp2_with fail
          go_roundw
          case rel => exact ⟨k + 1, wnt + n, _, by omega, by omega, by go_num, rfl, by omega, by omega, A6, C6, F6⟩
          case measure => simp [intOf]; omega
        · omega
    · by_cases hkk : k < len
      · have z20 : ¬ (k : Int) < 20 := by omega
        have z21 : decide ((k : Int) < 20) = false := by simp; omega
        clear hlt
        have ct : wr.cell? ⟨g, 72, none⟩ = some (.int .i64 wnt) := by rw [A.cTime, C.t]
        have c9 : wr.cell? ⟨g, 48, none⟩ = some (.int .u32 ((count + wnt) % 4294967296)) := by rw [A.c9, C.c9]
        go_wp2_with fail
        refine (known_any _).mono ?_
        rintro e w6 ⟨rfl, b6⟩
        go_wp2_with fail
        go_ret
        exact ⟨rfl, (F.trans (Fr.of_below (S := New w.heap.size) b6)).newB⟩
      · clear hlt
        have ct : wr.cell? ⟨g, 72, none⟩ = some (.int .i64 wnt) := by rw [A.cTime, C.t]
        have c9 : wr.cell? ⟨g, 48, none⟩ = some (.int .u32 ((count + wnt) % 4294967296)) := by rw [A.c9, C.c9]
        go_wp2_with fail
        refine (known_any _).mono ?_
        rintro e w6 ⟨rfl, b6⟩
        go_wp2_with fail
        go_ret
        exact ⟨rfl, (F.trans (Fr.of_below (S := New w.heap.size) b6)).newB⟩
end
end Go.Proofs.Ytjadjfcdgnmomaa

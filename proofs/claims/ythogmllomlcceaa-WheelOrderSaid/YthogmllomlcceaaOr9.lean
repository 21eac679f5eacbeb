/-
  Chapter 9: the walk of WheelOrder.
-/
import Derived.Test.YthogmllomlcceaaSo9
import Derived.Deep.DeepCutAuto
import Derived.Deep.CutBlock
namespace Go.Proofs.Ythogmllomlcceaa
open Go.RowKit
set_option linter.unusedVariables false
set_option linter.unusedSimpArgs false
/-- a slice of numbers, below block B -/
def LongAt (w : World) (B : Nat) (a : Option Addr) (len : Nat) (Z : Nat → Int) : Prop :=
  ∀ i, i < len → ∃ b o : Nat, a = some ⟨b, o, none⟩ ∧ b < B ∧ w.cell? ⟨b, o + i, none⟩ = some (.int .i64 (Z i)) ∧ -9223372036854775808 ≤ Z i ∧ Z i ≤ 9223372036854775807
def tmF (Z : Nat → Int) (j : Nat) : Int := (Z j).tmod 50 % 50
theorem tmF_rng (Z : Nat → Int) (j : Nat) : 0 ≤ tmF Z j ∧ tmF Z j < 50 := by unfold tmF; omega

set_option maxHeartbeats 4000000 in
set_option maxRecDepth 100000 in
theorem order_walk (A : Option Addr) (len cap : Nat) (Z : Nat → Int) (w : World) (HZ : Hid (LongAt w w.heap.size A len Z)) (hl : len ≤ 9223372036854775807) :
    Calls Try.prog 5 #[.slice A len cap] w (RetB (.bool true) w) := by
  go_enter Try.func5, Try.ntmps5
  go_wp2_with fail
  refine (wnew_any w).mono ?_
  rintro e w1 ⟨g, hg, rfl, hw, hb⟩
  have o1 : One w w1 g _ [] 0 := One.new hg hw hb
  clear hw hb
  go_upto_region 4 with fail
  go_cut [4] (fun s4 wc => ∃ n : Nat, n ≤ 16 ∧ n ≤ len ∧ s4 = .int .i64 n ∧ w1 = wc)
  case first =>
    by_cases h16 : len ≤ 16
    · go_wp2_with fail
      go_meet
      exact ⟨len, h16, Nat.le_refl _, rfl, rfl⟩
    · go_wp2_with fail
      go_meet
      exact ⟨16, Nat.le_refl _, by omega, rfl, rfl⟩
  case rest =>
    obtain ⟨n, h16, hnl, rfl, rfl⟩ := hcut
    go_wp2_with fail
    go_loopw [5] (fun i wr => ∃ (k : Nat) (v : Value) (L : List Ev), k ≤ n ∧ i = .int .i64 k ∧ One w wr g v L k ∧ Hid (Arms (tmF Z) k L)) (fun i _ => n - (intOf i).toNat)
    case atStart => exact ⟨0, _, _, by omega, rfl, o1, Arms.zero _⟩
    case round =>
      clear o1
      obtain ⟨k, v, L, hk, rfl, o2, HA⟩ := hrel
      by_cases hlt : k < n
      · obtain ⟨b, o, rfl, hbl, hc, z0, z1⟩ := HZ.out k (by omega)
        have hc' := (o2.bl.cell (p := ⟨b, o + k, none⟩) hbl).trans hc
        obtain ⟨p1, p2⟩ := tmod50 (Z k)
        have HF : Hid (tmF Z k = (Z k).tmod 50 % 50) := rfl
        go_wp2_with fail
        have hkb : okB k ((Z k).tmod 50 % 50) = true := by simp [okB]; omega
        refine (arm_to o2.wh hkb rfl (by rw [HA.out.len]; omega) ⟨by omega, by omega⟩).mono ?_
        rintro e w3 ⟨rfl, v3, hw, hch⟩
        have o3 := o2.step hw hch
        have HA3 := Lib.hid (HA.out.arm (t := (Z k).tmod 50 % 50) HF.out.symm)
        clear hw hch o2
        go_wp2_with fail
        go_roundw
        case rel => exact ⟨k + 1, v3, _, by omega, by go_num, o3, HA3.out⟩
        case measure => simp [intOf]; omega
      · obtain rfl : k = n := by omega
        have HG := Lib.hid (HA.out.goes (fun j => (tmF_rng Z j).1))
        have HLn := Lib.hid HA.out.len
        go_wp2_with fail
        have o3 := o2.alloc (.cells #[.int .i64 (-1), .int .i64 0, .int .i64 0] 33)
        have bx3 : Bx (wr.alloc (.cells #[.int .i64 (-1), .int .i64 0, .int .i64 0] 33)) wr.heap.size g v ⟨-1, 0, 0⟩ := Bx.new o2.wh ⟨-1, 0, 0⟩
        have hX : w.heap.size ≤ wr.heap.size := o2.bl.size
        generalize wr.alloc (.cells #[.int .i64 (-1), .int .i64 0, .int .i64 0] 33) = W3 at o3 bx3 ⊢
        generalize wr.heap.size = X at bx3 hX ⊢
        clear o2 HA
        go_loopw [7, 8] (fun c i wr2 => ∃ (cnt now : Nat) (v : Value) (L : List Ev) (x : Ev), now ≤ 60 ∧ c = .int .i64 cnt ∧ i = .int .i64 now ∧ One w wr2 g v L k ∧ Bx wr2 X g v x ∧ Hid (Goes (tmF Z) k L x now) ∧ Hid (cnt + L.length = k) ∧ cnt ≤ 16) (fun _ i _ => 60 - (intOf i).toNat)
        case atStart => exact ⟨0, 0, v, L, _, by omega, rfl, rfl, o3, bx3, HG.out, by show _ = _; rw [HLn.out]; omega, by omega⟩
        case round =>
          clear o3 bx3 HG HLn
          obtain ⟨cnt, now, v, L, x, hnow, rfl, rfl, o4, bx4, HG, HC, hcnt⟩ := hrel
          by_cases hlt : now < 60
          · have hdn : decide ((now : Int) < 60) = true := by simp; omega
            go_wp2_with fail
            go_loopw [7, 9] (fun c i wr3 => ∃ (cnt j : Nat) (v : Value) (L : List Ev) (x : Ev), c = .int .i64 cnt ∧ i = .int .i64 j ∧ One w wr3 g v L k ∧ Bx wr3 X g v x ∧ Hid (Goes (tmF Z) k L x now) ∧ Hid (cnt + L.length = k) ∧ Hid (j + L.length ≤ 16) ∧ cnt ≤ 16 ∧ j ≤ 16) (fun _ i _ => 20 - (intOf i).toNat)
            case atStart => exact ⟨cnt, 0, v, L, x, rfl, rfl, o4, bx4, HG, HC, by show _ ≤ _; have := HC.out; omega, hcnt, by omega⟩
            case round =>
              clear o4 bx4 HG HC hcnt
              obtain ⟨cnt, j, v, L, x, rfl, rfl, o4, bx4, HG, HC, HJ, hcnt, hj16⟩ := hrel
              have hj : j < 20 := by omega
              have hLl : L.length ≤ 1000000 := by have := HJ.out; omega
              cases hD : dueB now L
              · go_wp2_with fail
                refine (take_none o4.wh hD hLl).mono ?_
                rintro e w5 ⟨rfl, v5, hw, hch⟩
                have o5 := (o4.step hw hch).alloc (.cells #[.int .i64 0, .int .i64 0, .int .i64 0] 33)
                have bx5 := bx4.step hch
                have bx6 : Bx (w5.alloc (.cells #[.int .i64 0, .int .i64 0, .int .i64 0] 33)) X g v5 x := bx5.step (Ch.of_below ((Below.refl _ _).alloc (Nat.le_refl _) _))
                have HG5 := Lib.hid (HG.out.next hD)
                clear hw hch o4 bx4 bx5 HG
                go_wp2_with fail
                go_roundw
                case rel => exact ⟨cnt, now + 1, v5, L, x, by omega, rfl, by go_num, o5, bx6, HG5.out, HC, hcnt⟩
                case measure => simp [intOf]; omega
              · cases L with
                | nil => cases hD
                | cons y r =>
                  obtain ⟨t1, d1, s1⟩ := y
                  have hle : t1 ≤ now := by simpa [dueB] using hD
                  have hge : (now : Int) ≤ t1 := HG.out.now _ (List.mem_cons_self ..)
                  obtain rfl : t1 = now := by omega
                  obtain ⟨jj, hjj, hdj, htj⟩ := HG.out.all _ (List.mem_cons_self ..)
                  have hdj : d1 = jj := hdj
                  have HTj : Hid ((now : Int) = tmF Z jj) := htj
                  subst hdj
                  have hlt2 := HG.out.lst _ (List.mem_cons_self ..)
                  have hlt2 : x.t < now ∨ x.t = now ∧ x.s < s1 := hlt2
                  clear hle hge htj hD
                  go_wp2_with fail
                  refine (take_to o4.wh (Int.le_refl _) hLl).mono ?_
                  rintro e w5 ⟨rfl, v5, hw, hch⟩
                  have o5 := o4.step hw hch
                  have bx5 := bx4.step hch
                  have o6 := o5.alloc (.cells #[.int .i64 now, .int .i64 jj, .int .i64 s1] 33)
                  have bx6 : Bx (w5.alloc (.cells #[.int .i64 now, .int .i64 jj, .int .i64 s1] 33)) X g v5 x := bx5.step (Ch.of_below ((Below.refl _ _).alloc (Nat.le_refl _) _))
                  have by6 : Bx (w5.alloc (.cells #[.int .i64 now, .int .i64 jj, .int .i64 s1] 33)) w5.heap.size g v5 ⟨now, jj, s1⟩ := Bx.new o5.wh ⟨now, jj, s1⟩
                  have HG6 := Lib.hid HG.out.take
                  have HC6 : Hid (cnt + 1 + r.length = k) := by show _ = _; have := HC.out; simp at this; omega
                  have HJ6 : Hid (j + 1 + r.length ≤ 16) := by show _ ≤ _; have := HJ.out; simp at this; omega
                  have hXY : X < w5.heap.size := bx5.row.lt
                  obtain ⟨b, o, rfl, hbl, hc, z0, z1⟩ := HZ.out jj (by omega)
                  have hc6 := (o6.bl.cell (p := ⟨b, o + jj, none⟩) hbl).trans hc
                  clear hw hch o4 bx4 bx5 HG HC HJ o5 hc
                  go_wp2_with fail
                  generalize w5.alloc (.cells #[.int .i64 now, .int .i64 jj, .int .i64 s1] 33) = W6 at o6 bx6 by6 hc6 ⊢
                  generalize w5.heap.size = Y at by6 hXY ⊢
                  have x0 := bx6.row.cell (i := 0) (by omega)
                  have x1 := bx6.row.cell (i := 1) (by omega)
                  have x2 := bx6.row.cell (i := 2) (by omega)
                  have y0 := by6.row.cell (i := 0) (by omega)
                  have y1 := by6.row.cell (i := 1) (by omega)
                  have y2 := by6.row.cell (i := 2) (by omega)
                  simp only [three] at x0 x1 x2 y0 y1 y2
                  have fx0 := bx6.row.frozen 0
                  have fx1 := bx6.row.frozen 1
                  have fx2 := bx6.row.frozen 2
                  obtain ⟨p1, p2⟩ := tmod50 (Z jj)
                  have T0 : (Z jj).tmod 50 % 50 = now := by rw [HTj.out]; rfl
                  have T1 : IntKind.i64.wrap ((Z jj).tmod 50) = (Z jj).tmod 50 := by rw [IntKind.wrap_i64]; omega
                  have T2 : IntKind.i64.wrap ((Z jj).tmod 50 + 50) = (Z jj).tmod 50 + 50 := by rw [IntKind.wrap_i64]; omega
                  have T3 : ((Z jj).tmod 50 + 50).tmod 50 = now := by rw [Int.tmod_eq_emod_of_nonneg (by omega)]; omega
                  have T4 : IntKind.i64.wrap (now : Int) = now := by rw [IntKind.wrap_i64]; omega
                  have T5 : ((Z jj).tmod 50 + 50) % 50 = now := by omega
                  have hix : (jj : Int) < (len : Int) := by omega
                  clear p1 p2 z0 z1
                  by_cases hq : x.t = now
                  · have hs : x.s < s1 := by omega
                    have d3 : decide (s1 ≤ x.s) = false := by simp; omega
                    rw [hq] at x0
                    clear hlt2
                    go_quiet (fail)
                    clear T0 T1 T2 T3 T4 T5
                    go_wp2_with fail
                    obtain ⟨o7, bx7⟩ := (o6.drewN nq).box (bx6.drewN nq) hX ⟨now, jj, s1⟩
                    go_roundw
                    case rel => exact ⟨cnt + 1, j + 1, v5, r, _, by go_num, by go_num, o7, bx7, HG6.out, HC6, HJ6, by have := HC6.out; omega, by have := HJ6.out; omega⟩
                    case measure => simp [intOf]; omega
                  · have hs : x.t < now := by omega
                    have d1 : decide ((now : Int) < x.t) = false := by simp; omega
                    have d2 : ((now : Int) == x.t) = false := beq_false_of_ne (by omega)
                    clear hlt2
                    go_quiet (fail)
                    clear T0 T1 T2 T3 T4 T5
                    go_wp2_with fail
                    obtain ⟨o7, bx7⟩ := (o6.drewN nq).box (bx6.drewN nq) hX ⟨now, jj, s1⟩
                    go_roundw
                    case rel => exact ⟨cnt + 1, j + 1, v5, r, _, by go_num, by go_num, o7, bx7, HG6.out, HC6, HJ6, by have := HC6.out; omega, by have := HJ6.out; omega⟩
                    case measure => simp [intOf]; omega
          · obtain rfl : now = 60 := by omega
            have hL := HG.out.fin (fun j => (tmF_rng Z j).2)
            subst hL
            obtain rfl : cnt = k := by have := HC.out; simpa using this
            clear HG HC hlt
            go_wp2_with fail
            refine (all_len o4.wh (by simp)).mono ?_
            rintro e w9 ⟨A9, c9, rfl, hb⟩
            have o9 := o4.below hb
            go_wp2_with fail
            refine (known_any w9).mono ?_
            rintro e w10 ⟨rfl, hb10⟩
            go_wp2
            go_ret
            exact ⟨rfl, (o9.below hb10).bl⟩
end Go.Proofs.Ythogmllomlcceaa

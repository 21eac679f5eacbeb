/-
  Chapter 7: both tables, the program's and the document's, played by any calls on any State, looked at by any addresses (the walk of TlbPlays).
-/
import Derived.Test.YtckgkelggmhldaaDo7
import Derived.Test.YtckgkelggmhldaaStK
namespace Go.Proofs.Ytckgkelggmhldaa
open Go.RowKit
set_option linter.unusedVariables false

/-- the cells of a slice of calls, as the walk asks for them -/
def Asks (w : World) (B : Nat) (a : Option Addr) (len : Nat) : Prop :=
  ∀ i, i < len → ∃ (b o : Nat) (kd n v : Int) (f : Bool), a = some ⟨b, o, none⟩ ∧ b < B ∧
    w.cell? ⟨b, o + i * 4, none⟩ = some (.int .i64 kd) ∧ w.cell? ⟨b, o + i * 4 + 1, none⟩ = some (.int .i64 n) ∧ w.cell? ⟨b, o + i * 4 + 2, none⟩ = some (.int .u32 v) ∧
    w.cell? ⟨b, o + i * 4 + 3, none⟩ = some (.bool f) ∧ W32 v ∧ -9223372036854775808 ≤ n ∧ n ≤ 9223372036854775807
section
variable {w : World} {ra ca ta : Option Addr} {rl rc cl cc tl tc : Nat} {pc st cs hi ct sh : Int} {sl lk : Bool}
set_option maxRecDepth 100000 in
set_option maxHeartbeats 4000000 in
theorem plays_walk (a : Option Addr) (len cap : Nat) (va : Option Addr) (vl vc : Nat) (h : DrawnAt w w.heap.size ra ca ta rl cl tl pc st cs hi ct sh) (ha : Asks w w.heap.size a len) (hl : len ≤ 9223372036854775807) (hva : WordsAt w w.heap.size va vl) (hvl : vl ≤ 9223372036854775807) :
    Calls Try.prog 4 #[drawnV ra ca ta rl rc cl cc tl tc pc st cs hi ct sh sl lk, .slice a len cap, .slice va vl vc] w (RetB (.bool true) w) := by
  have HA := Lib.hid ha
  have HD := Lib.hid h
  have HV := Lib.hid hva
  clear ha h hva
  unfold drawnV
  go_enter Try.func4, Try.ntmps4
  go_wp2_with fail
  have b0 := (Below.refl w.heap.size w).alloc (Nat.le_refl _) (.cells #[.slice ra rl rc, .int .u32 pc, .int .u32 st, .int .u32 cs, .int .u32 hi, .bool sl, .bool lk, .slice ca cl cc, .slice ta tl tc, .int .u32 ct, .int .u32 sh] 41)
  have g0 := (Fr.refl (New w.heap.size) w).alloc (.cells #[.slice ra rl rc, .int .u32 pc, .int .u32 st, .int .u32 cs, .int .u32 hi, .bool sl, .bool lk, .slice ca cl cc, .slice ta tl tc, .int .u32 ct, .int .u32 sh] 41)
  refine (state_any (rc := rc) (cc := cc) (tc := tc) (sl := sl) (lk := lk) 0 ((HD.out.below b0).up b0.size) ⟨by omega, by omega⟩).mono ?_
  rintro e w1 ⟨s, rfl, ok, dn, tm, b1⟩
  have g1 := g0.trans (Fr.of_below (S := New w.heap.size) b1)
  have z1 := g1.size
  clear b0 g0 b1 dn tm HD
  go_wp2_with (with_reducible refine wpList_allocSt ?_)
  intro g w2 l2 h2 f2
  go_wp2_with ((with_reducible refine wpList_storeSt ?_ ?_ h2 ok ?_); rfl; rfl)
  intro w3 t3
  have TA := t3.at_
  go_wp2_with (first | ((with_reducible refine wpList_loadSt ?_ TA ?_); rfl) | (with_reducible refine wpList_allocSt ?_))
  intro m w4 l4 h4 f4
  go_wp2_with ((with_reducible refine wpList_storeSt ?_ ?_ h4 ok ?_); rfl; rfl)
  intro w5 t5
  have q1 := t3.at_.lt
  have q2 := t3.size
  have hT : Two w5 g m s := ⟨(t3.at_.fr f4 id).fr t5.fr (by omega), t5.at_, by omega⟩
  have hg : w.heap.size ≤ g := by omega
  have hm : w.heap.size ≤ m := by have := f2.size; omega
  have g5 := (((g1.trans (f2.new (fun _ x => x.elim))).trans (t3.fr.new (by rintro k rfl; exact hg))).trans (f4.new (fun _ x => x.elim))).trans (t5.fr.new (by rintro k rfl; exact hm))
  clear q1 q2 t3 t5 h2 h4 f2 f4 l2 l4 g1 z1 TA
  go_wp2_with fail
  go_loopw [9] (fun i wr => ∃ (k : Nat) (s : St), k ≤ 40 ∧ k ≤ len ∧ i = .int .i64 k ∧ Two wr g m s ∧ Fr (New w.heap.size) w wr) (fun i _ => 40 - (intOf i).toNat)
  case atStart => exact ⟨0, s, by omega, by omega, by go_num, hT, g5⟩
  case round =>
    clear hT g5
    obtain ⟨k, s, hk, hkl, rfl, hT, hB⟩ := hrel
    by_cases hlt : k < 40 ∧ k < len
    · obtain ⟨x0, x1⟩ := hlt
      obtain ⟨ab, ao, kd, n, v, f, rfl, hab, q0, q1, q2, q3, hv, n0, n1⟩ := HA.out k x1
      have nb : ¬ New w.heap.size ab := by unfold New; omega
      have e0 := cell_fr hB q0 nb
      have e1 := cell_fr hB q1 nb
      have e2 := cell_fr hB q2 nb
      have e3 := cell_fr hB q3 nb
      clear q0 q1 q2 q3
      have z40 : (k : Int) < 40 := by omega
      cases h3 : (n.tmod 3 != 0)
      · go_wp2_with fail
        refine (do_any _ _ _ _ (hT.fr ((Fr.refl (fun _ => False) wr).alloc _) id id) hv).mono ?_
        rintro e w6 ⟨rfl, ⟨s6, hT6⟩, f6⟩
        have hB6 := (hB.alloc _).trans (f6.new (own2_new hg hm))
        clear f6 hT hB e0 e1 e2 e3
        go_wp2_with fail
        go_loopw [11] (fun i wq => ∃ j : Nat, j ≤ 6 ∧ j ≤ vl ∧ i = .int .i64 j ∧ Two wq g m s6 ∧ Fr (New w.heap.size) w wq) (fun i _ => 6 - (intOf i).toNat)
        case atStart => exact ⟨0, by omega, by omega, by go_num, hT6, hB6⟩
        case round =>
          clear hT6 hB6
          obtain ⟨j, hj, hjl, rfl, hT, hB⟩ := hrel
          by_cases hjj : j < vl
          · by_cases hj6 : j < 6
            · obtain ⟨bb, bo, x, rfl, hbb, qx, hx⟩ := HV.out j hjj
              have ex := cell_fr hB qx (show ¬ New w.heap.size bb by unfold New; omega)
              clear qx
              have z6 : (j : Int) < 6 := by omega
              go_wp2_with fail
              refine (page_any j x _ hx (by omega) (by omega)).mono ?_
              rintro e w7 ⟨⟨y, rfl, hy⟩, rfl⟩
              go_wp2_with fail
              refine (same_any y hT hy).mono ?_
              rintro e w7 ⟨rfl, b7⟩
              go_wp2_with fail
              go_roundw
              case rel => exact ⟨j + 1, by omega, by omega, by go_num, hT.below b7, hB.trans (Fr.of_below (S := New w.heap.size) b7)⟩
              case measure => simp [intOf]; omega
            · have z6 : ¬ (j : Int) < 6 := by omega
              have z61 : decide ((j : Int) < 6) = false := by simp; omega
              go_wp2_with fail
              go_roundw
              case rel => exact ⟨k + 1, s6, by omega, by omega, by go_num, hT, hB⟩
              case measure => simp [intOf]; omega
          · go_wp2_with fail
            go_roundw
            case rel => exact ⟨k + 1, s6, by omega, by omega, by go_num, hT, hB⟩
            case measure => simp [intOf]; omega
      · go_wp2_with fail
        refine (page_any n v _ hv n0 n1).mono ?_
        rintro e w6 ⟨⟨v', rfl, hv'⟩, rfl⟩
        go_wp2_with fail
        refine (do_any _ _ _ _ (hT.fr ((Fr.refl (fun _ => False) wr).alloc _) id id) hv').mono ?_
        rintro e w6 ⟨rfl, ⟨s6, hT6⟩, f6⟩
        have hB6 := (hB.alloc _).trans (f6.new (own2_new hg hm))
        clear f6 hT hB e0 e1 e2 e3
        go_wp2_with fail
        go_loopw [11] (fun i wq => ∃ j : Nat, j ≤ 6 ∧ j ≤ vl ∧ i = .int .i64 j ∧ Two wq g m s6 ∧ Fr (New w.heap.size) w wq) (fun i _ => 6 - (intOf i).toNat)
        case atStart => exact ⟨0, by omega, by omega, by go_num, hT6, hB6⟩
        case round =>
          clear hT6 hB6
          obtain ⟨j, hj, hjl, rfl, hT, hB⟩ := hrel
          by_cases hjj : j < vl
          · by_cases hj6 : j < 6
            · obtain ⟨bb, bo, x, rfl, hbb, qx, hx⟩ := HV.out j hjj
              have ex := cell_fr hB qx (show ¬ New w.heap.size bb by unfold New; omega)
              clear qx
              have z6 : (j : Int) < 6 := by omega
              go_wp2_with fail
              refine (page_any j x _ hx (by omega) (by omega)).mono ?_
              rintro e w7 ⟨⟨y, rfl, hy⟩, rfl⟩
              go_wp2_with fail
              refine (same_any y hT hy).mono ?_
              rintro e w7 ⟨rfl, b7⟩
              go_wp2_with fail
              go_roundw
              case rel => exact ⟨j + 1, by omega, by omega, by go_num, hT.below b7, hB.trans (Fr.of_below (S := New w.heap.size) b7)⟩
              case measure => simp [intOf]; omega
            · have z6 : ¬ (j : Int) < 6 := by omega
              have z61 : decide ((j : Int) < 6) = false := by simp; omega
              go_wp2_with fail
              go_roundw
              case rel => exact ⟨k + 1, s6, by omega, by omega, by go_num, hT, hB⟩
              case measure => simp [intOf]; omega
          · go_wp2_with fail
            go_roundw
            case rel => exact ⟨k + 1, s6, by omega, by omega, by go_num, hT, hB⟩
            case measure => simp [intOf]; omega
    · have hlt2 : ¬ k < 40 ∨ ¬ k < len := by omega
      clear hlt
      by_cases hkk : k < len
      · have z40 : ¬ (k : Int) < 40 := by omega
        have z41 : decide ((k : Int) < 40) = false := by simp; omega
        go_wp2_with fail
        refine (known_any _).mono ?_
        rintro e w6 ⟨rfl, b6⟩
        go_wp2_with fail
        go_ret
        exact ⟨rfl, (hB.trans (Fr.of_below (S := New w.heap.size) b6)).newB⟩
      · go_wp2_with fail
        refine (known_any _).mono ?_
        rintro e w6 ⟨rfl, b6⟩
        go_wp2_with fail
        go_ret
        exact ⟨rfl, (hB.trans (Fr.of_below (S := New w.heap.size) b6)).newB⟩
end
end Go.Proofs.Ytckgkelggmhldaa

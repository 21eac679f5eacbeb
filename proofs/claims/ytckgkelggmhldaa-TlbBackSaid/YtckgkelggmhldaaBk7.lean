/-
  Chapter 7: an entry that is put is got again, and found by its page; what is probed is where it was put, or lower (the walk of TlbBack).
-/
import Derived.Test.YtckgkelggmhldaaSm7
import Derived.Test.YtckgkelggmhldaaStK
namespace Go.Proofs.Ytckgkelggmhldaa
open Go.RowKit
set_option linter.unusedVariables false
theorem and7i (n : Int) : bits .and .i64 n 7 = n % 8 := by
  have e : (BitVec.ofInt 64 n &&& BitVec.ofInt 64 7).toNat = (n % 8).toNat := by
    rw [BitVec.toNat_and]
    have h3 : (BitVec.ofInt 64 7).toNat = 2 ^ 3 - 1 := by decide
    rw [h3, Nat.and_two_pow_sub_one_eq_mod, BitVec.toNat_ofInt]
    omega
  show IntKind.i64.wrap ((BitVec.ofInt 64 n &&& BitVec.ofInt 64 7).toNat : Int) = n % 8
  rw [e, IntKind.wrap_i64]; omega
theorem and_idem (x m : Int) : bits .and .u32 (bits .and .u32 x m) m = bits .and .u32 x m := by
  rw [bv_and, bv_and, bv_back, BitVec.and_assoc, BitVec.and_self]
theorem page_hi (x : Int) : bits .andNot .u32 (bits .and .u32 x 4294966527) 1023 = bits .andNot .u32 x 1023 := by
  rw [bv_andNot, bv_and, bv_back, bv_andNot, BitVec.and_assoc]
  have e : BitVec.ofInt 32 4294966527 &&& ~~~BitVec.ofInt 32 1023 = ~~~BitVec.ofInt 32 1023 := by decide
  rw [e]
theorem wr0 (s : St) (v : Int) : wrF s 0 v = s.setC 0 (bits .and .u32 v 7) := rfl
theorem wr2 (s : St) (v : Int) : wrF s 2 v = s.setC 2 (bits .and .u32 v 4294966279) := rfl
theorem wr10 (s : St) (v : Int) : wrF s 10 v = s.setC 10 (bits .and .u32 v 4294966527) := rfl
theorem and7n (k : Nat) (hk : k < 8) : bits .and .u32 (k : Int) 7 = k := by
  rw [and7 _ ⟨by omega, by omega⟩]; omega
/-- entry k is what was put, and EntryHi names it -/
structure Bk (s : St) (hi lo : Int) (k : Nat) : Prop where
  h : s.H k = bits .and .u32 hi 4294966527
  l : s.L k = bits .and .u32 lo 4294966279
theorem put_bk (s : St) (hi lo : Int) (k : Nat) (hk : k < 8) : Bk (putF (wrF (wrF (wrF s 0 k) 10 hi) 2 lo) false) hi lo k ∧ (putF (wrF (wrF (wrF s 0 k) 10 hi) 2 lo) false).C 10 = bits .and .u32 hi 4294966527 := by
  have e : chF (wrF (wrF (wrF s 0 k) 10 hi) 2 lo) false = k := by
    show (bits .and .u32 (k : Int) 7) % 8 = k
    rw [and7n k hk]; omega
  unfold putF
  rw [e, Int.toNat_natCast]
  refine ⟨⟨?_, ?_⟩, rfl⟩
  · show (if k = k then _ else _) = _
    rw [if_pos rfl]; rfl
  · show (if k = k then _ else _) = _
    rw [if_pos rfl]; rfl
theorem bk_find {s : St} {hi lo : Int} {k : Nat} (hk : k < 8) (b : Bk s hi lo k) (c : s.C 10 = bits .and .u32 hi 4294966527) : ∃ p : Nat, p ≤ k ∧ findF s hi = p := by
  have h : hitB s hi k = true := by
    unfold hitB pgB spB
    rw [b.h, c, page_hi]; simp
  have := find_le hk h
  exact ⟨(findF s hi).toNat, by omega, by omega⟩
theorem bk_probe {s : St} {hi lo : Int} {k : Nat} (hk : k < 8) (b : Bk s hi lo k) (c : s.C 10 = bits .and .u32 hi 4294966527) : Bk (prbF s) hi lo k ∧ ∃ p : Nat, p ≤ k ∧ (prbF s).C 0 = p := by
  have c' : (prb0 s).C 10 = bits .and .u32 hi 4294966527 := c
  have h : hitB (prb0 s) ((prb0 s).C 10) k = true := by
    unfold hitB pgB spB
    rw [c', show (prb0 s).H k = bits .and .u32 hi 4294966527 from b.h]; simp
  have h2 := find_le hk h
  unfold prbF
  rw [if_neg (by omega)]
  exact ⟨⟨b.h, b.l⟩, (findF (prb0 s) ((prb0 s).C 10)).toNat, by omega, by
    have e : ((prb0 s).setC 0 (findF (prb0 s) ((prb0 s).C 10))).C 0 = findF (prb0 s) ((prb0 s).C 10) := rfl
    rw [e]; omega⟩
theorem bk_get {s : St} {hi lo : Int} {k : Nat} (hk : k < 8) (b : Bk s hi lo k) : (getF (wrF (wrF (wrF s 10 0) 2 0) 0 k)).C 10 = bits .and .u32 hi 4294966527 ∧ (getF (wrF (wrF (wrF s 10 0) 2 0) 0 k)).C 2 = bits .and .u32 lo 4294966279 := by
  have e : ((wrF (wrF (wrF s 10 0) 2 0) 0 k).C 0 % 8).toNat = k := by
    show ((bits .and .u32 (k : Int) 7) % 8).toNat = k
    rw [and7n k hk]; omega
  unfold getF
  rw [e]
  constructor
  · show bits .and .u32 (s.H k) 4294966527 = _
    rw [b.h, and_idem]
  · show bits .and .u32 (s.L k) 4294966279 = _
    rw [b.l, and_idem]
section
variable {w : World}
set_option maxRecDepth 100000 in
set_option maxHeartbeats 4000000 in
theorem back_walk (hi lo at_ : Int) (a : Option Addr) (len cap : Nat) (hhi : W32 hi) (hlo : W32 lo) (h : EntsAt w w.heap.size a len) (hl : len ≤ 9223372036854775807) :
    Calls Try.prog 5 #[.int .u32 hi, .int .u32 lo, .int .i64 at_, .slice a len cap] w (RetB (.bool true) w) := by
  have HE := Lib.hid h
  clear h
  obtain ⟨k, hk, ek⟩ : ∃ k : Nat, k < 8 ∧ bits .and .i64 at_ 7 = k := ⟨(at_ % 8).toNat, by omega, by rw [and7i]; omega⟩
  go_enter Try.func5, Try.ntmps5
  go_wp2_with fail
  refine (fresh_any w).mono ?_
  rintro e w1 ⟨rfl, b1⟩
  have ok := St.Ok.of_fresh
  have z1 := b1.size
  go_wp2_with (with_reducible refine wpList_allocSt ?_)
  intro g w2 l2 h2 f2
  go_wp2_with ((with_reducible refine wpList_storeSt ?_ ?_ h2 ok ?_); rfl; rfl)
  intro w3 t3
  have hg : w.heap.size ≤ g := by omega
  have g3 := (((Fr.of_below (S := New w.heap.size) b1).trans (f2.new (fun _ x => x.elim))).trans (t3.fr.new (by rintro k rfl; exact hg)))
  have h3 := t3.at_
  clear t3 h2 f2 l2 z1 b1 ok
  go_upto_block 0 with fail
  go_cut [10] (fun _ wc => ∃ s, StAt wc g s ∧ Fr (New w.heap.size) w wc)
  case first =>
    go_wp2_with fail
    go_loopw [10] (fun i wr => ∃ (k : Nat) (s : St), k ≤ 8 ∧ i = .int .i64 k ∧ StAt wr g s ∧ Fr (New w.heap.size) w wr) (fun i _ => 8 - (intOf i).toNat)
    case atStart => exact ⟨0, freshF, by omega, by go_num, h3, g3⟩
    case round =>
      clear h3 g3
      obtain ⟨k, s, k1, rfl, A, F⟩ := hrel
      by_cases hlt : k < 8 ∧ k < len
      · obtain ⟨x0, x1⟩ := hlt
        obtain ⟨ab, ao, x, y, rfl, hab, hv, hw, hx, hy⟩ := HE.out k x1
        have nb : ¬ New w.heap.size ab := by unfold New; omega
        have cv := cell_fr F hv nb
        have cw := cell_fr F hw nb
        have ch := A.cH k x0
        have cl := A.cL k x0
        have fh := A.frozenAt (55 + k * 2)
        have fl := A.frozenAt (55 + k * 2 + 1)
        have y0 : (k : Int) < 8 := by omega
        go_wp2_with fail
        go_region
        all_goals
          go_wp2_with fail
          go_roundw
          case rel => exact ⟨k + 1, _, by omega, by go_num, ((A.setH k x0 _ (w_and _ _)).setL k x0 _ (w_and _ _)).drew, ((F.setCell (x := ⟨g, 55 + k * 2, none⟩) (.inl hg) _).setCell (x := ⟨g, 55 + k * 2 + 1, none⟩) (.inl hg) _).drew⟩
          case measure => simp [intOf]; omega
      · by_cases hk : k < 8
        · have hk2 : ¬ k < len := by omega
          have y0 : (k : Int) < 8 := by omega
          clear hlt
          go_wp2_with fail
          go_meet
          exact ⟨s, A, F⟩
        · have y0 : ¬ (k : Int) < 8 := by omega
          have y1 : decide ((k : Int) < 8) = false := by simp; omega
          clear hlt
          by_cases hk2 : k < len
          · go_wp2_with fail
            go_meet
            exact ⟨s, A, F⟩
          · go_wp2_with fail
            go_meet
            exact ⟨s, A, F⟩
  case rest =>
    clear h3 g3
    obtain ⟨s, A, F⟩ := hcut
    have hkw : W32 (k : Int) := ⟨by omega, by omega⟩
    have HH := Lib.hid hhi
    have HL := Lib.hid hlo
    have HK := Lib.hid hkw
    clear hkw hhi hlo
    have kb : (k : Int) < 8 := by omega
    go_wp2_with fail
    refine (write_any 0 k A HK.out).mono ?_
    rintro e v1 ⟨rfl, t1⟩
    go_wp2_with fail
    refine (write_any 10 hi t1.at_ HH.out).mono ?_
    rintro e v2 ⟨rfl, t2⟩
    go_wp2_with fail
    refine (write_any 2 lo t2.at_ HL.out).mono ?_
    rintro e v3 ⟨rfl, t3⟩
    go_wp2_with fail
    refine (put7_any false t3.at_).mono ?_
    rintro e v4 ⟨rfl, t4⟩
    have A4 := t4.at_
    have F4 := (((F.trans (t1.fr.new (by rintro k rfl; exact hg))).trans (t2.fr.new (by rintro k rfl; exact hg))).trans (t3.fr.new (by rintro k rfl; exact hg))).trans (t4.fr.new (by rintro k rfl; exact hg))
    obtain ⟨B4, C4⟩ := put_bk s hi lo k hk
    generalize putF (wrF (wrF (wrF s 0 k) 10 hi) 2 lo) false = s4 at A4 B4 C4
    clear t1 t2 t3 t4 A F
    obtain ⟨p, hp, ep⟩ := bk_find hk B4 C4
    have EP := Lib.hid ep
    clear ep
    obtain ⟨B5, p5, hp5, ep5⟩ := bk_probe hk B4 C4
    have EP5 := Lib.hid ep5
    have HB5 := Lib.hid B5
    clear ep5 B4 C4 B5
    have d1 : decide ((p : Int) < 0) = false := by simp
    have d2 : decide ((k : Int) < (p : Int)) = false := by simp; omega
    have d5 : decide ((k : Int) < (p5 : Int)) = false := by simp; omega
    go_wp2_with fail
    refine (find_any hi A4 HH.out).mono ?_
    rintro e v5 ⟨rfl, b5⟩
    rw [EP.out]
    have A5 := A4.below b5
    have F5 := F4.trans (Fr.of_below (S := New w.heap.size) b5)
    clear A4 F4 b5
    go_wp2_with fail
    refine (find_any hi A5 HH.out).mono ?_
    rintro e v6 ⟨rfl, b6⟩
    rw [EP.out]
    have A6 := A5.below b6
    have F6 := F5.trans (Fr.of_below (S := New w.heap.size) b6)
    clear A5 F5 b6
    go_wp2_with fail
    refine (probe_any A6).mono ?_
    rintro e v7 ⟨rfl, t7⟩
    have A7 := t7.at_
    have F7 := F6.trans (t7.fr.new (by rintro k rfl; exact hg))
    have c7 : v7.cell? ⟨g, 39, none⟩ = some (.int .u32 p5) := by rw [A7.c0, EP5.out]
    clear t7 A6 F6
    generalize prbF s4 = s7 at A7 HB5
    go_wp2_with fail
    refine (write_any 10 0 A7 w32_0).mono ?_
    rintro e v8 ⟨rfl, t8⟩
    clear c7
    go_wp2_with fail
    refine (write_any 2 0 t8.at_ w32_0).mono ?_
    rintro e v9 ⟨rfl, t9⟩
    go_wp2_with fail
    refine (write_any 0 k t9.at_ HK.out).mono ?_
    rintro e v10 ⟨rfl, t10⟩
    go_wp2_with fail
    refine (get_any t10.at_).mono ?_
    rintro e v11 ⟨rfl, t11⟩
    have F11 := (((F7.trans (t8.fr.new (by rintro k rfl; exact hg))).trans (t9.fr.new (by rintro k rfl; exact hg))).trans (t10.fr.new (by rintro k rfl; exact hg))).trans (t11.fr.new (by rintro k rfl; exact hg))
    obtain ⟨y1, y2⟩ := bk_get hk HB5.out
    have c10 : v11.cell? ⟨g, 49, none⟩ = some (.int .u32 (bits .and .u32 hi 4294966527)) := by rw [t11.at_.c10, y1]
    have c2 : v11.cell? ⟨g, 41, none⟩ = some (.int .u32 (bits .and .u32 lo 4294966279)) := by rw [t11.at_.c2, y2]
    clear t8 t9 t10 t11 y1 y2 A7 F7
    go_wp2_with fail
    refine (known_any _).mono ?_
    rintro e v12 ⟨rfl, b12⟩
    go_wp2_with fail
    go_ret
    exact ⟨rfl, (F11.trans (Fr.of_below (S := New w.heap.size) b12)).newB⟩
end
end Go.Proofs.Ytckgkelggmhldaa

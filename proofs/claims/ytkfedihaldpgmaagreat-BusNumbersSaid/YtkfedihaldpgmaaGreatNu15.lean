/-
  Chapter 15: each window's words, ends of memory, each number of bytes (BusNumbers).
-/
import Derived.Test.YtkfedihaldpgmaaGreatNt15
namespace Go.Proofs.YtkfedihaldpgmaaGreat
open Go.RowKit
set_option linter.unusedVariables false
set_option linter.unusedSimpArgs false
theorem ldV_form' (p : Nat) (a n now : Int) (S : BS) : ∃ (v : Int) (b : Bool), ldV p a n now S = .tuple #[.int .u32 v, .bool b] := by
  unfold ldV
  split
  · exact ⟨_, _, rfl⟩
  · exact ⟨_, _, rfl⟩
  · exact ⟨_, _, rfl⟩
theorem ns1 : nS 1 ≤ 64 := by unfold nS; omega
def nL2 : List Int := [1, 2, 4, 3]
theorem n2_rng : ∀ k : Nat, k < 4 → 1 ≤ nL2.getD k 0 ∧ nL2.getD k 0 ≤ 4 := by decide
def aL : List Int := [1020, 1023, 1024, 2000, 2147483648, 4294967295]
theorem a_rng : ∀ k : Nat, k < 6 → 0 ≤ aL.getD k 0 ∧ aL.getD k 0 < 4294967296 := by decide
/-- a list of numbers beside both -/
structure Rq (w : World) (X : Nat) (ki : IntKind) (L : List Int) (G : PG) (m : Nat) (O : Nat → Prop) (U : PV) (V : SV) : Prop where
  lt : X < w.heap.size
  cell : ∀ j, j < L.length → w.cell? ⟨X, j, none⟩ = some (.int ki (L.getD j 0))
  no : Out2 G m O U V X
section
variable {W0 w w1 : World} {X : Nat} {ki : IntKind} {L : List Int} {G : PG} {m r y : Nat} {O : Nat → Prop} {U U2 : PV} {V V2 : SV} {S R : BS}
theorem Rq.new (h : Two W0 G m r y O w U V S R) (cs : Array Value) (t : TypeId) (hc : cs.toList = L.map (Value.int ki)) : Rq (w.alloc (.cells cs t)) w.heap.size ki L G m O U V :=
  ⟨at_lt (at_new w _), lit_at ki w L cs t hc, fun e => Nat.lt_irrefl _ (h.ta.lt _ e), fun e => Nat.lt_irrefl _ (h.tb.lt _ e)⟩
theorem cell_of (a b : World) (h : b.heap[X]? = a.heap[X]?) (j : Nat) : b.cell? ⟨X, j, none⟩ = a.cell? ⟨X, j, none⟩ := by
  unfold World.cell?
  rw [h]
theorem Rq.off (h : Rq w X ki L G m O U V) (c : Off G m O U V U2 V2 w w1) : Rq w1 X ki L G m O U2 V2 :=
  let ⟨a, b, d⟩ := c X h.lt h.no
  ⟨b, fun j hj => (cell_of w w1 a j).trans (h.cell j hj), d⟩
theorem Off.no (f : Fr (fun _ => False) w w1) : Off G m O U V U V w w1 := fun X h0 h => ⟨f.block X h0 id, Nat.lt_of_lt_of_le h0 f.size, h⟩
end
set_option maxRecDepth 100000 in
set_option maxHeartbeats 8000000 in
theorem numbers_walk (w : World) : Calls Tryz.prog 3 #[] w (RetB (.bool true) w) := by
  obtain ⟨C, hC⟩ : ∃ C, imC 1 2000 zF = C := ⟨_, rfl⟩
  obtain ⟨D, hD⟩ : ∃ D, imD 1 xF = D := ⟨_, rfl⟩
  have HC := Lib.hid hC
  have HD := Lib.hid hD
  clear hC hD
  go_enter Tryz.func3, Tryz.ntmps3
  go_upto_region 1 with fail
  go_cut [1, 2] (fun vb vm wc => ∃ (G : PG) (U : PV) (m r y : Nat) (O : Nat → Prop), vb = .pointer (some ⟨G.b, 0, none⟩) ∧ vm = .pointer (some ⟨m, 0, none⟩) ∧ G.p = 1 ∧ G.n ≤ 64 ∧ Two w G m r y O wc U V00 (S0B C D) (S0B C D))
  case first =>
    have bl : Below w.heap.size w w.drew := ((Fr.refl (fun _ => False) w).drewN 1).below (Nat.le_refl _) (fun _ _ e => e.elim)
    refine wp_region_noPanic ?_
    refine wp_region_held_drew (S := fun _ => True) (by kernel_rfl) trivial (fun hH0 => ?_)
    refine r1_00000 HC HD (Lib.hid (fun w' X0 X1 X4 X5 G U m r y O hp hn hT => ?_)) w.drew 0 0 0 0 (St.zero bl)
    go_wp2_with fail
    go_meet
    exact ⟨G, U, m, r, y, O, rfl, rfl, hp, by rw [hn]; exact ns1, hT⟩
  case rest =>
    obtain ⟨G, U0, m, r, y, O, rfl, rfl, hp, hn, hT⟩ := hcut
    have hG0 : Ok 0 (S0B C D) := Ok.zero _ _
    generalize S0B C D = S0 at hT hG0
    clear HC HD hp
    go_wp2_with fail
    go_loopw [3] (fun at_ wr => ∃ (k : Nat) (U : PV) (V : SV) (S : BS), k ≤ 448 ∧ at_ = .int .u32 k ∧ Two w G m r y O wr U V S S ∧ Ok (4 * k) S) (fun at_ _ => 448 - (intOf at_).toNat)
    case atStart => exact ⟨0, _, _, _, by omega, rfl, hT, hG0.mono (by omega)⟩
    case round =>
      clear hT hG0
      obtain ⟨k, U, V, S, hk, rfl, hT, hG⟩ := hrel
      by_cases hlt : k < 448
      · have hdk : decide ((k : Int) < 448) = true := by simp; omega
        have hR1 := Rq.new (ki := .i64) (L := nL2) hT #[.int .i64 1, .int .i64 2, .int .i64 4, .int .i64 3] 3 rfl
        have hT1 := hT.alloc (.cells #[.int .i64 1, .int .i64 2, .int .i64 4, .int .i64 3] 3)
        go_wp2_with fail
        generalize wr.alloc (.cells #[.int .i64 1, .int .i64 2, .int .i64 4, .int .i64 3] 3) = W2 at hT1 hR1 ⊢
        generalize wr.heap.size = X at hR1 ⊢
        clear hT
        go_loopw [33] (fun j wr => ∃ (i : Nat) (U : PV) (V : SV) (S : BS), i ≤ 4 ∧ j = .int .i64 i ∧ Two w G m r y O wr U V S S ∧ Rq wr X .i64 nL2 G m O U V ∧ Ok (4 * k + i) S) (fun j _ => 4 - (intOf j).toNat)
        case atStart => exact ⟨0, _, _, _, by omega, rfl, hT1, hR1, hG.mono (by omega)⟩
        case round =>
          clear hT1 hR1 hG
          obtain ⟨i, U, V, S, hi, rfl, hT, hR, hG⟩ := hrel
          by_cases hlt2 : i < 4
          · have z4 : (i : Int) < 4 := by omega
            have hc := hR.cell i hlt2
            obtain ⟨nv, hnv⟩ : ∃ nv, nL2.getD i 0 = nv := ⟨_, rfl⟩
            obtain ⟨nv0, nv1⟩ : 1 ≤ nv ∧ nv ≤ 4 := hnv ▸ n2_rng i hlt2
            rw [hnv] at hc
            obtain ⟨lv, lb, hld⟩ := ldV_form' G.p (520093688 + k) nv 5 S
            have HL := Lib.hid (loadA (520093688 + k) nv 5 hT hG (by omega) (by omega) (by omega) (by omega) (by omega) (by omega))
            rw [hld] at HL
            have HLD := Lib.hid hld
            have HG := Lib.hid hG
            clear hld hnv hG
            go_wp2_with fail
            with_reducible refine HL.out.mono ?_
            rintro e w4 ⟨rfl, U4, hT4, o4⟩
            have hR4 := hR.off o4
            have HM := Lib.hid (loadB (520093688 + k) nv 5 hT4 HG.out (by omega) (by omega) (by omega) (by omega) (by omega) (by omega))
            rw [HLD.out] at HM
            clear hT hR HL o4 HLD hc
            go_wp2_with fail
            with_reducible refine HM.out.mono ?_
            rintro e w5 ⟨rfl, V5, hT5, o5⟩
            have hR5 := hR4.off o5
            have HG5 := Lib.hid (HG.out.ld (p := G.p) (520093688 + k) nv)
            clear hT4 hR4 HM o5 HG
            generalize ldS G.p (520093688 + k) nv S = S5 at hT5 HG5
            obtain ⟨sv, hsv⟩ : ∃ sv, stV G.p (520093688 + k) nv = sv := ⟨_, rfl⟩
            have HSA := Lib.hid (storeA (520093688 + k) nv k 5 hT5 HG5.out (by omega) (by omega) (by omega) (by omega) (by omega) ⟨by omega, by omega⟩ (by omega) (by omega))
            rw [hsv] at HSA
            have HSV := Lib.hid hsv
            clear hsv
            go_wp2_with fail
            with_reducible refine HSA.out.mono ?_
            rintro e w6 ⟨rfl, U6, hT6, o6⟩
            have hR6 := hR5.off o6
            have HSB := Lib.hid (storeB (520093688 + k) nv k 5 hT6 HG5.out (by omega) (by omega) (by omega) (by omega) (by omega) ⟨by omega, by omega⟩ (by omega) (by omega))
            rw [HSV.out] at HSB
            clear hT5 hR5 HSA o6 HSV
            go_wp2_with fail
            with_reducible refine HSB.out.mono ?_
            rintro e w7 ⟨rfl, V7, hT7, o7⟩
            have hR7 := hR6.off o7
            have HG7 := Lib.hid (HG5.out.st (p := G.p) (520093688 + k) nv (x := k) (now := 5) ⟨by omega, by omega⟩ (by omega))
            clear hT6 hR6 HSB o7 HG5
            generalize stS G.p (520093688 + k) nv k 5 S5 = S7 at hT7 HG7
            have hl7 : S7.L.length ≤ 990000 := HG7.out.g.l6 (by omega)
            have ho7 : S7.out.length ≤ 1000000 := by have := HG7.out.g.o1; omega
            have HS := Lib.hid (bsame_any hT7 hl7 ho7 hn)
            clear hl7 ho7
            go_wp2_with fail
            with_reducible refine HS.out.mono ?_
            rintro e w8 ⟨rfl, hT8, f8⟩
            have hR8 := hR7.off (Off.no f8)
            clear hT7 hR7 HS f8
            go_wp2_with fail
            go_roundw
            case rel => exact ⟨i + 1, U6, V7, S7, by omega, by go_num, hT8, hR8, by rw [show (4 * (k : Int) + ((i + 1 : Nat) : Int)) = 4 * (k : Int) + i + 1 by omega]; exact HG7.out⟩
            case measure => simp [intOf]; omega
          · obtain rfl : i = 4 := by omega
            go_wp2_with fail
            go_roundw
            case rel => exact ⟨k + 1, U, V, S, by omega, by go_num, hT, by rw [show (4 * ((k + 1 : Nat) : Int)) = 4 * (k : Int) + ((4 : Nat) : Int) by omega]; exact hG⟩
            case measure => simp [intOf]; omega
      · have hdk : decide ((k : Int) < 448) = false := by simp; omega
        have hk8 : 4 * (k : Int) ≤ 1792 := by omega
        clear hlt
        have hR1 := Rq.new (ki := .u32) (L := aL) hT #[.int .u32 1020, .int .u32 1023, .int .u32 1024, .int .u32 2000, .int .u32 2147483648, .int .u32 4294967295] 27 rfl
        have hT1 := hT.alloc (.cells #[.int .u32 1020, .int .u32 1023, .int .u32 1024, .int .u32 2000, .int .u32 2147483648, .int .u32 4294967295] 27)
        go_wp2_with fail
        generalize wr.alloc (.cells #[.int .u32 1020, .int .u32 1023, .int .u32 1024, .int .u32 2000, .int .u32 2147483648, .int .u32 4294967295] 27) = W2 at hT1 hR1 ⊢
        generalize wr.heap.size = X at hR1 ⊢
        clear hT
        go_loopw [85] (fun j wr => ∃ (i : Nat) (U : PV) (V : SV) (S : BS), i ≤ 6 ∧ j = .int .i64 i ∧ Two w G m r y O wr U V S S ∧ Rq wr X .u32 aL G m O U V ∧ Ok (1792 + 6 * i) S) (fun j _ => 6 - (intOf j).toNat)
        case atStart => exact ⟨0, _, _, _, by omega, rfl, hT1, hR1, hG.mono (by omega)⟩
        case round =>
          clear hT1 hR1 hG
          obtain ⟨i, U, V, S, hi, rfl, hT, hR, hG⟩ := hrel
          by_cases hlt2 : i < 6
          · have z6 : (i : Int) < 6 := by omega
            have hd6 : decide ((i : Int) < 6) = true := by simp; omega
            have hc := hR.cell i hlt2
            obtain ⟨av, hav⟩ : ∃ av, aL.getD i 0 = av := ⟨_, rfl⟩
            obtain ⟨av0, av1⟩ : 0 ≤ av ∧ av < 4294967296 := hav ▸ a_rng i hlt2
            rw [hav] at hc
            clear hav
            go_wp2_with fail
            go_loopw [12] (fun j wr => ∃ (q : Nat) (U : PV) (V : SV) (S : BS), q ≤ 6 ∧ j = .int .i64 q ∧ Two w G m r y O wr U V S S ∧ Rq wr X .u32 aL G m O U V ∧ Ok (1792 + 6 * i + q) S) (fun j _ => 6 - (intOf j).toNat)
            case atStart => exact ⟨0, _, _, _, by omega, rfl, hT, hR, hG.mono (by omega)⟩
            case round =>
              clear hT hR hG hc
              obtain ⟨q, U, V, S, hq, rfl, hT, hR, hG⟩ := hrel
              by_cases hlt3 : q < 6
              · have z7 : (q : Int) < 6 := by omega
                obtain ⟨lv, lb, hld⟩ := ldV_form' G.p av q 9 S
                have HL := Lib.hid (loadA av q 9 hT hG (by omega) (by omega) (by omega) (by omega) (by omega) (by omega))
                rw [hld] at HL
                have HLD := Lib.hid hld
                have HG := Lib.hid hG
                clear hld hG
                go_wp2_with fail
                with_reducible refine HL.out.mono ?_
                rintro e w4 ⟨rfl, U4, hT4, o4⟩
                have hR4 := hR.off o4
                have HM := Lib.hid (loadB av q 9 hT4 HG.out (by omega) (by omega) (by omega) (by omega) (by omega) (by omega))
                rw [HLD.out] at HM
                clear hT hR HL o4 HLD
                go_wp2_with fail
                with_reducible refine HM.out.mono ?_
                rintro e w5 ⟨rfl, V5, hT5, o5⟩
                have hR5 := hR4.off o5
                have HG5 := Lib.hid (HG.out.ld (p := G.p) av q)
                clear hT4 hR4 HM o5 HG
                generalize ldS G.p av q S = S5 at hT5 HG5
                obtain ⟨sv, hsv⟩ : ∃ sv, stV G.p av q = sv := ⟨_, rfl⟩
                have HSA := Lib.hid (storeA av q 7 9 hT5 HG5.out (by omega) (by omega) (by omega) (by omega) (by omega) ⟨by omega, by omega⟩ (by omega) (by omega))
                rw [hsv] at HSA
                have HSV := Lib.hid hsv
                clear hsv
                go_wp2_with fail
                with_reducible refine HSA.out.mono ?_
                rintro e w6 ⟨rfl, U6, hT6, o6⟩
                have hR6 := hR5.off o6
                have HSB := Lib.hid (storeB av q 7 9 hT6 HG5.out (by omega) (by omega) (by omega) (by omega) (by omega) ⟨by omega, by omega⟩ (by omega) (by omega))
                rw [HSV.out] at HSB
                clear hT5 hR5 HSA o6 HSV
                go_wp2_with fail
                with_reducible refine HSB.out.mono ?_
                rintro e w7 ⟨rfl, V7, hT7, o7⟩
                have hR7 := hR6.off o7
                have HG7 := Lib.hid (HG5.out.st (p := G.p) av q (x := 7) (now := 9) ⟨by omega, by omega⟩ (by omega))
                clear hT6 hR6 HSB o7 HG5
                generalize stS G.p av q 7 9 S5 = S7 at hT7 HG7
                go_wp2_with fail
                go_roundw
                case rel => exact ⟨q + 1, U6, V7, S7, by omega, by go_num, hT7, hR7, by rw [show (1792 + 6 * (i : Int) + ((q + 1 : Nat) : Int)) = 1792 + 6 * (i : Int) + q + 1 by omega]; exact HG7.out⟩
                case measure => simp [intOf]; omega
              · obtain rfl : q = 6 := by omega
                go_wp2_with fail
                go_roundw
                case rel => exact ⟨i + 1, U, V, S, by omega, by go_num, hT, hR, by rw [show (1792 + 6 * ((i + 1 : Nat) : Int)) = 1792 + 6 * (i : Int) + ((6 : Nat) : Int) by omega]; exact hG⟩
                case measure => simp [intOf]; omega
          · obtain rfl : i = 6 := by omega
            clear hR
            obtain ⟨rc, hrc⟩ : ∃ rc, runC G.p G.n 5000 256 S = rc := ⟨_, rfl⟩
            have HL := Lib.hid (fireA 5000 hT hG (by omega) hn (by omega) (by omega))
            rw [hrc] at HL
            have HRC := Lib.hid hrc
            have HG := Lib.hid hG
            clear hrc hG
            go_wp2_with fail
            with_reducible refine HL.out.mono ?_
            rintro e w4 ⟨rfl, U4, hT4, _⟩
            have HM := Lib.hid (fireB 5000 hT4 HG.out (by omega) hn (by omega) (by omega))
            rw [HRC.out] at HM
            clear hT HL hT4
            go_wp2_with fail
            with_reducible refine HM.out.mono ?_
            rintro e w5 ⟨rfl, V5, hT5, _⟩
            have HG5 := Lib.hid (HG.out.fire (p := G.p) (n := G.n) 5000)
            clear HM HG
            generalize gat (runS G.p G.n 5000 256 S) = S5 at hT5 HG5
            have hl7 : S5.L.length ≤ 990000 := HG5.out.g.l6 (by omega)
            have ho7 : S5.out.length ≤ 1000000 := by have := HG5.out.g.o1; omega
            have HS := Lib.hid (bsame_any hT5 hl7 ho7 hn)
            clear hl7 ho7
            go_wp2_with fail
            with_reducible refine HS.out.mono ?_
            rintro e w8 ⟨rfl, hT8, _⟩
            have hbl := hT8.bl
            have HK := Lib.hid (known_any w8)
            clear hT5 HS hT8
            go_wp2_with fail
            with_reducible refine HK.out.mono ?_
            rintro e w9 ⟨rfl, hb9⟩
            go_wp2
            go_ret
            exact ⟨rfl, hbl.trans (hb9.mono hbl.size)⟩
end Go.Proofs.YtkfedihaldpgmaaGreat

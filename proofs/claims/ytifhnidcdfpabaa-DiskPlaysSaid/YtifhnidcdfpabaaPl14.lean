/-
  Chapter 14: a disk of package disk and the document's, played side by side by any calls (function 'play').
-/
import Derived.Test.YtifhnidcdfpabaaTw14
import Derived.Deep.RegionHeld3
import Derived.Deep.RegionWith
import Derived.Deep.DeepCutAuto
import Derived.Deep.CutBlock
namespace Go.Proofs.Ytifhnidcdfpabaa
open Go.RowKit
set_option linter.unusedVariables false
set_option linter.unusedSimpArgs false
/-- k rounds -/
def itD (m : Nat) (now : Int) : Nat → DS → DS
  | 0, S => S
  | k + 1, S => spD 2 m now (itD m now k S)
theorem Gd.its {n now : Int} {m : Nat} {S : DS} (h : Gd n S) : ∀ k : Nat, Gd n (itD m now k S)
  | 0 => h
  | k + 1 => (Gd.its h k).step
/-- a memory's bytes as a text -/
theorem Ra.text {T : TypeId} {w : World} {r : Nat} {O : Nat → Prop} {C : Nat → Int} (h : Ra T w r O 2 C) : ∃ b, w.cell? ⟨r, 0, none⟩ = some (.slice (some ⟨b, 0, none⟩) 2048 2048) ∧ (convert 28 9 (.slice (some ⟨b, 0, none⟩) 2048 2048)).run Try.prog w = .ok (.string (strN 2048 C)) w := by
  obtain ⟨b, m, t, hO, h⟩ := h
  exact ⟨b, h.cell0, conv_any (row_by h.hb (fun i => ⟨h.c0 i, h.c1 i⟩))⟩
theorem Mk.text {w : World} {r y : Nat} {O : Nat → Prop} {n : Nat} {C D : Nat → Int} (h : Mk 81 w r y O 2 n C D) : ∃ b, w.cell? ⟨r, 0, none⟩ = some (.slice (some ⟨b, 0, none⟩) 2048 2048) ∧ (convert 28 9 (.slice (some ⟨b, 0, none⟩) 2048 2048)).run Try.prog w = .ok (.string (strN 2048 C)) w := by
  obtain ⟨M, _, _, hm, _⟩ := h
  exact hm.text
theorem kbytes_two {w : World} {r y : Nat} {O : Nat → Prop} {n : Nat} {C D : Nat → Int} (h : Mk 85 w r y O 2 n C D) :
    Calls Try.prog 17 #[.pointer (some ⟨r, 0, none⟩), .int .u32 0, .int .i64 2048] w fun e w' => ∃ X, w.heap.size ≤ X ∧ e = .returned (.tuple #[.slice (some ⟨X, 0, none⟩) 2048 2048, .bool true]) ∧ w'.rowIs X 5 2048 (fun i => .int .u8 (C (0 + i))) ∧ Fr (fun _ => False) w w' :=
  kbytes_row 0 2048 h (by omega) (by omega)
/-- 'take first', the slot named -/
theorem take_d {PP : Program} {md : Region.Mode} {ops : Array Oper} {QQ : Exit → Act → World → Prop} {SS : World → Prop} {i : Nat} (d : Option Tmp) {oi : Oper} {v : Value} {fuel : Nat} {listed : Array Bool} {a : Act} {w : World} (hi : ops[i]? = some oi) (hd : oi.dst = d)
    (hs : Region.noSelect ops = true) (hf : Region.free md ops listed i = true) (hr : (Region.ready md ops listed).contains i = true) (hQ : ∀ c a w, QQ (.panic c) (a.put d v) w → QQ (.panic c) a w) (hy : YieldsIf PP ops SS oi v a) (hS : SS w)
    (h : wpAnyH PP md ops QQ SS fuel (listed.setIfInBounds i true) (a.put d v) w) : wpAnyH PP md ops QQ SS (fuel + 1) listed a w := by
  subst hd
  exact wpAnyH_take hi hs hf hr hQ hy hS h
/-- a literal list of numbers in a new block, by its place -/
theorem lit_at (ki : IntKind) (W : World) (L : List Int) (cs : Array Value) (t : TypeId) (h : cs.toList = L.map (Value.int ki)) (j : Nat) (hj : j < L.length) : (W.alloc (.cells cs t)).cell? ⟨W.heap.size, j, none⟩ = some (.int ki (L.getD j 0)) := by
  have e : (W.alloc (.cells cs t)).cell? ⟨W.heap.size, j, none⟩ = cs[j]? := by simp
  rw [e, ← Array.getElem?_toList, h, List.getElem?_map, List.getElem?_eq_getElem hj, List.getD_eq_getElem?_getD, List.getElem?_eq_getElem hj]
  rfl
def nearL : List Int := [5, 2100, 4, 8, 9, 9]
theorem near_rng : ∀ k : Nat, k < 6 → 4 ≤ nearL.getD k 0 ∧ nearL.getD k 0 ≤ 2100 := by decide
/-- the disk's bytes as a text -/
theorem Mk.dtext {T : TypeId} {w : World} {r y : Nat} {O : Nat → Prop} {p n : Nat} {C D : Nat → Int} (h : Mk T w r y O p n C D) : (convert 28 9 (.slice (some ⟨y, 0, none⟩) (64 * n) (64 * n))).run Try.prog w = .ok (.string (strN (64 * n) D)) w := conv_any (row_by h.row h.bD)
theorem dsect_q {w : World} {x g r y : Nat} {O : Nat → Prop} {p n : Nat} {d : Int} {v : Value} {S : DS} {k : Nat} (h : Dk w x g r y O p n d v S) (hn : n ≤ 64) :
    Calls Try.prog 11 #[.pointer (some ⟨x, 0, none⟩)] (w.drewN k) fun e w' => e = .returned (.int .i64 n) ∧ ∃ k, w' = w.drewN k :=
  (dsect_any (h.drewN k) hn).mono fun _ _ h => ⟨h.1, _, h.2.symm⟩
theorem div_n (n : Nat) (hn : n ≤ 64) : IntKind.i64.wrap ((((64 * n : Nat)) : Int).tdiv 64) = n := by
  rw [Int.tdiv_eq_ediv_of_nonneg (by omega), IntKind.wrap_i64]
  omega
theorem Gd.zero (C D : Nat → Int) : Gd ((0 : Nat) : Int) (S00 C D) := ⟨by show (0 : Int) ≤ 0; omega, by show (0 : Int) ≤ 0; omega, by show (0 : Int) ≤ 0; omega, by show (0 : Int) < 4294967296; omega, by show (0 : Int) ≤ 0; omega, by show (0 : Int) < 4294967296; omega, fun _ _ e => by cases e⟩
theorem ns_le (len : Nat) : nS len ≤ 64 := by unfold nS; omega
set_option maxRecDepth 100000 in
set_option maxHeartbeats 8000000 in
theorem play_any {Q : Nat → Prop} (U : Value) (len0 : Nat) (f : Nat → Int) (A : Option Addr) (len cap : Nat) (near : Bool) (w : World) (HV : Hid (ByAt Q w U len0 f)) (hl0 : len0 ≤ 4096) (HA : Hid (Asks w w.heap.size A len)) (hl : len ≤ 9223372036854775807) :
    Calls Try.prog 7 #[U, .slice A len cap, .bool near] w (RetB (.bool true) w) := by
  go_enter Try.func7, Try.ntmps7
  go_wp2_with fail
  refine (wnew_any w).mono ?_
  rintro e w1 ⟨g, hg, rfl, hw, hb⟩
  go_wp2_with fail
  with_reducible refine (mnew_any 2 2 rfl w1).mono ?_
  rintro e w2 ⟨r, M, rfl, ho, hm, hb2⟩
  have hw2 := hw.below hb2
  have hgl := hw.lt g (.inl rfl)
  have hog : ¬ M g := fun e => by have := ho g e; omega
  have hv1 := HV.out.fr (S := fun _ => False) (Fr.of_below hb) (fun _ _ _ => id)
  have hv2 := hv1.fr (S := fun _ => False) (Fr.of_below hb2) (fun _ _ _ => id)
  go_wp2_with fail
  with_reducible refine (dnew_any 5 U len0 f hw2 hm hog hv2 (by omega)).mono ?_
  rintro e w3 ⟨x, y, hx, hy, rfl, hD, hb3⟩
  have hv3 := hv2.fr (S := fun _ => False) (Fr.of_below hb3) (fun _ _ _ => id)
  go_wp2_with fail
  with_reducible refine (bnew_any U len0 f hv3 hl0).mono ?_
  rintro e w4 ⟨C, m, r2, y2, P, hp, hmm, rfl, hU, hb4⟩
  obtain ⟨D, hDD⟩ : ∃ D, imD len0 f = D := ⟨_, rfl⟩
  obtain ⟨n, hnn⟩ : ∃ n, nS len0 = n := ⟨_, rfl⟩
  have hn : n ≤ 64 := hnn ▸ ns_le len0
  rw [hDD, hnn] at hD hU
  obtain ⟨O, hO⟩ : ∃ O : Nat → Prop, (fun k => M k ∨ k = y) = O := ⟨_, rfl⟩
  rw [hO] at hD
  have hoO : ∀ k, O k → w1.heap.size ≤ k := by
    intro k hk
    rw [← hO] at hk
    rcases hk with e | e
    · exact ho k e
    · have := hb2.size; omega
  have h0 : Two w C 2 n w4 x g r y O (.slice none 0 0) (S00 Z0 D) m r2 y2 P (.slice none 0 0) (S00 Z0 D) := two_new hg hb hgl hoO hb2 hx hD hb3 hp hmm hU hb4
  clear hg hw hb ho hm hb2 hw2 hgl hog hx hD hb3 hp hmm hU hb4 hv1 hv2 hv3 hDD hnn hO hoO hy
  go_wp2_with fail
  go_loopw [11, 12] (fun nw i wr => ∃ (k : Nat) (now : Int) (v u : Value) (S : DS), k ≤ 80 ∧ nw = .int .i64 now ∧ i = .int .i64 k ∧ Two w C 2 n wr x g r y O v S m r2 y2 P u S ∧ 0 ≤ now ∧ now ≤ 40 * k ∧ Gd k S) (fun _ i _ => 80 - (intOf i).toNat)
  case atStart => exact ⟨0, 0, _, _, _, by omega, rfl, rfl, h0, by omega, by omega, Gd.zero _ _⟩
  case round =>
    clear h0
    obtain ⟨k, now, v, u, S, hk, rfl, rfl, hT, n0, n1, hG⟩ := hrel
    have HG := Lib.hid hG
    clear hG
    by_cases hlt : k < 80 ∧ k < len
    · obtain ⟨x0, x1⟩ := hlt
      have z80 : (k : Int) < 80 := by omega
      have b22 := hT.tb.b22
      have hdv := div_n n hn
      have hdn : ((n : Int) != (n : Int)) = false := by simp
      go_wp2_with fail
      go_quiet ((go_at_call 11; with_reducible exact dsect_q hT.ta hn))
      have hTq := hT.drewN nq
      clear hT b22 hdv hdn
      generalize wr.drewN nq = wq at hTq ⊢
      obtain ⟨ab, ao, kd, kk, yv, by_, bb, rfl, hab, q0, q1, q2, q3, q4, k0, k1, v0, v1, y0, y1, z0, z1⟩ := HA.out k x1
      have e0 := (hTq.bl.cell (p := ⟨ab, ao + k * 5, none⟩) hab).trans q0
      have e1 := (hTq.bl.cell (p := ⟨ab, ao + k * 5 + 1, none⟩) hab).trans q1
      have e2 := (hTq.bl.cell (p := ⟨ab, ao + k * 5 + 2, none⟩) hab).trans q2
      have e3 := (hTq.bl.cell (p := ⟨ab, ao + k * 5 + 3, none⟩) hab).trans q3
      have e4 := (hTq.bl.cell (p := ⟨ab, ao + k * 5 + 4, none⟩) hab).trans q4
      clear q0 q1 q2 q3 q4
      have hT1 := hTq.alloc (.cells #[.int .i64 kd, .int .i64 kk, .int .u32 yv, .int .i64 by_, .int .u8 bb] 26)
      have hB1 := Ab.new hTq kd kk yv by_ bb
      go_wp2_with fail
      generalize wq.alloc (.cells #[.int .i64 kd, .int .i64 kk, .int .u32 yv, .int .i64 by_, .int .u8 bb] 26) = W2 at hT1 hB1 ⊢
      generalize wq.heap.size = X at hB1 ⊢
      clear hTq e0 e1 e2 e3 e4
      have c1 := hB1.c1
      have c2 := hB1.c2
      with_reducible refine (within_any kk 0 5 W2 (by omega) (by omega) (by omega) k0 k1).mono ?_
      rintro e w' ⟨z, z0', z1', rfl, rfl⟩
      obtain ⟨kn, hkn, rfl⟩ : ∃ kn : Nat, kn ≤ 5 ∧ z = (kn : Int) := ⟨z.toNat, by omega, by omega⟩
      clear k0 k1
      go_upto_if 78 with fail
      go_cut [15] (fun vv wc => ∃ y' : Int, vv = .int .u32 y' ∧ 0 ≤ y' ∧ y' < 4294967296 ∧ Two w C 2 n wc x g r y O v S m r2 y2 P u S ∧ Ab wc X x g O v m P u kd kk yv by_ bb)
      case first =>
        cases near
        · go_wp2_with fail
          go_meet
          exact ⟨_, rfl, by omega, by omega, hT1, hB1⟩
        · have bl6 : Below W2.heap.size W2 (W2.alloc (.cells #[.int .u32 5, .int .u32 2100, .int .u32 4, .int .u32 8, .int .u32 9, .int .u32 9] 24)) := (Below.refl _ _).alloc (Nat.le_refl _) _
          have hT6 := hT1.below bl6
          have hB6 := hB1.left (CD.of_below bl6)
          have q6 := lit_at .u32 W2 nearL #[.int .u32 5, .int .u32 2100, .int .u32 4, .int .u32 8, .int .u32 9, .int .u32 9] 24 rfl kn (by show kn < 6; omega)
          obtain ⟨nv, hnv⟩ : ∃ nv, nearL.getD kn 0 = nv := ⟨_, rfl⟩
          obtain ⟨nv0, nv1⟩ : 4 ≤ nv ∧ nv ≤ 2100 := hnv ▸ near_rng kn (by omega)
          rw [hnv] at q6
          clear bl6 hT1 hB1 hnv
          go_wp2_with fail
          go_meet
          exact ⟨_, rfl, Int.emod_nonneg _ (by omega), by have := Int.emod_lt_of_pos yv (show 0 < nv by omega); omega, hT6, hB6⟩
      case rest =>
        clear hT1 hB1 c1 c2
        obtain ⟨xx, rfl, xx0, xx1, hT1, hB1⟩ := hcut
        generalize wc = W2 at hT1 hB1 ⊢
        have c0 := hB1.c0
        have c2 := hB1.c2
        have HV2 : Hid (0 ≤ yv ∧ yv < 4294967296) := ⟨v0, v1⟩
        clear v0 v1
        have c3 := hB1.c3
        have c4 := hB1.c4
        go_upto_block 2 with fail
        go_cut [11] (fun nw wc => ∃ (now' : Int) (v' u' : Value) (S' : DS), nw = .int .i64 now' ∧ Two w C 2 n wc x g r y O v' S' m r2 y2 P u' S' ∧ 0 ≤ now' ∧ now' ≤ 40 * (k + 1) ∧ Hid (Gd (k + 1) S'))
        case first =>
          clear z0' z1'
          have hk6 : kn ≤ 6 := by omega
          have hnb : now ≤ 4611686018427387000 := by omega
          have ha : 0 ≤ S.a ∧ S.a ≤ 1000000 := ⟨HG.out.a0, by have := HG.out.a1; omega⟩
          by_cases k2 : kd = 2
          · as_aux_lemma =>
            subst k2
            obtain ⟨WD, HWD⟩ : ∃ z, Hid (wordD kn S = z) := ⟨_, rfl⟩
            obtain ⟨WB, HWB⟩ : ∃ z, Hid (decide (kn < 4) = z) := ⟨_, rfl⟩
            go_wp2_with fail
            with_reducible refine (dread_any kn _ hT1.ta hk6 rfl).mono ?_
            rintro e w4 ⟨rfl, rfl⟩
            rw [HWD.out, HWB.out]
            go_wp2_with fail
            with_reducible refine (rword_any kn _ now hT1.tb hk6 rfl).mono ?_
            rintro e w4 ⟨rfl, hb4⟩
            rw [HWD.out, HWB.out]
            have hT4 := hT1.below hb4
            go_wp2_with fail
            go_meet
            exact ⟨now, v, u, S, rfl, hT4, n0, by omega, Lib.hid (HG.out.mono (by omega))⟩
          · have k02 : (kd == 2) = false := beq_false_of_ne k2
            by_cases k3 : kd = 3
            · as_aux_lemma =>
              subst k3
              go_wp2_with fail
              go_loopw [20] (fun j wr => ∃ (b : Nat) (v' u' : Value), b ≤ 3 ∧ j = .int .i64 b ∧ Two w C 2 n wr x g r y O v' (itD n now b S) m r2 y2 P u' (itD n now b S)) (fun j _ => 3 - (intOf j).toNat)
              case atStart => exact ⟨0, v, u, by omega, rfl, hT1⟩
              case round =>
                clear hT1 hB1 c0 c2 c3 c4
                obtain ⟨b, v', u', hb3, rfl, hT3⟩ := hrel
                by_cases hlt : b < 3
                · have z3 : (b : Int) < 3 := by omega
                  have hg := HG.out.its (now := now) (m := n) b
                  obtain ⟨Sn, HSn⟩ : ∃ Sn, Hid (itD n now b S = Sn) := ⟨_, rfl⟩
                  rw [HSn.out] at hT3 hg
                  cases hd : duB now Sn
                  · have HE : Hid (itD n now (b + 1) S = Sn) := by show spD 2 n now (itD n now b S) = _; rw [HSn.out, spD_no hd]
                    clear hg
                    go_wp2_with fail
                    with_reducible refine (dtake_no hT3.ta hd).mono ?_
                    rintro e w5 ⟨rfl, v5, h5, c5⟩
                    have hT5 := (hT3.left h5 c5).alloc (.cells #[.int .i64 0, .int .i64 0, .int .i64 0] 42)
                    clear hT3 h5 c5
                    go_wp2_with fail
                    generalize w5.alloc (.cells #[.int .i64 0, .int .i64 0, .int .i64 0] 42) = w6 at hT5 ⊢
                    with_reducible refine (rtake_no hT5.tb hd).mono ?_
                    rintro e w7 ⟨rfl, u7, h7, c7⟩
                    have hT7 := (hT5.right h7 c7).alloc (.cells #[.int .i64 0, .int .i64 0, .int .i64 0] 42)
                    clear hd hT5 h7 c7
                    go_wp2_with fail
                    go_roundw
                    case rel => exact ⟨b + 1, v5, u7, by omega, by go_num, by rw [HE.out]; exact hT7⟩
                    case measure => simp [intOf]; omega
                  · obtain ⟨b0, b1, b2, b4⟩ : 0 ≤ Sn.z ∧ Sn.z < 4294967296 ∧ 0 ≤ Sn.t ∧ Sn.t < 4294967296 := ⟨hg.z0, hg.z1, hg.t0, hg.t1⟩
                    have HE : Hid (itD n now (b + 1) S = fiD 2 n { Sn with q := none }) := by show spD 2 n now (itD n now b S) = _; rw [HSn.out, spD_yes hd]
                    clear hg
                    go_wp2_with fail
                    with_reducible refine (dtake_yes hT3.ta hd).mono ?_
                    rintro e w5 ⟨rfl, v5, h5, c5⟩
                    have hT5 := (hT3.left h5 c5).alloc (.cells #[.int .i64 (tmQ Sn), .int .i64 5, .int .i64 (sqQ Sn)] 42)
                    clear hT3 h5 c5
                    go_wp2_with fail
                    generalize w5.alloc (.cells #[.int .i64 (tmQ Sn), .int .i64 5, .int .i64 (sqQ Sn)] 42) = w6 at hT5 ⊢
                    with_reducible refine (dfire_any (tmQ Sn) hT5.ta hn b0 b1 b2 b4).mono ?_
                    rintro e w7 ⟨rfl, v7, h7, c7⟩
                    have hT7 := hT5.left h7 c7
                    clear hT5 h7 c7
                    go_wp2_with fail
                    with_reducible refine (rtake_yes hT7.tb hd).mono ?_
                    rintro e w8 ⟨rfl, u8, h8, c8⟩
                    have hT8 := (hT7.right h8 c8).alloc (.cells #[.int .i64 (tmQ Sn), .int .i64 5, .int .i64 (sqQ Sn)] 42)
                    clear hT7 h8 c8 hd
                    go_wp2_with fail
                    generalize w8.alloc (.cells #[.int .i64 (tmQ Sn), .int .i64 5, .int .i64 (sqQ Sn)] 42) = w9 at hT8 ⊢
                    with_reducible refine (b1_any (tmQ Sn) (sqQ Sn) hT8.tb hn b0 b1 b2 b4).mono ?_
                    rintro e w10 ⟨rfl, u10, h10, c10⟩
                    have hT10 := hT8.right h10 c10
                    clear hT8 h10 c10
                    go_wp2_with fail
                    go_roundw
                    case rel => exact ⟨b + 1, v7, u10, by omega, by go_num, by rw [HE.out]; exact hT10⟩
                    case measure => simp [intOf]; omega
                · obtain rfl : b = 3 := by omega
                  have hg := HG.out.its (now := now) (m := n) 3
                  go_wp2_with fail
                  go_meet
                  exact ⟨now, v', u', _, rfl, hT3, n0, by omega, Lib.hid (hg.mono (by omega))⟩
            · have k03 : (kd == 3) = false := beq_false_of_ne k3
              by_cases k4 : kd = 4
              · as_aux_lemma =>
                subst k4
                go_wp2_with fail
                with_reducible refine (within_any by_ 0 40 W2 (by omega) (by omega) (by omega) y0 y1).mono ?_
                rintro e w' ⟨z5, z50, z51, rfl, rfl⟩
                go_wp2_with fail
                go_meet
                exact ⟨_, v, u, S, rfl, hT1, by omega, by omega, Lib.hid (HG.out.mono (by omega))⟩
              · have k04 : (kd == 4) = false := beq_false_of_ne k4
                by_cases k5 : kd = 5
                · as_aux_lemma =>
                  subst k5
                  obtain ⟨v0, v1⟩ := HV2.out
                  have HQ : Hid (yv.tmod 2048 = yv % 2048) := Int.tmod_eq_emod_of_nonneg v0
                  have HWR : Hid (IntKind.u32.wrap bb = bb) := by show _ = _; rw [IntKind.wrap_u32]; omega
                  have HBB : Hid (0 ≤ bb ∧ bb < 4294967296) := ⟨z0, by omega⟩
                  have HYY : Hid (0 ≤ yv % 2048 ∧ yv % 2048 < 4294967296) := ⟨by omega, by omega⟩
                  go_wp2_with fail
                  with_reducible refine (kstore_any (yv % 2048) 1 bb hT1.ta.mm HYY.out.1 HYY.out.2 (by omega) (by omega) HBB.out.1 HBB.out.2).mono ?_
                  rintro e w4 ⟨rfl, hm4, hf4⟩
                  have hc4 : CD x g O v v W2 w4 := CD.of_mem hf4
                  have hT4 := hT1.left (hT1.ta.mem hm4 hf4) hc4
                  have hB4 := hB1.left hc4
                  clear hT1 hB1 c0 c2 c3 c4 hm4 hf4 hc4
                  have hT5 : Two w C 2 n w4.drew x g r y O v _ m r2 y2 P u S := hT4.drewN 1
                  have hB5 : Ab w4.drew X x g O v m P u 5 kk yv by_ bb := hB4.drewN 1
                  have d0 := hT5.tb.b0
                  have d2 := hB5.c2
                  have d4 := hB5.c4
                  go_wp2_with fail
                  go_region_held3 (fun w' => w'.cell? ⟨m, 0, none⟩ = some (.pointer (some ⟨r2, 0, none⟩)) ∧ w'.cell? ⟨X, 2, none⟩ = some (.int .u32 yv) ∧ w'.cell? ⟨X, 4, none⟩ = some (.int .u8 bb)) (first | with_reducible exact ⟨d0, d2, d4⟩ | with_reducible exact ⟨f0, f2, f4⟩)
                    (first
                      | (go_at_call 27; (try rw [HQ.out]); (try rw [HWR.out]); (with_reducible refine (lstore_any (w := w4.drew) (yv % 2048) 1 bb hT5.tb.mm HYY.out.1 HYY.out.2 (by omega) (by omega) HBB.out.1 HBB.out.2).mono ?_); rintro e w6 ⟨rfl, hm6, hf6⟩; have hc6 : CD m m P u u w4.drew w6 := CD.of_mem hf6; have hT6 := hT5.right (hT5.tb.mem hm6 hf6) hc6; have hB6 := hB5.right hc6; have f0 := hT6.tb.b0; have f2 := hB6.c2; have f4 := hB6.c4))
                  go_wp2_with fail
                  go_meet
                  exact ⟨now, v, u, _, rfl, hT6, n0, by omega, Lib.hid ((HG.out.setC _).mono (by omega))⟩
                · as_aux_lemma =>
                  have k05 : (kd == 5) = false := beq_false_of_ne k5
                  obtain ⟨WB, HWB⟩ : ∃ z, Hid (decide (kn < 4) = z) := ⟨_, rfl⟩
                  clear c2 c3 c4
                  go_wp2_with fail
                  with_reducible refine (dwrite_any kn _ xx now hT1.ta hk6 rfl xx0 xx1 ha (by omega) (by omega) n0 hnb).mono ?_
                  rintro e w4 ⟨rfl, v4, h4, c4⟩
                  rw [HWB.out]
                  have hT4 := hT1.left h4 c4
                  go_wp2_with fail
                  with_reducible refine (rset_any kn _ xx now hT4.tb hk6 rfl xx0 xx1 ha n0 hnb).mono ?_
                  rintro e w5 ⟨rfl, u5, h5, c5⟩
                  rw [HWB.out]
                  have hT5 := hT4.right h5 c5
                  go_wp2_with fail
                  go_meet
                  exact ⟨now, v4, u5, _, rfl, hT5, n0, by omega, Lib.hid (HG.out.write kn n0 xx0 xx1)⟩
        case rest =>
          clear hT1 hB1 c0 c2 c3 c4 HG n0 n1 z0' z1'
          obtain ⟨now2, v2, u2, S2, rfl, hT2, n0, n1, HG⟩ := hcut
          have hq := qL_len 5 S2.q
          obtain ⟨B, c, rfl, hc, hcm, hz, hA⟩ := (Wb.ev hT2.tb.wb).form
          clear hz hA
          have hTd : Two w C 2 n wc.drew x g r y O v2 S2 m r2 y2 P (.slice B (qL 5 S2.q).length c) S2 := hT2.drewN 1
          have kc : wc.drew.cell? ⟨m, 1, none⟩ = some (.slice B (qL 5 S2.q).length c) := Wb.c0 hTd.tb.wb
          have kd2 := hTd.tb.b22
          obtain ⟨st, hst⟩ : ∃ st, strN (64 * n) S2.D = st := ⟨_, rfl⟩
          have kt : (convert 28 9 (.slice (some ⟨y2, 0, none⟩) (64 * n) (64 * n))).run Try.prog wc.drew = .ok (.string st) wc.drew := hst ▸ hTd.tb.mm.dtext
          have HST := Lib.hid hst
          clear hst
          obtain ⟨sb, HSB⟩ : ∃ sb, Hid ((S2.dn || S2.er) = sb) := ⟨_, rfl⟩
          go_wp2_with fail
          refine wp_region_noPanic ?_
          refine wp_region_held_drew (S := fun w' => w'.cell? ⟨m, 1, none⟩ = some (.slice B (qL 5 S2.q).length c) ∧ w'.cell? ⟨m, 22, none⟩ = some (.slice (some ⟨y2, 0, none⟩) (64 * n) (64 * n)) ∧ (convert 28 9 (.slice (some ⟨y2, 0, none⟩) (64 * n) (64 * n))).run Try.prog w' = .ok (.string st) w') (by kernel_rfl) ⟨kc, kd2, kt⟩ (fun hH0 => ?_)
          refine take_d (i := 0) (some 179) (v := ?_) rfl rfl (by kernel_rfl) (by kernel_rfl) (by kernel_rfl) (fun _ _ _ h => h) (Or.inl ⟨by rfl, ?_⟩) hH0 ?_
          rotate_left
          · (intro w hSw; (try dsimp only at hSw); go_simp; try with_reducible rfl)
          try simp only [Act.put, List.setIfInBounds_toArray, List.set_cons_zero, List.set_cons_succ]
          refine take_d (i := 2) (some 181) (v := ?_) rfl rfl (by kernel_rfl) (by kernel_rfl) (by kernel_rfl) (fun _ _ _ h => h) (Or.inl ⟨by rfl, ?_⟩) hH0 ?_
          rotate_left
          · (intro w hSw; (try dsimp only at hSw); go_simp; try with_reducible rfl)
          try simp only [Act.put, List.setIfInBounds_toArray, List.set_cons_zero, List.set_cons_succ]
          refine wpAnyH_ready (rs := [1]) (by kernel_rfl) (by simp) ?_
          refine AllReadyH.cons rfl (fun K hK => ?_) AllReadyH.nil
          go_simp
          go_at_call 21
          with_reducible refine (dline_any hTd.ta).mono ?_
          rintro e w4 ⟨rfl, rfl⟩
          rw [HSB.out]
          go_wp2_with fail
          refine hK.out _ _ (⟨kc, kd2, kt⟩) (fun hH1 => ?_)
          clear hK K hH0
          try simp only [Act.put, List.setIfInBounds_toArray, List.set_cons_zero, List.set_cons_succ]
          refine wpAnyH_ready (rs := [3]) (by kernel_rfl) (by simp) ?_
          refine AllReadyH.cons rfl (fun K hK => ?_) AllReadyH.nil
          go_simp
          go_at_call 29
          with_reducible refine (rline_any hTd.tb).mono ?_
          rintro e w4 ⟨rfl, rfl⟩
          rw [HSB.out]
          go_wp2_with fail
          refine hK.out _ _ (⟨kc, kd2, kt⟩) (fun hH2 => ?_)
          clear hK K hH1
          try simp only [Act.put, List.setIfInBounds_toArray, List.set_cons_zero, List.set_cons_succ]
          refine take_d (i := 4) (some 183) (v := ?_) rfl rfl (by kernel_rfl) (by kernel_rfl) (by kernel_rfl) (fun _ _ _ h => h) (Or.inl ⟨by rfl, ?_⟩) hH2 ?_
          rotate_left
          · (intro w hSw; (try dsimp only at hSw); go_simp; try with_reducible rfl)
          try simp only [Act.put, List.setIfInBounds_toArray, List.set_cons_zero, List.set_cons_succ]
          refine take_d (i := 5) (some 184) (v := ?_) rfl rfl (by kernel_rfl) (by kernel_rfl) (by kernel_rfl) (fun _ _ _ h => h) (Or.inl ⟨by rfl, ?_⟩) hH2 ?_
          rotate_left
          · (intro w hSw; (try dsimp only at hSw); go_simp; try with_reducible rfl)
          try simp only [Act.put, List.setIfInBounds_toArray, List.set_cons_zero, List.set_cons_succ]
          refine take_d (i := 6) (some 185) (v := ?_) rfl rfl (by kernel_rfl) (by kernel_rfl) (by kernel_rfl) (fun _ _ _ h => h) (Or.inl ⟨by rfl, ?_⟩) hH2 ?_
          rotate_left
          · (intro w hSw; (try dsimp only at hSw); go_simp; try with_reducible rfl)
          try simp only [Act.put, List.setIfInBounds_toArray, List.set_cons_zero, List.set_cons_succ]
          refine take_d (i := 8) (some 187) (v := ?_) rfl rfl (by kernel_rfl) (by kernel_rfl) (by kernel_rfl) (fun _ _ _ h => h) (Or.inl ⟨by rfl, ?_⟩) hH2 ?_
          rotate_left
          · (intro w hSw; (try dsimp only at hSw); go_simp; try with_reducible rfl)
          try simp only [Act.put, List.setIfInBounds_toArray, List.set_cons_zero, List.set_cons_succ]
          refine take_d (i := 9) (some 188) (v := ?_) rfl rfl (by kernel_rfl) (by kernel_rfl) (by kernel_rfl) (fun _ _ _ h => h) (Or.inl ⟨by rfl, ?_⟩) hH2 ?_
          rotate_left
          · (intro w hSw; (try dsimp only at hSw); go_simp; try with_reducible rfl)
          try simp only [Act.put, List.setIfInBounds_toArray, List.set_cons_zero, List.set_cons_succ]
          refine take_d (i := 10) (some 189) (v := ?_) rfl rfl (by kernel_rfl) (by kernel_rfl) (by kernel_rfl) (fun _ _ _ h => h) (Or.inl ⟨by rfl, ?_⟩) hH2 ?_
          rotate_left
          · (intro w hSw; (try dsimp only at hSw); go_simp; try with_reducible rfl)
          try simp only [Act.put, List.setIfInBounds_toArray, List.set_cons_zero, List.set_cons_succ]
          refine take_d (i := 11) (some 190) (v := ?_) rfl rfl (by kernel_rfl) (by kernel_rfl) (by kernel_rfl) (fun _ _ _ h => h) (Or.inl ⟨by rfl, ?_⟩) hH2 ?_
          rotate_left
          · (intro w hSw; (try dsimp only at hSw); go_simp; try with_reducible rfl)
          try simp only [Act.put, List.setIfInBounds_toArray, List.set_cons_zero, List.set_cons_succ]
          refine take_d (i := 12) (some 191) (v := ?_) rfl rfl (by kernel_rfl) (by kernel_rfl) (by kernel_rfl) (fun _ _ _ h => h) (Or.inl ⟨by rfl, ?_⟩) hH2 ?_
          rotate_left
          · (intro w hSw; (try dsimp only at hSw); go_simp; try with_reducible rfl)
          try simp only [Act.put, List.setIfInBounds_toArray, List.set_cons_zero, List.set_cons_succ]
          refine wpAnyH_ready (rs := [7]) (by kernel_rfl) (by simp) ?_
          refine AllReadyH.cons rfl (fun K hK => ?_) AllReadyH.nil
          go_simp
          go_at_call 31
          with_reducible refine (all_any hTd.ta.wh (by omega)).mono ?_
          rintro e w6 ⟨x6, rfl, hO6, hb6, hn6⟩
          have hT6 := hTd.below hb6
          have k6 := Wb.c0 hT6.tb.wb
          have d6 := hT6.tb.b22
          have t6 : (convert 28 9 (.slice (some ⟨y2, 0, none⟩) (64 * n) (64 * n))).run Try.prog w6 = .ok (.string st) w6 := HST.out ▸ hT6.tb.mm.dtext
          go_wp2_with fail
          refine hK.out _ _ (⟨k6, d6, t6⟩) (fun hH3 => ?_)
          clear hK K hH2
          try simp only [Act.put, List.setIfInBounds_toArray, List.set_cons_zero, List.set_cons_succ]
          refine wpAnyH_ready (rs := [13]) (by kernel_rfl) (by simp) ?_
          refine AllReadyH.cons rfl (fun K hK => ?_) AllReadyH.nil
          go_simp
          go_at_call 30
          with_reducible refine (same_any hO6 (Wb.ev hT6.tb.wb) (by omega)).mono ?_
          rintro e w7 ⟨rfl, n7, rfl⟩
          have hT7 := hT6.drewN n7
          have k7 := Wb.c0 hT7.tb.wb
          have d7 := hT7.tb.b22
          have t7 : (convert 28 9 (.slice (some ⟨y2, 0, none⟩) (64 * n) (64 * n))).run Try.prog (w6.drewN n7) = .ok (.string st) (w6.drewN n7) := HST.out ▸ hT7.tb.mm.dtext
          go_wp2_with fail
          refine hK.out _ _ (⟨k7, d7, t7⟩) (fun hH4 => ?_)
          clear hK K hH3
          try simp only [Act.put, List.setIfInBounds_toArray, List.set_cons_zero, List.set_cons_succ]
          refine take_d (i := 14) (some 193) (v := ?_) rfl rfl (by kernel_rfl) (by kernel_rfl) (by kernel_rfl) (fun _ _ _ h => h) (Or.inl ⟨by rfl, ?_⟩) hH4 ?_
          rotate_left
          · (intro w hSw; (try dsimp only at hSw); go_simp; try with_reducible rfl)
          try simp only [Act.put, List.setIfInBounds_toArray, List.set_cons_zero, List.set_cons_succ]
          refine take_d (i := 15) (some 194) (v := ?_) rfl rfl (by kernel_rfl) (by kernel_rfl) (by kernel_rfl) (fun _ _ _ h => h) (Or.inl ⟨by rfl, ?_⟩) hH4 ?_
          rotate_left
          · (intro w hSw; (try dsimp only at hSw); go_simp; try with_reducible rfl)
          try simp only [Act.put, List.setIfInBounds_toArray, List.set_cons_zero, List.set_cons_succ]
          refine take_d (i := 16) (some 195) (v := ?_) rfl rfl (by kernel_rfl) (by kernel_rfl) (by kernel_rfl) (fun _ _ _ h => h) (Or.inl ⟨by rfl, ?_⟩) hH4 ?_
          rotate_left
          · (intro w hSw; (try dsimp only at hSw); go_simp; try with_reducible rfl)
          try simp only [Act.put, List.setIfInBounds_toArray, List.set_cons_zero, List.set_cons_succ]
          refine take_d (i := 17) (some 196) (v := ?_) rfl rfl (by kernel_rfl) (by kernel_rfl) (by kernel_rfl) (fun _ _ _ h => h) (Or.inl ⟨by rfl, ?_⟩) hH4 ?_
          rotate_left
          · (intro w hSw; (try dsimp only at hSw); go_simp; try with_reducible rfl)
          try simp only [Act.put, List.setIfInBounds_toArray, List.set_cons_zero, List.set_cons_succ]
          refine take_d (i := 20) (some 199) (v := ?_) rfl rfl (by kernel_rfl) (by kernel_rfl) (by kernel_rfl) (fun _ _ _ h => h) (Or.inl ⟨by rfl, ?_⟩) hH4 ?_
          rotate_left
          · (intro w hSw; (try dsimp only at hSw); go_simp; try with_reducible rfl)
          try simp only [Act.put, List.setIfInBounds_toArray, List.set_cons_zero, List.set_cons_succ]
          refine take_d (i := 21) (some 200) (v := ?_) rfl rfl (by kernel_rfl) (by kernel_rfl) (by kernel_rfl) (fun _ _ _ h => h) (Or.inl ⟨by rfl, ?_⟩) hH4 ?_
          rotate_left
          · (intro w hSw; (try dsimp only at hSw); go_simp; try with_reducible rfl)
          try simp only [Act.put, List.setIfInBounds_toArray, List.set_cons_zero, List.set_cons_succ]
          refine take_d (i := 22) (some 201) (v := ?_) rfl rfl (by kernel_rfl) (by kernel_rfl) (by kernel_rfl) (fun _ _ _ h => h) (Or.inl ⟨by rfl, ?_⟩) hH4 ?_
          rotate_left
          · (intro w hSw; (try dsimp only at hSw); go_simp; try with_reducible rfl)
          try simp only [Act.put, List.setIfInBounds_toArray, List.set_cons_zero, List.set_cons_succ]
          refine take_d (i := 23) (some 202) (v := ?_) rfl rfl (by kernel_rfl) (by kernel_rfl) (by kernel_rfl) (fun _ _ _ h => h) (Or.inl ⟨by rfl, ?_⟩) hH4 ?_
          rotate_left
          · (intro w hSw; (try dsimp only at hSw); go_simp; try with_reducible rfl)
          try simp only [Act.put, List.setIfInBounds_toArray, List.set_cons_zero, List.set_cons_succ]
          refine take_d (i := 24) (some 203) (v := ?_) rfl rfl (by kernel_rfl) (by kernel_rfl) (by kernel_rfl) (fun _ _ _ h => h) (Or.inl ⟨by rfl, ?_⟩) hH4 ?_
          rotate_left
          · (intro w hSw; (try dsimp only at hSw); go_simp; try with_reducible rfl)
          try simp only [Act.put, List.setIfInBounds_toArray, List.set_cons_zero, List.set_cons_succ]
          refine take_d (i := 25) (some 204) (v := ?_) rfl rfl (by kernel_rfl) (by kernel_rfl) (by kernel_rfl) (fun _ _ _ h => h) (Or.inl ⟨by rfl, ?_⟩) hH4 ?_
          rotate_left
          · (intro w hSw; (try dsimp only at hSw); go_simp; try with_reducible rfl)
          try simp only [Act.put, List.setIfInBounds_toArray, List.set_cons_zero, List.set_cons_succ]
          refine wpAnyH_ready (rs := [18]) (by kernel_rfl) (by simp) ?_
          refine AllReadyH.cons rfl (fun K hK => ?_) AllReadyH.nil
          go_simp
          go_at_call 18
          with_reducible refine (dbytes_any hT7.ta hn).mono ?_
          rintro e w8 ⟨v8, rfl, hB8, hF8⟩
          have hT8 := hT7.left (hT7.ta.no hF8) (CD.of_no hF8)
          have k8 := Wb.c0 hT8.tb.wb
          have d8 := hT8.tb.b22
          have t8 : (convert 28 9 (.slice (some ⟨y2, 0, none⟩) (64 * n) (64 * n))).run Try.prog w8 = .ok (.string st) w8 := HST.out ▸ hT8.tb.mm.dtext
          have r8 : (convert 28 9 v8).run Try.prog w8 = .ok (.string st) w8 := HST.out ▸ conv_any hB8
          go_wp2_with fail
          refine hK.out _ _ (⟨k8, d8, t8⟩) (fun hH5 => ?_)
          clear hK K hH4
          try simp only [Act.put, List.setIfInBounds_toArray, List.set_cons_zero, List.set_cons_succ]
          refine wpAnyH_ready (rs := [19]) (by kernel_rfl) (by simp) ?_
          refine AllReadyH.cons rfl (fun K hK => ?_) AllReadyH.nil
          go_simp
          refine hK.out _ _ (⟨k8, d8, t8⟩) (fun hH6 => ?_)
          clear hK K hH5
          try simp only [Act.put, List.setIfInBounds_toArray, List.set_cons_zero, List.set_cons_succ]
          refine take_d (i := 26) (some 205) (v := ?_) rfl rfl (by kernel_rfl) (by kernel_rfl) (by kernel_rfl) (fun _ _ _ h => h) (Or.inl ⟨by rfl, ?_⟩) hH6 ?_
          rotate_left
          · (intro w hSw; (try dsimp only at hSw); go_simp; try with_reducible rfl)
          try simp only [Act.put, List.setIfInBounds_toArray, List.set_cons_zero, List.set_cons_succ]
          refine take_d (i := 27) (some 206) (v := ?_) rfl rfl (by kernel_rfl) (by kernel_rfl) (by kernel_rfl) (fun _ _ _ h => h) (Or.inl ⟨by rfl, ?_⟩) hH6 ?_
          rotate_left
          · (intro w hSw; (try dsimp only at hSw); go_simp; try with_reducible rfl)
          try simp only [Act.put, List.setIfInBounds_toArray, List.set_cons_zero, List.set_cons_succ]
          refine wpAnyH_done (by kernel_rfl) ?_ _
          refine NoPanic.normal ?_
          go_wp2_with fail
          go_roundw
          case rel => exact ⟨k + 1, now2, v2, _, S2, by omega, rfl, by go_num, hT8, n0, by omega, by rw [show ((k + 1 : Nat) : Int) = (k : Int) + 1 by omega]; exact HG.out⟩
          case measure => simp [intOf]; omega
    · by_cases hx : k < len
      all_goals
        try (have hd : decide ((k : Int) < 80) = false := by simp; omega)
        clear hlt
        go_wp2_with fail
        with_reducible refine (kbytes_two hT.ta.mm).mono ?_
        rintro e w5 ⟨Y, hY, rfl, hr5, hf5⟩
        have hT5 := hT.left (hT.ta.no hf5) (CD.of_no hf5)
        have hT6 := hT5.drewN 1
        obtain ⟨b2, d0, kq⟩ := hT6.tb.mm.text
        have d1 : w5.drew.cell? ⟨m, 0, none⟩ = some (.pointer (some ⟨r2, 0, none⟩)) := hT6.tb.b0
        have d2 : w5.drew.cell? ⟨r2, 0, none⟩ = some (.slice (some ⟨b2, 0, none⟩) 2048 2048) := d0
        obtain ⟨st, hst⟩ : ∃ st, strN 2048 S.C = st := ⟨_, rfl⟩
        have hbd := hT6.ta.mm.bC
        have hr6 : w5.drew.rowIs Y 5 2048 (fun i => .int .u8 (S.C (0 + i))) := hr5
        have e0 : (fun i => S.C (0 + i)) = S.C := by funext i; rw [Nat.zero_add]
        have k1 : (convert 28 9 (.slice (some ⟨Y, 0, none⟩) 2048 2048)).run Try.prog w5.drew = .ok (.string st) w5.drew := by
          rw [← hst]
          have := conv_any (row_by hr6 (fun i => hbd (0 + i)))
          rw [e0] at this
          exact this
        have k2 : (convert 28 9 (.slice (some ⟨b2, 0, none⟩) 2048 2048)).run Try.prog w5.drew = .ok (.string st) w5.drew := by rw [← hst]; exact kq
        have hbl := hT6.bl
        clear hT hT5 hT6 hY hr5 hf5 hst hbd hr6 e0 kq d0
        go_wp2_with fail
        go_region_held3 (fun w' => w'.cell? ⟨m, 0, none⟩ = some (.pointer (some ⟨r2, 0, none⟩)) ∧ w'.cell? ⟨r2, 0, none⟩ = some (.slice (some ⟨b2, 0, none⟩) 2048 2048) ∧ (convert 28 9 (.slice (some ⟨Y, 0, none⟩) 2048 2048)).run Try.prog w' = .ok (.string st) w' ∧ (convert 28 9 (.slice (some ⟨b2, 0, none⟩) 2048 2048)).run Try.prog w' = .ok (.string st) w') (first | with_reducible exact ⟨d1, d2, k1, k2⟩) (first | (go_at_call 0; fail))
        go_wp2
        go_ret
        exact ⟨rfl, hbl⟩
end Go.Proofs.Ytifhnidcdfpabaa

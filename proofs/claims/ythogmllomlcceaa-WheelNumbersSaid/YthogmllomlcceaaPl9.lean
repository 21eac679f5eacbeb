/-
  Chapter 9: both wheels, played side by side by any calls (function 'play').
-/
import Derived.Test.YthogmllomlcceaaTw9
namespace Go.Proofs.Ythogmllomlcceaa
open Go.RowKit
set_option linter.unusedVariables false
set_option linter.unusedSimpArgs false

/-- the cells of a slice of calls, as the walk asks for them -/
def Asks (w : World) (B : Nat) (a : Option Addr) (len : Nat) : Prop :=
  ∀ i, i < len → ∃ (b o : Nat) (kd d t : Int), a = some ⟨b, o, none⟩ ∧ b < B ∧
    w.cell? ⟨b, o + i * 3, none⟩ = some (.int .i64 kd) ∧ w.cell? ⟨b, o + i * 3 + 1, none⟩ = some (.int .i64 d) ∧ w.cell? ⟨b, o + i * 3 + 2, none⟩ = some (.int .i64 t) ∧
    -9223372036854775808 ≤ d ∧ d ≤ 9223372036854775807 ∧ -9223372036854775808 ≤ t ∧ t ≤ 9223372036854775807
theorem armL_len (d t a : Int) (L : List Ev) : (armL d t a L).length ≤ L.length + 1 := by
  unfold armL
  split
  · unfold armF
    rw [insF_len _ _ _ (ixA_le _ _)]
    have := delF_len d L
    omega
  · omega
theorem armA_rng (d t a : Int) : a ≤ armA d t a ∧ armA d t a ≤ a + 1 := by unfold armA; split <;> omega
theorem takeL_len (now : Int) (L : List Ev) : (takeL now L).length ≤ L.length := by
  unfold takeL
  split
  · rw [List.length_eraseIdx]; split <;> omega
  · omega
/-- the wheel that the document's literal makes -/
theorem ref_new (w : World) : Wh 43 (w.alloc (.cells #[.slice none 0 0, .int .i64 0] 43)) w.heap.size (.slice none 0 0) [] 0 :=
  ⟨World.rowIs_alloc w _ _ _ fun i hi => by
    have : i = 0 ∨ i = 1 := by have : i < 2 := hi; omega
    rcases this with rfl | rfl <;> rfl, World.ownsRow_nil _ _ _ _, by simp [Value.ownBlock]⟩

theorem two_new {w w1 : World} {g : Nat} (hg : w.heap.size ≤ g) (hw : Wh 50 w1 g (.slice none 0 0) [] 0) (hb : Below w.heap.size w w1) :
    Two w (w1.alloc (.cells #[.slice none 0 0, .int .i64 0] 43)) g (.slice none 0 0) w1.heap.size (.slice none 0 0) [] 0 := by
  have hs := hb.size
  have hgl := hw.st.lt
  refine ⟨hw.below ((Below.refl _ _).alloc (Nat.le_refl _) _), ref_new w1, ?_, ?_, ?_, hb.alloc hs _⟩
  · rintro k (rfl | e) (e2 | e2)
    · omega
    · cases e2
    · cases e
    · cases e
  · rintro k (rfl | e)
    · exact hg
    · cases e
  · rintro k (rfl | e)
    · exact hs
    · cases e
set_option maxRecDepth 100000 in
set_option maxHeartbeats 8000000 in
theorem play_any (A : Option Addr) (len cap : Nat) (near : Bool) (w : World) (HA : Hid (Asks w w.heap.size A len)) (hl : len ≤ 9223372036854775807) :
    Calls Try.prog 7 #[.slice A len cap, .bool near] w (RetB (.bool true) w) := by
  go_enter Try.func7, Try.ntmps7
  go_wp2_with fail
  refine (wnew_any w).mono ?_
  rintro e w1 ⟨g, hg, rfl, hw, hb⟩
  have hs := hb.size
  have hgl := hw.st.lt
  have hT : Two w (w1.alloc (.cells #[.slice none 0 0, .int .i64 0] 43)) g (.slice none 0 0) w1.heap.size (.slice none 0 0) [] 0 :=
    two_new hg hw hb
  go_wp2_with fail
  generalize w1.alloc (.cells #[.slice none 0 0, .int .i64 0] 43) = W1 at hT ⊢
  generalize w1.heap.size = m at hT ⊢
  clear hw hb hs hgl hg
  go_loopw [7] (fun i wr => ∃ (k : Nat) (v u : Value) (L : List Ev) (a : Int), k ≤ 80 ∧ i = .int .i64 k ∧ Two w wr g v m u L a ∧ L.length ≤ k ∧ 0 ≤ a ∧ a ≤ k) (fun i _ => 80 - (intOf i).toNat)
  case atStart => exact ⟨0, _, _, _, _, by omega, rfl, hT, by simp, by omega, by omega⟩
  case round =>
    clear hT
    obtain ⟨k, v, u, L, a, hk, rfl, hT, hL, a0, a1⟩ := hrel
    by_cases hlt : k < 80 ∧ k < len
    · obtain ⟨x0, x1⟩ := hlt
      obtain ⟨ab, ao, kd, d, t, rfl, hab, q0, q1, q2, d0, d1, t0, t1⟩ := HA.out k x1
      have e0 := (hT.bl.cell (p := ⟨ab, ao + k * 3, none⟩) hab).trans q0
      have e1 := (hT.bl.cell (p := ⟨ab, ao + k * 3 + 1, none⟩) hab).trans q1
      have e2 := (hT.bl.cell (p := ⟨ab, ao + k * 3 + 2, none⟩) hab).trans q2
      clear q0 q1 q2
      have z80 : (k : Int) < 80 := by omega
      have hT1 := hT.alloc (.cells #[.int .i64 kd, .int .i64 d, .int .i64 t] 24)
      have hB1 := Ab.new hT kd d t
      go_upto_if 39 with fail
      generalize wr.alloc (.cells #[.int .i64 kd, .int .i64 d, .int .i64 t] 24) = W2 at hT1 hB1 ⊢
      generalize wr.heap.size = X at hB1 ⊢
      clear hT e0 e1 e2
      go_cut [39] (fun _ wc => ∃ d2 t2, Two w wc g v m u L a ∧ Ab w wc X g v m u kd d2 t2)
      case first =>
        have c1 := hB1.c1
        have c2 := hB1.c2
        have f1 := hB1.row.frozen 1
        have f2 := hB1.row.frozen 2
        cases near
        · go_wp2_with fail
          go_meet
          exact ⟨d, t, hT1, hB1⟩
        · have r1 := tmod_pos t 40 (by omega)
          have hw0 : IntKind.i64.wrap (t.tmod 40) = t.tmod 40 := by rw [IntKind.wrap_i64]; omega
          clear r1
          go_wp2_with fail
          go_region_with (go_at_call 14; refine (within_any d (-1) 6 (W2.drewN 1) (by omega) (by omega) (by omega) d0 d1).mono ?_; rintro e w' ⟨vp, vp0, vp1, rfl, rfl⟩)
          all_goals
            obtain ⟨hT3, hB3⟩ := Ab.put (hT1.drewN 1) (hB1.drewN 1) vp (t.tmod 40)
            go_wp2_with fail
            go_meet
            exact ⟨_, _, hT3, hB3⟩
      case rest =>
        obtain ⟨d2, t2, hT2, hB2⟩ := hcut
        have c0 := hB2.c0
        clear hT1 hB1
        go_upto_block 2 with fail
        go_cut [49] (fun _ wc => ∃ (v' u' : Value) (L' : List Ev) (a' : Int), Two w wc g v' m u' L' a' ∧ Ab w wc X g v' m u' kd d2 t2 ∧ L'.length ≤ k + 1 ∧ 0 ≤ a' ∧ a' ≤ k + 1)
        case first =>
          generalize wc = W3 at hT2 hB2 c0 ⊢
          have c1 := hB2.c1
          have c2 := hB2.c2
          have hT2d := hT2.drewN 1
          have hB2d := hB2.drewN 1
          by_cases k3 : kd = 3
          · subst k3
            have hLd := delF_len d2 L
            go_wp2_with fail
            go_region_held3 (fun w' => w'.cell? ⟨X, 1, none⟩ = some (.int .i64 d2)) (first | exact c1 | exact y1 | exact z1)
              (first
                | (go_at_call 13; refine (cancel_any d2 hT2d.wa (by omega)).mono ?_; rintro e w4 ⟨rfl, v4, hw4, hch4⟩; have hq4 := hT2d.left hch4; have hB4 := hB2d.left hch4; have y1 := hB4.c1)
                | (go_at_call 15; refine (rcancel_any d2 hq4 (by omega)).mono ?_; rintro e w5 ⟨rfl, u5, hw5, hch5⟩; have hT5 := hT2d.both hw4 hch4 hw5 hch5; have hB5 := hB4.right hch5; have z1 := hB5.c1))
            go_wp2_with fail
            go_meet
            exact ⟨v4, u5, _, a, hT5, hB5, by omega, a0, by omega⟩
          · have k03 : (kd == 3) = false := beq_false_of_ne k3
            by_cases k45 : kd = 4 ∨ kd = 5
            · have hLd := takeL_len t2 L
              obtain ⟨E, D, HV⟩ : ∃ (E : Ev) (D : Bool), Hid (takeV t2 L = .tuple #[.agg #[.int .i64 E.t, .int .i64 E.d, .int .i64 E.s], .bool D]) := ⟨takeE t2 L, dueB t2 L, rfl⟩
              rcases k45 with rfl | rfl
              all_goals
                go_wp2_with fail
                refine (take_any t2 hT2.wa (by omega)).mono ?_
                rintro e w4 ⟨rfl, v4, hw4, hch4⟩
                rw [HV.out]
                have hq4 := (hT2.left hch4)
                have hB4 := (hB2.left hch4)
                have hb4 : Below w4.heap.size w4 (w4.alloc (.cells #[.int .i64 E.t, .int .i64 E.d, .int .i64 E.s] 33)) := (Below.refl _ _).alloc (Nat.le_refl _) _
                have y2 := (hB4.below hb4).c2
                have hch4' := hch4.trans (Ch.of_below (g := g) (v := v4) hb4)
                have hw4' := hw4.below hb4
                have hq4' := hq4.below hb4
                have hB4' := hB4.below hb4
                have hbx := ev_row w4 E
                go_wp2_with fail
                generalize w4.alloc (.cells #[.int .i64 E.t, .int .i64 E.d, .int .i64 E.s] 33) = W4 at y2 hch4' hw4' hq4' hB4' hbx ⊢
                refine (rtake_any t2 hq4' (by omega)).mono ?_
                rintro e w5 ⟨rfl, u5, hw5, hch5⟩
                rw [HV.out]
                have hT5 := hT2.both hw4' hch4' hw5 hch5
                have hB5 := hB4'.right hch5
                have hnx : ¬ Own m u w4.heap.size := fun e => by have := hq4.lt _ e; omega
                have hby := hbx.of_block (hch5.fr.block _ hbx.lt hnx)
                have hbz := hby.alloc (.cells #[.int .i64 E.t, .int .i64 E.d, .int .i64 E.s] 33)
                have hT6 := hT5.alloc (.cells #[.int .i64 E.t, .int .i64 E.d, .int .i64 E.s] 33)
                have hB6 := hB5.alloc (.cells #[.int .i64 E.t, .int .i64 E.d, .int .i64 E.s] 33)
                have n0 := hby.cell (i := 0) (by omega)
                have n1 := hby.cell (i := 1) (by omega)
                have n2 := hby.cell (i := 2) (by omega)
                simp only [three] at n0 n1 n2
                have hlt45 : w4.heap.size < w5.heap.size := hby.lt
                go_wp2_with fail
                go_meet
                exact ⟨v4, u5, _, a, hT6, hB6, by omega, a0, by omega⟩
            · have k04 : (kd == 4) = false := beq_false_of_ne (by omega)
              have k05 : (kd == 5) = false := beq_false_of_ne (by omega)
              have hLd := armL_len d2 t2 a L
              have haA := armA_rng d2 t2 a
              go_wp2_with fail
              go_region_held3 (fun w' => w'.cell? ⟨X, 1, none⟩ = some (.int .i64 d2) ∧ w'.cell? ⟨X, 2, none⟩ = some (.int .i64 t2)) (first | exact ⟨c1, c2⟩ | exact ⟨y1, y2⟩ | exact ⟨z1, z2⟩)
                (first
                  | (go_at_call 10; refine (arm_any d2 t2 hT2d.wa (by omega) ⟨a0, by omega⟩).mono ?_; rintro e w4 ⟨rfl, v4, hw4, hch4⟩; have hq4 := hT2d.left hch4; have hB4 := hB2d.left hch4; have y1 := hB4.c1; have y2 := hB4.c2)
                  | (go_at_call 17; refine (rarm_any d2 t2 hq4 (by omega) ⟨a0, by omega⟩).mono ?_; rintro e w5 ⟨rfl, u5, hw5, hch5⟩; have hT5 := hT2d.both hw4 hch4 hw5 hch5; have hB5 := hB4.right hch5; have z1 := hB5.c1; have z2 := hB5.c2))
              go_wp2_with fail
              go_meet
              exact ⟨v4, u5, _, _, hT5, hB5, by omega, by omega, by omega⟩
        case rest =>
          clear hT2 hB2 c0
          obtain ⟨v3, u3, L3, a3, hT3, hB3, hL3, a30, a31⟩ := hcut
          have c1 := hB3.c1
          go_wp2_with fail
          refine (at_any d2 hT3.wa (by omega)).mono ?_
          rintro e w4 ⟨rfl, hb4⟩
          have hT4 := hT3.below hb4
          have hB4 := hB3.below hb4
          have y1 := hB4.c1
          clear hT3 hB3
          go_wp2_with fail
          refine (rat_any d2 hT4.wb (by omega)).mono ?_
          rintro e w5 ⟨rfl, rfl⟩
          go_wp2_with fail
          refine (next_any hT4.wa).mono ?_
          rintro e w5 ⟨rfl, rfl⟩
          have k0 := hT4.wb.c0
          obtain ⟨B, c, rfl, hc, hcm, hz, hA⟩ := hT4.wb.ev.form
          have HAB := Lib.hid hA
          clear hz hA c1 y1
          have hTd := hT4.drewN 1
          obtain ⟨N, HN⟩ : ∃ N, Hid (nextV L3 = N) := ⟨_, rfl⟩
          rw [HN.out]
          generalize atV d2 L3 = AT
          generalize cancB d2 L3 = CB
          by_cases h0 : 0 < L3.length
          · obtain ⟨b, rfl⟩ := HAB.out h0
            obtain ⟨q0, q1, q2⟩ := hT4.wb.ev.at h0
            rw [← nextV_cons h0, HN.out, Nat.zero_mul] at q0
            have hd1 : decide (0 < L3.length) = true := decide_eq_true h0
            have hd2 : (0 : Int) < L3.length := by omega
            rw [hd1]
            clear q1 q2 HN HAB hd1
            go_wp2_with fail
            go_region_held3 (fun w' => w'.cell? ⟨m, 0, none⟩ = some (.slice (some ⟨b, 0, none⟩) L3.length c)) (first | exact k0 | exact k6 | exact k7)
              (first
                | (go_at_call 12; refine (all_any hTd.wa (by omega)).mono ?_; rintro e w6 ⟨x6, rfl, hO6, hb6, hn6⟩; have hT6 := hTd.below hb6; have k6 := hT6.wb.c0)
                | (go_at_call 21; refine (same_any hO6 hT6.wb.ev (by omega)).mono ?_; rintro e w7 ⟨rfl, n7, rfl⟩; have k7 := (hT6.drewN n7).wb.c0))
            have hT7 := hT6.drewN n7
            go_wp2_with fail
            go_roundw
            case rel => exact ⟨k + 1, v3, _, L3, a3, by omega, by go_num, hT7, by omega, a30, by omega⟩
            case measure => simp [intOf]; omega
          · have hd1 : decide (0 < L3.length) = false := decide_eq_false h0
            have hd2 : decide ((0 : Int) < L3.length) = false := decide_eq_false (by omega)
            have hn0 : N = 0 := by rw [← HN.out]; obtain rfl : L3 = [] := List.eq_nil_of_length_eq_zero (by omega); rfl
            subst hn0
            rw [hd1]
            clear HN HAB hd1
            go_wp2_with fail
            go_region_held3 (fun w' => w'.cell? ⟨m, 0, none⟩ = some (.slice B L3.length c)) (first | exact k0 | exact k6 | exact k7)
              (first
                | (go_at_call 12; refine (all_any hTd.wa (by omega)).mono ?_; rintro e w6 ⟨x6, rfl, hO6, hb6, hn6⟩; have hT6 := hTd.below hb6; have k6 := hT6.wb.c0)
                | (go_at_call 21; refine (same_any hO6 hT6.wb.ev (by omega)).mono ?_; rintro e w7 ⟨rfl, n7, rfl⟩; have k7 := (hT6.drewN n7).wb.c0))
            have hT7 := hT6.drewN n7
            go_wp2_with fail
            go_roundw
            case rel => exact ⟨k + 1, v3, _, L3, a3, by omega, by go_num, hT7, by omega, a30, by omega⟩
            case measure => simp [intOf]; omega
    · by_cases hx : k < len
      all_goals
        try (have hd : decide ((k : Int) < 80) = false := by simp; omega)
        clear hlt
        go_wp2
        go_ret
        exact ⟨rfl, hT.bl⟩
end Go.Proofs.Ythogmllomlcceaa

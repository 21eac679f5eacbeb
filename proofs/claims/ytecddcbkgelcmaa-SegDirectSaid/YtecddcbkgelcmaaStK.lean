/-
  A State as it is drawn (pianolakeep.State): whatever is drawn, it makes a State whose numbers are words, of that time; nothing that was there has turned.
-/
import Derived.Test.YtecddcbkgelcmaaR6E
import Derived.Deep.DeepCutAuto
import Derived.Deep.CutBlock
import Derived.Deep.RegionHeld3
import Derived.Deep.RegionWith
namespace Go.Proofs.Ytecddcbkgelcmaa
open Go.RowKit
set_option linter.unusedVariables false

/-- a slice of words, below block B -/
def WordsAt (w : World) (B : Nat) (a : Option Addr) (len : Nat) : Prop :=
  ∀ i, i < len → ∃ (b o : Nat) (v : Int), a = some ⟨b, o, none⟩ ∧ b < B ∧ w.cell? ⟨b, o + i, none⟩ = some (.int .u32 v) ∧ W32 v
/-- a slice of entries, below block B -/
def EntsAt (w : World) (B : Nat) (a : Option Addr) (len : Nat) : Prop :=
  ∀ i, i < len → ∃ (b o : Nat) (x y : Int), a = some ⟨b, o, none⟩ ∧ b < B ∧ w.cell? ⟨b, o + i * 2, none⟩ = some (.int .u32 x) ∧ w.cell? ⟨b, o + i * 2 + 1, none⟩ = some (.int .u32 y) ∧ W32 x ∧ W32 y
theorem WordsAt.below {w w' : World} {B : Nat} {a : Option Addr} {len : Nat} (h : WordsAt w B a len) (hb : Below B w w') : WordsAt w' B a len := fun i hi => by
  obtain ⟨b, o, v, e, hB, hc, hv⟩ := h i hi
  exact ⟨b, o, v, e, hB, (hb.cell (p := ⟨b, o + i, none⟩) hB).trans hc, hv⟩
theorem EntsAt.below {w w' : World} {B : Nat} {a : Option Addr} {len : Nat} (h : EntsAt w B a len) (hb : Below B w w') : EntsAt w' B a len := fun i hi => by
  obtain ⟨b, o, x, y, e, hB, hc, hd, hv⟩ := h i hi
  exact ⟨b, o, x, y, e, hB, (hb.cell (p := ⟨b, o + i * 2, none⟩) hB).trans hc, (hb.cell (p := ⟨b, o + i * 2 + 1, none⟩) hB).trans hd, hv⟩
/-- what is drawn, as a value -/
def drawnV (ra ca ta : Option Addr) (rl rc cl cc tl tc : Nat) (pc st cs hi ct sh : Int) (sl lk : Bool) : Value :=
  .agg #[.slice ra rl rc, .int .u32 pc, .int .u32 st, .int .u32 cs, .int .u32 hi, .bool sl, .bool lk, .slice ca cl cc, .slice ta tl tc, .int .u32 ct, .int .u32 sh]
/-- what is drawn can be read: its slices lie below B, its numbers are words -/
structure DrawnAt (w : World) (B : Nat) (ra ca ta : Option Addr) (rl cl tl : Nat) (pc st cs hi ct sh : Int) : Prop where
  r : WordsAt w B ra rl
  c : WordsAt w B ca cl
  t : EntsAt w B ta tl
  rl : rl ≤ 9223372036854775807
  cl : cl ≤ 9223372036854775807
  tl : tl ≤ 9223372036854775807
  pc : W32 pc
  st : W32 st
  cs : W32 cs
  hi : W32 hi
  ct : W32 ct
  sh : W32 sh
theorem DrawnAt.below {w w' : World} {B : Nat} {ra ca ta : Option Addr} {rl cl tl : Nat} {pc st cs hi ct sh : Int} (h : DrawnAt w B ra ca ta rl cl tl pc st cs hi ct sh) (hb : Below B w w') : DrawnAt w' B ra ca ta rl cl tl pc st cs hi ct sh :=
  { h with r := h.r.below hb, c := h.c.below hb, t := h.t.below hb }
theorem DrawnAt.up {w : World} {B B' : Nat} {ra ca ta : Option Addr} {rl cl tl : Nat} {pc st cs hi ct sh : Int} (h : DrawnAt w B ra ca ta rl cl tl pc st cs hi ct sh) (hB : B ≤ B') : DrawnAt w B' ra ca ta rl cl tl pc st cs hi ct sh :=
  { h with
    r := fun i hi => by obtain ⟨b, o, v, e, l, r⟩ := h.r i hi; exact ⟨b, o, v, e, by omega, r⟩
    c := fun i hi => by obtain ⟨b, o, v, e, l, r⟩ := h.c i hi; exact ⟨b, o, v, e, by omega, r⟩
    t := fun i hi => by obtain ⟨b, o, x, y, e, l, r⟩ := h.t i hi; exact ⟨b, o, x, y, e, by omega, r⟩ }
/-- what is left as Fresh has it -/
structure Dn (s : St) : Prop where
  r0 : s.R 0 = 0
  wt : s.Waits = false
theorem Dn.setC {s : St} (h : Dn s) (n : Nat) (x : Int) : Dn (s.setC n x) := ⟨h.r0, h.wt⟩
theorem Dn.wr {s : St} (h : Dn s) (n v : Int) : Dn (wrF s n v) := by
  unfold wrF
  repeat' (first | exact h | exact h.setC _ _ | exact (h.setC _ _).setC _ _ | split)
def StateP (now : Int) (w : World) (e : Ending) (w' : World) : Prop := ∃ s : St, e = .returned (.agg s.arr) ∧ s.Ok ∧ Dn s ∧ s.Time = now ∧ Below w.heap.size w w'
/-- what is drawn, laid in a block -/
structure BoxAt (w : World) (X : Nat) (ra ca ta : Option Addr) (rl rc cl cc tl tc : Nat) (pc st cs hi ct sh : Int) (sl lk : Bool) : Prop where
  c0 : w.cell? ⟨X, 0, none⟩ = some (.slice ra rl rc)
  c1 : w.cell? ⟨X, 1, none⟩ = some (.int .u32 pc)
  c2 : w.cell? ⟨X, 2, none⟩ = some (.int .u32 st)
  c3 : w.cell? ⟨X, 3, none⟩ = some (.int .u32 cs)
  c4 : w.cell? ⟨X, 4, none⟩ = some (.int .u32 hi)
  c5 : w.cell? ⟨X, 5, none⟩ = some (.bool sl)
  c6 : w.cell? ⟨X, 6, none⟩ = some (.bool lk)
  c7 : w.cell? ⟨X, 7, none⟩ = some (.slice ca cl cc)
  c8 : w.cell? ⟨X, 8, none⟩ = some (.slice ta tl tc)
  c9 : w.cell? ⟨X, 9, none⟩ = some (.int .u32 ct)
  c10 : w.cell? ⟨X, 10, none⟩ = some (.int .u32 sh)
theorem BoxAt.fr {w w' : World} {X : Nat} {ra ca ta : Option Addr} {rl rc cl cc tl tc : Nat} {pc st cs hi ct sh : Int} {sl lk : Bool} {S : Nat → Prop} (h : BoxAt w X ra ca ta rl rc cl cc tl tc pc st cs hi ct sh sl lk) (f : Fr S w w') (hX : ¬ S X) : BoxAt w' X ra ca ta rl rc cl cc tl tc pc st cs hi ct sh sl lk :=
  ⟨cell_fr f h.c0 hX, cell_fr f h.c1 hX, cell_fr f h.c2 hX, cell_fr f h.c3 hX, cell_fr f h.c4 hX, cell_fr f h.c5 hX, cell_fr f h.c6 hX, cell_fr f h.c7 hX, cell_fr f h.c8 hX, cell_fr f h.c9 hX, cell_fr f h.c10 hX⟩
theorem box_new (w : World) (ra ca ta : Option Addr) (rl rc cl cc tl tc : Nat) (pc st cs hi ct sh : Int) (sl lk : Bool) : BoxAt (w.alloc (.cells #[.slice ra rl rc, .int .u32 pc, .int .u32 st, .int .u32 cs, .int .u32 hi, .bool sl, .bool lk, .slice ca cl cc, .slice ta tl tc, .int .u32 ct, .int .u32 sh] 38)) w.heap.size ra ca ta rl rc cl cc tl tc pc st cs hi ct sh sl lk := by
  have h := heap_alloc_last w (.cells #[.slice ra rl rc, .int .u32 pc, .int .u32 st, .int .u32 cs, .int .u32 hi, .bool sl, .bool lk, .slice ca cl cc, .slice ta tl tc, .int .u32 ct, .int .u32 sh] 38)
  exact ⟨cell_of_row _ _ 0 _ _ _ h, cell_of_row _ _ 1 _ _ _ h, cell_of_row _ _ 2 _ _ _ h, cell_of_row _ _ 3 _ _ _ h, cell_of_row _ _ 4 _ _ _ h, cell_of_row _ _ 5 _ _ _ h, cell_of_row _ _ 6 _ _ _ h, cell_of_row _ _ 7 _ _ _ h, cell_of_row _ _ 8 _ _ _ h, cell_of_row _ _ 9 _ _ _ h, cell_of_row _ _ 10 _ _ _ h⟩
section
variable {w : World} {ra ca ta : Option Addr} {rl rc cl cc tl tc : Nat} {pc st cs hi ct sh : Int} {sl lk : Bool}
set_option maxRecDepth 100000 in
set_option maxHeartbeats 4000000 in
theorem state_any (now : Int) (h : DrawnAt w w.heap.size ra ca ta rl cl tl pc st cs hi ct sh) (hn : W64 now) :
    Calls Try.prog 11 #[drawnV ra ca ta rl rc cl cc tl tc pc st cs hi ct sh sl lk, .int .i64 now] w (StateP now w) := by
  have HD := Lib.hid h
  obtain ⟨-, -, -, l1, l2, l3, q1, q2, q3, q4, q5, q6⟩ := h
  unfold drawnV
  go_enter Try.func11, Try.ntmps11
  go_wp2_with (with_reducible refine wpList_allocSt ?_)
  intro r w1 p1 h1 f1
  have hb0 := box_new w ra ca ta rl rc cl cc tl tc pc st cs hi ct sh sl lk
  have z0 : w.heap.size < (w.alloc (.cells #[.slice ra rl rc, .int .u32 pc, .int .u32 st, .int .u32 cs, .int .u32 hi, .bool sl, .bool lk, .slice ca cl cc, .slice ta tl tc, .int .u32 ct, .int .u32 sh] 38)).heap.size := by simp
  have g0 := ((Fr.refl (New w.heap.size) w).alloc (.cells #[.slice ra rl rc, .int .u32 pc, .int .u32 st, .int .u32 cs, .int .u32 hi, .bool sl, .bool lk, .slice ca cl cc, .slice ta tl tc, .int .u32 ct, .int .u32 sh] 38)).trans (f1.new (fun _ x => x.elim))
  have hb1 := hb0.fr f1 id
  have z1 : w.heap.size < r := by omega
  have z2 := h1.lt
  have z3 := f1.size
  clear hb0
  go_wp2_with fail
  refine (rfresh_any w1).mono ?_
  rintro e w2 ⟨rfl, b2⟩
  have z4 := b2.size
  go_wp2_with (with_reducible refine wpList_allocSt ?_)
  intro b w3 p3 h3 f3
  go_wp2_with (refine wpList_storeSt rfl rfl h3 St.Ok.of_fresh ?_)
  intro w4 t4
  have hrb : r ≠ b := by omega
  have hXb : w.heap.size ≠ b := by omega
  have hwb : w.heap.size ≤ b := by omega
  have hrw : w.heap.size ≤ r := by omega
  have hb4 := ((hb1.fr (Fr.of_below (S := fun _ => False) b2) id).fr f3 id).fr t4.fr hXb
  have hr4 := ((h1.fr (Fr.of_below (S := fun _ => False) b2) id).fr f3 id).fr t4.fr hrb
  have g4 : Fr (New w.heap.size) w w4 := ((g0.trans (Fr.of_below (S := New w.heap.size) b2)).trans (f3.new (fun _ x => x.elim))).trans (t4.fr.new (by rintro k rfl; exact hwb))
  have HD4 := Lib.hid (HD.out.below g4.newB)
  have t4' := Turned.refl t4.at_
  clear t4 h3 f3 b2 h1 f1 hb1 g0 HD p1 p3 z0 z1 z2 z3 z4
  have c0 := hb4.c0
  go_upto_block 0 with fail
  go_cut [6] (fun _ wc => ∃ s, Turned w4 wc b s ∧ Dn s)
  case first =>
    go_wp2_with fail
    go_loopw [6] (fun i wr => ∃ (k : Nat) (s : St), 1 ≤ k ∧ k ≤ 32 ∧ i = .int .i64 k ∧ Turned w4 wr b s ∧ Dn s) (fun i _ => 32 - (intOf i).toNat)
    case atStart => exact ⟨1, freshF, by omega, by omega, by go_num, t4', ⟨rfl, rfl⟩⟩
    case round =>
      clear t4'
      obtain ⟨k, s, k0, k1, rfl, T, hd⟩ := hrel
      have c0' := cell_fr T.fr c0 hXb
      by_cases hlt : k < 32 ∧ k < rl
      · obtain ⟨x0, x1⟩ := hlt
        obtain ⟨ab, ao, v, rfl, hab, hv, hw⟩ := HD4.out.r k x1
        have cv := cell_fr T.fr hv (show ¬ ab = b by omega)
        have cr := T.at_.cR k x0
        have fz := T.at_.frozenAt k
        have y0 : (k : Int) < 32 := by omega
        go_wp2_with fail
        go_roundw
        case rel => exact ⟨k + 1, _, by omega, by omega, by go_num, T.setR k x0 v hw, ⟨by show (if 0 = k then v else s.R 0) = 0; rw [if_neg (by omega)]; exact hd.r0, hd.wt⟩⟩
        case measure => simp [intOf]; omega
      · by_cases hk : k < 32
        · have hk2 : ¬ k < rl := by omega
          have y0 : (k : Int) < 32 := by omega
          clear hlt
          go_wp2_with fail
          go_meet
          exact ⟨s, T, hd⟩
        · have y0 : ¬ (k : Int) < 32 := by omega
          clear hlt
          go_wp2_with fail
          go_meet
          exact ⟨s, T, hd⟩
  case rest =>
    clear t4' c0
    obtain ⟨s, T, hd⟩ := hcut
    have hb := hb4.fr T.fr hXb
    have c1 := hb.c1
    have c5 := hb.c5
    have cp := T.at_.cPC
    have cn := T.at_.cNext
    have cl := T.at_.cSlot
    have fp := T.at_.frozenAt 34
    have fn := T.at_.frozenAt 35
    have fs := T.at_.frozenAt 36
    go_upto_if 37 with fail
    go_cut [37] (fun _ wc => ∃ s, Turned w4 wc b s ∧ Dn s)
    case first =>
      cases sl
      · go_wp2_with fail
        go_meet
        exact ⟨_, (T.setPC pc q1).setNext _ (w_mod _), ⟨hd.r0, hd.wt⟩⟩
      · go_wp2_with fail
        go_meet
        exact ⟨_, ((((T.setPC pc q1).setNext _ (w_mod _)).setSlot true).setNext _ (w_mod _)), ⟨hd.r0, hd.wt⟩⟩
    case rest =>
      clear c1 c5 cp cn cl fp fn fs T hd hb
      obtain ⟨s2, T2, d2⟩ := hcut
      have e2 := (hb4.fr T2.fr hXb).c2
      go_wp2_with fail
      refine (rwrite_any 12 st T2.at_ q2).mono ?_
      rintro e v2 ⟨rfl, u2⟩
      have T3 := T2.trans u2
      have d3 := d2.wr 12 st
      clear u2 e2 T2 d2
      have e3 := (hb4.fr T3.fr hXb).c3
      go_wp2_with fail
      refine (rwrite_any 13 cs T3.at_ q3).mono ?_
      rintro e v3 ⟨rfl, u3⟩
      have T4 := T3.trans u3
      have d4 := d3.wr 13 cs
      clear u3 e3 T3 d3
      have e4 := (hb4.fr T4.fr hXb).c4
      go_wp2_with fail
      refine (rwrite_any 10 hi T4.at_ q4).mono ?_
      rintro e v4 ⟨rfl, u4⟩
      have T5 := T4.trans u4
      have d5 := d4.wr 10 hi
      clear u4 e4 T4 d4
      have e5 := (hb4.fr T5.fr hXb).c9
      go_wp2_with fail
      refine (rwrite_any 9 ct T5.at_ q5).mono ?_
      rintro e v5 ⟨rfl, u5⟩
      have T6 := T5.trans u5
      have d6 := d5.wr 9 ct
      clear u5 e5 T5 d5
      have e6 := (hb4.fr T6.fr hXb).c9
      have e6' := (hb4.fr T6.fr hXb).c10
      go_wp2_with fail
      refine (rwrite_any 11 _ T6.at_ (w_mod _)).mono ?_
      rintro e v6 ⟨rfl, u6⟩
      have T7 := T6.trans u6
      have d7 := d6.wr 11
      clear u6 e6 e6' T6 d6
      obtain ⟨s8, A8, F8, d8⟩ : ∃ s8, StAt v6 b s8 ∧ Fr (fun k => k = b) w4 v6 ∧ Dn s8 := ⟨_, T7.at_, T7.fr, d7 _⟩
      clear T7 d7
      go_upto_block 2 with fail
      go_cut [7] (fun _ wc => ∃ s, StAt wc b s ∧ Fr (fun k => k = b) w4 wc ∧ Dn s)
      case first =>
        go_wp2_with fail
        go_loopw [7] (fun i wr => ∃ (k : Nat) (s : St), k ≤ 3 ∧ i = .int .i64 k ∧ StAt wr b s ∧ Fr (fun k => k = b) w4 wr ∧ Dn s) (fun i _ => 3 - (intOf i).toNat)
        case atStart => exact ⟨0, s8, by omega, by go_num, A8, F8, d8⟩
        case round =>
          clear A8 F8 d8
          obtain ⟨k, s, k1, rfl, A, F, d⟩ := hrel
          have c7 := (hb4.fr F hXb).c7
          by_cases hlt : k < 3 ∧ k < cl
          · obtain ⟨x0, x1⟩ := hlt
            obtain ⟨ab, ao, v, rfl, hab, hv, hw⟩ := HD4.out.c k x1
            have cv := cell_fr F hv (show ¬ ab = b by omega)
            have y0 : (k : Int) < 3 := by omega
            have zX := block_lt_of_cell c7
            have zab := block_lt_of_cell cv
            have zb := A.lt
            simp only at zX zab
            have k3 : k = 0 ∨ k = 1 ∨ k = 2 := by omega
            rcases k3 with rfl | rfl | rfl
            · simp only [Nat.add_zero] at cv
              go_wp2_with fail
              go_region_with (go_at_call 20; refine (rwrite_any 0 v (A.alloc _).drew hw).mono ?_; rintro e w9 ⟨rfl, u9⟩)
              all_goals
                go_wp2_with fail
                go_roundw
                case rel => exact ⟨1, _, by omega, rfl, u9.at_, (F.alloc _).drew.trans u9.fr, d.wr 0 v⟩
                case measure => simp [intOf]
            · go_wp2_with fail
              go_region_with (go_at_call 20; refine (rwrite_any 2 v (A.alloc _).drew hw).mono ?_; rintro e w9 ⟨rfl, u9⟩)
              all_goals
                go_wp2_with fail
                go_roundw
                case rel => exact ⟨2, _, by omega, rfl, u9.at_, (F.alloc _).drew.trans u9.fr, d.wr 2 v⟩
                case measure => simp [intOf]
            · go_wp2_with fail
              go_region_with (go_at_call 20; refine (rwrite_any 14 v (A.alloc _).drew hw).mono ?_; rintro e w9 ⟨rfl, u9⟩)
              all_goals
                go_wp2_with fail
                go_roundw
                case rel => exact ⟨3, _, by omega, rfl, u9.at_, (F.alloc _).drew.trans u9.fr, d.wr 14 v⟩
                case measure => simp [intOf]
          · by_cases hk : k < 3
            · have hk2 : ¬ k < cl := by omega
              have y0 : (k : Int) < 3 := by omega
              clear hlt
              go_wp2_with fail
              go_meet
              exact ⟨s, A, F, d⟩
            · have y0 : ¬ (k : Int) < 3 := by omega
              have y1 : decide ((k : Int) < 3) = false := by simp; omega
              clear hlt
              by_cases hk2 : k < cl
              · go_wp2_with fail
                go_meet
                exact ⟨s, A, F, d⟩
              · go_wp2_with fail
                go_meet
                exact ⟨s, A, F, d⟩
      case rest =>
        clear A8 F8 d8
        obtain ⟨s9, A9, F9, d9⟩ := hcut
        go_upto_block 4 with fail
        go_cut [8] (fun _ wc => ∃ s, StAt wc b s ∧ Fr (fun k => k = b) w4 wc ∧ Dn s)
        case first =>
          go_wp2_with fail
          go_loopw [8] (fun i wr => ∃ (k : Nat) (s : St), k ≤ 8 ∧ i = .int .i64 k ∧ StAt wr b s ∧ Fr (fun k => k = b) w4 wr ∧ Dn s) (fun i _ => 8 - (intOf i).toNat)
          case atStart => exact ⟨0, s9, by omega, by go_num, A9, F9, d9⟩
          case round =>
            clear A9 F9 d9
            obtain ⟨k, s, k1, rfl, A, F, d⟩ := hrel
            have c8 := (hb4.fr F hXb).c8
            by_cases hlt : k < 8 ∧ k < tl
            · obtain ⟨x0, x1⟩ := hlt
              obtain ⟨ab, ao, x, y, rfl, hab, hv, hw, hx, hy⟩ := HD4.out.t k x1
              have cv := cell_fr F hv (show ¬ ab = b by omega)
              have cw := cell_fr F hw (show ¬ ab = b by omega)
              have ch := A.cH k x0
              have cl := A.cL k x0
              have fh := A.frozenAt (55 + k * 2)
              have fl := A.frozenAt (55 + k * 2 + 1)
              have y0 : (k : Int) < 8 := by omega
              go_wp2_with fail
              go_region
              all_goals
                go_wp2_with fail
                go_roundw
                case rel => exact ⟨k + 1, _, by omega, by go_num, ((A.setH k x0 _ (w_and _ _)).setL k x0 _ (w_and _ _)).drew, ((F.setCell (.inl rfl) _).setCell (.inl rfl) _).drew, ⟨d.r0, d.wt⟩⟩
                case measure => simp [intOf]; omega
            · by_cases hk : k < 8
              · have hk2 : ¬ k < tl := by omega
                have y0 : (k : Int) < 8 := by omega
                clear hlt
                go_wp2_with fail
                go_meet
                exact ⟨s, A, F, d⟩
              · have y0 : ¬ (k : Int) < 8 := by omega
                have y1 : decide ((k : Int) < 8) = false := by simp; omega
                clear hlt
                by_cases hk2 : k < tl
                · go_wp2_with fail
                  go_meet
                  exact ⟨s, A, F, d⟩
                · go_wp2_with fail
                  go_meet
                  exact ⟨s, A, F, d⟩
        case rest =>
          clear A9 F9 d9
          obtain ⟨s10, A, F, d⟩ := hcut
          have c6 := (hb4.fr F hXb).c6
          have hr := hr4.fr F hrb
          have ck := A.cLink
          have ct := A.cTime
          have fk := A.frozenAt 37
          have ft := A.frozenAt 72
          have T := ((Turned.refl A).setLink lk).setTime now hn
          have hr' := hr.fr T.fr hrb
          go_upto_region 25 with fail
          generalize (wc.setCell ⟨b, 37, none⟩ (.bool lk)).setCell ⟨b, 72, none⟩ (.int .i64 now) = W9 at T hr' ⊢
          have TA := T.at_
          go_step
          with_reducible refine wpList_loadSt (g := b) (s := (s10.setLink lk).setTime now) ?_ TA ?_
          · rfl
          with_reducible refine wpList_storeSt (g := r) (s := (s10.setLink lk).setTime now) ?_ ?_ hr' TA.ok ?_
          · rfl
          · rfl
          intro w9 t9
          go_wp2_with fail
          refine bodyPost_ret (results_st rfl rfl t9.at_) rfl ⟨(s10.setLink lk).setTime now, rfl, TA.ok, ⟨d.r0, d.wt⟩, rfl, Fr.newB ?_⟩
          exact ((g4.trans (F.new (by rintro k rfl; exact hwb))).trans (T.fr.new (by rintro k rfl; exact hwb))).trans (t9.fr.new (by rintro k rfl; exact hrw))
end
end Go.Proofs.Ytecddcbkgelcmaa

/-
  Chapter 14: the document's bus as far as a disk reaches: B1; Take of its event; New, of two pages.
-/
import Derived.Test.YtifhnidcdfpabaaBf14
namespace Go.Proofs.Ytifhnidcdfpabaa
open Go.RowKit
set_option linter.unusedVariables false
set_option linter.unusedSimpArgs false
section
variable {C : Nat → Value} {w w' : World} {m r y : Nat} {O : Nat → Prop} {p n : Nat} {u u2 : Value} {S S2 : DS}
set_option maxRecDepth 100000 in
set_option maxHeartbeats 1000000 in
theorem b1_any (now sq : Int) (h : Bu C w m r y O p n u S) (hn : n ≤ 64) (z0 : 0 ≤ S.z) (z1 : S.z < 4294967296) (t0 : 0 ≤ S.t) (t1 : S.t < 4294967296) :
    Calls Try.prog 25 #[.pointer (some ⟨m, 0, none⟩), .agg #[.int .i64 now, .int .i64 5, .int .i64 sq]] w (RetU (.tuple #[]) C w m r y O p n u (fiD p n S)) := by
  have hB : Below w.heap.size w (w.alloc (.cells #[.int .i64 now, .int .i64 5, .int .i64 sq] 42)) := (Below.refl _ _).alloc (Nat.le_refl _) _
  have h0 := h.below hB
  have hC0 : CD m m O u u w (w.alloc (.cells #[.int .i64 now, .int .i64 5, .int .i64 sq] 42)) := CD.of_below hB
  clear hB
  go_enter Try.func25, Try.ntmps25
  go_wp2_with fail
  with_reducible refine (rsector_any h0 hn z0 z1 t0 t1).mono ?_
  rintro e w1 ⟨rfl, u1, h1, hc1⟩
  go_wp2
  go_end0
  exact ⟨rfl, u1, h1, hC0.trans hc1⟩
/-- Take of what is due -/
theorem rtake_yes {now : Int} (h : Bu C w m r y O p n u S) (hd : duB now S = true) :
    Calls Try.prog 24 #[.pointer (some ⟨m, 1, none⟩), .int .i64 now] w (RetU (.tuple #[.agg #[.int .i64 (tmQ S), .int .i64 5, .int .i64 (sqQ S)], .bool true]) C w m r y O p n u { S with q := none }) := by
  obtain ⟨hq, hle⟩ := due_cases hd
  have hl := qL_len 5 S.q
  have hL : qL 5 S.q = [⟨tmQ S, 5, sqQ S⟩] := by rw [hq]; rfl
  have hw := h.wb
  refine (rtake_any now hw (by omega)).mono ?_
  rintro e w1 ⟨rfl, v2, hw2, hc⟩
  rw [hL] at hw2 ⊢
  have hB : dueB now [⟨tmQ S, 5, sqQ S⟩] = true := decide_eq_true hle
  unfold takeV takeE
  unfold takeL at hw2
  rw [hB] at hw2 ⊢
  exact ⟨rfl, v2, h.wheel (q := none) hw2 hc, CD.of_ch hc⟩
theorem rtake_no {now : Int} (h : Bu C w m r y O p n u S) (hd : duB now S = false) :
    Calls Try.prog 24 #[.pointer (some ⟨m, 1, none⟩), .int .i64 now] w (RetU (.tuple #[.agg #[.int .i64 0, .int .i64 0, .int .i64 0], .bool false]) C w m r y O p n u S) := by
  have hl := qL_len 5 S.q
  have hB : dueB now (qL 5 S.q) = false := by rw [due_q 5 now S, hd]
  refine (rtake_any now h.wb (by omega)).mono ?_
  rintro e w1 ⟨rfl, v2, hw2, hc⟩
  unfold takeV takeE
  unfold takeL at hw2
  rw [hB] at hw2 ⊢
  exact ⟨rfl, v2, h.wheel (q := S.q) (a := S.a) hw2 hc, CD.of_ch hc⟩
end
theorem rnew2 (w : World) : Calls Try.prog 38 #[.int .i64 2] w fun e w' => ∃ r O b, e = .returned (.pointer (some ⟨r, 0, none⟩)) ∧ w'.cell? ⟨r, 0, none⟩ = some (.slice (some ⟨b, 0, none⟩) 2048 2048) ∧ (∀ k, O k → w.heap.size ≤ k) ∧ Ra 81 w' r O 2 Z0 ∧ Below w.heap.size w w' :=
  (nnew_any 2 2 rfl w).mono fun e w' ⟨r, O, he, ho, hm, hb⟩ => by
    obtain ⟨b, m, t, hO, hM⟩ := hm
    exact ⟨r, O, b, he, hM.cell0, ho, ⟨b, m, t, hO, hM⟩, hb⟩
/-- the cells of a new bus -/
def bc (r : Nat) (x : Value) : Nat → Value
  | 0 => .pointer (some ⟨r, 0, none⟩)
  | 1 => .slice none 0 0
  | 2 => .int .i64 0
  | 3 => .int .u32 0
  | 4 => .int .u32 0
  | 5 => .int .u32 0
  | 6 => .int .u32 0
  | 7 => .int .u32 0
  | 8 => .int .u32 0
  | 9 => .slice none 0 0
  | 10 => .slice none 0 0
  | 11 => .bool false
  | 12 => .int .u32 0
  | 13 => .slice none 0 0
  | 14 => .int .u32 0
  | 15 => .int .u32 0
  | 16 => .int .u32 0
  | 17 => .int .u32 0
  | 18 => .int .u32 0
  | 19 => .int .u32 0
  | 20 => .int .u32 0
  | 21 => .int .u32 0
  | 22 => x
  | 23 => .int .u32 0
  | _ => .int .u32 0
theorem bus_new (w1 : World) (m r y n : Nat) (M : Nat → Prop) (D : Nat → Int) (hrow : w1.rowIs m 71 25 (bc r (.slice (some ⟨y, 0, none⟩) (64 * n) (64 * n)))) (hm : Ra 81 w1 r M 2 Z0) (hr : w1.rowIs y 5 (64 * n) (fun i => .int .u8 (D i))) (hD : ∀ i, 0 ≤ D i ∧ D i ≤ 255) (hy : ¬ M y) (hmm : ¬ M m) (hym : m ≠ y) :
    Bu (bc r (.slice (some ⟨y, 0, none⟩) (64 * n) (64 * n))) w1 m r y (fun k => M k ∨ k = y) 2 n (.slice none 0 0) (S00 Z0 D) := by
  refine ⟨⟨hrow.congr fun i hi => ?_, World.ownsRow_nil _ _ _ _, by simp [Value.ownBlock]⟩, ⟨M, rfl, hy, hm, hr, hD⟩, ?_⟩
  · have hi : i < 25 := hi
    have : i = 0 ∨ i = 1 ∨ i = 2 ∨ i = 3 ∨ i = 4 ∨ i = 5 ∨ i = 6 ∨ i = 7 ∨ i = 8 ∨ i = 9 ∨ i = 10 ∨ i = 11 ∨ i = 12 ∨ i = 13 ∨ i = 14 ∨ i = 15 ∨ i = 16 ∨ i = 17 ∨ i = 18 ∨ i = 19 ∨ i = 20 ∨ i = 21 ∨ i = 22 ∨ i = 23 ∨ i = 24 := by omega
    rcases this with rfl | rfl | rfl | rfl | rfl | rfl | rfl | rfl | rfl | rfl | rfl | rfl | rfl | rfl | rfl | rfl | rfl | rfl | rfl | rfl | rfl | rfl | rfl | rfl | rfl <;> rfl
  · rintro k (rfl | e)
    · rintro (e | e)
      · exact hmm e
      · exact hym e
    · cases e
/-- copy from nothing -/
theorem copy_nil (W : World) (ty : TypeId) (a : Option Addr) (n c : Nat) : (Builtin.copy_ #[28, 28] ty #[.slice a n c, .slice none 0 0]).run Try.prog W = .ok (.int .i64 0) W := by
  obtain ⟨i0, hi, hi3⟩ := Option.map_eq_some_iff.1 info_u8
  simp only [Prod.mk.injEq] at hi3
  obtain ⟨hz0, hz1, hz2⟩ := hi3
  simp [Builtin.copy_, run_underlying Try.underlying28, Builtin.lenOf, Builtin.firstCells, sizeOf, typeInfo, hi, hz1, storeCells]
  cases a <;> rfl
/-- a new bus with a disk of an image of len bytes f -/
def NewB (w : World) (len : Nat) (f : Nat → Int) (e : Ending) (w' : World) : Prop :=
  ∃ (C : Nat → Value) (m r y : Nat) (O : Nat → Prop), (∀ k, O k → w.heap.size ≤ k) ∧ w.heap.size ≤ m ∧ e = .returned (.pointer (some ⟨m, 0, none⟩)) ∧ Bu C w' m r y O 2 (nS len) (.slice none 0 0) (S00 Z0 (imD len f)) ∧ Below w.heap.size w w'
set_option maxRecDepth 100000 in
set_option maxHeartbeats 2000000 in
theorem bnew_any {Q : Nat → Prop} {w : World} (u : Value) (len : Nat) (f : Nat → Int) (hv : ByAt Q w u len f) (hl : len ≤ 4096) :
    Calls Try.prog 22 #[.int .i64 2, .slice none 0 0, u] w (NewB w len f) := by
  have HB := Lib.hid (fun j (hj : j < len) => hv.bounds j hj)
  have hm1 := make_m (nS len) (((len : Int) + 64 - 1) / 64 * 64) (by unfold nS; omega) (by unfold nS; omega)
  obtain ⟨sp, c, rfl, hcell⟩ := hv.one
  clear hcell
  go_enter Try.func22, Try.ntmps22
  go_wp2_with fail
  with_reducible refine (rnew2 w).mono ?_
  rintro e w1 ⟨r, O, b, rfl, hr, ho, hm, hb⟩
  have hrl := block_lt_of_cell hr
  have hcp := fun W a n c => copy_nil W 3 a n c
  have hs := hb.size
  have bs1 : Below w1.heap.size w1 (w1.alloc (.cells #[.pointer (some ⟨r, 0, none⟩), .slice none 0 0, .int .i64 0, .int .u32 0, .int .u32 0, .int .u32 0, .int .u32 0, .int .u32 0, .int .u32 0, .slice none 0 0, .slice none 0 0, .bool false, .int .u32 0, .slice none 0 0, .int .u32 0, .int .u32 0, .int .u32 0, .int .u32 0, .int .u32 0, .int .u32 0, .int .u32 0, .int .u32 0, .slice (some ⟨w1.heap.size + 1, 0, none⟩) (64 * nS len) (64 * nS len), .int .u32 0, .int .u32 0] 71)) := (Below.refl _ _).alloc (Nat.le_refl _) _
  have bs2 : Below w1.heap.size w1 ((w1.alloc (.cells #[.pointer (some ⟨r, 0, none⟩), .slice none 0 0, .int .i64 0, .int .u32 0, .int .u32 0, .int .u32 0, .int .u32 0, .int .u32 0, .int .u32 0, .slice none 0 0, .slice none 0 0, .bool false, .int .u32 0, .slice none 0 0, .int .u32 0, .int .u32 0, .int .u32 0, .int .u32 0, .int .u32 0, .int .u32 0, .int .u32 0, .int .u32 0, .slice (some ⟨w1.heap.size + 1, 0, none⟩) (64 * nS len) (64 * nS len), .int .u32 0, .int .u32 0] 71)).alloc (.cells (madeCells #[.int .u8 0] (64 * nS len)) 5)) := bs1.alloc bs1.size _
  have hsz : (w1.alloc (.cells #[.pointer (some ⟨r, 0, none⟩), .slice none 0 0, .int .i64 0, .int .u32 0, .int .u32 0, .int .u32 0, .int .u32 0, .int .u32 0, .int .u32 0, .slice none 0 0, .slice none 0 0, .bool false, .int .u32 0, .slice none 0 0, .int .u32 0, .int .u32 0, .int .u32 0, .int .u32 0, .int .u32 0, .int .u32 0, .int .u32 0, .int .u32 0, .slice (some ⟨w1.heap.size + 1, 0, none⟩) (64 * nS len) (64 * nS len), .int .u32 0, .int .u32 0] 71)).heap.size = w1.heap.size + 1 := Array.size_push ..
  have hR1 : (w1.alloc (.cells #[.pointer (some ⟨r, 0, none⟩), .slice none 0 0, .int .i64 0, .int .u32 0, .int .u32 0, .int .u32 0, .int .u32 0, .int .u32 0, .int .u32 0, .slice none 0 0, .slice none 0 0, .bool false, .int .u32 0, .slice none 0 0, .int .u32 0, .int .u32 0, .int .u32 0, .int .u32 0, .int .u32 0, .int .u32 0, .int .u32 0, .int .u32 0, .slice (some ⟨w1.heap.size + 1, 0, none⟩) (64 * nS len) (64 * nS len), .int .u32 0, .int .u32 0] 71)).rowIs w1.heap.size 71 25 (bc r (.slice (some ⟨w1.heap.size + 1, 0, none⟩) (64 * nS len) (64 * nS len))) := World.rowIs_alloc w1 _ _ _ fun i hi => by
    have hi : i < 25 := hi
    have : i = 0 ∨ i = 1 ∨ i = 2 ∨ i = 3 ∨ i = 4 ∨ i = 5 ∨ i = 6 ∨ i = 7 ∨ i = 8 ∨ i = 9 ∨ i = 10 ∨ i = 11 ∨ i = 12 ∨ i = 13 ∨ i = 14 ∨ i = 15 ∨ i = 16 ∨ i = 17 ∨ i = 18 ∨ i = 19 ∨ i = 20 ∨ i = 21 ∨ i = 22 ∨ i = 23 ∨ i = 24 := by omega
    rcases this with rfl | rfl | rfl | rfl | rfl | rfl | rfl | rfl | rfl | rfl | rfl | rfl | rfl | rfl | rfl | rfl | rfl | rfl | rfl | rfl | rfl | rfl | rfl | rfl | rfl <;> rfl
  have hR2 := hR1.alloc (.cells (madeCells #[.int .u8 0] (64 * nS len)) 5)
  have hY2 : ((w1.alloc (.cells #[.pointer (some ⟨r, 0, none⟩), .slice none 0 0, .int .i64 0, .int .u32 0, .int .u32 0, .int .u32 0, .int .u32 0, .int .u32 0, .int .u32 0, .slice none 0 0, .slice none 0 0, .bool false, .int .u32 0, .slice none 0 0, .int .u32 0, .int .u32 0, .int .u32 0, .int .u32 0, .int .u32 0, .int .u32 0, .int .u32 0, .int .u32 0, .slice (some ⟨w1.heap.size + 1, 0, none⟩) (64 * nS len) (64 * nS len), .int .u32 0, .int .u32 0] 71)).alloc (.cells (madeCells #[.int .u8 0] (64 * nS len)) 5)).rowIs (w1.heap.size + 1) 5 (64 * nS len) (fun _ => .int .u8 0) := by
    have := World.rowIs_made (w1.alloc (.cells #[.pointer (some ⟨r, 0, none⟩), .slice none 0 0, .int .i64 0, .int .u32 0, .int .u32 0, .int .u32 0, .int .u32 0, .int .u32 0, .int .u32 0, .slice none 0 0, .slice none 0 0, .bool false, .int .u32 0, .slice none 0 0, .int .u32 0, .int .u32 0, .int .u32 0, .int .u32 0, .int .u32 0, .int .u32 0, .int .u32 0, .int .u32 0, .slice (some ⟨w1.heap.size + 1, 0, none⟩) (64 * nS len) (64 * nS len), .int .u32 0, .int .u32 0] 71)) (.int .u8 0) (64 * nS len) 5
    rw [hsz] at this
    exact this
  have hm2 := hm.below bs2
  have hv2 := (hv.fr (S := fun _ => False) (Fr.of_below hb) (fun _ _ _ => id)).fr (S := fun _ => False) (Fr.of_below bs2) (fun _ _ _ => id)
  have HC : Hid (0 < min len (64 * nS len) → ∃ ad, sp = some ad ∧ ∀ j, j < min len (64 * nS len) → ((w1.alloc (.cells #[.pointer (some ⟨r, 0, none⟩), .slice none 0 0, .int .i64 0, .int .u32 0, .int .u32 0, .int .u32 0, .int .u32 0, .int .u32 0, .int .u32 0, .slice none 0 0, .slice none 0 0, .bool false, .int .u32 0, .slice none 0 0, .int .u32 0, .int .u32 0, .int .u32 0, .int .u32 0, .int .u32 0, .int .u32 0, .int .u32 0, .int .u32 0, .slice (some ⟨w1.heap.size + 1, 0, none⟩) (64 * nS len) (64 * nS len), .int .u32 0, .int .u32 0] 71)).alloc (.cells (madeCells #[.int .u8 0] (64 * nS len)) 5)).cell? (ad.add j) = some (.int .u8 (f j))) := by
    intro hp
    obtain ⟨sp2, c2, e2, h2⟩ := hv2.one
    injection e2 with e2 _ _
    obtain ⟨ad, ha, hc⟩ := h2 (by omega)
    exact ⟨ad, by rw [e2, ha], fun j hj => hc j (by omega)⟩
  have HL := Lib.hid hm.lt
  have hb2 : Below w.heap.size w ((w1.alloc (.cells #[.pointer (some ⟨r, 0, none⟩), .slice none 0 0, .int .i64 0, .int .u32 0, .int .u32 0, .int .u32 0, .int .u32 0, .int .u32 0, .int .u32 0, .slice none 0 0, .slice none 0 0, .bool false, .int .u32 0, .slice none 0 0, .int .u32 0, .int .u32 0, .int .u32 0, .int .u32 0, .int .u32 0, .int .u32 0, .int .u32 0, .int .u32 0, .slice (some ⟨w1.heap.size + 1, 0, none⟩) (64 * nS len) (64 * nS len), .int .u32 0, .int .u32 0] 71)).alloc (.cells (madeCells #[.int .u8 0] (64 * nS len)) 5)) := hb.trans (bs2.mono hs)
  clear hv2 bs1 bs2 hR1 hsz
  go_wp2_with (with_reducible refine wpList_copy_row rfl (.tmp 39) (.tmp 40) 28 28 rfl 5 Try.underlying28 size_u8 _ _ _ _ _ _ rfl rfl (w1.heap.size + 1) 0 (64 * nS len) 5 _ hY2 (min len (64 * nS len)) ?hmin (fun i => .int .u8 (f i)) ?hpos (by omega) (fun _ => rfl) ?_)
  case hmin => rfl
  case hpos => exact fun hp => HC.out hp
  intro w3 hr3 hf3
  have hne : w1.heap.size ≠ w1.heap.size + 1 := by omega
  have hR3 := hR2.of_block (hf3.block _ hR2.lt (by omega))
  have hU := bus_new w3 w1.heap.size r (w1.heap.size + 1) (nS len) O (imD len f) hR3 (hm2.fr hf3 (fun k hk e => by have := HL.out k hk; omega)) (im_row rfl hr3) (imD_bd HB.out) (fun e => by have := HL.out _ e; omega) (fun e => by have := HL.out _ e; omega) hne
  have hb3 : Below w.heap.size w w3 := hb2.trans (hf3.below hb2.size (fun k hk e => by omega))
  have HO : Hid (∀ k, (O k ∨ k = w1.heap.size + 1) → w.heap.size ≤ k) := by
    rintro k (e | e)
    · exact ho k e
    · omega
  go_wp2
  go_ret
  exact ⟨_, _, _, _, _, HO.out, hs, rfl, hU, hb3⟩
end Go.Proofs.Ytifhnidcdfpabaa

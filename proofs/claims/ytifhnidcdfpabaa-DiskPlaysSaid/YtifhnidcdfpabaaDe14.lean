/-
  Chapter 14: New of package disk.
-/
import Derived.Test.YtifhnidcdfpabaaDo14
namespace Go.Proofs.Ytifhnidcdfpabaa
open Go.RowKit
set_option linter.unusedVariables false
set_option linter.unusedSimpArgs false
section
variable {w : World} {g r : Nat} {M : Nat → Prop} {p : Nat}
/-- a disk of an image of len bytes f, in new memory -/
def NewD (w : World) (g r : Nat) (M : Nat → Prop) (p : Nat) (d : Int) (C : Nat → Int) (len : Nat) (f : Nat → Int) (e : Ending) (w' : World) : Prop :=
  ∃ x y, w.heap.size ≤ x ∧ w.heap.size ≤ y ∧ e = .returned (.pointer (some ⟨x, 0, none⟩)) ∧ Dk w' x g r y (fun k => M k ∨ k = y) p (nS len) d (.slice none 0 0) (S00 C (imD len f)) ∧ Below w.heap.size w w'
theorem make_m (m : Nat) (k : Int) (hk : k = (64 * m : Nat)) (hm : m ≤ 64) : ∀ w, (Instr.makeSlice 28 (.int .i64 k) (.int .i64 k)).run Try.prog w = .ok (.slice (some ⟨w.heap.size, 0, none⟩) (64 * m) (64 * m)) (w.alloc (.cells (madeCells #[.int .u8 0] (64 * m)) 5)) := by
  subst hk
  exact run_make_row' (P := Try.prog) 28 5 (.int .u8 0) 1 Try.underlying28 info_u8 rfl .i64 .i64 (64 * m) (by omega) (by omega)
/-- the row behind the copy is the disk's -/
theorem im_row {w1 : World} {y len n : Nat} {f : Nat → Int} (hn : n = min len (64 * nS len)) (hr : w1.rowIs y 5 (64 * nS len) (fun i => if i < n then .int .u8 (f i) else .int .u8 0)) : w1.rowIs y 5 (64 * nS len) (fun i => .int .u8 (imD len f i)) := by
  subst hn
  refine hr.congr fun i _ => ?_
  unfold imD
  by_cases h : i < min len (64 * nS len)
  · rw [if_pos h, if_pos h]
  · rw [if_neg h, if_neg h]
/-- what is left behind the copy and the box -/
theorem de_end {w1 : World} {C : Nat → Int} {d : Int} {len n : Nat} {f : Nat → Int} (hw : Wh 83 w g (.slice none 0 0) [] 0) (hm : Ra 85 w r M p C) (hs : ¬ M g) (hB : ∀ j, j < len → 0 ≤ f j ∧ f j ≤ 255) (hn : n = min len (64 * nS len)) {o : Obj}
    (hr : w1.rowIs w.heap.size 5 (64 * nS len) (fun i => if i < n then .int .u8 (f i) else .int .u8 0)) (hf : Fr (fun k => k = w.heap.size) (w.alloc o) w1) :
    Dk (w1.alloc (.cells #[.int .i64 d, .pointer (some ⟨g, 0, none⟩), .pointer (some ⟨r, 0, none⟩), .slice (some ⟨w.heap.size, 0, none⟩) (64 * nS len) (64 * nS len), .int .u32 0, .int .u32 0, .int .u32 0, .int .u32 0] 87)) w1.heap.size g r w.heap.size (fun k => M k ∨ k = w.heap.size) p (nS len) d (.slice none 0 0) (S00 C (imD len f)) ∧ Below w.heap.size w (w1.alloc (.cells #[.int .i64 d, .pointer (some ⟨g, 0, none⟩), .pointer (some ⟨r, 0, none⟩), .slice (some ⟨w.heap.size, 0, none⟩) (64 * nS len) (64 * nS len), .int .u32 0, .int .u32 0, .int .u32 0, .int .u32 0] 87)) ∧ w.heap.size ≤ w1.heap.size := by
  have f0 : Fr (fun _ => False) w w1 := fr_new hf
  have hgl := hw.lt g (.inl rfl)
  have hs1 := f0.size
  refine ⟨dk_new d (hw.fr f0 fun _ _ => id) (hm.fr f0 fun _ _ => id) hs (im_row hn hr) (imD_bd hB) (fun e => Nat.lt_irrefl _ (hm.lt _ e)) (by omega), (f0.below (Nat.le_refl _) (fun k _ h => h.elim)).alloc hs1 _, hs1⟩
set_option maxRecDepth 100000 in
set_option maxHeartbeats 1000000 in
theorem dnew_any {Q : Nat → Prop} {C : Nat → Int} (d : Int) (u : Value) (len : Nat) (f : Nat → Int) (hw : Wh 83 w g (.slice none 0 0) [] 0) (hm : Ra 85 w r M p C) (hs : ¬ M g) (hv : ByAt Q w u len f) (hl : len ≤ 10000) :
    Calls Try.prog 10 #[.int .i64 d, .pointer (some ⟨g, 0, none⟩), .pointer (some ⟨r, 0, none⟩), u] w (NewD w g r M p d C len f) := by
  have HB := Lib.hid (fun j (hj : j < len) => hv.bounds j hj)
  have hrow := World.rowIs_made w (.int .u8 0) (64 * nS len) 5
  have hf0 : Fr (fun _ => False) w (w.alloc (.cells (madeCells #[.int .u8 0] (64 * nS len)) 5)) := Fr.of_below ((Below.refl _ _).alloc (Nat.le_refl _) _)
  have hv2 := hv.fr hf0 (fun _ _ _ => id)
  obtain ⟨sp, c, rfl, hcell⟩ := hv.one
  have HC : Hid (0 < min len (64 * nS len) → ∃ ad, sp = some ad ∧ ∀ j, j < min len (64 * nS len) → (w.alloc (.cells (madeCells #[.int .u8 0] (64 * nS len)) 5)).cell? (ad.add j) = some (.int .u8 (f j))) := by
    intro hp
    obtain ⟨sp2, c2, e2, h2⟩ := hv2.one
    injection e2 with e2 _ _
    obtain ⟨ad, ha, hc⟩ := h2 (by omega)
    exact ⟨ad, by rw [e2, ha], fun j hj => hc j (by omega)⟩
  clear hcell hv2
  by_cases h4 : len ≤ 4096
  · have hm1 := make_m (nS len) (((len : Int) + 64 - 1) / 64 * 64) (by unfold nS; omega) (by unfold nS; omega)
    go_enter Try.func10, Try.ntmps10
    go_wp2_with (with_reducible refine wpList_copy_row rfl (.tmp 26) (.tmp 27) 28 28 rfl 5 Try.underlying28 size_u8 _ _ _ _ _ _ rfl rfl w.heap.size 0 (64 * nS len) 5 _ hrow (min len (64 * nS len)) ?hmin (fun i => .int .u8 (f i)) ?hpos (by omega) (fun _ => rfl) ?_)
    case hmin => rfl
    case hpos => exact fun hp => HC.out hp
    intro w1 hr1 hf1
    obtain ⟨q1, q2, q3⟩ := de_end (d := d) hw hm hs HB.out rfl hr1 hf1
    go_wp2
    go_ret
    exact ⟨_, _, q3, Nat.le_refl _, rfl, q1, q2⟩
  · have hm1 := make_m (nS len) 4096 (by unfold nS; omega) (by unfold nS; omega)
    go_enter Try.func10, Try.ntmps10
    go_wp2_with (with_reducible refine wpList_copy_row rfl (.tmp 26) (.tmp 27) 28 28 rfl 5 Try.underlying28 size_u8 _ _ _ _ _ _ rfl rfl w.heap.size 0 (64 * nS len) 5 _ hrow (min len (64 * nS len)) ?hmin2 (fun i => .int .u8 (f i)) ?hpos2 (by omega) (fun _ => rfl) ?_)
    case hmin2 => rfl
    case hpos2 => exact fun hp => HC.out hp
    intro w1 hr1 hf1
    obtain ⟨q1, q2, q3⟩ := de_end (d := d) hw hm hs HB.out rfl hr1 hf1
    go_wp2
    go_ret
    exact ⟨_, _, q3, Nat.le_refl _, rfl, q1, q2⟩
end
end Go.Proofs.Ytifhnidcdfpabaa

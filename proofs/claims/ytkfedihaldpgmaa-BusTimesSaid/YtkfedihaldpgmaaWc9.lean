/-
  Chapter 9: drop, Cancel, Take, All of package wheel.
-/
import Derived.Test.YtkfedihaldpgmaaWd9
namespace Go.Proofs.Ytkfedihaldpgmaa
open Go.RowKit
set_option linter.unusedVariables false
set_option linter.unusedSimpArgs false
section
variable {w : World} {g : Nat} {v : Value} {L : List Ev} {a : Int}
theorem Ch.refl (g : Nat) (v : Value) (w : World) : Ch g v v w w := ⟨Fr.refl _ _, fun _ h => .inl h⟩
/-- the slice is stored: the wheel holds what it shows -/
theorem wh_store {T : TypeId} {w1 : World} {b c : Nat} {L2 : List Ev} (h : Wh T w g (.slice (some ⟨b, 0, none⟩) L.length c) L a) (hO : Ow w1 (.slice (some ⟨b, 0, none⟩) L2.length c) L2) (hF : Fr (fun k => k = b) w w1) :
    Wh T (w1.setCell ⟨g, 0, none⟩ (.slice (some ⟨b, 0, none⟩) L2.length c)) g (.slice (some ⟨b, 0, none⟩) L2.length c) L2 a ∧ Ch g (.slice (some ⟨b, 0, none⟩) L.length c) (.slice (some ⟨b, 0, none⟩) L2.length c) w (w1.setCell ⟨g, 0, none⟩ (.slice (some ⟨b, 0, none⟩) L2.length c)) := by
  have hne : g ≠ b := fun e => h.ne (by rw [e]; rfl)
  refine ⟨Wh.setV (h.st.of_block (hF.block _ h.st.lt hne)) hO (fun e => h.ne e), ⟨?_, fun k hk => .inl hk⟩⟩
  exact (hF.mono (S' := Own g (.slice (some ⟨b, 0, none⟩) L.length c)) (fun k e => .inr (by rw [e]; rfl))).setCell (x := ⟨g, 0, none⟩) (.inl (.inl rfl)) _

set_option maxHeartbeats 1000000 in
theorem drop_any {i : Nat} (h : Wh 82 w g v L a) (hi : i < L.length) (hl : L.length ≤ 1000000) :
    Calls Try.prog 37 #[.pointer (some ⟨g, 0, none⟩), .int .i64 i] w (RetW 82 (.tuple #[]) w g v (L.eraseIdx i) a) := by
  have c0 := h.c0
  obtain ⟨A, c, rfl, hc, hcm, hz, hA⟩ := h.ev.form
  obtain ⟨b, rfl⟩ := hA (by omega)
  clear hA hz
  have hne : g ≠ b := fun e => h.ne (by rw [e]; rfl)
  go_enter Try.func37, Try.ntmps37
  go_wp2_with fail
  refine (delete_any h.ev hi hl).mono ?_
  rintro e w1 ⟨rfl, hO, hF⟩
  obtain ⟨hw, hch⟩ := wh_store h hO hF
  have k0 := cell_fr hF c0 hne
  have z0 := (h.st.of_block (hF.block _ h.st.lt hne)).frozen 0
  go_wp2
  go_end0
  exact ⟨rfl, _, hw, hch⟩

theorem delF_none {d : Int} (h : ¬ ixD d L < L.length) : delF d L = L := by unfold delF; exact List.eraseIdx_of_length_le (by omega)
set_option maxHeartbeats 1000000 in
theorem cancel_any (d : Int) (h : Wh 82 w g v L a) (hl : L.length ≤ 1000000) :
    Calls Try.prog 69 #[.pointer (some ⟨g, 0, none⟩), .int .i64 d] w (RetW 82 (.bool (cancB d L)) w g v (delF d L) a) := by
  by_cases hd : ixD d L < L.length
  · have HF := Lib.hid (fdV_hit hd)
    obtain ⟨k, HK⟩ : ∃ k, Hid (ixD d L = k) := ⟨_, rfl⟩
    have hk : k < L.length := by rw [← HK.out]; exact hd
    have HC : Hid (cancB d L = true) := by show _ = _; unfold cancB; exact decide_eq_true hd
    have HD : Hid (delF d L = L.eraseIdx k) := by show _ = _; unfold delF; rw [HK.out]
    clear hd
    have hne : ((k : Int) == -1) = false := beq_false_of_ne (by omega)
    go_enter Try.func69, Try.ntmps69
    go_wp2_with fail
    refine (find_any d h hl).mono ?_
    rintro e w1 ⟨rfl, hb⟩
    rw [HF.out, HK.out]
    go_wp2_with fail
    refine (drop_any (h.below hb) hk hl).mono ?_
    rintro e w2 ⟨rfl, v2, hw, hch⟩
    go_wp2
    go_ret
    exact ⟨by rw [HC.out]; rfl, v2, by rw [HD.out]; exact hw, (Ch.of_below hb).trans hch⟩
  · have HF := Lib.hid (fdV_none hd)
    have HD := Lib.hid (delF_none hd)
    have HC : Hid (cancB d L = false) := by show _ = _; unfold cancB; exact decide_eq_false hd
    clear hd
    go_enter Try.func69, Try.ntmps69
    go_wp2_with fail
    refine (find_any d h hl).mono ?_
    rintro e w1 ⟨rfl, hb⟩
    rw [HF.out]
    go_wp2
    go_ret
    exact ⟨by rw [HC.out]; rfl, v, by rw [HD.out]; exact h.below hb, Ch.of_below hb⟩

/-- what Take answers -/
def takeV (now : Int) (L : List Ev) : Value := .tuple #[(takeE now L).agg, .bool (dueB now L)]
def three (x : Ev) : Nat → Value
  | 0 => .int .i64 x.t
  | 1 => .int .i64 x.d
  | _ => .int .i64 x.s
theorem ev_row (w : World) (x : Ev) : (w.alloc (.cells #[.int .i64 x.t, .int .i64 x.d, .int .i64 x.s] 50)).rowIs w.heap.size 50 3 (three x) :=
  World.rowIs_alloc w _ _ _ fun i hi => by
    have : i = 0 ∨ i = 1 ∨ i = 2 := by have : i < 3 := hi; omega
    rcases this with rfl | rfl | rfl <;> rfl
theorem fr3 (w : World) (X : Nat) (u0 u1 u2 : Value) : Fr (fun k => k = X) w (((w.setCell ⟨X, 0, none⟩ u0).setCell ⟨X, 1, none⟩ u1).setCell ⟨X, 2, none⟩ u2) :=
  ((Fr.setCell (x := ⟨X, 0, none⟩) (Fr.refl (fun k => k = X) w) (.inl rfl) u0).setCell (x := ⟨X, 1, none⟩) (.inl rfl) u1).setCell (x := ⟨X, 2, none⟩) (.inl rfl) u2
/-- the result's box is written behind a call that turned the wheel -/
theorem box_end {T : TypeId} {w1 w2 : World} {v v2 : Value} {L L2 : List Ev} {a a2 : Int} (h : Wh T w g v L a) (hw : Wh T w2 g v2 L2 a2) (hch : Ch g v v2 w1 w2) (hs : w.heap.size < w1.heap.size) (hf : Fr (Own g v) w w1) (u0 u1 u2 : Value) :
    Wh T (((w2.setCell ⟨w.heap.size, 0, none⟩ u0).setCell ⟨w.heap.size, 1, none⟩ u1).setCell ⟨w.heap.size, 2, none⟩ u2) g v2 L2 a2 ∧ Ch g v v2 w (((w2.setCell ⟨w.heap.size, 0, none⟩ u0).setCell ⟨w.heap.size, 1, none⟩ u1).setCell ⟨w.heap.size, 2, none⟩ u2) := by
  have hF := fr3 w2 w.heap.size u0 u1 u2
  generalize ((w2.setCell ⟨w.heap.size, 0, none⟩ u0).setCell ⟨w.heap.size, 1, none⟩ u1).setCell ⟨w.heap.size, 2, none⟩ u2 = W at hF ⊢
  have hg := h.lt g (.inl rfl)
  have hv2 : ∀ k, v2.ownBlock = some k → v.ownBlock = some k ∨ w.heap.size < k := fun k hk => by
    rcases hch.nw k hk with e | e
    · exact .inl e
    · exact .inr (by omega)
  refine ⟨hw.fr hF ?_, ⟨?_, fun k hk => ?_⟩⟩
  · rintro k (e | e) rfl
    · omega
    · rcases hv2 _ e with e | e
      · have := h.lt _ (.inr e); omega
      · omega
  · have h2 := hf.trans hch.fr
    refine ⟨hF.os.trans h2.os, hF.tape.trans h2.tape, hF.output.trans h2.output, Nat.le_trans h2.size hF.size, fun i hi hn => ?_⟩
    exact (hF.block i (Nat.lt_of_lt_of_le hi h2.size) (by omega)).trans (h2.block i hi hn)
  · rcases hv2 k hk with e | e
    · exact .inl e
    · exact .inr (by omega)
set_option maxHeartbeats 1000000 in
theorem take_any (now : Int) (h : Wh 82 w g v L a) (hl : L.length ≤ 1000000) :
    Calls Try.prog 19 #[.pointer (some ⟨g, 0, none⟩), .int .i64 now] w (RetW 82 (takeV now L) w g v (takeL now L) a) := by
  have hb0 : Below w.heap.size w (w.alloc (.cells #[.int .i64 0, .int .i64 0, .int .i64 0] 50)) := (Below.refl _ _).alloc (Nat.le_refl _) _
  have hr0 := ev_row w ⟨0, 0, 0⟩
  have h0 := h.below hb0
  cases hD : dueB now L
  · have HV : Hid (takeV now L = .tuple #[.agg #[.int .i64 0, .int .i64 0, .int .i64 0], .bool false]) := by show _ = _; unfold takeV takeE; rw [hD]; rfl
    have HL : Hid (takeL now L = L) := by show _ = _; unfold takeL; rw [hD]; rfl
    cases L with
    | nil =>
      go_enter Try.func19, Try.ntmps19
      go_wp2_with fail
      refine (next_any h0).mono ?_
      rintro e w1 ⟨rfl, rfl⟩
      go_wp2
      refine bodyPost_ret (by simp [results, go_sem]; rfl) rfl ⟨by rw [HV.out], v, ?_⟩
      rw [HL.out]
      exact ⟨h0, Ch.of_below hb0⟩
    | cons x r =>
      have hx : now < x.t := by simpa [dueB] using hD
      go_enter Try.func19, Try.ntmps19
      go_wp2_with fail
      refine (next_any h0).mono ?_
      rintro e w1 ⟨rfl, rfl⟩
      rw [show nextV (x :: r) = x.t from rfl, show decide (0 < (x :: r).length) = true by simp]
      go_wp2
      refine bodyPost_ret (by simp [results, go_sem]; rfl) rfl ⟨by rw [HV.out], v, ?_⟩
      rw [HL.out]
      exact ⟨h0, Ch.of_below hb0⟩
  · cases L with
    | nil => cases hD
    | cons x r =>
      have hx : x.t ≤ now := by simpa [dueB] using hD
      have HV : Hid (takeV now (x :: r) = .tuple #[.agg #[.int .i64 x.t, .int .i64 x.d, .int .i64 x.s], .bool true]) := by show _ = _; unfold takeV takeE; rw [hD]; rfl
      have HL : Hid (takeL now (x :: r) = (x :: r).eraseIdx 0) := by show _ = _; unfold takeL; rw [hD]; rfl
      clear hD
      have c0 := h0.c0
      have hb1 := hb0.alloc hb0.size (.cells #[.int .i64 x.t, .int .i64 x.d, .int .i64 x.s] 50)
      have h1 := h.below hb1
      have hr1 := ev_row (w.alloc (.cells #[.int .i64 0, .int .i64 0, .int .i64 0] 50)) x
      have e1 : (w.alloc (.cells #[.int .i64 0, .int .i64 0, .int .i64 0] 50)).heap.size = w.heap.size + 1 := by simp
      rw [e1] at hr1
      have hr01 := hr0.alloc (.cells #[.int .i64 x.t, .int .i64 x.d, .int .i64 x.s] 50)
      have hn0 : ¬ Own g v w.heap.size := fun e => by have := h.lt _ e; omega
      have hn1 : ¬ Own g v (w.heap.size + 1) := fun e => by have := h.lt _ e; omega
      obtain ⟨A, c, rfl, hc, hcm, hz, hA⟩ := h.ev.form
      obtain ⟨b, rfl⟩ := hA (by simp)
      clear hA hz
      obtain ⟨q0, q1, q2⟩ := h0.ev.at (i := 0) (by simp)
      rw [Nat.zero_mul] at q0 q1 q2
      simp only [List.getElem_cons_zero, Nat.zero_add] at q0 q1 q2
      go_enter Try.func19, Try.ntmps19
      go_wp2_with fail
      refine (next_any h0).mono ?_
      rintro e w1 ⟨rfl, rfl⟩
      rw [show nextV (x :: r) = x.t from rfl, show decide (0 < (x :: r).length) = true by simp]
      go_wp2_with fail
      refine (drop_any (i := 0) h1 (by simp) hl).mono ?_
      rintro e w2 ⟨rfl, v2, hw, hch⟩
      have k1 := hr1.of_block (hch.fr.block _ hr1.lt hn1)
      have k0 := hr01.of_block (hch.fr.block _ hr01.lt hn0)
      have m0 := k1.cell (i := 0) (by omega)
      have m1 := k1.cell (i := 1) (by omega)
      have m2 := k1.cell (i := 2) (by omega)
      have z0 := k0.frozen 0
      have z1 := k0.frozen 1
      have z2 := k0.frozen 2
      have y0 := k0.cell (i := 0) (by omega)
      have y1 := k0.cell (i := 1) (by omega)
      have y2 := k0.cell (i := 2) (by omega)
      simp only [three] at m0 m1 m2 y0 y1 y2
      go_wp2
      refine bodyPost_ret (v := .tuple #[.agg #[.int .i64 x.t, .int .i64 x.d, .int .i64 x.s], .bool true]) (by simp [results, Try.results19, go_sem, y0, y1, y2]) rfl ⟨by rw [HV.out], v2, ?_⟩
      rw [HL.out]
      have hs : w.heap.size < w2.heap.size := k0.lt
      exact box_end h hw hch (by simp; omega) ((((Fr.refl (fun _ => False) w).alloc _).alloc _).mono (S' := Own g (.slice (some ⟨b, 0, none⟩) (r.length + 1) c)) (fun _ e => e.elim)) _ _ _

end
end Go.Proofs.Ytkfedihaldpgmaa

/-
  Chapter 2: Bytes, of the program's memory and of the document's.
-/
import Derived.Test.YtifhnidcdfpabaaRp13
namespace Go.Proofs.Ytifhnidcdfpabaa
open Go.RowKit
set_option linter.unusedVariables false

/-- how many bytes Bytes gives -/
def cnt (p : Nat) (a n : Int) : Nat := match inB p a n with
  | true => n.toNat
  | false => 0
/-- what Bytes leaves: the bytes in new memory -/
def BytesP (w : World) (p : Nat) (C : Nat → Int) (a n : Int) (e : Ending) (w' : World) : Prop :=
  ∃ v, e = .returned (.tuple #[v, .bool (inB p a n)]) ∧ ByAt (fun k => w.heap.size ≤ k) w' v (cnt p a n) (fun i => C (a.toNat + i)) ∧ Fr (fun _ => False) w w'
theorem byAt_own {w : World} {base : Nat} {v : Value} {n : Nat} {f : Nat → Int} (h : w.ownsRow base 5 1 v n ((List.range n).map fun i => Value.int .u8 (f i))) (hf : ∀ i, 0 ≤ f i ∧ f i ≤ 255) : ByAt (fun k => base ≤ k) w v n f := by
  rcases h.2 with ⟨rfl, rfl⟩ | ⟨g, cap, cur, rfl, hb, hh, hn, _⟩
  · exact .inl ⟨0, rfl, rfl⟩
  · refine .inr ⟨⟨g, 0, none⟩, cap, rfl, hn, fun _ => ⟨rfl, hb⟩, fun i hi => ⟨?_, hf i⟩⟩
    have := h.cellAt i (by omega)
    rw [add_none, Nat.zero_add, this, List.getElem?_map, List.getElem?_range hi]
    rfl

theorem fr_new {w w' : World} {o : Obj} (h : Fr (fun k => k = w.heap.size) (w.alloc o) w') : Fr (fun _ => False) w w' :=
  ⟨h.os, h.tape, h.output, by have := h.size; simp at this; omega, fun i hi _ => (h.block i (by simp; omega) (by omega)).trans (Below.heap_alloc _ _ _ hi)⟩
section
variable {w : World} {g b m t p : Nat} {C : Nat → Int} {M D : Nat → Bool}
set_option maxHeartbeats 1000000 in
theorem bytes_any (a n : Int) (h : Mem 85 w g b m t p C M D) (h0 : 0 ≤ a) (h1 : a < 4294967296) (n0 : -9223372036854775808 ≤ n) (n1 : n ≤ 9223372036854775807) :
    Calls Try.prog 17 #[.pointer (some ⟨g, 0, none⟩), .int .u32 a, .int .i64 n] w (BytesP w p C a n) := by
  have p2 := h.p2
  have c0 := h.cell0
  cases hi : inB p a n
  · have HI := Lib.hid hi
    clear hi
    go_enter Try.func17, Try.ntmps17
    go_wp2_with fail
    refine (holds_any _ _ h (by omega) (by omega) (by omega) (by omega)).mono ?_
    rintro e w' ⟨rfl, rfl⟩
    rw [HI.out]
    go_wp2
    go_ret2
    exact ⟨_, by rw [HI.out]; rfl, .inl ⟨0, rfl, by simp only [cnt, HI.out]⟩, Fr.refl _ _⟩
  · have HI := Lib.hid hi
    have hin : 0 ≤ n ∧ a + n ≤ 1024 * p := by simpa [inB] using hi
    clear hi
    obtain ⟨hn, hin⟩ := hin
    obtain ⟨A, rfl⟩ : ∃ A : Nat, a = A := ⟨a.toNat, by omega⟩
    obtain ⟨N, rfl⟩ : ∃ N : Nat, n = N := ⟨n.toNat, by omega⟩
    have hin2 : A + N ≤ 1024 * p := by omega
    clear n0 n1 hn
    have hm1 := run_make_row' (P := Try.prog) 28 5 (.int .u8 0) 1 Try.underlying28 info_u8 rfl .i64 .i64 N (by omega) (by omega)
    have lg := h.st.lt
    have lb := h.hb.lt
    have hw := World.rowIs_made w (.int .u8 0) N 5
    have h2 := h.alloc (.cells (madeCells #[.int .u8 0] N) 5)
    have c0' := h2.cell0
    by_cases hA : A = 1024 * p
    · obtain rfl : N = 0 := by omega
      rw [← hA] at c0 c0'
      clear hA hin
      simp only [Int.natCast_zero] at hm1
      go_enter Try.func17, Try.ntmps17
      go_wp2_with fail
      refine (holds_any _ _ h (by omega) (by omega) (by omega) (by omega)).mono ?_
      rintro e w' ⟨rfl, rfl⟩
      (have HJ := HI.out; simp only [Int.natCast_zero] at HJ; rw [HJ])
      go_wp2_with (with_reducible refine wpList_copy_row rfl (.tmp 16) (.tmp 22) 28 28 rfl 5 Try.underlying28 size_u8 _ _ _ _ _ _ rfl rfl w.heap.size 0 0 5 _ hw 0 ?hmin (fun i => .int .u8 (C (A + i))) ?hpos (by omega) (fun _ => rfl) ?_)
      try (case hmin => simp)
      try (case hpos => intro hp; exact absurd hp (by omega))
      intro w1 hr1 hf1
      go_wp2
      go_ret2
      exact ⟨_, by rw [HI.out]; rfl, .inr ⟨⟨w.heap.size, 0, none⟩, 0, by simp only [cnt, HI.out]; rfl, by simp only [cnt, HI.out]; simp, fun _ => ⟨rfl, Nat.le_refl _⟩, fun i hi => by simp only [cnt, HI.out] at hi; exact absurd hi (Nat.not_lt_zero _)⟩, fr_new hf1⟩
    · have hA2 : A < 1024 * p := by omega
      clear hA
      go_enter Try.func17, Try.ntmps17
      go_wp2_with fail
      refine (holds_any _ _ h (by omega) (by omega) (by omega) (by omega)).mono ?_
      rintro e w' ⟨rfl, rfl⟩
      rw [HI.out]
      go_wp2_with (with_reducible refine wpList_copy_row rfl (.tmp 16) (.tmp 22) 28 28 rfl 5 Try.underlying28 size_u8 _ _ _ _ _ _ rfl rfl w.heap.size 0 N 5 _ hw N ?hmin2 (fun i => .int .u8 (C (A + i))) ?hpos2 (by omega) (fun _ => rfl) ?_)
      case hmin2 => exact (Nat.min_eq_right (by omega)).symm
      case hpos2 => intro _ j hj; exact h.hb.cell (i := A + j) (by omega)
      intro w1 hr1 hf1
      go_wp2
      go_ret2
      exact ⟨_, by rw [HI.out]; rfl, by
        have e : cnt p A N = N := by simp [cnt, HI.out]
        rw [e]
        refine .inr ⟨⟨w.heap.size, 0, none⟩, N, rfl, Nat.le_refl _, fun _ => ⟨rfl, Nat.le_refl _⟩, fun i hi => ⟨?_, h.c0 _, h.c1 _⟩⟩
        rw [add_none, Nat.zero_add, hr1.cell hi]
        simp [hi], fr_new hf1⟩

set_option maxHeartbeats 1000000 in
theorem rbytes_any (a n : Int) (h : Mem 81 w g b m t p C M D) (h0 : 0 ≤ a) (h1 : a < 4294967296) (n0 : -9223372036854775808 ≤ n) (n1 : n ≤ 9223372036854775807) :
    Calls Try.prog 53 #[.pointer (some ⟨g, 0, none⟩), .int .u32 a, .int .i64 n] w (BytesP w p C a n) := by
  have p2 := h.p2
  have c0 := h.cell0
  cases hi : inB p a n
  · have HI := Lib.hid hi
    clear hi
    go_enter Try.func53, Try.ntmps53
    go_wp2_with fail
    refine (rin_any _ _ h (by omega) (by omega) (by omega) (by omega)).mono ?_
    rintro e w' ⟨rfl, rfl⟩
    rw [HI.out]
    go_wp2
    go_ret2
    exact ⟨_, by rw [HI.out]; rfl, .inl ⟨0, rfl, by simp only [cnt, HI.out]⟩, Fr.refl _ _⟩
  · have HI := Lib.hid hi
    have hin : 0 ≤ n ∧ a + n ≤ 1024 * p := by simpa [inB] using hi
    clear hi
    obtain ⟨hn, hin⟩ := hin
    obtain ⟨A, rfl⟩ : ∃ A : Nat, a = A := ⟨a.toNat, by omega⟩
    obtain ⟨N, rfl⟩ : ∃ N : Nat, n = N := ⟨n.toNat, by omega⟩
    have hin2 : A + N ≤ 1024 * p := by omega
    clear n0 n1 hn
    obtain ⟨i0, hi, hi3⟩ := Option.map_eq_some_iff.1 info_u8
    simp only [Prod.mk.injEq] at hi3
    obtain ⟨hz0, hz1, hz2⟩ := hi3
    have HII := Lib.hid hi
    have HZ0 := Lib.hid hz0
    have HZ1 := Lib.hid hz1
    have HZ2 := Lib.hid hz2
    clear hi hz0 hz1 hz2
    have lg := h.st.lt
    have lb := h.hb.lt
    have h2 := h.alloc (.cells #[] 5)
    have c0' := h2.cell0
    have hown : (w.alloc (.cells #[] 5)).ownsRow w.heap.size 5 1 (.slice (some ⟨w.heap.size, 0, none⟩) 0 0) 0 [] := World.ownsRow_lit w #[] 0 (Nat.le_refl _) (by unfold maxLen; omega) rfl
    have hsz2 : w.heap.size ≤ (w.alloc (.cells #[] 5)).heap.size := by simp
    by_cases hA : A = 1024 * p
    · obtain rfl : N = 0 := by omega
      rw [← hA] at c0 c0'
      clear hA hin
      go_enter Try.func53, Try.ntmps53
      go_wp2_with fail
      refine (rin_any _ _ h (by omega) (by omega) (by omega) (by omega)).mono ?_
      rintro e w' ⟨rfl, rfl⟩
      (have HJ := HI.out; simp only [Int.natCast_zero] at HJ; rw [HJ])
      go_wp2_with (at_builtin; refine wpList_append_own_at _ rfl (.tmp 13) (.tmp 23) 28 rfl w.heap.size 5 i0 (.int .u8 0) 1 1 Try.underlying28 HII.out HZ0.out HZ1.out HZ2.out rfl (by decide) _ _ _ rfl hown _ 0 _ [] rfl rfl (by intro j u hj; simp at hj) (by intro u hu; simp at hu) (by unfold maxLen; omega) (by omega) hsz2 ?_)
      intro v1 w1 hown1 hgrow1 _ _
      have hf1 := fr_of_grown hgrow1
      go_wp2
      go_ret2
      refine ⟨_, by rw [HI.out]; rfl, ?_, fr_new (hf1.mono fun k hk => by simpa [Value.ownBlock] using hk)⟩
      have e : cnt p A 0 = 0 := by simp only [cnt]; split <;> rfl
      show ByAt _ _ _ (cnt p A 0) _
      rw [e]
      exact byAt_own (by simpa using hown1) (fun i => ⟨h.c0 _, h.c1 _⟩)
    · have hA2 : A < 1024 * p := by omega
      clear hA
      go_enter Try.func53, Try.ntmps53
      go_wp2_with fail
      refine (rin_any _ _ h (by omega) (by omega) (by omega) (by omega)).mono ?_
      rintro e w' ⟨rfl, rfl⟩
      rw [HI.out]
      go_wp2_with (at_builtin; refine wpList_append_own_at _ rfl (.tmp 13) (.tmp 23) 28 rfl w.heap.size 5 i0 (.int .u8 0) 1 1 Try.underlying28 HII.out HZ0.out HZ1.out HZ2.out rfl (by decide) _ _ _ rfl hown ⟨b, A, none⟩ N (1024 * p - A) ((List.range N).map fun i => Value.int .u8 (C (A + i))) ?hx (by simp) ?hnews (by intro u hu; simp at hu; obtain ⟨j, _, rfl⟩ := hu; rfl) (by unfold maxLen; omega) (by omega) hsz2 ?_)
      case hx =>
        have e : A + N - A = N := by omega
        first | rfl | (show Value.slice (some ⟨b, A, none⟩) (A + N - A) _ = _; rw [e])
      case hnews =>
        intro j u hj
        have hjn : j < N := by
          rcases Nat.lt_or_ge j N with q | q
          · exact q
          · rw [List.getElem?_eq_none (by simpa using q)] at hj; cases hj
        rw [List.getElem?_map, List.getElem?_range hjn] at hj
        have e : Value.int .u8 (C (A + j)) = u := by simpa using hj
        rw [← e, show (⟨b, A, none⟩ : Addr).add j = ⟨b, A + j, none⟩ by unfold Addr.add; split <;> simp_all]
        exact h2.hb.cell (i := A + j) (by omega)
      intro v1 w1 hown1 hgrow1 _ _
      have hf1 := fr_of_grown hgrow1
      go_wp2
      go_ret2
      refine ⟨_, by rw [HI.out]; rfl, ?_, fr_new (hf1.mono fun k hk => by simpa [Value.ownBlock] using hk)⟩
      have e : cnt p A N = N := by simp [cnt, HI.out]
      rw [e]
      exact byAt_own hown1 (fun i => ⟨h.c0 _, h.c1 _⟩)
end
end Go.Proofs.Ytifhnidcdfpabaa

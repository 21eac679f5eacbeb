/-
  Chapter 13: a memory with no page marked: its blocks a set, its bytes a function; Put, Bytes, Load, Store, New of it.
-/
import Derived.Test.YtkfedihaldpgmaaGreatRp13
import Derived.Test.YtkfedihaldpgmaaGreatRl13
/-
  Chapter 2: Bytes, of the program's memory and of the document's.
-/
namespace Go.Proofs.YtkfedihaldpgmaaGreat
open Go.RowKit
set_option linter.unusedVariables false

/-- how many bytes Bytes gives -/
def cnt (p : Nat) (a n : Int) : Nat := match inB p a n with
  | true => n.toNat
  | false => 0
/-- what Bytes leaves: the bytes in new memory -/
def BytesP (w : World) (p : Nat) (C : Nat → Int) (a n : Int) (e : Ending) (w' : World) : Prop :=
  ∃ v, e = .returned (.tuple #[v, .bool (inB p a n)]) ∧ ByAt (fun k => w.heap.size ≤ k) w' v (cnt p a n) (fun i => C (a.toNat + i)) ∧ Fr (fun _ => False) w w'
theorem byAt_own {w : World} {base : Nat} {v : Value} {n : Nat} {f : Nat → Int} (h : w.ownsRow base 5 1 v n ((List.range n).map fun i => Value.int .u8 (f i))) (hf : ∀ i, 0 ≤ f i ∧ f i ≤ 255) : ByAt (fun k => base ≤ k) w v n f := by
  rcases h.2 with ⟨rfl, rfl⟩ | ⟨g, cap, cur, rfl, hb, hh, hn, _⟩
  · exact .inl ⟨0, rfl, rfl⟩
  · refine .inr ⟨⟨g, 0, none⟩, cap, rfl, hn, fun _ => ⟨rfl, hb⟩, fun i hi => ⟨?_, hf i⟩⟩
    have := h.cellAt i (by omega)
    rw [add_none, Nat.zero_add, this, List.getElem?_map, List.getElem?_range hi]
    rfl

theorem fr_new {w w' : World} {o : Obj} (h : Fr (fun k => k = w.heap.size) (w.alloc o) w') : Fr (fun _ => False) w w' :=
  ⟨h.os, h.tape, h.output, by have := h.size; simp at this; omega, fun i hi _ => (h.block i (by simp; omega) (by omega)).trans (Below.heap_alloc _ _ _ hi)⟩
section
variable {w : World} {g b m t p : Nat} {C : Nat → Int} {M D : Nat → Bool}
set_option maxHeartbeats 1000000 in
theorem bytes_any (a n : Int) (h : Mem 103 w g b m t p C M D) (h0 : 0 ≤ a) (h1 : a < 4294967296) (n0 : -9223372036854775808 ≤ n) (n1 : n ≤ 9223372036854775807) :
    Calls Tryz.prog 49 #[.pointer (some ⟨g, 0, none⟩), .int .u32 a, .int .i64 n] w (BytesP w p C a n) := by
  have p2 := h.p2
  have c0 := h.cell0
  cases hi : inB p a n
  · have HI := Lib.hid hi
    clear hi
    go_enter Tryz.func49, Tryz.ntmps49
    go_wp2_with fail
    refine (holds_any _ _ h (by omega) (by omega) (by omega) (by omega)).mono ?_
    rintro e w' ⟨rfl, rfl⟩
    rw [HI.out]
    go_wp2
    go_ret2
    exact ⟨_, by rw [HI.out]; rfl, .inl ⟨0, rfl, by simp only [cnt, HI.out]⟩, Fr.refl _ _⟩
  · have HI := Lib.hid hi
    have hin : 0 ≤ n ∧ a + n ≤ 1024 * p := by simpa [inB] using hi
    clear hi
    obtain ⟨hn, hin⟩ := hin
    obtain ⟨A, rfl⟩ : ∃ A : Nat, a = A := ⟨a.toNat, by omega⟩
    obtain ⟨N, rfl⟩ : ∃ N : Nat, n = N := ⟨n.toNat, by omega⟩
    have hin2 : A + N ≤ 1024 * p := by omega
    clear n0 n1 hn
    have hm1 := run_make_row' (P := Tryz.prog) 24 5 (.int .u8 0) 1 Tryz.underlying24 info_u8 rfl .i64 .i64 N (by omega) (by omega)
    have lg := h.st.lt
    have lb := h.hb.lt
    have hw := World.rowIs_made w (.int .u8 0) N 5
    have h2 := h.alloc (.cells (madeCells #[.int .u8 0] N) 5)
    have c0' := h2.cell0
    by_cases hA : A = 1024 * p
    · obtain rfl : N = 0 := by omega
      rw [← hA] at c0 c0'
      clear hA hin
      simp only [Int.natCast_zero] at hm1
      go_enter Tryz.func49, Tryz.ntmps49
      go_wp2_with fail
      refine (holds_any _ _ h (by omega) (by omega) (by omega) (by omega)).mono ?_
      rintro e w' ⟨rfl, rfl⟩
      (have HJ := HI.out; simp only [Int.natCast_zero] at HJ; rw [HJ])
      go_wp2_with (with_reducible refine wpList_copy_row rfl (.tmp 16) (.tmp 22) 24 24 rfl 5 Tryz.underlying24 size_u8 _ _ _ _ _ _ rfl rfl w.heap.size 0 0 5 _ hw 0 ?hmin (fun i => .int .u8 (C (A + i))) ?hpos (by omega) (fun _ => rfl) ?_)
      try (case hmin => simp)
      try (case hpos => intro hp; exact absurd hp (by omega))
      intro w1 hr1 hf1
      go_wp2
      go_ret2
      exact ⟨_, by rw [HI.out]; rfl, .inr ⟨⟨w.heap.size, 0, none⟩, 0, by simp only [cnt, HI.out]; rfl, by simp only [cnt, HI.out]; simp, fun _ => ⟨rfl, Nat.le_refl _⟩, fun i hi => by simp only [cnt, HI.out] at hi; exact absurd hi (Nat.not_lt_zero _)⟩, fr_new hf1⟩
    · have hA2 : A < 1024 * p := by omega
      clear hA
      go_enter Tryz.func49, Tryz.ntmps49
      go_wp2_with fail
      refine (holds_any _ _ h (by omega) (by omega) (by omega) (by omega)).mono ?_
      rintro e w' ⟨rfl, rfl⟩
      rw [HI.out]
      go_wp2_with (with_reducible refine wpList_copy_row rfl (.tmp 16) (.tmp 22) 24 24 rfl 5 Tryz.underlying24 size_u8 _ _ _ _ _ _ rfl rfl w.heap.size 0 N 5 _ hw N ?hmin2 (fun i => .int .u8 (C (A + i))) ?hpos2 (by omega) (fun _ => rfl) ?_)
      case hmin2 => exact (Nat.min_eq_right (by omega)).symm
      case hpos2 => intro _ j hj; exact h.hb.cell (i := A + j) (by omega)
      intro w1 hr1 hf1
      go_wp2
      go_ret2
      exact ⟨_, by rw [HI.out]; rfl, by
        have e : cnt p A N = N := by simp [cnt, HI.out]
        rw [e]
        refine .inr ⟨⟨w.heap.size, 0, none⟩, N, rfl, Nat.le_refl _, fun _ => ⟨rfl, Nat.le_refl _⟩, fun i hi => ⟨?_, h.c0 _, h.c1 _⟩⟩
        rw [add_none, Nat.zero_add, hr1.cell hi]
        simp [hi], fr_new hf1⟩

set_option maxHeartbeats 1000000 in
theorem rbytes_any (a n : Int) (h : Mem 62 w g b m t p C M D) (h0 : 0 ≤ a) (h1 : a < 4294967296) (n0 : -9223372036854775808 ≤ n) (n1 : n ≤ 9223372036854775807) :
    Calls Tryz.prog 84 #[.pointer (some ⟨g, 0, none⟩), .int .u32 a, .int .i64 n] w (BytesP w p C a n) := by
  have p2 := h.p2
  have c0 := h.cell0
  cases hi : inB p a n
  · have HI := Lib.hid hi
    clear hi
    go_enter Tryz.func84, Tryz.ntmps84
    go_wp2_with fail
    refine (rin_any _ _ h (by omega) (by omega) (by omega) (by omega)).mono ?_
    rintro e w' ⟨rfl, rfl⟩
    rw [HI.out]
    go_wp2
    go_ret2
    exact ⟨_, by rw [HI.out]; rfl, .inl ⟨0, rfl, by simp only [cnt, HI.out]⟩, Fr.refl _ _⟩
  · have HI := Lib.hid hi
    have hin : 0 ≤ n ∧ a + n ≤ 1024 * p := by simpa [inB] using hi
    clear hi
    obtain ⟨hn, hin⟩ := hin
    obtain ⟨A, rfl⟩ : ∃ A : Nat, a = A := ⟨a.toNat, by omega⟩
    obtain ⟨N, rfl⟩ : ∃ N : Nat, n = N := ⟨n.toNat, by omega⟩
    have hin2 : A + N ≤ 1024 * p := by omega
    clear n0 n1 hn
    obtain ⟨i0, hi, hi3⟩ := Option.map_eq_some_iff.1 info_u8
    simp only [Prod.mk.injEq] at hi3
    obtain ⟨hz0, hz1, hz2⟩ := hi3
    have HII := Lib.hid hi
    have HZ0 := Lib.hid hz0
    have HZ1 := Lib.hid hz1
    have HZ2 := Lib.hid hz2
    clear hi hz0 hz1 hz2
    have lg := h.st.lt
    have lb := h.hb.lt
    have h2 := h.alloc (.cells #[] 5)
    have c0' := h2.cell0
    have hown : (w.alloc (.cells #[] 5)).ownsRow w.heap.size 5 1 (.slice (some ⟨w.heap.size, 0, none⟩) 0 0) 0 [] := World.ownsRow_lit w #[] 0 (Nat.le_refl _) (by unfold maxLen; omega) rfl
    have hsz2 : w.heap.size ≤ (w.alloc (.cells #[] 5)).heap.size := by simp
    by_cases hA : A = 1024 * p
    · obtain rfl : N = 0 := by omega
      rw [← hA] at c0 c0'
      clear hA hin
      go_enter Tryz.func84, Tryz.ntmps84
      go_wp2_with fail
      refine (rin_any _ _ h (by omega) (by omega) (by omega) (by omega)).mono ?_
      rintro e w' ⟨rfl, rfl⟩
      (have HJ := HI.out; simp only [Int.natCast_zero] at HJ; rw [HJ])
      go_wp2_with (at_builtin; refine wpList_append_own_at _ rfl (.tmp 13) (.tmp 23) 24 rfl w.heap.size 5 i0 (.int .u8 0) 1 1 Tryz.underlying24 HII.out HZ0.out HZ1.out HZ2.out rfl (by decide) _ _ _ rfl hown _ 0 _ [] rfl rfl (by intro j u hj; simp at hj) (by intro u hu; simp at hu) (by unfold maxLen; omega) (by omega) hsz2 ?_)
      intro v1 w1 hown1 hgrow1 _ _
      have hf1 := fr_of_grown hgrow1
      go_wp2
      go_ret2
      refine ⟨_, by rw [HI.out]; rfl, ?_, fr_new (hf1.mono fun k hk => by simpa [Value.ownBlock] using hk)⟩
      have e : cnt p A 0 = 0 := by simp only [cnt]; split <;> rfl
      show ByAt _ _ _ (cnt p A 0) _
      rw [e]
      exact byAt_own (by simpa using hown1) (fun i => ⟨h.c0 _, h.c1 _⟩)
    · have hA2 : A < 1024 * p := by omega
      clear hA
      go_enter Tryz.func84, Tryz.ntmps84
      go_wp2_with fail
      refine (rin_any _ _ h (by omega) (by omega) (by omega) (by omega)).mono ?_
      rintro e w' ⟨rfl, rfl⟩
      rw [HI.out]
      go_wp2_with (at_builtin; refine wpList_append_own_at _ rfl (.tmp 13) (.tmp 23) 24 rfl w.heap.size 5 i0 (.int .u8 0) 1 1 Tryz.underlying24 HII.out HZ0.out HZ1.out HZ2.out rfl (by decide) _ _ _ rfl hown ⟨b, A, none⟩ N (1024 * p - A) ((List.range N).map fun i => Value.int .u8 (C (A + i))) ?hx (by simp) ?hnews (by intro u hu; simp at hu; obtain ⟨j, _, rfl⟩ := hu; rfl) (by unfold maxLen; omega) (by omega) hsz2 ?_)
      case hx =>
        have e : A + N - A = N := by omega
        first | rfl | (show Value.slice (some ⟨b, A, none⟩) (A + N - A) _ = _; rw [e])
      case hnews =>
        intro j u hj
        have hjn : j < N := by
          rcases Nat.lt_or_ge j N with q | q
          · exact q
          · rw [List.getElem?_eq_none (by simpa using q)] at hj; cases hj
        rw [List.getElem?_map, List.getElem?_range hjn] at hj
        have e : Value.int .u8 (C (A + j)) = u := by simpa using hj
        rw [← e, show (⟨b, A, none⟩ : Addr).add j = ⟨b, A + j, none⟩ by unfold Addr.add; split <;> simp_all]
        exact h2.hb.cell (i := A + j) (by omega)
      intro v1 w1 hown1 hgrow1 _ _
      have hf1 := fr_of_grown hgrow1
      go_wp2
      go_ret2
      refine ⟨_, by rw [HI.out]; rfl, ?_, fr_new (hf1.mono fun k hk => by simpa [Value.ownBlock] using hk)⟩
      have e : cnt p A N = N := by simp [cnt, HI.out]
      rw [e]
      exact byAt_own hown1 (fun i => ⟨h.c0 _, h.c1 _⟩)
end
end Go.Proofs.YtkfedihaldpgmaaGreat

namespace Go.Proofs.YtkfedihaldpgmaaGreat
open Go.RowKit
set_option linter.unusedVariables false
set_option linter.unusedSimpArgs false

def NoF : Nat → Bool := fun _ => false
/-- block r is a memory of p pages, of which none is marked or written; its blocks are O, its bytes C -/
def Ra (T : TypeId) (w : World) (r : Nat) (O : Nat → Prop) (p : Nat) (C : Nat → Int) : Prop := ∃ b m t, O = (fun k => k = r ∨ OwnM b m t k) ∧ Mem T w r b m t p C NoF NoF
theorem td_nof (a n : Nat) : td NoF NoF a n = NoF := by funext k; simp [td, NoF]
theorem uD_no (p : Nat) (a : Int) (n : Nat) : uD p NoF NoF a n = NoF := by unfold uD; split; exact td_nof _ _; rfl
theorem aD_no (p : Nat) (a n : Int) : aD p NoF NoF a n = NoF := by unfold aD; split; exact td_nof _ _; rfl
/-- it returns x; the memory's bytes are C2 then -/
def RetM (T : TypeId) (x : Value) (w : World) (r : Nat) (O : Nat → Prop) (p : Nat) (C2 : Nat → Int) (e : Ending) (w' : World) : Prop := e = .returned x ∧ Ra T w' r O p C2 ∧ Fr O w w'
section
variable {T : TypeId} {w w' : World} {r : Nat} {O : Nat → Prop} {p : Nat} {C : Nat → Int}
theorem Ra.fr {S : Nat → Prop} (h : Ra T w r O p C) (f : Fr S w w') (hs : ∀ k, O k → ¬ S k) : Ra T w' r O p C := by
  obtain ⟨b, m, t, rfl, h⟩ := h
  exact ⟨b, m, t, rfl, h.keep f (hs _ (.inl rfl)) (hs _ (.inr (.inl rfl))) (hs _ (.inr (.inr (.inl rfl)))) (hs _ (.inr (.inr (.inr rfl))))⟩
theorem Ra.lt (h : Ra T w r O p C) : ∀ k, O k → k < w.heap.size := by
  obtain ⟨b, m, t, rfl, h⟩ := h
  rintro k (rfl | rfl | rfl | rfl)
  · exact h.st.lt
  · exact h.hb.lt
  · exact h.hm.lt
  · exact h.ht.lt
theorem Ra.own (h : Ra T w r O p C) : O r := by obtain ⟨b, m, t, rfl, h⟩ := h; exact .inl rfl
theorem Ra.c0 (h : Ra T w r O p C) (i : Nat) : 0 ≤ C i := by obtain ⟨b, m, t, rfl, h⟩ := h; exact h.c0 i
theorem Ra.c1 (h : Ra T w r O p C) (i : Nat) : C i ≤ 255 := by obtain ⟨b, m, t, rfl, h⟩ := h; exact h.c1 i
theorem Ra.p1 (h : Ra T w r O p C) : 1 ≤ p := by obtain ⟨b, m, t, rfl, h⟩ := h; exact h.p1
theorem Ra.p2 (h : Ra T w r O p C) : p ≤ 64 := by obtain ⟨b, m, t, rfl, h⟩ := h; exact h.p2
theorem Ra.drewN (h : Ra T w r O p C) (n : Nat) : Ra T (w.drewN n) r O p C := h.fr ((Fr.refl (fun _ => False) w).drewN n) (fun _ _ => id)
theorem Ra.below (h : Ra T w r O p C) (b : Below w.heap.size w w') : Ra T w' r O p C := h.fr (Fr.of_below (S := fun _ => False) b) (fun _ _ => id)
theorem Fr.own {b m t : Nat} (f : Fr (OwnM b m t) w w') : Fr (fun k => k = r ∨ OwnM b m t k) w w' := f.mono fun _ e => .inr e
end
section
variable {w : World} {r : Nat} {O : Nat → Prop} {p : Nat} {C : Nat → Int}
theorem mput_any {Q : Nat → Prop} (a : Int) (v : Value) (n : Nat) (f : Nat → Int) (h : Ra 103 w r O p C) (hv : ByAt Q w v n f) (h0 : 0 ≤ a) (h1 : a < 4294967296) (hn : n ≤ 9223372036854775807) :
    Calls Tryz.prog 17 #[.pointer (some ⟨r, 0, none⟩), .int .u32 a, v] w (RetM 103 (.bool (inB p a n)) w r O p (uC p C a n f)) := by
  obtain ⟨b, m, t, rfl, h⟩ := h
  exact (put_any a v n f h hv h0 h1 hn).mono fun e w' ⟨he, hm, hf⟩ => ⟨he, ⟨b, m, t, rfl, by rw [uD_no] at hm; exact hm⟩, hf.own⟩
theorem nput_any {Q : Nat → Prop} (a : Int) (v : Value) (n : Nat) (f : Nat → Int) (h : Ra 62 w r O p C) (hv : ByAt Q w v n f) (h0 : 0 ≤ a) (h1 : a < 4294967296) (hn : n ≤ 9223372036854775807) :
    Calls Tryz.prog 85 #[.pointer (some ⟨r, 0, none⟩), .int .u32 a, v] w (RetM 62 (.bool (inB p a n)) w r O p (uC p C a n f)) := by
  obtain ⟨b, m, t, rfl, h⟩ := h
  exact (rput_any a v n f h hv h0 h1 hn).mono fun e w' ⟨he, hm, hf⟩ => ⟨he, ⟨b, m, t, rfl, by rw [uD_no] at hm; exact hm⟩, hf.own⟩
theorem mstore_any (a n v : Int) (h : Ra 103 w r O p C) (h0 : 0 ≤ a) (h1 : a < 4294967296) (n0 : -9223372036854775808 ≤ n) (n1 : n ≤ 9223372036854775807) (v0 : 0 ≤ v) (v1 : v < 4294967296) :
    Calls Tryz.prog 30 #[.pointer (some ⟨r, 0, none⟩), .int .u32 a, .int .i64 n, .int .u32 v] w (RetM 103 (.bool (okN p a n)) w r O p (aC p C a n v)) := by
  obtain ⟨b, m, t, rfl, h⟩ := h
  exact (store_any a n v h h0 h1 n0 n1 v0 v1).mono fun e w' ⟨he, hm, hf⟩ => ⟨he, ⟨b, m, t, rfl, by rw [aD_no] at hm; exact hm⟩, hf.own⟩
theorem nstore_any (a n v : Int) (h : Ra 62 w r O p C) (h0 : 0 ≤ a) (h1 : a < 4294967296) (n0 : -9223372036854775808 ≤ n) (n1 : n ≤ 9223372036854775807) (v0 : 0 ≤ v) (v1 : v < 4294967296) :
    Calls Tryz.prog 32 #[.pointer (some ⟨r, 0, none⟩), .int .u32 a, .int .i64 n, .int .u32 v] w (RetM 62 (.bool (okN p a n)) w r O p (aC p C a n v)) := by
  obtain ⟨b, m, t, rfl, h⟩ := h
  exact (rstore_any a n v h h0 h1 n0 n1 v0 v1).mono fun e w' ⟨he, hm, hf⟩ => ⟨he, ⟨b, m, t, rfl, by rw [aD_no] at hm; exact hm⟩, hf.own⟩
theorem mbytes_any (a n : Int) (h : Ra 103 w r O p C) (h0 : 0 ≤ a) (h1 : a < 4294967296) (n0 : -9223372036854775808 ≤ n) (n1 : n ≤ 9223372036854775807) :
    Calls Tryz.prog 49 #[.pointer (some ⟨r, 0, none⟩), .int .u32 a, .int .i64 n] w (BytesP w p C a n) := by
  obtain ⟨b, m, t, rfl, h⟩ := h
  exact bytes_any a n h h0 h1 n0 n1
theorem nbytes_any (a n : Int) (h : Ra 62 w r O p C) (h0 : 0 ≤ a) (h1 : a < 4294967296) (n0 : -9223372036854775808 ≤ n) (n1 : n ≤ 9223372036854775807) :
    Calls Tryz.prog 84 #[.pointer (some ⟨r, 0, none⟩), .int .u32 a, .int .i64 n] w (BytesP w p C a n) := by
  obtain ⟨b, m, t, rfl, h⟩ := h
  exact rbytes_any a n h h0 h1 n0 n1
theorem nin_any (a n : Int) (h : Ra 62 w r O p C) (h0 : 0 ≤ a) (h1 : a < 4294967296) (n0 : -9223372036854775808 ≤ n) (n1 : n ≤ 9223372036854775807) :
    Calls Tryz.prog 63 #[.pointer (some ⟨r, 0, none⟩), .int .u32 a, .int .i64 n] w fun e w' => e = .returned (.bool (inB p a n)) ∧ w = w' := by
  obtain ⟨b, m, t, rfl, h⟩ := h
  exact rin_any a n h h0 h1 n0 n1
theorem mload_any (a n : Int) (h : Ra 103 w r O p C) (h0 : 0 ≤ a) (h1 : a < 4294967296) (n0 : -9223372036854775808 ≤ n) (n1 : n ≤ 9223372036854775807) :
    Calls Tryz.prog 22 #[.pointer (some ⟨r, 0, none⟩), .int .u32 a, .int .i64 n] w fun e w' => e = .returned (loadV p C a n) ∧ w = w' := by
  obtain ⟨b, m, t, rfl, h⟩ := h
  exact load_any a n h h0 h1 n0 n1
end
def Z0 : Nat → Int := fun _ => 0
/-- a new memory, all 0; its blocks are new -/
def NewM (T : TypeId) (w : World) (p : Nat) (e : Ending) (w' : World) : Prop :=
  ∃ r O, e = .returned (.pointer (some ⟨r, 0, none⟩)) ∧ (∀ k, O k → w.heap.size ≤ k) ∧ Ra T w' r O p Z0 ∧ Below w.heap.size w w'
theorem NewM.of {T : TypeId} {w w' : World} {p : Nat} {e : Ending} (h : NewP T w p e w') : NewM T w p e w' := by
  obtain ⟨g, b, m, t, he, lg, lb, lm, lt, hm, hb⟩ := h
  refine ⟨g, _, he, ?_, ⟨b, m, t, rfl, hm⟩, hb⟩
  rintro k (rfl | rfl | rfl | rfl) <;> assumption
theorem mnew_any (n : Int) (p : Nat) (hp : clampP n = p) (w : World) : Calls Tryz.prog 16 #[.int .i64 n] w (NewM 103 w p) := by
  subst hp
  exact (new_any n w).mono fun e w' h => NewM.of h
theorem nnew_any (n : Int) (p : Nat) (hp : clampP n = p) (w : World) : Calls Tryz.prog 20 #[.int .i64 n] w (NewM 62 w p) := by
  subst hp
  exact (rnew_any n w).mono fun e w' h => NewM.of h
end Go.Proofs.YtkfedihaldpgmaaGreat

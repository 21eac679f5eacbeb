/-
  Chapter 13: a memory with no page marked: its blocks a set, its bytes a function; Put, Bytes, Load, Store, New of it.
-/
import Derived.Test.YtifhnidcdfpabaaRb13
import Derived.Test.YtifhnidcdfpabaaRl13
namespace Go.Proofs.Ytifhnidcdfpabaa
open Go.RowKit
set_option linter.unusedVariables false
set_option linter.unusedSimpArgs false

def NoF : Nat → Bool := fun _ => false
/-- block r is a memory of p pages, of which none is marked or written; its blocks are O, its bytes C -/
def Ra (T : TypeId) (w : World) (r : Nat) (O : Nat → Prop) (p : Nat) (C : Nat → Int) : Prop := ∃ b m t, O = (fun k => k = r ∨ OwnM b m t k) ∧ Mem T w r b m t p C NoF NoF
theorem td_nof (a n : Nat) : td NoF NoF a n = NoF := by funext k; simp [td, NoF]
theorem uD_no (p : Nat) (a : Int) (n : Nat) : uD p NoF NoF a n = NoF := by unfold uD; split; exact td_nof _ _; rfl
theorem aD_no (p : Nat) (a n : Int) : aD p NoF NoF a n = NoF := by unfold aD; split; exact td_nof _ _; rfl
/-- it returns x; the memory's bytes are C2 then -/
def RetM (T : TypeId) (x : Value) (w : World) (r : Nat) (O : Nat → Prop) (p : Nat) (C2 : Nat → Int) (e : Ending) (w' : World) : Prop := e = .returned x ∧ Ra T w' r O p C2 ∧ Fr O w w'
section
variable {T : TypeId} {w w' : World} {r : Nat} {O : Nat → Prop} {p : Nat} {C : Nat → Int}
theorem Ra.fr {S : Nat → Prop} (h : Ra T w r O p C) (f : Fr S w w') (hs : ∀ k, O k → ¬ S k) : Ra T w' r O p C := by
  obtain ⟨b, m, t, rfl, h⟩ := h
  exact ⟨b, m, t, rfl, h.keep f (hs _ (.inl rfl)) (hs _ (.inr (.inl rfl))) (hs _ (.inr (.inr (.inl rfl)))) (hs _ (.inr (.inr (.inr rfl))))⟩
theorem Ra.lt (h : Ra T w r O p C) : ∀ k, O k → k < w.heap.size := by
  obtain ⟨b, m, t, rfl, h⟩ := h
  rintro k (rfl | rfl | rfl | rfl)
  · exact h.st.lt
  · exact h.hb.lt
  · exact h.hm.lt
  · exact h.ht.lt
theorem Ra.own (h : Ra T w r O p C) : O r := by obtain ⟨b, m, t, rfl, h⟩ := h; exact .inl rfl
theorem Ra.c0 (h : Ra T w r O p C) (i : Nat) : 0 ≤ C i := by obtain ⟨b, m, t, rfl, h⟩ := h; exact h.c0 i
theorem Ra.c1 (h : Ra T w r O p C) (i : Nat) : C i ≤ 255 := by obtain ⟨b, m, t, rfl, h⟩ := h; exact h.c1 i
theorem Ra.p1 (h : Ra T w r O p C) : 1 ≤ p := by obtain ⟨b, m, t, rfl, h⟩ := h; exact h.p1
theorem Ra.p2 (h : Ra T w r O p C) : p ≤ 64 := by obtain ⟨b, m, t, rfl, h⟩ := h; exact h.p2
theorem Ra.drewN (h : Ra T w r O p C) (n : Nat) : Ra T (w.drewN n) r O p C := h.fr ((Fr.refl (fun _ => False) w).drewN n) (fun _ _ => id)
theorem Ra.below (h : Ra T w r O p C) (b : Below w.heap.size w w') : Ra T w' r O p C := h.fr (Fr.of_below (S := fun _ => False) b) (fun _ _ => id)
theorem Fr.own {b m t : Nat} (f : Fr (OwnM b m t) w w') : Fr (fun k => k = r ∨ OwnM b m t k) w w' := f.mono fun _ e => .inr e
end
section
variable {w : World} {r : Nat} {O : Nat → Prop} {p : Nat} {C : Nat → Int}
theorem mput_any {Q : Nat → Prop} (a : Int) (v : Value) (n : Nat) (f : Nat → Int) (h : Ra 85 w r O p C) (hv : ByAt Q w v n f) (h0 : 0 ≤ a) (h1 : a < 4294967296) (hn : n ≤ 9223372036854775807) :
    Calls Try.prog 13 #[.pointer (some ⟨r, 0, none⟩), .int .u32 a, v] w (RetM 85 (.bool (inB p a n)) w r O p (uC p C a n f)) := by
  obtain ⟨b, m, t, rfl, h⟩ := h
  exact (put_any a v n f h hv h0 h1 hn).mono fun e w' ⟨he, hm, hf⟩ => ⟨he, ⟨b, m, t, rfl, by rw [uD_no] at hm; exact hm⟩, hf.own⟩
theorem nput_any {Q : Nat → Prop} (a : Int) (v : Value) (n : Nat) (f : Nat → Int) (h : Ra 81 w r O p C) (hv : ByAt Q w v n f) (h0 : 0 ≤ a) (h1 : a < 4294967296) (hn : n ≤ 9223372036854775807) :
    Calls Try.prog 54 #[.pointer (some ⟨r, 0, none⟩), .int .u32 a, v] w (RetM 81 (.bool (inB p a n)) w r O p (uC p C a n f)) := by
  obtain ⟨b, m, t, rfl, h⟩ := h
  exact (rput_any a v n f h hv h0 h1 hn).mono fun e w' ⟨he, hm, hf⟩ => ⟨he, ⟨b, m, t, rfl, by rw [uD_no] at hm; exact hm⟩, hf.own⟩
theorem mstore_any (a n v : Int) (h : Ra 85 w r O p C) (h0 : 0 ≤ a) (h1 : a < 4294967296) (n0 : -9223372036854775808 ≤ n) (n1 : n ≤ 9223372036854775807) (v0 : 0 ≤ v) (v1 : v < 4294967296) :
    Calls Try.prog 26 #[.pointer (some ⟨r, 0, none⟩), .int .u32 a, .int .i64 n, .int .u32 v] w (RetM 85 (.bool (okN p a n)) w r O p (aC p C a n v)) := by
  obtain ⟨b, m, t, rfl, h⟩ := h
  exact (store_any a n v h h0 h1 n0 n1 v0 v1).mono fun e w' ⟨he, hm, hf⟩ => ⟨he, ⟨b, m, t, rfl, by rw [aD_no] at hm; exact hm⟩, hf.own⟩
theorem nstore_any (a n v : Int) (h : Ra 81 w r O p C) (h0 : 0 ≤ a) (h1 : a < 4294967296) (n0 : -9223372036854775808 ≤ n) (n1 : n ≤ 9223372036854775807) (v0 : 0 ≤ v) (v1 : v < 4294967296) :
    Calls Try.prog 27 #[.pointer (some ⟨r, 0, none⟩), .int .u32 a, .int .i64 n, .int .u32 v] w (RetM 81 (.bool (okN p a n)) w r O p (aC p C a n v)) := by
  obtain ⟨b, m, t, rfl, h⟩ := h
  exact (rstore_any a n v h h0 h1 n0 n1 v0 v1).mono fun e w' ⟨he, hm, hf⟩ => ⟨he, ⟨b, m, t, rfl, by rw [aD_no] at hm; exact hm⟩, hf.own⟩
theorem mbytes_any (a n : Int) (h : Ra 85 w r O p C) (h0 : 0 ≤ a) (h1 : a < 4294967296) (n0 : -9223372036854775808 ≤ n) (n1 : n ≤ 9223372036854775807) :
    Calls Try.prog 17 #[.pointer (some ⟨r, 0, none⟩), .int .u32 a, .int .i64 n] w (BytesP w p C a n) := by
  obtain ⟨b, m, t, rfl, h⟩ := h
  exact bytes_any a n h h0 h1 n0 n1
theorem nbytes_any (a n : Int) (h : Ra 81 w r O p C) (h0 : 0 ≤ a) (h1 : a < 4294967296) (n0 : -9223372036854775808 ≤ n) (n1 : n ≤ 9223372036854775807) :
    Calls Try.prog 53 #[.pointer (some ⟨r, 0, none⟩), .int .u32 a, .int .i64 n] w (BytesP w p C a n) := by
  obtain ⟨b, m, t, rfl, h⟩ := h
  exact rbytes_any a n h h0 h1 n0 n1
theorem nin_any (a n : Int) (h : Ra 81 w r O p C) (h0 : 0 ≤ a) (h1 : a < 4294967296) (n0 : -9223372036854775808 ≤ n) (n1 : n ≤ 9223372036854775807) :
    Calls Try.prog 44 #[.pointer (some ⟨r, 0, none⟩), .int .u32 a, .int .i64 n] w fun e w' => e = .returned (.bool (inB p a n)) ∧ w = w' := by
  obtain ⟨b, m, t, rfl, h⟩ := h
  exact rin_any a n h h0 h1 n0 n1
end
def Z0 : Nat → Int := fun _ => 0
/-- a new memory, all 0; its blocks are new -/
def NewM (T : TypeId) (w : World) (p : Nat) (e : Ending) (w' : World) : Prop :=
  ∃ r O, e = .returned (.pointer (some ⟨r, 0, none⟩)) ∧ (∀ k, O k → w.heap.size ≤ k) ∧ Ra T w' r O p Z0 ∧ Below w.heap.size w w'
theorem NewM.of {T : TypeId} {w w' : World} {p : Nat} {e : Ending} (h : NewP T w p e w') : NewM T w p e w' := by
  obtain ⟨g, b, m, t, he, lg, lb, lm, lt, hm, hb⟩ := h
  refine ⟨g, _, he, ?_, ⟨b, m, t, rfl, hm⟩, hb⟩
  rintro k (rfl | rfl | rfl | rfl) <;> assumption
theorem mnew_any (n : Int) (p : Nat) (hp : clampP n = p) (w : World) : Calls Try.prog 9 #[.int .i64 n] w (NewM 85 w p) := by
  subst hp
  exact (new_any n w).mono fun e w' h => NewM.of h
theorem nnew_any (n : Int) (p : Nat) (hp : clampP n = p) (w : World) : Calls Try.prog 38 #[.int .i64 n] w (NewM 81 w p) := by
  subst hp
  exact (rnew_any n w).mono fun e w' h => NewM.of h
end Go.Proofs.Ytifhnidcdfpabaa

/-
  Chapter 14: a memory and a disk's bytes beside it.
-/
import Derived.Test.YtifhnidcdfpabaaDs14
namespace Go.Proofs.Ytifhnidcdfpabaa
open Go.RowKit
set_option linter.unusedVariables false
set_option linter.unusedSimpArgs false
/-- block r is a memory of p pages, its bytes C; block y has n sectors, their bytes D; all their blocks are O -/
def Mk (T : TypeId) (w : World) (r y : Nat) (O : Nat → Prop) (p n : Nat) (C D : Nat → Int) : Prop :=
  ∃ M : Nat → Prop, O = (fun k => M k ∨ k = y) ∧ ¬ M y ∧ Ra T w r M p C ∧ w.rowIs y 5 (64 * n) (fun i => .int .u8 (D i)) ∧ ∀ i, 0 ≤ D i ∧ D i ≤ 255
/-- it returns x; the memory's bytes are C2 then -/
def RetK (T : TypeId) (x : Value) (w : World) (r y : Nat) (O : Nat → Prop) (p n : Nat) (C2 D : Nat → Int) (e : Ending) (w' : World) : Prop := e = .returned x ∧ Mk T w' r y O p n C2 D ∧ Fr O w w'
theorem putC_bd {C : Nat → Int} {a n : Nat} {f : Nat → Int} (hC : ∀ i, 0 ≤ C i ∧ C i ≤ 255) (hf : ∀ j, j < n → 0 ≤ f j ∧ f j ≤ 255) (i : Nat) : 0 ≤ putC C a n f i ∧ putC C a n f i ≤ 255 := by
  unfold putC
  split
  · exact hf _ (by omega)
  · exact hC i
section
variable {T : TypeId} {w w' : World} {r y : Nat} {O : Nat → Prop} {p n : Nat} {C D : Nat → Int}
theorem Mk.fr {S : Nat → Prop} (h : Mk T w r y O p n C D) (f : Fr S w w') (hs : ∀ k, O k → ¬ S k) : Mk T w' r y O p n C D := by
  obtain ⟨M, rfl, hn, hm, hr, hb⟩ := h
  exact ⟨M, rfl, hn, hm.fr f (fun k hk => hs k (.inl hk)), hr.of_block (f.block _ hr.lt (hs y (.inr rfl))), hb⟩
theorem Mk.lt (h : Mk T w r y O p n C D) : ∀ k, O k → k < w.heap.size := by
  obtain ⟨M, rfl, hn, hm, hr, hb⟩ := h
  rintro k (hk | rfl)
  · exact hm.lt k hk
  · exact hr.lt
theorem Mk.own (h : Mk T w r y O p n C D) : O r := by obtain ⟨M, rfl, hn, hm, hr, hb⟩ := h; exact .inl hm.own
theorem Mk.ownY (h : Mk T w r y O p n C D) : O y := by obtain ⟨M, rfl, hn, hm, hr, hb⟩ := h; exact .inr rfl
theorem Mk.drewN (h : Mk T w r y O p n C D) (k : Nat) : Mk T (w.drewN k) r y O p n C D := h.fr ((Fr.refl (fun _ => False) w).drewN k) (fun _ _ => id)
theorem Mk.below (h : Mk T w r y O p n C D) (b : Below w.heap.size w w') : Mk T w' r y O p n C D := h.fr (Fr.of_below (S := fun _ => False) b) (fun _ _ => id)
theorem Mk.bC (h : Mk T w r y O p n C D) (i : Nat) : 0 ≤ C i ∧ C i ≤ 255 := by obtain ⟨M, rfl, hn, hm, hr, hb⟩ := h; exact ⟨hm.c0 i, hm.c1 i⟩
theorem Mk.bD (h : Mk T w r y O p n C D) (i : Nat) : 0 ≤ D i ∧ D i ≤ 255 := by obtain ⟨M, rfl, hn, hm, hr, hb⟩ := h; exact hb i
theorem Mk.row (h : Mk T w r y O p n C D) : w.rowIs y 5 (64 * n) (fun i => .int .u8 (D i)) := by obtain ⟨M, rfl, hn, hm, hr, hb⟩ := h; exact hr
theorem Mk.mem (h : Mk T w r y O p n C D) : ∃ M : Nat → Prop, Ra T w r M p C ∧ ∀ k, M k → O k := by obtain ⟨M, rfl, hn, hm, hr, hb⟩ := h; exact ⟨M, hm, fun k hk => .inl hk⟩
/-- the disk's row has other bytes -/
theorem Mk.setRow {A : Nat} {f : Nat → Int} (h : Mk T w r y O p n C D) (hr : w'.rowIs y 5 (64 * n) (fun i => if A ≤ i ∧ i < A + 64 then .int .u8 (f (i - A)) else .int .u8 (D i))) (hf : Fr (fun k => k = y) w w') (hB : ∀ j, j < 64 → 0 ≤ f j ∧ f j ≤ 255) : Mk T w' r y O p n C (putC D A 64 f) ∧ Fr O w w' := by
  obtain ⟨M, rfl, hn, hm, _, hb⟩ := h
  refine ⟨⟨M, rfl, hn, hm.fr hf (fun k hk e => hn (e ▸ hk)), hr.congr fun i _ => ?_, putC_bd hb hB⟩, hf.mono fun k e => .inr e⟩
  unfold putC
  split <;> rfl
/-- the disk's row was written, and has the same bytes -/
theorem Mk.same (h : Mk T w r y O p n C D) (hr : w'.rowIs y 5 (64 * n) (fun i => .int .u8 (D i))) (hf : Fr (fun k => k = y) w w') : Mk T w' r y O p n C D := by
  obtain ⟨M, rfl, hn, hm, _, hb⟩ := h
  exact ⟨M, rfl, hn, hm.fr hf (fun k hk e => hn (e ▸ hk)), hr, hb⟩
theorem Mk.fr_row (h : Mk T w r y O p n C D) (hf : Fr (fun k => k = y) w w') : Fr O w w' := hf.mono fun k e => e ▸ h.ownY
/-- a part of the disk's row, as bytes -/
theorem Mk.part (h : Mk T w r y O p n C D) (A N c : Nat) (hc : N ≤ c) (hN : A + N ≤ 64 * n) : ByAt (fun k => k = y) w (.slice (some ⟨y, A, none⟩) N c) N (fun i => D (A + i)) := by
  refine .inr ⟨_, _, rfl, hc, fun _ => ⟨rfl, rfl⟩, fun i hi => ⟨?_, h.bD _⟩⟩
  rw [add_none]
  exact h.row.cell (i := A + i) (by omega)
end
section
variable {w : World} {r y : Nat} {O : Nat → Prop} {p n : Nat} {C D : Nat → Int}
theorem kput_any {Q : Nat → Prop} (a : Int) (v : Value) (m : Nat) (f : Nat → Int) (h : Mk 85 w r y O p n C D) (hv : ByAt Q w v m f) (h0 : 0 ≤ a) (h1 : a < 4294967296) (hn : m ≤ 9223372036854775807) :
    Calls Try.prog 13 #[.pointer (some ⟨r, 0, none⟩), .int .u32 a, v] w (RetK 85 (.bool (inB p a m)) w r y O p n (uC p C a m f) D) := by
  obtain ⟨M, rfl, hy, hm, hr, hb⟩ := h
  exact (mput_any a v m f hm hv h0 h1 hn).mono fun e w' ⟨he, hm, hf⟩ => ⟨he, ⟨M, rfl, hy, hm, hr.of_block (hf.block _ hr.lt hy), hb⟩, hf.mono fun k e => .inl e⟩
theorem lput_any {Q : Nat → Prop} (a : Int) (v : Value) (m : Nat) (f : Nat → Int) (h : Mk 81 w r y O p n C D) (hv : ByAt Q w v m f) (h0 : 0 ≤ a) (h1 : a < 4294967296) (hn : m ≤ 9223372036854775807) :
    Calls Try.prog 54 #[.pointer (some ⟨r, 0, none⟩), .int .u32 a, v] w (RetK 81 (.bool (inB p a m)) w r y O p n (uC p C a m f) D) := by
  obtain ⟨M, rfl, hy, hm, hr, hb⟩ := h
  exact (nput_any a v m f hm hv h0 h1 hn).mono fun e w' ⟨he, hm, hf⟩ => ⟨he, ⟨M, rfl, hy, hm, hr.of_block (hf.block _ hr.lt hy), hb⟩, hf.mono fun k e => .inl e⟩
theorem kstore_any (a m v : Int) (h : Mk 85 w r y O p n C D) (h0 : 0 ≤ a) (h1 : a < 4294967296) (n0 : -9223372036854775808 ≤ m) (n1 : m ≤ 9223372036854775807) (v0 : 0 ≤ v) (v1 : v < 4294967296) :
    Calls Try.prog 26 #[.pointer (some ⟨r, 0, none⟩), .int .u32 a, .int .i64 m, .int .u32 v] w (RetK 85 (.bool (okN p a m)) w r y O p n (aC p C a m v) D) := by
  obtain ⟨M, rfl, hy, hm, hr, hb⟩ := h
  exact (mstore_any a m v hm h0 h1 n0 n1 v0 v1).mono fun e w' ⟨he, hm, hf⟩ => ⟨he, ⟨M, rfl, hy, hm, hr.of_block (hf.block _ hr.lt hy), hb⟩, hf.mono fun k e => .inl e⟩
theorem lstore_any (a m v : Int) (h : Mk 81 w r y O p n C D) (h0 : 0 ≤ a) (h1 : a < 4294967296) (n0 : -9223372036854775808 ≤ m) (n1 : m ≤ 9223372036854775807) (v0 : 0 ≤ v) (v1 : v < 4294967296) :
    Calls Try.prog 27 #[.pointer (some ⟨r, 0, none⟩), .int .u32 a, .int .i64 m, .int .u32 v] w (RetK 81 (.bool (okN p a m)) w r y O p n (aC p C a m v) D) := by
  obtain ⟨M, rfl, hy, hm, hr, hb⟩ := h
  exact (nstore_any a m v hm h0 h1 n0 n1 v0 v1).mono fun e w' ⟨he, hm, hf⟩ => ⟨he, ⟨M, rfl, hy, hm, hr.of_block (hf.block _ hr.lt hy), hb⟩, hf.mono fun k e => .inl e⟩
theorem kbytes_any (a m : Int) (h : Mk 85 w r y O p n C D) (h0 : 0 ≤ a) (h1 : a < 4294967296) (n0 : -9223372036854775808 ≤ m) (n1 : m ≤ 9223372036854775807) :
    Calls Try.prog 17 #[.pointer (some ⟨r, 0, none⟩), .int .u32 a, .int .i64 m] w (BytesP w p C a m) := by
  obtain ⟨M, _, _, hm, _⟩ := h
  exact mbytes_any a m hm h0 h1 n0 n1
theorem lbytes_any (a m : Int) (h : Mk 81 w r y O p n C D) (h0 : 0 ≤ a) (h1 : a < 4294967296) (n0 : -9223372036854775808 ≤ m) (n1 : m ≤ 9223372036854775807) :
    Calls Try.prog 53 #[.pointer (some ⟨r, 0, none⟩), .int .u32 a, .int .i64 m] w (BytesP w p C a m) := by
  obtain ⟨M, _, _, hm, _⟩ := h
  exact nbytes_any a m hm h0 h1 n0 n1
theorem lin_any (a m : Int) (h : Mk 81 w r y O p n C D) (h0 : 0 ≤ a) (h1 : a < 4294967296) (n0 : -9223372036854775808 ≤ m) (n1 : m ≤ 9223372036854775807) :
    Calls Try.prog 44 #[.pointer (some ⟨r, 0, none⟩), .int .u32 a, .int .i64 m] w fun e w' => e = .returned (.bool (inB p a m)) ∧ w = w' := by
  obtain ⟨M, _, _, hm, _⟩ := h
  exact nin_any a m hm h0 h1 n0 n1
end
end Go.Proofs.Ytifhnidcdfpabaa

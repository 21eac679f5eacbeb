/-
  Chapter 2: Put and Bytes, of the program's memory and of the document's; a row of bytes as a text.
-/
import Derived.Test.YtkfedihaldpgmaaGreatRs13
import Derived.Test.YtkfedihaldpgmaaGreatRw13
import Derived.Deep.AppendLies
import Derived.Maps.AppendAt
import Derived.OwnWalk
import Derived.Deep.Draws
import Derived.Laws.CopyOwn
import Derived.Laws.BytesArg
namespace Go.Proofs.YtkfedihaldpgmaaGreat
open Go.RowKit
set_option linter.unusedVariables false

theorem fr_of_grown {w w' : World} {row : Option Nat} (h : w.grownBy w' row) : Fr (fun k => some k = row) w w' := ⟨h.os, h.tape, h.output, h.size, fun k hk hn => h.block k hk hn⟩
/-- a slice of n bytes f in memory, in a block of which Q holds -/
def ByAt (Q : Nat → Prop) (w : World) (v : Value) (n : Nat) (f : Nat → Int) : Prop :=
  (∃ c, v = .slice none 0 c ∧ n = 0) ∨ ∃ ad c, v = .slice (some ad) n c ∧ n ≤ c ∧ (0 < n → ad.spot = none ∧ Q ad.block) ∧ ∀ i, i < n → w.cell? (ad.add i) = some (.int .u8 (f i)) ∧ 0 ≤ f i ∧ f i ≤ 255
theorem add_block (a : Addr) (n : Nat) : (a.add n).block = a.block := by unfold Addr.add; split <;> rfl
theorem add_none (b o i : Nat) : (⟨b, o, none⟩ : Addr).add i = ⟨b, o + i, none⟩ := by unfold Addr.add; split <;> simp_all
theorem ByAt.fr {Q S : Nat → Prop} {w w' : World} {v : Value} {n : Nat} {f : Nat → Int} (h : ByAt Q w v n f) (hf : Fr S w w') (hs : ∀ k, Q k → k < w.heap.size → ¬ S k) : ByAt Q w' v n f := by
  rcases h with h | ⟨ad, c, hv, hc, hq, hi⟩
  · exact .inl h
  · refine .inr ⟨ad, c, hv, hc, hq, fun i hn => ⟨?_, (hi i hn).2⟩⟩
    have hl := block_lt_of_cell (hi i hn).1
    rw [add_block] at hl
    exact (World.cell?_of_block (a := ad.add i) (by rw [add_block]; exact hf.block _ hl (hs _ (hq (by omega)).2 hl))).trans (hi i hn).1
theorem ByAt.mono {Q Q' : Nat → Prop} {w : World} {v : Value} {n : Nat} {f : Nat → Int} (h : ByAt Q w v n f) (hs : ∀ k, Q k → Q' k) : ByAt Q' w v n f := by
  rcases h with h | ⟨ad, c, hv, hc, hq, hi⟩
  · exact .inl h
  · exact .inr ⟨ad, c, hv, hc, fun hn => ⟨(hq hn).1, hs _ (hq hn).2⟩, hi⟩
theorem ByAt.form {Q : Nat → Prop} {w : World} {v : Value} {n : Nat} {f : Nat → Int} (h : ByAt Q w v n f) (hn : 0 < n) : ∃ b o c, v = .slice (some ⟨b, o, none⟩) n c ∧ n ≤ c ∧ Q b ∧ ∀ i, i < n → w.cell? ⟨b, o + i, none⟩ = some (.int .u8 (f i)) ∧ 0 ≤ f i ∧ f i ≤ 255 := by
  rcases h with ⟨c, _, h0⟩ | ⟨⟨b, o, s⟩, c, hv, hc, hq, hi⟩
  · omega
  · obtain ⟨hs, hQ⟩ := hq hn
    have hs' : s = none := hs
    subst hs'
    exact ⟨b, o, c, hv, hc, hQ, fun i hn => by rw [← add_none]; exact hi i hn⟩
/-- bytes as a text -/
def strN (n : Nat) (f : Nat → Int) : ByteArray := strOfNums ((List.range n).map f)
theorem conv_any {Q : Nat → Prop} {w : World} {v : Value} {n : Nat} {f : Nat → Int} (h : ByAt Q w v n f) : (convert 24 9 v).run Tryz.prog w = .ok (.string (strN n f)) w := by
  rcases h with ⟨c, rfl, rfl⟩ | ⟨ad, c, rfl, hc, hq, hi⟩
  · exact run_convert_bytes_nil w 24 5 Tryz.underlying24 Tryz.underlying5 0 c 9 Tryz.underlying9
  · have hl : (loadCells ad n).run Tryz.prog w = .ok (((List.range n).map f).map (Value.int .u8)).toArray w := by
      have := run_loadCells_list (P := Tryz.prog) w ad (((List.range n).map f).map (Value.int .u8)) (fun j v hj => by
        have hjl : j < n := by
          rcases Nat.lt_or_ge j n with h | h
          · exact h
          · rw [List.getElem?_eq_none (by simpa using h)] at hj; cases hj
        rw [List.getElem?_map, List.getElem?_map, List.getElem?_range hjl] at hj
        have e : Value.int .u8 (f j) = v := by simpa using hj
        rw [(hi j hjl).1, e])
      simpa using this
    rw [run_convert_bytes_string w 24 9 5 _ n c Tryz.underlying24 Tryz.underlying5 Tryz.underlying9, run_bytesToString w _ n c _ hl, foldl_push_bytes]
    simp [strN, strOfNums, ByteArray.empty, ByteArray.emptyWithCapacity]
    rfl

theorem size_u8 : (Tryz.prog.info? 5).map (·.size) = some 1 := by kernel_rfl

theorem rowIs_toArray {w : World} {g : Nat} {t : TypeId} {N : Nat} {F : Nat → Value} (h : w.rowIs g t N F) : w.heap[g]? = some (.cells ((List.range N).map F).toArray t (0, 0)) := by
  obtain ⟨c, hb, hn, hc⟩ := h
  rw [hb]
  congr 2
  apply Array.ext'
  apply List.ext_getElem?
  intro i
  simp only [Array.getElem?_toList]
  by_cases hi : i < N
  · rw [hc i hi, List.getElem?_map, List.getElem?_range hi]; rfl
  · rw [Array.getElem?_eq_none (by omega), List.getElem?_eq_none (by simp; omega)]

theorem wpList_copy_row {P : Program} {w : World} {ops : Array Oper} {rest : List Oper} {o : Oper} {a : Act} {Q : Exit → Act → World → Prop} (hgd : o.guard = none) (d s : Operand) (dT sT : TypeId)
    (ho : o.op = .call { callee := .builtin .copy, args := #[d, s], argTypes := #[dT, sT] }) (elem : TypeId) (hu : P.underlying dT = some (.slice elem)) (hsz : (P.info? elem).map (·.size) = some 1)
    (dp sp : Option Addr) (dLen dCap sLen sCap : Nat) (hd : a.eval d = .slice dp dLen dCap) (hs : a.eval s = .slice sp sLen sCap)
    (g off N : Nat) (t : TypeId) (F : Nat → Value) (hg : w.rowIs g t N F) (n : Nat) (hn : n = Nat.min sLen dLen) (G : Nat → Value)
    (hpos : 0 < n → dp = some ⟨g, off, none⟩ ∧ ∃ ad, sp = some ad ∧ ∀ j, j < n → w.cell? (ad.add j) = some (G j))
    (hfit : off + n ≤ N) (h1 : ∀ j, (G j).oneCell' = true)
    (h : ∀ w', w'.rowIs g t N (fun i => if off ≤ i ∧ i < off + n then G (i - off) else F i) → Fr (fun k => k = g) w w' → wpList P ops Q rest (a.put o.dst (goInt n)) w') :
    wpList P ops Q (o :: rest) a w := by
  by_cases h0 : n = 0
  · subst h0
    refine wpList_copy_nothing hgd d s dT sT ho elem hu hsz dp sp dLen dCap sLen sCap hd hs hn.symm ?_
    exact h w (hg.congr fun i _ => by rw [if_neg (by omega)]) (Fr.refl _ _)
  · obtain ⟨rfl, ad, rfl, hsrc⟩ := hpos (by omega)
    have hcs : ((List.range n).map G).length = n := by simp
    refine wpList_copy_own hgd d s dT sT ho elem hu hsz g off dLen dCap ad sLen sCap hd hs _ t (rowIs_toArray hg) ((List.range n).map G) (by rw [hcs]; exact hn) (fun j v hj => ?_) (by simpa using hfit) (by intro v hv; simp at hv; obtain ⟨j, _, rfl⟩ := hv; exact h1 j) ?_
    · have hjn : j < n := by
        rcases Nat.lt_or_ge j n with h | h
        · exact h
        · rw [List.getElem?_eq_none (by simpa using h)] at hj; cases hj
      rw [List.getElem?_map, List.getElem?_range hjn] at hj
      have e : G j = v := by simpa using hj
      rw [hsrc j hjn, e]
    · rw [hcs]
      refine h _ ⟨_, setRow_heap w g _ _ t _ (rowIs_toArray hg), ?_, fun i hi => ?_⟩ ((Fr.refl (fun k => k = g) w).setRow (x := g) (.inl rfl) _)
      · simp; omega
      · simp only [List.getElem?_toArray]
        by_cases q1 : i < off
        · rw [List.getElem?_append_left (by simp; omega), if_neg (by omega), List.getElem?_take, if_pos q1, List.getElem?_map, List.getElem?_range hi]; rfl
        · rw [List.getElem?_append_right (by simp; omega)]
          have e1 : (((List.range N).map F).take off).length = off := by simp; omega
          rw [e1]
          by_cases q2 : i < off + n
          · rw [if_pos (by omega), List.getElem?_append_left (by simp; omega), List.getElem?_map, List.getElem?_range (by omega)]; rfl
          · rw [if_neg (by omega), List.getElem?_append_right (by simp; omega), hcs, List.getElem?_drop, show off + n + (i - off - n) = i by omega, List.getElem?_map, List.getElem?_range hi]; rfl

/-- n bytes f from a on -/
def putC (C : Nat → Int) (a n : Nat) (f : Nat → Int) : Nat → Int := fun i => if a ≤ i ∧ i < a + n then f (i - a) else C i
/-- behind Put: the bytes, the pages written -/
def uC (p : Nat) (C : Nat → Int) (a : Int) (n : Nat) (f : Nat → Int) : Nat → Int := match inB p a n with
  | true => putC C a.toNat n f
  | false => C
def uD (p : Nat) (M D : Nat → Bool) (a : Int) (n : Nat) : Nat → Bool := match inB p a n with
  | true => td M D a.toNat n
  | false => D

theorem ByAt.bounds {Q : Nat → Prop} {w : World} {v : Value} {n : Nat} {f : Nat → Int} (h : ByAt Q w v n f) (j : Nat) (hj : j < n) : 0 ≤ f j ∧ f j ≤ 255 := by
  rcases h with ⟨c, _, rfl⟩ | ⟨ad, c, _, _, _, hi⟩
  · omega
  · exact (hi j hj).2
section
variable {w : World} {g b m t p : Nat} {C : Nat → Int} {M D : Nat → Bool}
theorem Mem.putB {T : TypeId} {w1 : World} {A n : Nat} {f : Nat → Int} (h : Mem T w g b m t p C M D) (hr : w1.rowIs b 5 (1024 * p) (fun i => if A ≤ i ∧ i < A + n then .int .u8 (f (i - A)) else .int .u8 (C i))) (hf : Fr (fun k => k = b) w w1) (hB : ∀ j, j < n → 0 ≤ f j ∧ f j ≤ 255) : Mem T w1 g b m t p (putC C A n f) M D :=
  { h with
    st := h.st.of_block (hf.block _ h.st.lt h.gb)
    hb := hr.congr fun i _ => by unfold putC; split <;> rfl
    hm := h.hm.of_block (hf.block _ h.hm.lt h.bm.symm)
    ht := h.ht.of_block (hf.block _ h.ht.lt h.bt.symm)
    c0 := fun i => by
      unfold putC
      split
      · exact (hB _ (by omega)).1
      · exact h.c0 i
    c1 := fun i => by
      unfold putC
      split
      · exact (hB _ (by omega)).2
      · exact h.c1 i }

set_option maxHeartbeats 1000000 in
theorem put_any {Q : Nat → Prop} (a : Int) (v : Value) (n : Nat) (f : Nat → Int) (h : Mem 103 w g b m t p C M D) (hv : ByAt Q w v n f) (h0 : 0 ≤ a) (h1 : a < 4294967296) (hn : n ≤ 9223372036854775807) :
    Calls Tryz.prog 17 #[.pointer (some ⟨g, 0, none⟩), .int .u32 a, v] w (RetP 103 (.bool (inB p a n)) w g b m t p (uC p C a n f) M (uD p M D a n)) := by
  have p2 := h.p2
  have c0 := h.cell0
  have HB := Lib.hid (show ∀ j, j < n → 0 ≤ f j ∧ f j ≤ 255 from fun j hj => hv.bounds j hj)
  cases hi : inB p a n
  · have HI := Lib.hid hi
    clear hi
    rcases hv with ⟨c, rfl, rfl⟩ | ⟨vad, vc, rfl, hc, hq, hcell⟩
    all_goals
      go_enter Tryz.func17, Tryz.ntmps17
      go_wp2_with fail
      refine (holds_any _ _ h (by omega) (by omega) (by omega) (by omega)).mono ?_
      rintro e w' ⟨rfl, rfl⟩
      first | rw [HI.out] | (have HJ := HI.out; simp only [Int.natCast_zero] at HJ; rw [HJ])
      go_wp2
      go_ret
      exact ⟨rfl, by simp only [uC, uD, HI.out]; exact h, Fr.refl _ _⟩
  · have HI := Lib.hid hi
    have hin : a + n ≤ 1024 * p := by simp [inB] at hi; omega
    clear hi
    obtain ⟨A, rfl⟩ : ∃ A : Nat, a = A := ⟨a.toNat, by omega⟩
    have hin2 : A + n ≤ 1024 * p := by omega
    by_cases hA : A = 1024 * p
    · obtain rfl : n = 0 := by omega
      rw [← hA] at c0
      clear hA hin
      rcases hv with ⟨c, rfl, _⟩ | ⟨vad, vc, rfl, hc, hq, hcell⟩
      · skip
        go_enter Tryz.func17, Tryz.ntmps17
        go_wp2_with fail
        refine (holds_any _ _ h (by omega) (by omega) (by omega) (by omega)).mono ?_
        rintro e w' ⟨rfl, rfl⟩
        (have HJ := HI.out; simp only [Int.natCast_zero] at HJ; rw [HJ])
        go_wp2_with (with_reducible refine wpList_copy_row rfl (.tmp 18) (.tmp 19) 24 24 rfl 5 Tryz.underlying24 size_u8 _ _ _ _ _ _ rfl rfl b A (1024 * p) 5 _ h.hb 0 ?hmin1 (fun i => .int .u8 (f i)) ?hpos1 hin2 (fun _ => rfl) ?_)
        try (case hmin1 => exact (Nat.min_eq_left (by omega)).symm)
        try (case hpos1 => first | (intro hp; exact absurd hp (by omega)) | (intro _; exact ⟨_, rfl, fun j hj => (HC.out j hj).1⟩) | (intro _ j hj; exact (HC.out j hj).1))
        intro w1 hr1 hf1
        have hm1 := h.putB hr1 hf1 HB.out
        go_wp2_with fail
        refine (note_any A 0 hm1 hin2).mono ?_
        rintro e w2 ⟨rfl, hm2, hf2⟩
        go_wp2
        go_ret
        exact ⟨rfl, by simp only [uC, uD, HI.out]; exact hm2, (hf1.mono fun _ e => .inl e).trans hf2⟩
      · clear hcell
        go_enter Tryz.func17, Tryz.ntmps17
        go_wp2_with fail
        refine (holds_any _ _ h (by omega) (by omega) (by omega) (by omega)).mono ?_
        rintro e w' ⟨rfl, rfl⟩
        (have HJ := HI.out; simp only [Int.natCast_zero] at HJ; rw [HJ])
        go_wp2_with (with_reducible refine wpList_copy_row rfl (.tmp 18) (.tmp 19) 24 24 rfl 5 Tryz.underlying24 size_u8 _ _ _ _ _ _ rfl rfl b A (1024 * p) 5 _ h.hb 0 ?hmin2 (fun i => .int .u8 (f i)) ?hpos2 hin2 (fun _ => rfl) ?_)
        try (case hmin2 => exact (Nat.min_eq_left (by omega)).symm)
        try (case hpos2 => first | (intro hp; exact absurd hp (by omega)) | (intro _; exact ⟨_, rfl, fun j hj => (HC.out j hj).1⟩) | (intro _ j hj; exact (HC.out j hj).1))
        intro w1 hr1 hf1
        have hm1 := h.putB hr1 hf1 HB.out
        go_wp2_with fail
        refine (note_any A 0 hm1 hin2).mono ?_
        rintro e w2 ⟨rfl, hm2, hf2⟩
        go_wp2
        go_ret
        exact ⟨rfl, by simp only [uC, uD, HI.out]; exact hm2, (hf1.mono fun _ e => .inl e).trans hf2⟩
    · have hA2 : A < 1024 * p := by omega
      clear hA
      rcases hv with ⟨c, rfl, rfl⟩ | ⟨vad, vc, rfl, hc, hq, hcell⟩
      · go_enter Tryz.func17, Tryz.ntmps17
        go_wp2_with fail
        refine (holds_any _ _ h (by omega) (by omega) (by omega) (by omega)).mono ?_
        rintro e w' ⟨rfl, rfl⟩
        (have HJ := HI.out; simp only [Int.natCast_zero] at HJ; rw [HJ])
        go_wp2_with (with_reducible refine wpList_copy_row rfl (.tmp 18) (.tmp 19) 24 24 rfl 5 Tryz.underlying24 size_u8 _ _ _ _ _ _ rfl rfl b A (1024 * p) 5 _ h.hb 0 ?hmin3 (fun i => .int .u8 (f i)) ?hpos3 hin2 (fun _ => rfl) ?_)
        try (case hmin3 => exact (Nat.min_eq_left (by omega)).symm)
        try (case hpos3 => first | (intro hp; exact absurd hp (by omega)) | (intro _; exact ⟨_, rfl, fun j hj => (HC.out j hj).1⟩) | (intro _ j hj; exact (HC.out j hj).1))
        intro w1 hr1 hf1
        have hm1 := h.putB hr1 hf1 HB.out
        go_wp2_with fail
        refine (note_any A 0 hm1 hin2).mono ?_
        rintro e w2 ⟨rfl, hm2, hf2⟩
        go_wp2
        go_ret
        exact ⟨rfl, by simp only [uC, uD, HI.out]; exact hm2, (hf1.mono fun _ e => .inl e).trans hf2⟩
      · have HC := Lib.hid hcell
        clear hcell
        go_enter Tryz.func17, Tryz.ntmps17
        go_wp2_with fail
        refine (holds_any _ _ h (by omega) (by omega) (by omega) (by omega)).mono ?_
        rintro e w' ⟨rfl, rfl⟩
        rw [HI.out]
        go_wp2_with (with_reducible refine wpList_copy_row rfl (.tmp 18) (.tmp 19) 24 24 rfl 5 Tryz.underlying24 size_u8 _ _ _ _ _ _ rfl rfl b A (1024 * p) 5 _ h.hb n ?hmin4 (fun i => .int .u8 (f i)) ?hpos4 hin2 (fun _ => rfl) ?_)
        try (case hmin4 => exact (Nat.min_eq_left (by omega)).symm)
        try (case hpos4 => first | (intro hp; exact absurd hp (by omega)) | (intro _; exact ⟨_, rfl, fun j hj => (HC.out j hj).1⟩) | (intro _ j hj; exact (HC.out j hj).1))
        intro w1 hr1 hf1
        have hm1 := h.putB hr1 hf1 HB.out
        go_wp2_with fail
        refine (note_any A n hm1 hin2).mono ?_
        rintro e w2 ⟨rfl, hm2, hf2⟩
        go_wp2
        go_ret
        exact ⟨rfl, by simp only [uC, uD, HI.out]; exact hm2, (hf1.mono fun _ e => .inl e).trans hf2⟩

set_option maxHeartbeats 1000000 in
theorem rput_any {Q : Nat → Prop} (a : Int) (v : Value) (n : Nat) (f : Nat → Int) (h : Mem 62 w g b m t p C M D) (hv : ByAt Q w v n f) (h0 : 0 ≤ a) (h1 : a < 4294967296) (hn : n ≤ 9223372036854775807) :
    Calls Tryz.prog 85 #[.pointer (some ⟨g, 0, none⟩), .int .u32 a, v] w (RetP 62 (.bool (inB p a n)) w g b m t p (uC p C a n f) M (uD p M D a n)) := by
  have p2 := h.p2
  have c0 := h.cell0
  have HB := Lib.hid (show ∀ j, j < n → 0 ≤ f j ∧ f j ≤ 255 from fun j hj => hv.bounds j hj)
  cases hi : inB p a n
  · have HI := Lib.hid hi
    clear hi
    rcases hv with ⟨c, rfl, rfl⟩ | ⟨vad, vc, rfl, hc, hq, hcell⟩
    all_goals
      go_enter Tryz.func85, Tryz.ntmps85
      go_wp2_with fail
      refine (rin_any _ _ h (by omega) (by omega) (by omega) (by omega)).mono ?_
      rintro e w' ⟨rfl, rfl⟩
      first | rw [HI.out] | (have HJ := HI.out; simp only [Int.natCast_zero] at HJ; rw [HJ])
      go_wp2
      go_ret
      exact ⟨rfl, by simp only [uC, uD, HI.out]; exact h, Fr.refl _ _⟩
  · have HI := Lib.hid hi
    have hin : a + n ≤ 1024 * p := by simp [inB] at hi; omega
    clear hi
    obtain ⟨A, rfl⟩ : ∃ A : Nat, a = A := ⟨a.toNat, by omega⟩
    have hin2 : A + n ≤ 1024 * p := by omega
    by_cases hA : A = 1024 * p
    · obtain rfl : n = 0 := by omega
      rw [← hA] at c0
      clear hA hin
      rcases hv with ⟨c, rfl, _⟩ | ⟨vad, vc, rfl, hc, hq, hcell⟩
      · skip
        go_enter Tryz.func85, Tryz.ntmps85
        go_wp2_with fail
        refine (rin_any _ _ h (by omega) (by omega) (by omega) (by omega)).mono ?_
        rintro e w' ⟨rfl, rfl⟩
        (have HJ := HI.out; simp only [Int.natCast_zero] at HJ; rw [HJ])
        go_wp2_with (with_reducible refine wpList_copy_row rfl (.tmp 18) (.tmp 19) 24 24 rfl 5 Tryz.underlying24 size_u8 _ _ _ _ _ _ rfl rfl b A (1024 * p) 5 _ h.hb 0 ?hmin5 (fun i => .int .u8 (f i)) ?hpos5 hin2 (fun _ => rfl) ?_)
        try (case hmin5 => exact (Nat.min_eq_left (by omega)).symm)
        try (case hpos5 => first | (intro hp; exact absurd hp (by omega)) | (intro _; exact ⟨_, rfl, fun j hj => (HC.out j hj).1⟩) | (intro _ j hj; exact (HC.out j hj).1))
        intro w1 hr1 hf1
        have hm1 := h.putB hr1 hf1 HB.out
        go_wp2_with fail
        refine (touch_any A 0 hm1 hin2).mono ?_
        rintro e w2 ⟨rfl, hm2, hf2⟩
        go_wp2
        go_ret
        exact ⟨rfl, by simp only [uC, uD, HI.out]; exact hm2, (hf1.mono fun _ e => .inl e).trans hf2⟩
      · clear hcell
        go_enter Tryz.func85, Tryz.ntmps85
        go_wp2_with fail
        refine (rin_any _ _ h (by omega) (by omega) (by omega) (by omega)).mono ?_
        rintro e w' ⟨rfl, rfl⟩
        (have HJ := HI.out; simp only [Int.natCast_zero] at HJ; rw [HJ])
        go_wp2_with (with_reducible refine wpList_copy_row rfl (.tmp 18) (.tmp 19) 24 24 rfl 5 Tryz.underlying24 size_u8 _ _ _ _ _ _ rfl rfl b A (1024 * p) 5 _ h.hb 0 ?hmin6 (fun i => .int .u8 (f i)) ?hpos6 hin2 (fun _ => rfl) ?_)
        try (case hmin6 => exact (Nat.min_eq_left (by omega)).symm)
        try (case hpos6 => first | (intro hp; exact absurd hp (by omega)) | (intro _; exact ⟨_, rfl, fun j hj => (HC.out j hj).1⟩) | (intro _ j hj; exact (HC.out j hj).1))
        intro w1 hr1 hf1
        have hm1 := h.putB hr1 hf1 HB.out
        go_wp2_with fail
        refine (touch_any A 0 hm1 hin2).mono ?_
        rintro e w2 ⟨rfl, hm2, hf2⟩
        go_wp2
        go_ret
        exact ⟨rfl, by simp only [uC, uD, HI.out]; exact hm2, (hf1.mono fun _ e => .inl e).trans hf2⟩
    · have hA2 : A < 1024 * p := by omega
      clear hA
      rcases hv with ⟨c, rfl, rfl⟩ | ⟨vad, vc, rfl, hc, hq, hcell⟩
      · go_enter Tryz.func85, Tryz.ntmps85
        go_wp2_with fail
        refine (rin_any _ _ h (by omega) (by omega) (by omega) (by omega)).mono ?_
        rintro e w' ⟨rfl, rfl⟩
        (have HJ := HI.out; simp only [Int.natCast_zero] at HJ; rw [HJ])
        go_wp2_with (with_reducible refine wpList_copy_row rfl (.tmp 18) (.tmp 19) 24 24 rfl 5 Tryz.underlying24 size_u8 _ _ _ _ _ _ rfl rfl b A (1024 * p) 5 _ h.hb 0 ?hmin7 (fun i => .int .u8 (f i)) ?hpos7 hin2 (fun _ => rfl) ?_)
        try (case hmin7 => exact (Nat.min_eq_left (by omega)).symm)
        try (case hpos7 => first | (intro hp; exact absurd hp (by omega)) | (intro _; exact ⟨_, rfl, fun j hj => (HC.out j hj).1⟩) | (intro _ j hj; exact (HC.out j hj).1))
        intro w1 hr1 hf1
        have hm1 := h.putB hr1 hf1 HB.out
        go_wp2_with fail
        refine (touch_any A 0 hm1 hin2).mono ?_
        rintro e w2 ⟨rfl, hm2, hf2⟩
        go_wp2
        go_ret
        exact ⟨rfl, by simp only [uC, uD, HI.out]; exact hm2, (hf1.mono fun _ e => .inl e).trans hf2⟩
      · have HC := Lib.hid hcell
        clear hcell
        go_enter Tryz.func85, Tryz.ntmps85
        go_wp2_with fail
        refine (rin_any _ _ h (by omega) (by omega) (by omega) (by omega)).mono ?_
        rintro e w' ⟨rfl, rfl⟩
        rw [HI.out]
        go_wp2_with (with_reducible refine wpList_copy_row rfl (.tmp 18) (.tmp 19) 24 24 rfl 5 Tryz.underlying24 size_u8 _ _ _ _ _ _ rfl rfl b A (1024 * p) 5 _ h.hb n ?hmin8 (fun i => .int .u8 (f i)) ?hpos8 hin2 (fun _ => rfl) ?_)
        try (case hmin8 => exact (Nat.min_eq_left (by omega)).symm)
        try (case hpos8 => first | (intro hp; exact absurd hp (by omega)) | (intro _; exact ⟨_, rfl, fun j hj => (HC.out j hj).1⟩) | (intro _ j hj; exact (HC.out j hj).1))
        intro w1 hr1 hf1
        have hm1 := h.putB hr1 hf1 HB.out
        go_wp2_with fail
        refine (touch_any A n hm1 hin2).mono ?_
        rintro e w2 ⟨rfl, hm2, hf2⟩
        go_wp2
        go_ret
        exact ⟨rfl, by simp only [uC, uD, HI.out]; exact hm2, (hf1.mono fun _ e => .inl e).trans hf2⟩
end
end Go.Proofs.YtkfedihaldpgmaaGreat

/-
  The walk of RamBytes: it returns true, and nothing that was there has turned.
-/
import Derived.Test.YtfpddhpacfcfmaaMarks
namespace Go.Proofs.Ytfpddhpacfcfmaa
open Go.RowKit
set_option linter.unusedVariables false

theorem rng_u32 {a : Int} (h : (Lit.int .u32 a).wf = true) : 0 ≤ a ∧ a < 4294967296 := by
  have := bounds_u32 h; omega
theorem rng_i64 {a : Int} (h : (Lit.int .i64 a).wf = true) : -9223372036854775808 ≤ a ∧ a ≤ 9223372036854775807 := by
  have := bounds_i64 h; omega
theorem andNot3 (x : Int) (h0 : 0 ≤ x) (h1 : x < 4294967296) : bits .andNot .u32 x 3 = x / 4 * 4 := by
  rw [u32_andNot _ _ h0 h1 (by omega) (by omega)]
  have := nat_midmask 32 2 x.toNat (by decide)
  rw [show (4294967295 - (3 : Int).toNat) = 2 ^ 32 - 2 ^ 2 from rfl, this]
  omega
theorem and16 (x : Int) (h0 : 0 ≤ x) (h1 : x < 4294967296) : bits .and .u32 x 65535 = x % 65536 := by
  rw [u32_and _ _ h0 h1 (by omega) (by omega), show (65535 : Int).toNat = 2 ^ 16 - 1 from rfl, Nat.and_two_pow_sub_one_eq_mod]
  omega
theorem and8 (x : Int) (h0 : 0 ≤ x) (h1 : x < 4294967296) : bits .and .u32 x 65280 = x / 256 % 256 * 256 := by
  rw [u32_and _ _ h0 h1 (by omega) (by omega), show (65280 : Int).toNat = 2 ^ 16 - 2 ^ 8 from rfl, nat_midmask 16 8 _ (by decide)]
  omega
theorem and24 (x : Int) (h0 : 0 ≤ x) (h1 : x < 4294967296) : bits .and .u32 x 16711680 = x / 65536 % 256 * 65536 := by
  rw [u32_and _ _ h0 h1 (by omega) (by omega), show (16711680 : Int).toNat = 2 ^ 24 - 2 ^ 16 from rfl, nat_midmask 24 16 _ (by decide)]
  omega
theorem or_low (i : Nat) (x y : Int) (hx0 : 0 ≤ x) (hx : x < 2 ^ i) (hy0 : 0 ≤ y) (hy1 : y < 4294967296) (hy : y % 2 ^ i = 0) (hi : x < 4294967296) : bits .or .u32 x y = x + y := by
  rw [u32_or _ _ hx0 hi hy0 hy1, Nat.or_comm, nat_join i]
  · omega
  · have : ((y.toNat % 2 ^ i : Nat) : Int) = 0 := by
      rw [Int.natCast_emod, Int.toNat_of_nonneg hy0, Int.natCast_pow]; exact hy
    omega
  · have h : ((x.toNat : Nat) : Int) < ((2 ^ i : Nat) : Int) := by rw [Int.toNat_of_nonneg hx0, Int.natCast_pow]; exact hx
    omega
/-- the word's bytes in the other order -/
def rev (v : Int) : Int := v % 256 * 16777216 + v / 256 % 256 * 65536 + v / 65536 % 256 * 256 + v / 16777216
theorem rev_bits (v : Int) (h0 : 0 ≤ v) (h1 : v < 4294967296) :
    bits .or .u32 (bits .or .u32 (bits .or .u32 (v / 16777216) (bits .and .u32 (v / 256) 65280)) (bits .and .u32 (v * 256 % 4294967296) 16711680)) (v * 16777216 % 4294967296) = rev v := by
  rw [and8 _ (by omega) (by omega), and24 _ (by omega) (by omega)]
  rw [or_low 8 (v / 16777216) (v / 256 / 256 % 256 * 256) (by omega) (by omega) (by omega) (by omega) (by omega) (by omega)]
  rw [or_low 16 (v / 16777216 + v / 256 / 256 % 256 * 256) (v * 256 % 4294967296 / 65536 % 256 * 65536) (by omega) (by omega) (by omega) (by omega) (by omega) (by omega)]
  rw [or_low 24 _ (v * 16777216 % 4294967296) (by omega) (by omega) (by omega) (by omega) (by omega) (by omega)]
  unfold rev
  omega
/-- behind the four bytes, the last first: i of them -/
def flip (C : Nat → Int) (K i : Nat) (C' : Nat → Int) : Prop := ∀ j, j < 4 → C' (K + j) = if j < i then C (K + (3 - j)) else C (K + j)
theorem stC_at (C : Nat → Int) (v : Int) (K j : Nat) (h : j < 4) : stC C v K 4 (K + j) = v / 256 ^ (3 - j) % 256 := by
  unfold stC stB byteAt
  rw [if_pos (by omega), show K + 4 - 1 - (K + j) = 3 - j by omega]
theorem ld4 (C : Nat → Int) (K : Nat) : ld C K 4 = ((C K * 256 + C (K + 1)) * 256 + C (K + 2)) * 256 + C (K + 3) := by simp [ld]
theorem ld2 (C : Nat → Int) (K : Nat) : ld C K 2 = C K * 256 + C (K + 1) := by simp [ld]
theorem flip_ld (C C' : Nat → Int) (v : Int) (K : Nat) (h0 : 0 ≤ v) (h1 : v < 4294967296) (h : flip (stC C v K 4) K 4 C') : ld C' K 4 = rev v := by
  have a0 := h 0 (by omega)
  have a1 := h 1 (by omega)
  have a2 := h 2 (by omega)
  have a3 := h 3 (by omega)
  have b0 := stC_at C v K 0 (by omega)
  have b1 := stC_at C v K 1 (by omega)
  have b2 := stC_at C v K 2 (by omega)
  have b3 := stC_at C v K 3 (by omega)
  simp at a0 a1 a2 a3 b0 b1 b2 b3
  rw [ld4, a0, a1, a2, a3, b0, b1, b2, b3]
  unfold rev
  omega
theorem flip_step (C C' : Nat → Int) (K i : Nat) (x : Int) (hi : i < 4) (hx : x = C (K + (3 - i))) (h : flip C K i C') : flip C K (i + 1) (fun j => if j = K + i then x else C' j) := by
  intro j hj
  by_cases e : j = i
  · subst e; simp [hx]
  · have hh := h j hj
    show (if K + j = K + i then x else C' (K + j)) = _
    rw [if_neg (by omega), hh]
    by_cases q : j < i
    · rw [if_pos q, if_pos (by omega)]
    · rw [if_neg q, if_neg (by omega)]
theorem load_hi (K : Nat) (v : Int) (h : K ≤ 2040) (h4 : K % 4 = 0) (v0 : 0 ≤ v) (v1 : v < 4294967296) : loadV 2 (stC (fun _ => 0) v K 4) K 2 = .tuple #[.int .u32 (v / 65536), .bool true] := by
  have e : okN 2 K 2 = true := by simp [okN]; omega
  have b0 := stC_at (fun _ => 0) v K 0 (by omega)
  have b1 := stC_at (fun _ => 0) v K 1 (by omega)
  simp only [Nat.add_zero] at b0
  have e2 : ld (stC (fun _ => 0) v K 4) K 2 = v / 65536 := by rw [ld2, b0, b1]; simp; omega
  unfold loadV
  rw [e, if_pos rfl]
  show Value.tuple #[.int .u32 (ld (stC (fun _ => 0) v K 4) K 2), _] = _
  rw [e2]
theorem load_lo (K : Nat) (v : Int) (h : K ≤ 2040) (h4 : K % 4 = 0) (v0 : 0 ≤ v) (v1 : v < 4294967296) : loadV 2 (stC (fun _ => 0) v K 4) ((K : Int) + 2) 2 = .tuple #[.int .u32 (v % 65536), .bool true] := by
  have e : okN 2 ((K : Int) + 2) 2 = true := by simp [okN]; omega
  have b0 := stC_at (fun _ => 0) v K 2 (by omega)
  have b1 := stC_at (fun _ => 0) v K 3 (by omega)
  have e2 : ld (stC (fun _ => 0) v K 4) (K + 2) 2 = v % 65536 := by rw [ld2, b0, show K + 2 + 1 = K + 3 from rfl, b1]; simp; omega
  unfold loadV
  rw [e, if_pos rfl]
  show Value.tuple #[.int .u32 (ld (stC (fun _ => 0) v K 4) ((K : Int) + 2).toNat 2), _] = _
  rw [show ((K : Int) + 2).toNat = K + 2 by omega, e2]
theorem stC_one (C : Nat → Int) (A : Nat) (x a : Int) (ha : a = A) (x0 : 0 ≤ x) (x1 : x ≤ 255) : stC C x a.toNat 1 = fun j => if j = A then x else C j := by
  subst ha
  funext j
  unfold stC stB byteAt
  simp only [Int.toNat_natCast]
  by_cases e : j = A
  · subst e
    rw [if_pos (by omega), if_pos rfl, show j + 1 - 1 - j = 0 by omega]
    simp; omega
  · rw [if_neg (by omega), if_neg e]
theorem byAt_below {w w' : World} {v : Value} {n : Nat} {f : Nat → Int} (h : ByAt (fun k => k < w.heap.size) w v n f) (hb : Below w.heap.size w w') : ByAt (fun k => k < w.heap.size) w' v n f :=
  h.fr (Fr.of_below (S := fun _ => False) hb) (fun _ _ _ => id)
theorem byAt_congr {Q : Nat → Prop} {w : World} {v : Value} {n : Nat} {f f' : Nat → Int} (h : ByAt Q w v n f) (e : ∀ i, i < n → f i = f' i) : ByAt Q w v n f' := by
  rcases h with h | ⟨ad, c, hv, hc, hq, hi⟩
  · exact .inl h
  · exact .inr ⟨ad, c, hv, hc, hq, fun i hn => by rw [← e i hn]; exact hi i hn⟩
theorem cap_of {k : IntKind} {w : World} {a : Option Addr} {len cap : Nat} {zs : List Int} (h : Row k w a len cap zs) : len ≤ cap := by
  rcases h with ⟨_, rfl, rfl, _⟩ | ⟨x, rfl, h1, h3, _⟩ <;> omega
theorem some_of {k : IntKind} {w : World} {a : Option Addr} {len cap : Nat} {zs : List Int} (h : Row k w a len cap zs) (hl : 0 < len) : ∃ x, a = some x := by
  rcases h with ⟨_, rfl, _⟩ | ⟨x, rfl, _⟩
  · omega
  · exact ⟨x, rfl⟩
theorem byAt_row {w : World} {a : Option Addr} {len cap : Nat} {zs : List Int} (h : Row .u8 w a len cap zs) (n : Nat) (hn : n ≤ len) : ByAt (fun k => k < w.heap.size) w (.slice a n cap) n (fun i => zs.getD i 0) := by
  rcases h with ⟨rfl, rfl, rfl, rfl⟩ | ⟨x, rfl, h1, _, h2, hc, hw⟩
  · obtain rfl : n = 0 := by omega
    exact .inl ⟨0, rfl, rfl⟩
  · refine .inr ⟨x, cap, rfl, by omega, fun hp => ?_, fun i hi => ?_⟩
    · have h0 := hc 0 (by omega)
      have hb := block_lt_of_cell h0
      rw [add_block] at hb
      exact ⟨by have := addr_plain h0; simpa [Addr.add] using this, hb⟩
    · have hl : i < zs.length := by omega
      have hm : zs.getD i 0 ∈ zs := by
        rw [List.getD_eq_getElem?_getD, List.getElem?_eq_getElem hl]
        exact List.getElem_mem hl
      have := bounds_u8 (hw _ hm)
      exact ⟨hc i hl, by show 0 ≤ zs.getD i 0; omega, by show zs.getD i 0 ≤ 255; omega⟩

set_option maxRecDepth 100000 in
set_option maxHeartbeats 4000000 in
theorem bytes_walk (a v : Int) (a2 : Option Addr) (len2 cap2 : Nat) (z2 : List Int) (w : World) (h0 : 0 ≤ a) (h1 : a < 4294967296) (v0 : 0 ≤ v) (v1 : v < 4294967296) (r2 : Row .u8 w a2 len2 cap2 z2) :
    Calls Try.prog 5 #[.int .u32 a, .int .u32 v, .slice a2 len2 cap2] w (TrB w) := by
  have l2 := len_of r2
  unfold maxLen at l2
  have lc := cap_of r2
  have R2 := Lib.hid r2
  clear r2
  obtain ⟨K, HK⟩ : ∃ K : Nat, Hid (a % 2044 / 4 * 4 = (K : Int)) := ⟨(a % 2044 / 4 * 4).toNat, by show _ = _; omega⟩
  have hK : K ≤ 2040 := by have := HK.out; omega
  have hK4 : K % 4 = 0 := by have := HK.out; omega
  have hbit := andNot3 (a % 2044) (by omega) (by omega)
  rw [HK.out] at hbit
  go_enter Try.func5, Try.ntmps5
  go_wp2_with fail
  refine (new_any 2 w).mono ?_
  rintro e w1 ⟨g, b, m, t, rfl, lg, lb, lm, lt, hm1, hb1⟩
  rw [show clampP 2 = 2 from rfl] at hm1
  have s1 := hb1.size
  have lg1 := hm1.st.lt
  have lb1 := hm1.hb.lt
  have lm1 := hm1.hm.lt
  have lt1 := hm1.ht.lt
  go_wp2_with fail
  refine (store_any K 4 v hm1 (by omega) (by omega) (by omega) (by omega) (by omega) (by omega)).mono ?_
  rintro e w2 ⟨rfl, hm2, hf2⟩
  have e1 : okN 2 K 4 = true := by simp [okN]; omega
  rw [e1]
  have e2 : aC 2 (fun _ => 0) K 4 v = stC (fun _ => 0) v K 4 := by unfold aC; rw [e1]; rfl
  rw [e2] at hm2
  have E1 := Lib.hid e1
  clear e1 e2
  obtain ⟨C1, HC1⟩ : ∃ C1, Hid (C1 = stC (fun _ => 0) v K 4) := ⟨_, rfl⟩
  rw [← HC1.out] at hm2
  clear hbit
  go_wp2_with fail
  refine (bytes_any K 4 hm2 (by omega) (by omega) (by omega) (by omega)).mono ?_
  rintro e w3 ⟨v3, rfl, hv3, hf3⟩
  have e3 : inB 2 K 4 = true := by simp [inB]; omega
  have e4 : cnt 2 K 4 = 4 := by unfold cnt; rw [e3]; rfl
  rw [e4] at hv3
  rw [e3]
  clear e3 e4
  obtain ⟨vb, vo, vc, rfl, vcc, vq, hvc⟩ := hv3.form (by omega)
  have hm3 := hm2.keep hf3 id id id id
  go_wp2_with fail
  refine (load_any K 2 hm3 (by omega) (by omega) (by omega) (by omega)).mono ?_
  rintro e w4 ⟨rfl, rfl⟩
  rw [HC1.out, load_hi K v (by omega) (by omega) v0 v1]
  have hk2 : (K : Int) + 2 < 4294967296 := by omega
  go_wp2_with fail
  refine (load_any ((K : Int) + 2) 2 hm3 (by omega) (by omega) (by omega) (by omega)).mono ?_
  rintro e w4 ⟨rfl, rfl⟩
  rw [HC1.out, load_lo K v (by omega) (by omega) v0 v1]
  have hx0 : w3.cell? ⟨vb, vo, none⟩ = some (.int .u8 (v / 16777216 % 256)) := by
    have := (hvc 0 (by omega)).1
    rw [HC1.out] at this
    simp only [Int.toNat_natCast] at this
    rw [stC_at _ _ _ _ (by omega)] at this
    exact this
  have hx3 : w3.cell? ⟨vb, vo + 3, none⟩ = some (.int .u8 (v % 256)) := by
    have := (hvc 3 (by omega)).1
    rw [HC1.out] at this
    simp only [Int.toNat_natCast] at this
    rw [stC_at _ _ _ _ (by omega)] at this
    simpa using this
  have ha16 := and16 v v0 v1
  have HV := Lib.hid hvc
  clear hvc hk2
  go_wp2_with fail
  clear hx0 hx3 ha16
  go_loopw [15] (fun i wr => ∃ (k : Nat) (C D : Nat → Int) (E : Nat → Bool), k ≤ 4 ∧ i = .int .u32 k ∧ Mem 57 wr g b m t 2 C (fun _ => false) E ∧ flip C1 K k C ∧ Fr (Own b m t) w3 wr) (fun i _ => 4 - (intOf i).toNat)
  case atStart => exact ⟨0, C1, C1, _, by omega, rfl, hm3, fun j _ => by simp, Fr.refl _ _⟩
  case round =>
    obtain ⟨k, C, D, E, hk, rfl, hm, hfl, hf⟩ := hrel
    have hsz := hf.size
    have s2 := hf2.size
    by_cases hlt : k < 4
    · obtain ⟨J, HJ⟩ : ∃ J, Hid (J = 3 - k) := ⟨_, rfl⟩
      have hJ : J < 4 := by have := HJ.out; omega
      have hcj := (HV.out J hJ).1
      have hlv := block_lt_of_cell hcj
      have hcr : wr.cell? ⟨vb, vo + (3 - k), none⟩ = some (.int .u8 (C1 (K + (3 - k)))) := by
        rw [← HJ.out]
        exact (World.cell?_of_block (a := ⟨vb, vo + J, none⟩) (hf.block vb hlv (by rintro (e | e | e) <;> omega))).trans hcj
      have cb0 := hm3.c0 (K + (3 - k))
      have cb1 := hm3.c1 (K + (3 - k))
      have z4 : (k : Int) < 4 := by omega
      clear hcj
      go_wp2_with fail
      refine (store_any _ 1 _ hm (by omega) (by omega) (by omega) (by omega) (by omega) (by omega)).mono ?_
      rintro e w5 ⟨rfl, hm5, hf5⟩
      have e5 : okN 2 ((K : Int) + k) 1 = true := by simp [okN]; omega
      have e6 : aC 2 C ((K : Int) + k) 1 (C1 (K + (3 - k))) = fun j => if j = K + k then C1 (K + (3 - k)) else C j := by
        unfold aC
        rw [e5]
        exact stC_one C (K + k) _ _ (by omega) cb0 cb1
      rw [e5]
      rw [e6] at hm5
      clear e5 e6
      go_wp2_with fail
      go_roundw
      case rel => exact ⟨k + 1, _, C1, _, by omega, by go_num, hm5, flip_step C1 C K k _ hlt rfl hfl, hf.trans hf5⟩
      case measure => simp [intOf]; omega
    · obtain rfl : k = 4 := by omega
      clear hlt
      go_wp2_with fail
      refine (load_any K 4 hm (by omega) (by omega) (by omega) (by omega)).mono ?_
      rintro e w6 ⟨rfl, rfl⟩
      have e7 : loadV 2 C K 4 = .tuple #[.int .u32 (rev v), .bool true] := by
        unfold loadV
        rw [E1.out, if_pos rfl]
        rw [HC1.out] at hfl
        show Value.tuple #[.int .u32 (ld C K 4), _] = _
        rw [flip_ld _ _ v K v0 v1 hfl]
      rw [e7]
      have hrev := rev_bits v v0 v1
      clear e7
      by_cases hL : len2 ≤ 100
      · go_wp2_with fail
        have hBr := below_own ((below_own hb1 lb lm lt hf2).trans (hf3.below (by omega) (fun _ _ => id))) lb lm lt hf
        have hv := byAt_below (byAt_row R2.out len2 (by omega)) hBr
        refine (put_any ((K : Int) % 900) _ len2 _ hm hv (by omega) (by omega) (by omega)).mono ?_
        rintro e w7 ⟨rfl, hm7, hf7⟩
        have e8 : inB 2 ((K : Int) % 900) (len2 : Nat) = true := by simp [inB]; omega
        rw [e8]
        have e9 : uC 2 C ((K : Int) % 900) len2 (fun i => z2.getD i 0) = putC C (K % 900) len2 (fun i => z2.getD i 0) := by unfold uC; rw [e8, show ((K : Int) % 900).toNat = K % 900 by omega]
        rw [e9] at hm7
        have hB7 := below_own hBr lb lm lt hf7
        have E8 := Lib.hid e8
        clear e8 e9
        go_wp2_with fail
        refine (bytes_any ((K : Int) % 900) _ hm7 (by omega) (by omega) (by omega) (by omega)).mono ?_
        rintro e w8 ⟨v8, rfl, hv8, hf8⟩
        have e10 : cnt 2 ((K : Int) % 900) (len2 : Nat) = len2 := by unfold cnt; rw [E8.out]; simp
        have hv8' := byAt_congr (f' := fun i => z2.getD i 0) (show ByAt _ w8 v8 len2 _ by rw [← e10]; exact hv8) (fun i hi => by rw [show ((K : Int) % 900).toNat = K % 900 by omega]; unfold putC; rw [if_pos (by omega)]; congr 1; omega)
        have hB8 := hB7.trans (hf8.below hB7.size (fun _ _ => id))
        have hc8 := conv_any hv8'
        have hc9 := conv_any (byAt_below (byAt_row R2.out len2 (by omega)) hB8)
        have e11 := E8.out
        clear hv8 hv8' e10
        first | rw [e11] | rw [show inB 2 ((K : Int) % 900) 100 = true from e11]
        clear e11
        go_wp2_with fail
        refine (known_any _).mono ?_
        rintro e w9 ⟨rfl, hb9⟩
        go_wp2
        go_ret
        exact ⟨rfl, hB8.trans (hb9.mono hB8.size)⟩
      · obtain ⟨x, rfl⟩ := some_of R2.out (by omega)
        have hc100 : 100 < cap2 := by omega
        go_wp2_with fail
        have hBr := below_own ((below_own hb1 lb lm lt hf2).trans (hf3.below (by omega) (fun _ _ => id))) lb lm lt hf
        have hv := byAt_below (byAt_row R2.out 100 (by omega)) hBr
        refine (put_any ((K : Int) % 900) _ 100 _ hm hv (by omega) (by omega) (by omega)).mono ?_
        rintro e w7 ⟨rfl, hm7, hf7⟩
        have e8 : inB 2 ((K : Int) % 900) (100 : Nat) = true := by simp [inB]; omega
        rw [e8]
        have e9 : uC 2 C ((K : Int) % 900) 100 (fun i => z2.getD i 0) = putC C (K % 900) 100 (fun i => z2.getD i 0) := by unfold uC; rw [e8, show ((K : Int) % 900).toNat = K % 900 by omega]
        rw [e9] at hm7
        have hB7 := below_own hBr lb lm lt hf7
        have E8 := Lib.hid e8
        clear e8 e9
        go_wp2_with fail
        refine (bytes_any ((K : Int) % 900) _ hm7 (by omega) (by omega) (by omega) (by omega)).mono ?_
        rintro e w8 ⟨v8, rfl, hv8, hf8⟩
        have e10 : cnt 2 ((K : Int) % 900) (100 : Nat) = 100 := by unfold cnt; rw [E8.out]; simp
        have hv8' := byAt_congr (f' := fun i => z2.getD i 0) (show ByAt _ w8 v8 100 _ by rw [← e10]; exact hv8) (fun i hi => by rw [show ((K : Int) % 900).toNat = K % 900 by omega]; unfold putC; rw [if_pos (by omega)]; congr 1; omega)
        have hB8 := hB7.trans (hf8.below hB7.size (fun _ _ => id))
        have hc8 := conv_any hv8'
        have hc9 := conv_any (byAt_below (byAt_row R2.out 100 (by omega)) hB8)
        have e11 := E8.out
        clear hv8 hv8' e10
        first | rw [e11] | rw [show inB 2 ((K : Int) % 900) 100 = true from e11]
        clear e11
        go_wp2_with fail
        refine (known_any _).mono ?_
        rintro e w9 ⟨rfl, hb9⟩
        go_wp2
        go_ret
        exact ⟨rfl, hB8.trans (hb9.mono hB8.size)⟩
end Go.Proofs.Ytfpddhpacfcfmaa

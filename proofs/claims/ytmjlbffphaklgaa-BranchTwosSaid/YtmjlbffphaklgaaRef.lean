/-
  Chapter 3: the document's own answer: its tables in memory, and functions has, small, sub, rows.
-/
import Derived.Test.YtmjlbffphaklgaaCom
namespace Go.Proofs.Ytmjlbffphaklgaa
open Go.RowKit
set_option linter.unusedVariables false

/-- a string has a byte -/
def hasB (f : ByteArray) (c : Int) : Bool := f.data.toList.any fun b => (b.toNat : Int) == c
theorem take_snoc (s : ByteArray) (k : Nat) (h : k < s.size) : s.data.toList.take (k + 1) = s.data.toList.take k ++ [s[k]] := by
  rw [List.take_succ_eq_append_getElem (by simpa using h)]; rfl
theorem any_take {l : List UInt8} {p : UInt8 → Bool} {k : Nat} (h : (l.take k).any p = true) : l.any p = true := by
  rw [List.any_eq_true] at *
  obtain ⟨x, hx, hp⟩ := h
  exact ⟨x, List.mem_of_mem_take hx, hp⟩
set_option maxHeartbeats 400000 in
theorem has_any (f : ByteArray) (c : Int) (w : World) (hf : f.size ≤ 1000) : Calls Try.prog 28 #[.string f, .int .u8 c] w fun e w' => e = .returned (.bool (hasB f c)) ∧ w = w' := by
  go_enter Try.func28, Try.ntmps28
  go_wp2
  go_loop [5] (fun i => ∃ k : Nat, k ≤ f.size ∧ i = .int .i64 k ∧ Hid ((f.data.toList.take k).any (fun b => (b.toNat : Int) == c) = false)) (fun i => f.size - (intOf i).toNat)
  case atStart => exact ⟨0, Nat.zero_le _, rfl, show _ = _ by simp⟩
  case round =>
    obtain ⟨k, hk, rfl, HA⟩ := hrel
    by_cases hlt : k < f.size
    · have HT := Lib.hid (take_snoc f k hlt)
      cases hc : ((f[k].toNat : Int) == c)
      · go_wp2
        go_round
        case rel => exact ⟨k + 1, by omega, by go_num, show _ = _ by rw [HT.out, List.any_append, HA.out]; simpa using hc⟩
        case measure => simp [intOf]; omega
      · go_wp2
        go_ret
        refine ⟨ret_bool ?_, rfl⟩
        unfold hasB
        symm
        apply any_take (k := k + 1)
        rw [HT.out, List.any_append]
        have hc2 := hc
        simp [hc2]
    · go_wp2
      go_ret
      refine ⟨ret_bool ?_, rfl⟩
      have := HA.out
      rw [List.take_of_length_le (by simp; omega)] at this
      exact this.symm
def smB (n : Int) (b : Bool) : Bool := decide (n = 0 ∨ b = true ∧ 0 < n ∧ n < 32)
set_option maxHeartbeats 400000 in
theorem small_any (n : Int) (b : Bool) (w : World) : Calls Try.prog 29 #[.int .i64 n, .bool b] w fun e w' => e = .returned (.bool (smB n b)) ∧ w = w' := by
  by_cases h0 : n = 0
  · subst h0
    go_enter Try.func29, Try.ntmps29
    go_wp2
    go_ret
    exact ⟨ret_bool (by simp [smB]), rfl⟩
  · have e0 : (n == 0) = false := by simpa using h0
    cases b
    · go_enter Try.func29, Try.ntmps29
      go_wp2
      go_ret
      exact ⟨ret_bool (by simp [smB, h0]), rfl⟩
    · by_cases h1 : 0 < n
      · go_enter Try.func29, Try.ntmps29
        go_wp2
        go_ret
        exact ⟨ret_bool (by simp [smB, h0, h1]), rfl⟩
      · have e1 : decide (0 < n) = false := by simpa using h1
        go_enter Try.func29, Try.ntmps29
        go_wp2
        go_ret
        exact ⟨ret_bool (by simp only [smB]; symm; rw [decide_eq_false_iff_not]; omega), rfl⟩
theorem sub_and (x : Nat) (h : x < 4294967296) (m p : Nat) (hm : m = 2 ^ p - 1) (hp : p ≤ 26) : bits .and .u32 (x : Int) (m : Int) = ((x % 2 ^ p : Nat) : Int) := by
  have : 2 ^ p ≤ 2 ^ 26 := Nat.pow_le_pow_right (by omega) hp
  rw [u32_and_nat _ _ h (by omega), hm, Nat.and_two_pow_sub_one_eq_mod]
/-! the tables, as they are made -/
/-- the cells of the row of a Kind -/
def rowV (k : Nat) : Nat → Value
  | 0 => .int .i64 (D.op k : Int)
  | 1 => .int .i64 (D.sb k : Int)
  | 2 => .int .i64 (k : Int)
  | _ => .string (D.fld k)
def cells4 (K : Nat → Nat) (n : Nat) : List Value := (List.range (n * 4)).map fun q => rowV (K (q / 4)) (q % 4)
theorem cells4_at (K : Nat → Nat) (n i j : Nat) (hi : i < n) (hj : j < 4) : (cells4 K n)[i * 4 + j]? = some (rowV (K i) j) := by
  unfold cells4
  rw [List.getElem?_map, List.getElem?_range (by omega)]
  show some (rowV (K ((i * 4 + j) / 4)) ((i * 4 + j) % 4)) = _
  rw [show (i * 4 + j) / 4 = i by omega, show (i * 4 + j) % 4 = j by omega]
/-- block b holds n rows, of Kinds K -/
structure Tb (w : World) (b n : Nat) (K : Nat → Nat) : Prop where
  c : ∀ i j, i < n → j < 4 → w.cell? ⟨b, i * 4 + j, none⟩ = some (rowV (K i) j)
  l : b < w.heap.size
theorem Tb.below {w w' : World} {b n B : Nat} {K : Nat → Nat} (h : Tb w b n K) (hb : Below B w w') (hB : b < B) : Tb w' b n K :=
  ⟨fun i j hi hj => (hb.cell (p := ⟨b, i * 4 + j, none⟩) hB).trans (h.c i j hi hj), Nat.lt_of_lt_of_le h.l hb.size⟩
theorem tb_new {w : World} {cs : Array Value} {t : TypeId} {n : Nat} {K : Nat → Nat} (h : cs.toList = cells4 K n) : Tb (w.alloc (.cells cs t)) w.heap.size n K where
  c i j hi hj := by
    have e : (w.alloc (.cells cs t)).cell? ⟨w.heap.size, i * 4 + j, none⟩ = cs[i * 4 + j]? := by simp
    rw [e, ← Array.getElem?_toList, h, cells4_at K n i j hi hj]
  l := by simp
/-- what a table's function leaves: a slice over a new block -/
def TabP (w : World) (n : Nat) (K : Nat → Nat) (e : Ending) (w' : World) : Prop :=
  ∃ b, e = .returned (.slice (some ⟨b, 0, none⟩) n n) ∧ w.heap.size ≤ b ∧ Tb w' b n K ∧ Below w.heap.size w w'
set_option maxRecDepth 100000 in
set_option maxHeartbeats 4000000 in
theorem special_any (w : World) : Calls Try.prog 30 #[] w (TabP w 35 D.spK) := by
  go_enter Try.func30, Try.ntmps30
  go_wp2
  go_ret
  exact ⟨_, rfl, Nat.le_refl _, tb_new (by kernel_rfl), below_new⟩
set_option maxRecDepth 100000 in
set_option maxHeartbeats 4000000 in
theorem plain_any (w : World) : Calls Try.prog 31 #[] w (TabP w 27 D.plK) := by
  go_enter Try.func31, Try.ntmps31
  go_wp2
  go_ret
  exact ⟨_, rfl, Nat.le_refl _, tb_new (by kernel_rfl), below_new⟩
set_option maxRecDepth 100000 in
set_option maxHeartbeats 4000000 in
theorem others_any (w : World) : Calls Try.prog 32 #[] w (TabP w 15 D.otK) := by
  go_enter Try.func32, Try.ntmps32
  go_wp2
  go_ret
  exact ⟨_, rfl, Nat.le_refl _, tb_new (by kernel_rfl), below_new⟩
end Go.Proofs.Ytmjlbffphaklgaa

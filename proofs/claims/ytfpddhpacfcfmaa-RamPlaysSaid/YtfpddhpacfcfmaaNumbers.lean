/-
  The walks of RamPlays and RamNumbers: each returns true, and nothing that was there has turned.
-/
import Derived.Test.YtfpddhpacfcfmaaAsks
namespace Go.Proofs.Ytfpddhpacfcfmaa
open Go.RowKit
set_option linter.unusedVariables false

theorem asks_below {w w' : World} {a : Option Addr} {len : Nat} (h : Asks w w.heap.size a len) (hb : Below w.heap.size w w') : Asks w' w'.heap.size a len := by
  intro i hi
  obtain ⟨b, o, kd, n, pg, at_, v, bv, N, f, e, hbl, c0, c1, c2, c3, c4, c5, hbv, r⟩ := h i hi
  exact ⟨b, o, kd, n, pg, at_, v, bv, N, f, e, Nat.lt_of_lt_of_le hbl hb.size, (hb.cell (p := ⟨b, o + i * 6, none⟩) hbl).trans c0, (hb.cell (p := ⟨b, o + i * 6 + 1, none⟩) hbl).trans c1, (hb.cell (p := ⟨b, o + i * 6 + 2, none⟩) hbl).trans c2,
    (hb.cell (p := ⟨b, o + i * 6 + 3, none⟩) hbl).trans c3, (hb.cell (p := ⟨b, o + i * 6 + 4, none⟩) hbl).trans c4, (hb.cell (p := ⟨b, o + i * 6 + 5, none⟩) hbl).trans c5, (byAt_below hbv hb).mono fun k hk => Nat.lt_of_lt_of_le hk hb.size, r⟩

set_option maxHeartbeats 1000000 in
theorem plays_walk (pages : Int) (a : Option Addr) (len cap : Nat) (w : World) (p0 : -9223372036854775808 ≤ pages) (p1 : pages ≤ 9223372036854775807) (hA : Asks w w.heap.size a len) (hl : len ≤ 9223372036854775807) :
    Calls Try.prog 4 #[.int .i64 pages, .slice a len cap] w (TrB w) := by
  have HA := Lib.hid hA
  clear hA
  go_enter Try.func4, Try.ntmps4
  go_wp2_with fail
  refine (within_any pages 1 3 _ (by omega) (by omega) (by omega) (by omega) (by omega)).mono ?_
  rintro e w1 ⟨v1, v10, v11, rfl, rfl⟩
  go_wp2_with fail
  refine (play_any _ _ _ _ _ _ HA hl).mono ?_
  rintro e w2 ⟨rfl, hb2⟩
  go_wp2_with fail
  refine (within_any pages 1 3 _ (by omega) (by omega) (by omega) (by omega) (by omega)).mono ?_
  rintro e w3 ⟨v3, v30, v31, rfl, rfl⟩
  go_wp2_with fail
  refine (play_any _ _ _ _ _ _ (Lib.hid (asks_below HA.out hb2)) hl).mono ?_
  rintro e w4 ⟨rfl, hb4⟩
  go_wp2_with fail
  refine (known_any _).mono ?_
  rintro e w5 ⟨rfl, hb5⟩
  go_wp2
  go_ret
  have hb24 := hb2.trans (hb4.mono hb2.size)
  exact ⟨rfl, hb24.trans (hb5.mono hb24.size)⟩

/-- six values by their place -/
def vec6 (a b c d e f : Value) : Nat → Value
  | 0 => a
  | 1 => b
  | 2 => c
  | 3 => d
  | 4 => e
  | _ => f
/-- the cells of k calls -/
def cells6 (EL : Nat → Nat → Value) (k : Nat) : List Value := (List.range (k * 6)).map fun q => EL (q / 6) (q % 6)
theorem cells6_len (EL : Nat → Nat → Value) (k : Nat) : (cells6 EL k).length = k * 6 := by simp [cells6]
theorem cells6_at (EL : Nat → Nat → Value) (k i j : Nat) (hi : i < k) (hj : j < 6) : (cells6 EL k)[i * 6 + j]? = some (EL i j) := by
  unfold cells6
  rw [List.getElem?_map, List.getElem?_range (by omega)]
  show some (EL ((i * 6 + j) / 6) ((i * 6 + j) % 6)) = _
  rw [show (i * 6 + j) / 6 = i by omega, show (i * 6 + j) % 6 = j by omega]
theorem cells6_snoc (EL : Nat → Nat → Value) (k : Nat) (a b c d e f : Value) : cells6 EL k ++ [a, b, c, d, e, f] = cells6 (fun i => if i = k then vec6 a b c d e f else EL i) (k + 1) := by
  apply List.ext_getElem?
  intro q
  by_cases h1 : q < k * 6
  · rw [List.getElem?_append_left (by rw [cells6_len]; exact h1)]
    have e1 := cells6_at EL k (q / 6) (q % 6) (by omega) (by omega)
    have e2 := cells6_at (fun i => if i = k then vec6 a b c d e f else EL i) (k + 1) (q / 6) (q % 6) (by omega) (by omega)
    rw [show q / 6 * 6 + q % 6 = q by omega] at e1 e2
    rw [e1, e2]
    show _ = some ((if q / 6 = k then vec6 a b c d e f else EL (q / 6)) (q % 6))
    rw [if_neg (by omega)]
  · rw [List.getElem?_append_right (by rw [cells6_len]; omega), cells6_len]
    by_cases h2 : q < (k + 1) * 6
    · have e2 := cells6_at (fun i => if i = k then vec6 a b c d e f else EL i) (k + 1) (q / 6) (q % 6) (by omega) (by omega)
      rw [show q / 6 * 6 + q % 6 = q by omega] at e2
      rw [e2]
      show _ = some ((if q / 6 = k then vec6 a b c d e f else EL (q / 6)) (q % 6))
      rw [if_pos (by omega)]
      have h6 : q - k * 6 = 0 ∨ q - k * 6 = 1 ∨ q - k * 6 = 2 ∨ q - k * 6 = 3 ∨ q - k * 6 = 4 ∨ q - k * 6 = 5 := by omega
      have h7 : q % 6 = q - k * 6 := by omega
      rw [h7]
      rcases h6 with h | h | h | h | h | h <;> rw [h] <;> rfl
    · rw [List.getElem?_eq_none (by simp; omega), List.getElem?_eq_none (by rw [cells6_len]; omega)]
/-- the i-th call that was made -/
def MadeAsk (w : World) (B : Nat) (E : Nat → Value) : Prop :=
  ∃ (kd n pg at_ v : Int) (q l : Nat), E = vec6 (.int .i64 kd) (.int .i64 n) (.int .i64 pg) (.int .u32 at_) (.int .u32 v) (.slice (some ⟨q, 0, none⟩) l l) ∧ B ≤ q ∧ w.rowIs q 5 l (fun _ => .int .u8 0) ∧ l ≤ 8 ∧
    -9223372036854775808 ≤ kd ∧ kd ≤ 9223372036854775807 ∧ -9223372036854775808 ≤ n ∧ n ≤ 9223372036854775807 ∧ -9223372036854775808 ≤ pg ∧ pg ≤ 9223372036854775807 ∧ 0 ≤ at_ ∧ at_ < 4294967296 ∧ 0 ≤ v ∧ v < 4294967296
theorem info_ask : (Try.prog.info? 26).map (fun i => (i.zero, i.size, i.bytes)) = some (some (.agg #[.int .i64 0, .int .i64 0, .int .i64 0, .int .u32 0, .int .u32 0, .slice none 0 0]), 6, 56) := by kernel_rfl
theorem asks_made {w : World} {B n : Nat} {v : Value} {EL : Nat → Nat → Value} (hn : 0 < n) (ho : w.ownsRow B 26 6 v n (cells6 EL n)) (hE : ∀ i, i < n → MadeAsk w B (EL i)) : ∃ a cap, v = .slice a n cap ∧ Asks w w.heap.size a n := by
  obtain ⟨g, cap, rfl, _, hg⟩ := ho.form hn
  refine ⟨_, _, rfl, fun i hi => ?_⟩
  obtain ⟨kd, nn, pg, at_, v, q, l, he, hq, hr, hl, r⟩ := hE i hi
  have hc : ∀ j, j < 6 → w.cell? ⟨g, 0 + i * 6 + j, none⟩ = some (EL i j) := fun j hj => by
    rw [Nat.zero_add, ho.cellAt (i * 6 + j) (by omega), cells6_at EL n i j hi hj]
  refine ⟨g, 0, kd, nn, pg, at_, v, .slice (some ⟨q, 0, none⟩) l l, l, fun _ => 0, rfl, hg, ?_, ?_, ?_, ?_, ?_, ?_, ?_, by omega, r⟩
  · rw [show 0 + i * 6 = 0 + i * 6 + 0 from rfl, hc 0 (by omega), he]; rfl
  · rw [hc 1 (by omega), he]; rfl
  · rw [hc 2 (by omega), he]; rfl
  · rw [hc 3 (by omega), he]; rfl
  · rw [hc 4 (by omega), he]; rfl
  · rw [hc 5 (by omega), he]; rfl
  · exact .inr ⟨⟨q, 0, none⟩, l, rfl, Nat.le_refl _, fun _ => ⟨rfl, hr.lt⟩, fun i hi => ⟨by rw [add_none, Nat.zero_add]; exact hr.cell hi, Int.le_refl 0, by show (0 : Int) ≤ 255; omega⟩⟩
theorem made_fr {S : Nat → Prop} {w w' : World} {B : Nat} {E : Nat → Value} (h : MadeAsk w B E) (f : Fr S w w') (hs : ∀ k cs fr, w.heap[k]? = some (.cells cs 5 fr) → ¬ S k) : MadeAsk w' B E := by
  obtain ⟨kd, n, pg, at_, v, q, l, he, hq, hr, r⟩ := h
  obtain ⟨c, hc, _⟩ := id hr
  exact ⟨kd, n, pg, at_, v, q, l, he, hq, hr.of_block (f.block q hr.lt (hs q _ _ hc)), r⟩
theorem own_type {w : World} {base : Nat} {e : TypeId} {size n : Nat} {v : Value} {xs : List Value} (h : w.ownsRow base e size v n xs) (k : Nat) (cs : Array Value) (fr : Nat × Nat) (t : TypeId) (hk : w.heap[k]? = some (.cells cs t fr)) (hne : t ≠ e) : ¬ some k = v.ownBlock := by
  rcases h.2 with ⟨rfl, _⟩ | ⟨g, cap, cur, rfl, _, hh, _⟩
  · simp [Value.ownBlock]
  · intro he
    have : k = g := by simpa [Value.ownBlock] using he
    subst this
    rw [hk] at hh
    injection hh with hh
    injection hh with _ ht
    exact hne ht

set_option maxRecDepth 100000 in
set_option maxHeartbeats 4000000 in
theorem numbers_walk (w : World) : Calls Try.prog 3 #[] w (TrB w) := by
  obtain ⟨i0, hi0, hi3⟩ := Option.map_eq_some_iff.1 info_ask
  simp only [Prod.mk.injEq] at hi3
  obtain ⟨hz0, hz1, hz2⟩ := hi3
  have HI := Lib.hid hi0
  have HZ0 := Lib.hid hz0
  have HZ1 := Lib.hid hz1
  have HZ2 := Lib.hid hz2
  clear hi0 hz0 hz1 hz2
  go_enter Try.func3, Try.ntmps3
  go_wp2_with fail
  go_loopw [1, 2] (fun v i wr => ∃ (k : Nat) (EL : Nat → Nat → Value), k ≤ 78 ∧ i = .int .i64 k ∧ wr.ownsRow w.heap.size 26 6 v k (cells6 EL k) ∧ (∀ i, i < k → MadeAsk wr w.heap.size (EL i)) ∧ Below w.heap.size w wr) (fun _ i _ => 78 - (intOf i).toNat)
  case atStart => exact ⟨0, fun _ _ => .bool false, by omega, rfl, World.ownsRow_nil _ _ _ _, fun i hi => absurd hi (by omega), Below.refl _ _⟩
  case round =>
    obtain ⟨k, EL, hk, rfl, hown, hE, hB⟩ := hrel
    have HE := Lib.hid hE
    clear hE
    by_cases hlt : k < 78
    · obtain ⟨l, HL⟩ : ∃ l : Nat, Hid ((k : Int) % 9 = (l : Int)) := ⟨k % 9, by show _ = _; omega⟩
      have hl8 : l ≤ 8 := by have := HL.out; omega
      have hmk : ∀ W, (Instr.makeSlice 24 (.int .i64 ((k : Int) % 9)) (.int .i64 ((k : Int) % 9))).run Try.prog W = .ok (.slice (some ⟨W.heap.size, 0, none⟩) l l) (W.alloc (.cells (madeCells #[.int .u8 0] l) 5)) := by
        rw [HL.out]
        exact run_make_row' (P := Try.prog) 24 5 (.int .u8 0) 1 Try.underlying24 info_u8 rfl .i64 .i64 l (by omega) (by omega)
      have hown2 := (hown.alloc (.cells (madeCells #[.int .u8 0] l) 5)).alloc (.cells #[.int .i64 ((k : Int) % 9), .int .i64 ((k : Int) % 6), .int .i64 ((k : Int) % 5 - 1), .int .u32 ((k : Int) * 37 % 2060), .int .u32 ((k : Int) * 16909060), .slice (some ⟨wr.heap.size, 0, none⟩) l l] 26)
      have hsz := hB.size
      go_wp2_with (at_builtin; refine wpList_append_own_at _ rfl (.tmp 9) (.tmp 28) 22 rfl w.heap.size 26 i0 (.agg #[.int .i64 0, .int .i64 0, .int .i64 0, .int .u32 0, .int .u32 0, .slice none 0 0]) 6 56 Try.underlying22 HI.out HZ0.out HZ1.out HZ2.out rfl (by decide) _ _ _ rfl hown2 ⟨wr.heap.size + 1, 0, none⟩ 1 1 [.int .i64 ((k : Int) % 9), .int .i64 ((k : Int) % 6), .int .i64 ((k : Int) % 5 - 1), .int .u32 ((k : Int) * 37 % 2060), .int .u32 ((k : Int) * 16909060), .slice (some ⟨wr.heap.size, 0, none⟩) l l] rfl rfl (World.news_of_block (a2b wr _ _)) (by intro u hu; simp at hu; rcases hu with rfl | rfl | rfl | rfl | rfl | rfl <;> rfl) (by unfold maxLen; omega) (by omega) (by simp; omega) ?_)
      intro v1 w1 hown1 hgrow1 _ _
      have hf1 := fr_of_grown hgrow1
      rw [cells6_snoc] at hown1
      have hm1 : ∀ i, i < k + 1 → MadeAsk w1 w.heap.size ((fun i => if i = k then vec6 (.int .i64 ((k : Int) % 9)) (.int .i64 ((k : Int) % 6)) (.int .i64 ((k : Int) % 5 - 1)) (.int .u32 ((k : Int) * 37 % 2060)) (.int .u32 ((k : Int) * 16909060)) (.slice (some ⟨wr.heap.size, 0, none⟩) l l) else EL i) i) := by
        intro i hi
        by_cases e : i = k
        · simp only [if_pos e]
          refine made_fr (w := (wr.alloc (.cells (madeCells #[.int .u8 0] l) 5)).alloc (.cells #[.int .i64 ((k : Int) % 9), .int .i64 ((k : Int) % 6), .int .i64 ((k : Int) % 5 - 1), .int .u32 ((k : Int) * 37 % 2060), .int .u32 ((k : Int) * 16909060), .slice (some ⟨wr.heap.size, 0, none⟩) l l] 26)) ?_ hf1 (fun q cs fr hq => own_type hown2 q cs fr _ hq (by decide))
          exact ⟨_, _, _, _, _, wr.heap.size, l, rfl, hsz, (World.rowIs_made wr _ l _).alloc _, hl8, by omega, by omega, by omega, by omega, by omega, by omega, by omega, by omega, by omega, by omega⟩
        · simp only [if_neg e]
          exact made_fr (made_fr (HE.out i (by omega)) (((Fr.refl (fun _ => False) wr).alloc _).alloc _) (fun _ _ _ _ => id)) hf1 (fun q cs fr hq => own_type hown2 q cs fr _ hq (by decide))
      have hB1 : Below w.heap.size w w1 := ((hB.alloc (by omega) _).alloc (by simp; omega) _).grown hgrow1 (by simp; omega) (fun q hq => own_lt hown q hq.symm)
      have HM := Lib.hid hm1
      clear hm1 hf1 hgrow1 hown2 hmk
      go_wp2_with fail
      go_roundw
      case rel => exact ⟨k + 1, _, by omega, by go_num, hown1, HM.out, hB1⟩
      case measure => simp [intOf]; omega
    · have hk78 : 78 ≤ k := by omega
      obtain ⟨a, cap, rfl, hA⟩ := asks_made (by omega) hown HE.out
      have HA := Lib.hid hA
      clear hA hown HE
      go_wp2_with fail
      go_loopw [3] (fun i w3 => ∃ n : Int, -1 ≤ n ∧ n ≤ 4 ∧ i = .int .i64 n ∧ Below wr.heap.size wr w3) (fun i _ => (4 - intOf i).toNat)
      case atStart => exact ⟨-1, by omega, by omega, rfl, Below.refl _ _⟩
      case round =>
        obtain ⟨n, n0, n1, rfl, hb3⟩ := hrel
        by_cases hlt : n < 4
        · have H3 := Lib.hid (asks_below HA.out hb3)
          go_wp2_with fail
          refine (play_any _ _ _ _ _ _ H3 (by omega)).mono ?_
          rintro e w4 ⟨rfl, hb4⟩
          go_wp2_with fail
          refine (play_any _ _ _ _ _ _ (Lib.hid (asks_below H3.out hb4)) (by omega)).mono ?_
          rintro e w5 ⟨rfl, hb5⟩
          have hb34 := hb3.trans (hb4.mono hb3.size)
          have hb35 := hb34.trans (hb5.mono hb34.size)
          go_wp2_with fail
          go_roundw
          case rel => exact ⟨n + 1, by omega, by omega, rfl, hb35⟩
          case measure => simp [intOf]; omega
        · go_wp2_with fail
          refine (new_any 1000 _).mono ?_
          rintro e w4 ⟨g, b, m, t, rfl, lg, lb, lm, lt, hm4, hb4⟩
          rw [show clampP 1000 = 64 from rfl] at hm4
          have hb34 := hb3.trans (hb4.mono hb3.size)
          go_wp2_with fail
          refine (size_any hm4).mono ?_
          rintro e w5 ⟨rfl, rfl⟩
          go_wp2_with fail
          refine (known_any _).mono ?_
          rintro e w5 ⟨rfl, hb5⟩
          go_wp2
          go_ret
          have hb35 := hb34.trans (hb5.mono hb34.size)
          exact ⟨rfl, hB.trans (hb35.mono hB.size)⟩
end Go.Proofs.Ytfpddhpacfcfmaa

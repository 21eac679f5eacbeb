/-
  Chapter 11: the walk of TimerNumbers: it returns true, and nothing that was there has turned.
-/
import Derived.Test.YtgpphbganpoinaaPl11
import Derived.Test.YtgpphbganpoinaaKn11
import Derived.OwnWalk
import Derived.Deep.AppendLies
import Derived.Deep.RegionHeld3
namespace Go.Proofs.Ytgpphbganpoinaa
open Go.RowKit
set_option linter.unusedVariables false
set_option linter.unusedSimpArgs false
/-- the numbers of kinds and of words that calls take in turn -/
def kdL : List Int := [0, 4, 3, 2, 1, 4, 3]
def kkL : List Int := [1, 0, 2, 4, 3]
def kdN (i : Nat) : Int := kdL.getD (i % 7) 0
def kkN (i : Nat) : Int := kkL.getD (i % 5) 0
def cellsN (i : Nat) : List Value := [.int .i64 (kdN i), .int .i64 (kkN i), .int .u32 ((i : Int) % 6), .int .i64 ((i : Int) % 9), .int .u8 0]
def allN : Nat → List Value
  | 0 => []
  | k + 1 => allN k ++ cellsN k
theorem allN_len (k : Nat) : (allN k).length = k * 5 := by
  induction k with
  | zero => rfl
  | succ k ih => simp [allN, ih, cellsN]; omega
theorem allN_at (n i : Nat) (h : i < n) (j : Nat) (hj : j < 5) : (allN n)[i * 5 + j]? = (cellsN i)[j]? := by
  induction n with
  | zero => omega
  | succ n ih =>
    have hl := allN_len n
    have hc : (cellsN i).length = 5 := rfl
    by_cases hi : i < n
    · rw [allN, List.getElem?_append_left (by omega)]
      exact ih hi
    · obtain rfl : i = n := by omega
      rw [allN, List.getElem?_append_right (by omega)]
      congr 1
      omega
theorem kkN_rng (i : Nat) : 0 ≤ kkN i ∧ kkN i ≤ 4 := by
  unfold kkN
  have h : ∀ j, j < 5 → 0 ≤ kkL.getD j 0 ∧ kkL.getD j 0 ≤ 4 := by decide
  exact h _ (Nat.mod_lt _ (by omega))
theorem info_ask : (Try.prog.info? 26).map (fun i => (i.zero, i.size, i.bytes)) = some (some (.agg #[.int .i64 0, .int .i64 0, .int .u32 0, .int .i64 0, .int .u8 0]), 5, 40) := by kernel_rfl
theorem asks_made {w : World} {v : Value} {B n : Nat} (hn : 0 < n) (ho : w.ownsRow B 26 5 v n (allN n)) : ∃ a cap, v = .slice a n cap ∧ Asks w w.heap.size a n := by
  obtain ⟨g, cap, rfl, _, hg⟩ := ho.form hn
  refine ⟨_, _, rfl, fun i hi => ?_⟩
  have hc : ∀ j u, (allN n)[j]? = some u → w.cell? ⟨g, j, none⟩ = some u := fun j u hu => by
    have := World.ownsRow.cells ho (g := g) rfl j u hu
    rwa [Addr.add_lit, Nat.zero_add] at this
  have hz : ∀ j, j < 5 → ∀ u, (cellsN i)[j]? = some u → w.cell? ⟨g, 0 + i * 5 + j, none⟩ = some u := fun j hj u hu => by
    rw [Nat.zero_add]; exact hc _ _ ((allN_at n i hi j hj).trans hu)
  obtain ⟨t0, t1⟩ := kkN_rng i
  exact ⟨g, 0, kdN i, kkN i, (i : Int) % 6, (i : Int) % 9, 0, rfl, hg, hz 0 (by omega) _ rfl, hz 1 (by omega) _ rfl, hz 2 (by omega) _ rfl, hz 3 (by omega) _ rfl, hz 4 (by omega) _ rfl, by omega, by omega, by omega, by omega, by omega, by omega⟩
theorem asks_below {w w' : World} {a : Option Addr} {len : Nat} (h : Asks w w.heap.size a len) (hb : Below w.heap.size w w') : Asks w' w'.heap.size a len := by
  intro i hi
  obtain ⟨b, o, kd, kk, x, by_, bb, e, hbl, c0, c1, c2, c3, c4, r⟩ := h i hi
  exact ⟨b, o, kd, kk, x, by_, bb, e, Nat.lt_of_lt_of_le hbl hb.size, (hb.cell (p := ⟨b, o + i * 5, none⟩) hbl).trans c0, (hb.cell (p := ⟨b, o + i * 5 + 1, none⟩) hbl).trans c1, (hb.cell (p := ⟨b, o + i * 5 + 2, none⟩) hbl).trans c2, (hb.cell (p := ⟨b, o + i * 5 + 3, none⟩) hbl).trans c3, (hb.cell (p := ⟨b, o + i * 5 + 4, none⟩) hbl).trans c4, r⟩
/-- a literal list of numbers in a new block, by its place -/
theorem lit_at (W : World) (L : List Int) (cs : Array Value) (t : TypeId) (h : cs.toList = L.map (Value.int .i64)) (j : Nat) (hj : j < L.length) : (W.alloc (.cells cs t)).cell? ⟨W.heap.size, j, none⟩ = some (.int .i64 (L.getD j 0)) := by
  have e : (W.alloc (.cells cs t)).cell? ⟨W.heap.size, j, none⟩ = cs[j]? := by simp
  rw [e, ← Array.getElem?_toList, h, List.getElem?_map, List.getElem?_eq_getElem hj, List.getD_eq_getElem?_getD, List.getElem?_eq_getElem hj]
  rfl
theorem elder_at (W : World) (o : Obj) {x : Addr} {u : Value} (h : W.cell? x = some u) : (W.alloc o).cell? x = some u := (((Below.refl _ W).alloc (Nat.le_refl _) o).cell (p := x) (block_lt_of_cell h)).trans h
/-- a call's cells behind the list's -/
theorem app_ask {w0 wr W : World} {v : Value} {k X : Nat} (hk : k < 78) (hown : wr.ownsRow w0.heap.size 26 5 v k (allN k)) (hb : Below wr.heap.size wr W) (hX : X = W.heap.size) (hB : Below w0.heap.size w0 wr) :
    ∃ v' w', (Builtin.append_ #[22, 22] 22 #[v, .slice (some ⟨X, 0, none⟩) 1 1]).run Try.prog (W.alloc (.cells #[.int .i64 (kdN k), .int .i64 (kkN k), .int .u32 ((k : Int) % 6), .int .i64 ((k : Int) % 9), .int .u8 0] 26)) = .ok v' w' ∧ w'.ownsRow w0.heap.size 26 5 v' (k + 1) (allN (k + 1)) ∧ Below w0.heap.size w0 w' := by
  subst hX
  obtain ⟨i0, hi, hi3⟩ := Option.map_eq_some_iff.1 info_ask
  simp only [Prod.mk.injEq] at hi3
  obtain ⟨hz0, hz1, hz2⟩ := hi3
  have hs := hB.size
  have hs2 := hb.size
  have hB2 : Below w0.heap.size w0 W := hB.trans (hb.mono hs)
  have hown2 : (W.alloc (.cells #[.int .i64 (kdN k), .int .i64 (kkN k), .int .u32 ((k : Int) % 6), .int .i64 ((k : Int) % 9), .int .u8 0] 26)).ownsRow w0.heap.size 26 5 v k (allN k) := by
    refine World.ownsRow.alloc ?_ _
    refine ⟨hown.1, ?_⟩
    rcases hown.2 with h2 | ⟨g, cap, cur, rfl, hbg, hh, r⟩
    · exact .inl h2
    · exact .inr ⟨g, cap, cur, rfl, hbg, (hb.block g (Array.getElem?_eq_some_iff.1 hh).1).trans hh, r⟩
  obtain ⟨v', w', hr, h1, h2, _, h4⟩ := run_append_own_at (P := Try.prog) _ w0.heap.size 22 22 26 i0 _ 5 40 Try.underlying22 hi hz0 hz1 hz2 rfl (by decide) v k (allN k) hown2 ⟨W.heap.size, 0, none⟩ 1 1 (cellsN k) rfl
    (World.news_of_block (heap_alloc_new W _)) (by intro u hu; simp [cellsN] at hu; rcases hu with rfl | rfl | rfl | rfl | rfl <;> rfl) (by unfold maxLen; omega) (by omega) (by simp; omega)
  exact ⟨v', w', hr, h1, (hB2.alloc (by omega) _).grown h2 (by simp; omega) (fun q hq => (World.ownsRow.lt hown q hq).1)⟩
set_option maxRecDepth 100000 in
set_option maxHeartbeats 4000000 in
theorem numbers_walk (w : World) : Calls Try.prog 3 #[] w (RetB (.bool true) w) := by
  go_enter Try.func3, Try.ntmps3
  go_wp2_with fail
  go_loopw [1, 2] (fun v i wr => ∃ k : Nat, k ≤ 78 ∧ i = .int .i64 k ∧ wr.ownsRow w.heap.size 26 5 v k (allN k) ∧ Below w.heap.size w wr) (fun _ i _ => 78 - (intOf i).toNat)
  case atStart => exact ⟨0, by omega, rfl, World.ownsRow_nil _ _ _ _, Below.refl _ _⟩
  case round =>
    obtain ⟨k, hk, rfl, hown, hB⟩ := hrel
    by_cases hlt : k < 78
    · obtain ⟨j1, hj1, e1⟩ : ∃ j1 : Nat, j1 = k % 7 ∧ (k : Int) % 7 = (j1 : Int) := ⟨k % 7, rfl, by omega⟩
      obtain ⟨j2, hj2, e2⟩ : ∃ j2 : Nat, j2 = k % 5 ∧ (k : Int) % 5 = (j2 : Int) := ⟨k % 5, rfl, by omega⟩
      have l1 : j1 < 7 := by omega
      have l2 : j2 < 5 := by omega
      have l3 : (j1 : Int) < 7 := by omega
      have l4 : (j2 : Int) < 5 := by omega
      have hA : ∀ W : World, (W.alloc (.cells #[.int .i64 0, .int .i64 4, .int .i64 3, .int .i64 2, .int .i64 1, .int .i64 4, .int .i64 3] 3)).cell? ⟨W.heap.size, j1, none⟩ = some (.int .i64 (kdN k)) := fun W => by
        unfold kdN; rw [← hj1]; exact lit_at W kdL _ _ rfl j1 l1
      have hC : ∀ W : World, (W.alloc (.cells #[.int .i64 1, .int .i64 0, .int .i64 2, .int .i64 4, .int .i64 3] 3)).cell? ⟨W.heap.size, j2, none⟩ = some (.int .i64 (kkN k)) := fun W => by
        unfold kkN; rw [← hj2]; exact lit_at W kkL _ _ rfl j2 l2
      have t1 : (k : Int).tmod 7 = (j1 : Int) := by rw [Int.tmod_eq_emod_of_nonneg (by omega)]; exact e1
      have t2 : (k : Int).tmod 5 = (j2 : Int) := by rw [Int.tmod_eq_emod_of_nonneg (by omega)]; exact e2
      have t3 : (k : Int).tmod 6 = (k : Int) % 6 := Int.tmod_eq_emod_of_nonneg (by omega)
      have t4 : (k : Int).tmod 9 = (k : Int) % 9 := Int.tmod_eq_emod_of_nonneg (by omega)
      have t5 : IntKind.u32.wrap ((k : Int) % 6) = (k : Int) % 6 := by rw [IntKind.wrap_u32']; omega
      have t6 : IntKind.i64.wrap ((k : Int) % 9) = (k : Int) % 9 := by rw [IntKind.wrap_i64]; omega
      have t7 : IntKind.i64.wrap (j1 : Int) = (j1 : Int) := by rw [IntKind.wrap_i64]; omega
      have t8 : IntKind.i64.wrap (j2 : Int) = (j2 : Int) := by rw [IntKind.wrap_i64]; omega
      clear hj1 hj2 e1 e2
      have a1 : (wr.drew.alloc (.cells #[.int .i64 0, .int .i64 4, .int .i64 3, .int .i64 2, .int .i64 1, .int .i64 4, .int .i64 3] 3)).cell? ⟨wr.heap.size, j1, none⟩ = some (.int .i64 (kdN k)) := hA wr.drew
      have a2 : ((wr.drew.alloc (.cells #[.int .i64 0, .int .i64 4, .int .i64 3, .int .i64 2, .int .i64 1, .int .i64 4, .int .i64 3] 3)).alloc (.cells #[.int .i64 1, .int .i64 0, .int .i64 2, .int .i64 4, .int .i64 3] 3)).cell? ⟨wr.heap.size, j1, none⟩ = some (.int .i64 (kdN k)) := elder_at _ _ a1
      have a3 : ((wr.drew.alloc (.cells #[.int .i64 0, .int .i64 4, .int .i64 3, .int .i64 2, .int .i64 1, .int .i64 4, .int .i64 3] 3)).alloc (.cells #[.int .i64 1, .int .i64 0, .int .i64 2, .int .i64 4, .int .i64 3] 3)).cell? ⟨wr.heap.size + 1, j2, none⟩ = some (.int .i64 (kkN k)) := by
        have := hC (wr.drew.alloc (.cells #[.int .i64 0, .int .i64 4, .int .i64 3, .int .i64 2, .int .i64 1, .int .i64 4, .int .i64 3] 3))
        rwa [show (wr.drew.alloc (.cells #[.int .i64 0, .int .i64 4, .int .i64 3, .int .i64 2, .int .i64 1, .int .i64 4, .int .i64 3] 3)).heap.size = wr.heap.size + 1 from Array.size_push ..] at this
      have b1 : (wr.drew.alloc (.cells #[.int .i64 1, .int .i64 0, .int .i64 2, .int .i64 4, .int .i64 3] 3)).cell? ⟨wr.heap.size, j2, none⟩ = some (.int .i64 (kkN k)) := hC wr.drew
      have b2 : ((wr.drew.alloc (.cells #[.int .i64 1, .int .i64 0, .int .i64 2, .int .i64 4, .int .i64 3] 3)).alloc (.cells #[.int .i64 0, .int .i64 4, .int .i64 3, .int .i64 2, .int .i64 1, .int .i64 4, .int .i64 3] 3)).cell? ⟨wr.heap.size, j2, none⟩ = some (.int .i64 (kkN k)) := elder_at _ _ b1
      have b3 : ((wr.drew.alloc (.cells #[.int .i64 1, .int .i64 0, .int .i64 2, .int .i64 4, .int .i64 3] 3)).alloc (.cells #[.int .i64 0, .int .i64 4, .int .i64 3, .int .i64 2, .int .i64 1, .int .i64 4, .int .i64 3] 3)).cell? ⟨wr.heap.size + 1, j1, none⟩ = some (.int .i64 (kdN k)) := by
        have := hA (wr.drew.alloc (.cells #[.int .i64 1, .int .i64 0, .int .i64 2, .int .i64 4, .int .i64 3] 3))
        rwa [show (wr.drew.alloc (.cells #[.int .i64 1, .int .i64 0, .int .i64 2, .int .i64 4, .int .i64 3] 3)).heap.size = wr.heap.size + 1 from Array.size_push ..] at this
      have x1 : (wr.drew.alloc (.cells #[.int .i64 0, .int .i64 4, .int .i64 3, .int .i64 2, .int .i64 1, .int .i64 4, .int .i64 3] 3)).heap.size = wr.heap.size + 1 := Array.size_push ..
      have x2 : ((wr.drew.alloc (.cells #[.int .i64 0, .int .i64 4, .int .i64 3, .int .i64 2, .int .i64 1, .int .i64 4, .int .i64 3] 3)).alloc (.cells #[.int .i64 1, .int .i64 0, .int .i64 2, .int .i64 4, .int .i64 3] 3)).heap.size = wr.heap.size + 1 + 1 := by rw [show ((wr.drew.alloc (.cells #[.int .i64 0, .int .i64 4, .int .i64 3, .int .i64 2, .int .i64 1, .int .i64 4, .int .i64 3] 3)).alloc (.cells #[.int .i64 1, .int .i64 0, .int .i64 2, .int .i64 4, .int .i64 3] 3)).heap.size = (wr.drew.alloc (.cells #[.int .i64 0, .int .i64 4, .int .i64 3, .int .i64 2, .int .i64 1, .int .i64 4, .int .i64 3] 3)).heap.size + 1 from Array.size_push .., x1]
      have y1 : (wr.drew.alloc (.cells #[.int .i64 1, .int .i64 0, .int .i64 2, .int .i64 4, .int .i64 3] 3)).heap.size = wr.heap.size + 1 := Array.size_push ..
      have y2 : ((wr.drew.alloc (.cells #[.int .i64 1, .int .i64 0, .int .i64 2, .int .i64 4, .int .i64 3] 3)).alloc (.cells #[.int .i64 0, .int .i64 4, .int .i64 3, .int .i64 2, .int .i64 1, .int .i64 4, .int .i64 3] 3)).heap.size = wr.heap.size + 1 + 1 := by rw [show ((wr.drew.alloc (.cells #[.int .i64 1, .int .i64 0, .int .i64 2, .int .i64 4, .int .i64 3] 3)).alloc (.cells #[.int .i64 0, .int .i64 4, .int .i64 3, .int .i64 2, .int .i64 1, .int .i64 4, .int .i64 3] 3)).heap.size = (wr.drew.alloc (.cells #[.int .i64 1, .int .i64 0, .int .i64 2, .int .i64 4, .int .i64 3] 3)).heap.size + 1 from Array.size_push .., y1]
      have hb1 : Below wr.heap.size wr ((wr.drew.alloc (.cells #[.int .i64 0, .int .i64 4, .int .i64 3, .int .i64 2, .int .i64 1, .int .i64 4, .int .i64 3] 3)).alloc (.cells #[.int .i64 1, .int .i64 0, .int .i64 2, .int .i64 4, .int .i64 3] 3)) := (((Below.refl _ wr).drew).alloc (Nat.le_refl _) _).alloc (by simp) _
      have hb2 : Below wr.heap.size wr ((wr.drew.alloc (.cells #[.int .i64 1, .int .i64 0, .int .i64 2, .int .i64 4, .int .i64 3] 3)).alloc (.cells #[.int .i64 0, .int .i64 4, .int .i64 3, .int .i64 2, .int .i64 1, .int .i64 4, .int .i64 3] 3)) := (((Below.refl _ wr).drew).alloc (Nat.le_refl _) _).alloc (by simp) _
      obtain ⟨va, wa, ra, oa, ba⟩ := app_ask (X := wr.heap.size + 1 + 1) hlt hown hb1 (by simp) hB
      obtain ⟨vb, wb, rb, ob, bb⟩ := app_ask (X := wr.heap.size + 1 + 1) hlt hown hb2 (by simp) hB
      have RA := Lib.hid ra
      have RB := Lib.hid rb
      clear ra rb hA hC hb1 hb2 hown
      go_wp2_with fail
      refine wp_region_T (S := fun W : World => True) 19 (by kernel_rfl) ?_
      refine wpT_take (i := 0) (v := ?_) rfl (by kernel_rfl) (by kernel_rfl) (by kernel_rfl) (by kernel_rfl) (fun _ _ _ h => h) trivial (Or.inl ⟨by rfl, fun w hSw => ?_⟩) ?_
      rotate_left
      · go_simp
        try with_reducible rfl
      simp only [Act.put, List.setIfInBounds_toArray, List.set_cons_zero, List.set_cons_succ]
      refine wpT_take (i := 2) (v := ?_) rfl (by kernel_rfl) (by kernel_rfl) (by kernel_rfl) (by kernel_rfl) (fun _ _ _ h => h) trivial (Or.inl ⟨by rfl, fun w hSw => ?_⟩) ?_
      rotate_left
      · go_simp
        try with_reducible rfl
      simp only [Act.put, List.setIfInBounds_toArray, List.set_cons_zero, List.set_cons_succ]
      refine wpT_take (i := 3) (v := ?_) rfl (by kernel_rfl) (by kernel_rfl) (by kernel_rfl) (by kernel_rfl) (fun _ _ _ h => h) trivial (Or.inl ⟨by rfl, fun w hSw => ?_⟩) ?_
      rotate_left
      · go_simp
        try with_reducible rfl
      simp only [Act.put, List.setIfInBounds_toArray, List.set_cons_zero, List.set_cons_succ]
      refine wpT_take (i := 7) (v := ?_) rfl (by kernel_rfl) (by kernel_rfl) (by kernel_rfl) (by kernel_rfl) (fun _ _ _ h => h) trivial (Or.inl ⟨by rfl, fun w hSw => ?_⟩) ?_
      rotate_left
      · go_simp
        try with_reducible rfl
      simp only [Act.put, List.setIfInBounds_toArray, List.set_cons_zero, List.set_cons_succ]
      refine wpT_take (i := 8) (v := ?_) rfl (by kernel_rfl) (by kernel_rfl) (by kernel_rfl) (by kernel_rfl) (fun _ _ _ h => h) trivial (Or.inl ⟨by rfl, fun w hSw => ?_⟩) ?_
      rotate_left
      · go_simp
        try with_reducible rfl
      simp only [Act.put, List.setIfInBounds_toArray, List.set_cons_zero, List.set_cons_succ]
      refine wpT_take (i := 11) (v := ?_) rfl (by kernel_rfl) (by kernel_rfl) (by kernel_rfl) (by kernel_rfl) (fun _ _ _ h => h) trivial (Or.inl ⟨by rfl, fun w hSw => ?_⟩) ?_
      rotate_left
      · go_simp
        try with_reducible rfl
      simp only [Act.put, List.setIfInBounds_toArray, List.set_cons_zero, List.set_cons_succ]
      refine wpT_take (i := 12) (v := ?_) rfl (by kernel_rfl) (by kernel_rfl) (by kernel_rfl) (by kernel_rfl) (fun _ _ _ h => h) trivial (Or.inl ⟨by rfl, fun w hSw => ?_⟩) ?_
      rotate_left
      · go_simp
        try with_reducible rfl
      simp only [Act.put, List.setIfInBounds_toArray, List.set_cons_zero, List.set_cons_succ]
      refine wpT_take (i := 13) (v := ?_) rfl (by kernel_rfl) (by kernel_rfl) (by kernel_rfl) (by kernel_rfl) (fun _ _ _ h => h) trivial (Or.inl ⟨by rfl, fun w hSw => ?_⟩) ?_
      rotate_left
      · go_simp
        try with_reducible rfl
      simp only [Act.put, List.setIfInBounds_toArray, List.set_cons_zero, List.set_cons_succ]
      refine wpT_take (i := 14) (v := ?_) rfl (by kernel_rfl) (by kernel_rfl) (by kernel_rfl) (by kernel_rfl) (fun _ _ _ h => h) trivial (Or.inl ⟨by rfl, fun w hSw => ?_⟩) ?_
      rotate_left
      · go_simp
        try with_reducible rfl
      simp only [Act.put, List.setIfInBounds_toArray, List.set_cons_zero, List.set_cons_succ]
      refine wpT_take (i := 15) (v := ?_) rfl (by kernel_rfl) (by kernel_rfl) (by kernel_rfl) (by kernel_rfl) (fun _ _ _ h => h) trivial (Or.inl ⟨by rfl, fun w hSw => ?_⟩) ?_
      rotate_left
      · go_simp
        try with_reducible rfl
      simp only [Act.put, List.setIfInBounds_toArray, List.set_cons_zero, List.set_cons_succ]
      refine wpT_two (i := 1) (j := 6) (by kernel_rfl) rfl rfl (fun K hK => ?_) (fun K hK => ?_)
      · go_simp
        refine hK.out _ (wr.drew.alloc (.cells #[.int .i64 0, .int .i64 4, .int .i64 3, .int .i64 2, .int .i64 1, .int .i64 4, .int .i64 3] 3)) trivial ?_
        clear hK K
        generalize wr.drew.alloc (.cells #[.int .i64 0, .int .i64 4, .int .i64 3, .int .i64 2, .int .i64 1, .int .i64 4, .int .i64 3] 3) = W1 at a1 a2 a3 RA x1 x2 ⊢
        refine wpT_take (i := 4) (v := ?_) rfl (by kernel_rfl) (by kernel_rfl) (by kernel_rfl) (by kernel_rfl) (fun _ _ _ h => h) trivial (Or.inl ⟨by rfl, fun w hSw => ?_⟩) ?_
        rotate_left
        · go_simp
          try with_reducible rfl
        simp only [Act.put, List.setIfInBounds_toArray, List.set_cons_zero, List.set_cons_succ]
        refine wpT_two (i := 5) (j := 6) (by kernel_rfl) rfl rfl (fun K hK => ?_) (fun K hK => ?_)
        · go_simp
          refine hK.out _ (W1) trivial ?_
          clear hK K
          refine wpT_one (i := 6) (by kernel_rfl) rfl (fun K hK => ?_)
          go_simp
          refine hK.out _ (W1.alloc (.cells #[.int .i64 1, .int .i64 0, .int .i64 2, .int .i64 4, .int .i64 3] 3)) trivial ?_
          clear hK K
          generalize W1.alloc (.cells #[.int .i64 1, .int .i64 0, .int .i64 2, .int .i64 4, .int .i64 3] 3) = W2 at a2 a3 RA x2 ⊢
          refine wpT_take (i := 9) (v := ?_) rfl (by kernel_rfl) (by kernel_rfl) (by kernel_rfl) (by kernel_rfl) (fun _ _ _ h => h) trivial (Or.inl ⟨by rfl, fun w hSw => ?_⟩) ?_
          rotate_left
          · go_simp
            try with_reducible rfl
          simp only [Act.put, List.setIfInBounds_toArray, List.set_cons_zero, List.set_cons_succ]
          refine wpT_one (i := 10) (by kernel_rfl) rfl (fun K hK => ?_)
          go_simp
          refine hK.out _ (W2) trivial ?_
          clear hK K
          refine wpT_take (i := 16) (v := ?_) rfl (by kernel_rfl) (by kernel_rfl) (by kernel_rfl) (by kernel_rfl) (fun _ _ _ h => h) trivial (Or.inl ⟨by rfl, fun w hSw => ?_⟩) ?_
          rotate_left
          · go_simp
            try with_reducible rfl
          simp only [Act.put, List.setIfInBounds_toArray, List.set_cons_zero, List.set_cons_succ]
          refine wpT_one (i := 17) (by kernel_rfl) rfl (fun K hK => ?_)
          go_simp
          refine hK.out _ ((W2).alloc (.cells #[.int .i64 (kdN k), .int .i64 (kkN k), .int .u32 ((k : Int) % 6), .int .i64 ((k : Int) % 9), .int .u8 0] 26)) trivial ?_
          clear hK K
          refine wpT_one (i := 18) (by kernel_rfl) rfl (fun K hK => ?_)
          refine step_append_go rfl (.tmp 7) (.tmp 24) 22 22 rfl _ _ rfl rfl RA.out ?_
          simp only [Act.put, List.setIfInBounds_toArray, List.set_cons_zero, List.set_cons_succ]
          refine hK.out _ _ trivial ?_
          clear hK K
          refine wpT_last (by kernel_rfl) rfl (by kernel_rfl) (fun K hK => ?_)
          go_simp
          refine hK.out _ _ ?_
          clear hK K
          go_wp2_with fail
          go_roundw
          case rel => exact ⟨k + 1, by omega, by go_num, oa, ba⟩
          case measure => simp [intOf]; omega
        · go_simp
          refine hK.out _ (W1.alloc (.cells #[.int .i64 1, .int .i64 0, .int .i64 2, .int .i64 4, .int .i64 3] 3)) trivial ?_
          clear hK K
          generalize W1.alloc (.cells #[.int .i64 1, .int .i64 0, .int .i64 2, .int .i64 4, .int .i64 3] 3) = W2 at a2 a3 RA x2 ⊢
          refine wpT_take (i := 9) (v := ?_) rfl (by kernel_rfl) (by kernel_rfl) (by kernel_rfl) (by kernel_rfl) (fun _ _ _ h => h) trivial (Or.inl ⟨by rfl, fun w hSw => ?_⟩) ?_
          rotate_left
          · go_simp
            try with_reducible rfl
          simp only [Act.put, List.setIfInBounds_toArray, List.set_cons_zero, List.set_cons_succ]
          refine wpT_two (i := 5) (j := 10) (by kernel_rfl) rfl rfl (fun K hK => ?_) (fun K hK => ?_)
          · go_simp
            refine hK.out _ (W2) trivial ?_
            clear hK K
            refine wpT_one (i := 10) (by kernel_rfl) rfl (fun K hK => ?_)
            go_simp
            refine hK.out _ (W2) trivial ?_
            clear hK K
            refine wpT_take (i := 16) (v := ?_) rfl (by kernel_rfl) (by kernel_rfl) (by kernel_rfl) (by kernel_rfl) (fun _ _ _ h => h) trivial (Or.inl ⟨by rfl, fun w hSw => ?_⟩) ?_
            rotate_left
            · go_simp
              try with_reducible rfl
            simp only [Act.put, List.setIfInBounds_toArray, List.set_cons_zero, List.set_cons_succ]
            refine wpT_one (i := 17) (by kernel_rfl) rfl (fun K hK => ?_)
            go_simp
            refine hK.out _ ((W2).alloc (.cells #[.int .i64 (kdN k), .int .i64 (kkN k), .int .u32 ((k : Int) % 6), .int .i64 ((k : Int) % 9), .int .u8 0] 26)) trivial ?_
            clear hK K
            refine wpT_one (i := 18) (by kernel_rfl) rfl (fun K hK => ?_)
            refine step_append_go rfl (.tmp 7) (.tmp 24) 22 22 rfl _ _ rfl rfl RA.out ?_
            simp only [Act.put, List.setIfInBounds_toArray, List.set_cons_zero, List.set_cons_succ]
            refine hK.out _ _ trivial ?_
            clear hK K
            refine wpT_last (by kernel_rfl) rfl (by kernel_rfl) (fun K hK => ?_)
            go_simp
            refine hK.out _ _ ?_
            clear hK K
            go_wp2_with fail
            go_roundw
            case rel => exact ⟨k + 1, by omega, by go_num, oa, ba⟩
            case measure => simp [intOf]; omega
          · go_simp
            refine hK.out _ (W2) trivial ?_
            clear hK K
            refine wpT_one (i := 5) (by kernel_rfl) rfl (fun K hK => ?_)
            go_simp
            refine hK.out _ (W2) trivial ?_
            clear hK K
            refine wpT_take (i := 16) (v := ?_) rfl (by kernel_rfl) (by kernel_rfl) (by kernel_rfl) (by kernel_rfl) (fun _ _ _ h => h) trivial (Or.inl ⟨by rfl, fun w hSw => ?_⟩) ?_
            rotate_left
            · go_simp
              try with_reducible rfl
            simp only [Act.put, List.setIfInBounds_toArray, List.set_cons_zero, List.set_cons_succ]
            refine wpT_one (i := 17) (by kernel_rfl) rfl (fun K hK => ?_)
            go_simp
            refine hK.out _ ((W2).alloc (.cells #[.int .i64 (kdN k), .int .i64 (kkN k), .int .u32 ((k : Int) % 6), .int .i64 ((k : Int) % 9), .int .u8 0] 26)) trivial ?_
            clear hK K
            refine wpT_one (i := 18) (by kernel_rfl) rfl (fun K hK => ?_)
            refine step_append_go rfl (.tmp 7) (.tmp 24) 22 22 rfl _ _ rfl rfl RA.out ?_
            simp only [Act.put, List.setIfInBounds_toArray, List.set_cons_zero, List.set_cons_succ]
            refine hK.out _ _ trivial ?_
            clear hK K
            refine wpT_last (by kernel_rfl) rfl (by kernel_rfl) (fun K hK => ?_)
            go_simp
            refine hK.out _ _ ?_
            clear hK K
            go_wp2_with fail
            go_roundw
            case rel => exact ⟨k + 1, by omega, by go_num, oa, ba⟩
            case measure => simp [intOf]; omega
      · go_simp
        refine hK.out _ (wr.drew.alloc (.cells #[.int .i64 1, .int .i64 0, .int .i64 2, .int .i64 4, .int .i64 3] 3)) trivial ?_
        clear hK K
        generalize wr.drew.alloc (.cells #[.int .i64 1, .int .i64 0, .int .i64 2, .int .i64 4, .int .i64 3] 3) = W1 at b1 b2 b3 RB y1 y2 ⊢
        refine wpT_take (i := 9) (v := ?_) rfl (by kernel_rfl) (by kernel_rfl) (by kernel_rfl) (by kernel_rfl) (fun _ _ _ h => h) trivial (Or.inl ⟨by rfl, fun w hSw => ?_⟩) ?_
        rotate_left
        · go_simp
          try with_reducible rfl
        simp only [Act.put, List.setIfInBounds_toArray, List.set_cons_zero, List.set_cons_succ]
        refine wpT_two (i := 1) (j := 10) (by kernel_rfl) rfl rfl (fun K hK => ?_) (fun K hK => ?_)
        · go_simp
          refine hK.out _ (W1.alloc (.cells #[.int .i64 0, .int .i64 4, .int .i64 3, .int .i64 2, .int .i64 1, .int .i64 4, .int .i64 3] 3)) trivial ?_
          clear hK K
          generalize W1.alloc (.cells #[.int .i64 0, .int .i64 4, .int .i64 3, .int .i64 2, .int .i64 1, .int .i64 4, .int .i64 3] 3) = W2 at b2 b3 RB y2 ⊢
          refine wpT_take (i := 4) (v := ?_) rfl (by kernel_rfl) (by kernel_rfl) (by kernel_rfl) (by kernel_rfl) (fun _ _ _ h => h) trivial (Or.inl ⟨by rfl, fun w hSw => ?_⟩) ?_
          rotate_left
          · go_simp
            try with_reducible rfl
          simp only [Act.put, List.setIfInBounds_toArray, List.set_cons_zero, List.set_cons_succ]
          refine wpT_two (i := 5) (j := 10) (by kernel_rfl) rfl rfl (fun K hK => ?_) (fun K hK => ?_)
          · go_simp
            refine hK.out _ (W2) trivial ?_
            clear hK K
            refine wpT_one (i := 10) (by kernel_rfl) rfl (fun K hK => ?_)
            go_simp
            refine hK.out _ (W2) trivial ?_
            clear hK K
            refine wpT_take (i := 16) (v := ?_) rfl (by kernel_rfl) (by kernel_rfl) (by kernel_rfl) (by kernel_rfl) (fun _ _ _ h => h) trivial (Or.inl ⟨by rfl, fun w hSw => ?_⟩) ?_
            rotate_left
            · go_simp
              try with_reducible rfl
            simp only [Act.put, List.setIfInBounds_toArray, List.set_cons_zero, List.set_cons_succ]
            refine wpT_one (i := 17) (by kernel_rfl) rfl (fun K hK => ?_)
            go_simp
            refine hK.out _ ((W2).alloc (.cells #[.int .i64 (kdN k), .int .i64 (kkN k), .int .u32 ((k : Int) % 6), .int .i64 ((k : Int) % 9), .int .u8 0] 26)) trivial ?_
            clear hK K
            refine wpT_one (i := 18) (by kernel_rfl) rfl (fun K hK => ?_)
            refine step_append_go rfl (.tmp 7) (.tmp 24) 22 22 rfl _ _ rfl rfl RB.out ?_
            simp only [Act.put, List.setIfInBounds_toArray, List.set_cons_zero, List.set_cons_succ]
            refine hK.out _ _ trivial ?_
            clear hK K
            refine wpT_last (by kernel_rfl) rfl (by kernel_rfl) (fun K hK => ?_)
            go_simp
            refine hK.out _ _ ?_
            clear hK K
            go_wp2_with fail
            go_roundw
            case rel => exact ⟨k + 1, by omega, by go_num, ob, bb⟩
            case measure => simp [intOf]; omega
          · go_simp
            refine hK.out _ (W2) trivial ?_
            clear hK K
            refine wpT_one (i := 5) (by kernel_rfl) rfl (fun K hK => ?_)
            go_simp
            refine hK.out _ (W2) trivial ?_
            clear hK K
            refine wpT_take (i := 16) (v := ?_) rfl (by kernel_rfl) (by kernel_rfl) (by kernel_rfl) (by kernel_rfl) (fun _ _ _ h => h) trivial (Or.inl ⟨by rfl, fun w hSw => ?_⟩) ?_
            rotate_left
            · go_simp
              try with_reducible rfl
            simp only [Act.put, List.setIfInBounds_toArray, List.set_cons_zero, List.set_cons_succ]
            refine wpT_one (i := 17) (by kernel_rfl) rfl (fun K hK => ?_)
            go_simp
            refine hK.out _ ((W2).alloc (.cells #[.int .i64 (kdN k), .int .i64 (kkN k), .int .u32 ((k : Int) % 6), .int .i64 ((k : Int) % 9), .int .u8 0] 26)) trivial ?_
            clear hK K
            refine wpT_one (i := 18) (by kernel_rfl) rfl (fun K hK => ?_)
            refine step_append_go rfl (.tmp 7) (.tmp 24) 22 22 rfl _ _ rfl rfl RB.out ?_
            simp only [Act.put, List.setIfInBounds_toArray, List.set_cons_zero, List.set_cons_succ]
            refine hK.out _ _ trivial ?_
            clear hK K
            refine wpT_last (by kernel_rfl) rfl (by kernel_rfl) (fun K hK => ?_)
            go_simp
            refine hK.out _ _ ?_
            clear hK K
            go_wp2_with fail
            go_roundw
            case rel => exact ⟨k + 1, by omega, by go_num, ob, bb⟩
            case measure => simp [intOf]; omega
        · go_simp
          refine hK.out _ (W1) trivial ?_
          clear hK K
          refine wpT_one (i := 1) (by kernel_rfl) rfl (fun K hK => ?_)
          go_simp
          refine hK.out _ (W1.alloc (.cells #[.int .i64 0, .int .i64 4, .int .i64 3, .int .i64 2, .int .i64 1, .int .i64 4, .int .i64 3] 3)) trivial ?_
          clear hK K
          generalize W1.alloc (.cells #[.int .i64 0, .int .i64 4, .int .i64 3, .int .i64 2, .int .i64 1, .int .i64 4, .int .i64 3] 3) = W2 at b2 b3 RB y2 ⊢
          refine wpT_take (i := 4) (v := ?_) rfl (by kernel_rfl) (by kernel_rfl) (by kernel_rfl) (by kernel_rfl) (fun _ _ _ h => h) trivial (Or.inl ⟨by rfl, fun w hSw => ?_⟩) ?_
          rotate_left
          · go_simp
            try with_reducible rfl
          simp only [Act.put, List.setIfInBounds_toArray, List.set_cons_zero, List.set_cons_succ]
          refine wpT_one (i := 5) (by kernel_rfl) rfl (fun K hK => ?_)
          go_simp
          refine hK.out _ (W2) trivial ?_
          clear hK K
          refine wpT_take (i := 16) (v := ?_) rfl (by kernel_rfl) (by kernel_rfl) (by kernel_rfl) (by kernel_rfl) (fun _ _ _ h => h) trivial (Or.inl ⟨by rfl, fun w hSw => ?_⟩) ?_
          rotate_left
          · go_simp
            try with_reducible rfl
          simp only [Act.put, List.setIfInBounds_toArray, List.set_cons_zero, List.set_cons_succ]
          refine wpT_one (i := 17) (by kernel_rfl) rfl (fun K hK => ?_)
          go_simp
          refine hK.out _ ((W2).alloc (.cells #[.int .i64 (kdN k), .int .i64 (kkN k), .int .u32 ((k : Int) % 6), .int .i64 ((k : Int) % 9), .int .u8 0] 26)) trivial ?_
          clear hK K
          refine wpT_one (i := 18) (by kernel_rfl) rfl (fun K hK => ?_)
          refine step_append_go rfl (.tmp 7) (.tmp 24) 22 22 rfl _ _ rfl rfl RB.out ?_
          simp only [Act.put, List.setIfInBounds_toArray, List.set_cons_zero, List.set_cons_succ]
          refine hK.out _ _ trivial ?_
          clear hK K
          refine wpT_last (by kernel_rfl) rfl (by kernel_rfl) (fun K hK => ?_)
          go_simp
          refine hK.out _ _ ?_
          clear hK K
          go_wp2_with fail
          go_roundw
          case rel => exact ⟨k + 1, by omega, by go_num, ob, bb⟩
          case measure => simp [intOf]; omega
    · have hk78 : 78 ≤ k := by omega
      obtain ⟨a, cap, rfl, hA⟩ := asks_made (by omega) hown
      have HA := Lib.hid hA
      clear hA hown
      go_wp2_with fail
      with_reducible refine (play_any _ _ _ 1 3 dv1 _ HA (by omega)).mono ?_
      rintro e w2 ⟨rfl, hb2⟩
      go_wp2_with fail
      with_reducible refine (play_any _ _ _ 2 6 dv2 _ (Lib.hid (asks_below HA.out hb2)) (by omega)).mono ?_
      rintro e w4 ⟨rfl, hb4⟩
      go_wp2_with fail
      refine (known_any _).mono ?_
      rintro e w5 ⟨rfl, hb5⟩
      go_wp2
      go_ret
      have hb24 := hb2.trans (hb4.mono hb2.size)
      have hb25 := hb24.trans (hb5.mono hb24.size)
      exact ⟨rfl, hB.trans (hb25.mono hB.size)⟩
end Go.Proofs.Ytgpphbganpoinaa

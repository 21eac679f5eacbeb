/-
  Chapter 8: an address that is no multiple is refused ahead of all else, each other word of a page lies with it (the walk of SegAligned).
-/
import Derived.Test.YtecddcbkgelcmaaDi8
namespace Go.Proofs.Ytecddcbkgelcmaa
open Go.RowKit
set_option linter.unusedVariables false
theorem and1020 (x : Int) (hx : W32 x) : bits .and .u32 x 1020 = x % 1024 / 4 * 4 := by
  rw [← and1023 x hx, ← clear3 _ (w_and _ _)]
  apply tb_eq (w_and _ _) (w_andNot _ _)
  intro i hi
  rw [tb_andNot _ _ (w_and _ _) ⟨by decide, by decide⟩, tb_and _ _ hx ⟨by decide, by decide⟩, tb_and _ _ hx ⟨by decide, by decide⟩, Bool.and_assoc]
  congr 1
  revert i
  decide
theorem or_page (l x : Int) (hl : W32 l) (hx : W32 x) : bits .or .u32 (bits .andNot .u32 l 1023) (bits .and .u32 x 1023) = l / 1024 * 1024 + x % 1024 := by
  rw [page_of l hl, and1023 x hx]
  obtain ⟨l0, l1⟩ := hl
  obtain ⟨x0, x1⟩ := hx
  obtain ⟨n, rfl⟩ := Int.eq_ofNat_of_zero_le l0
  obtain ⟨m, rfl⟩ := Int.eq_ofNat_of_zero_le x0
  rw [show ((n : Int) / 1024 * 1024) = ((2 ^ 10 * (n / 1024) : Nat) : Int) by omega, show ((m : Int) % 1024) = ((m % 1024 : Nat) : Int) by omega]
  rw [Go.u32_or_nat _ _ (by omega) (by omega), ← Nat.two_pow_add_eq_or_of_lt (by omega)]
  omega
theorem seek_page {s : St} {x y : Int} (h : ∀ k, hitB s x k = hitB s y k) : ∀ n k, seekF s x n k = seekF s y n k
  | 0, _ => rfl
  | n + 1, k => by unfold seekF; rw [h k, seek_page h n (k + 1)]
theorem find_page {s : St} (hs : s.Ok) {x y : Int} (hx : W32 x) (hy : W32 y) (h : x / 1024 = y / 1024) : findF s x = findF s y :=
  seek_page (fun k => by unfold hitB pgB; rw [page_iff _ _ (hs.h k) hx, page_iff _ _ (hs.h k) hy, h]) 8 0
/-- two words of one page lie together -/
theorem page_pair (s : St) (hs : s.Ok) (x y : Int) (hx : W32 x) (hy : W32 y) (h : x / 1024 = y / 1024) (x4 : x % 4 = 0) (y4 : y % 4 = 0) :
    ∃ (a b c : Int) (r : Bool), segF s x 4 false = (a, c, r) ∧ segF s y 4 false = (b, c, r) ∧ ((0 ≤ c ∧ a = 0 ∧ b = 0) ∨ (c = -1 ∧ a - b = x - y)) := by
  have ex : x % szI 4 = 0 := x4
  have ey : y % szI 4 = 0 := y4
  have hx0 := hx.1
  have hy0 := hy.1
  have L : ∃ (a b c : Int) (r : Bool), lookF s x false = (a, c, r) ∧ lookF s y false = (b, c, r) ∧ ((0 ≤ c ∧ a = 0 ∧ b = 0) ∨ (c = -1 ∧ a - b = x - y)) := by
    have hf := find_page hs hx hy h
    rcases find_cases s y with hn | ⟨k, hk, hn⟩
    · exact ⟨_, _, _, _, look_none (hf.trans hn), look_none hn, .inl ⟨by decide, rfl, rfl⟩⟩
    · by_cases hV : bits .and .u32 (s.L k) 1 = 0
      · exact ⟨_, _, _, _, look_inv (hf.trans hn) hV, look_inv hn hV, .inl ⟨by decide, rfl, rfl⟩⟩
      · refine ⟨_, _, _, _, look_at (hf.trans hn) hV (by simp), look_at hn hV (by simp), .inr ⟨rfl, ?_⟩⟩
        rw [or_page _ _ (hs.l k) hx, or_page _ _ (hs.l k) hy]
        omega
  by_cases hi : 2147483648 ≤ x
  · have hi' : 2147483648 ≤ y := by omega
    cases hu : userB s
    · by_cases hc : x < 3221225472
      · refine ⟨_, _, _, _, seg_direct ex hi hu hc, seg_direct ey hi' hu (by omega), .inr ⟨rfl, ?_⟩⟩
        rw [and29 x hx, and29 y hy]
        omega
      · rw [seg_high ex hu (by omega), seg_high ey hu (by omega)]; exact L
    · exact ⟨_, _, _, _, seg_user hi hu, seg_user hi' hu, .inl ⟨by decide, rfl, rfl⟩⟩
  · rw [seg_low ex (by omega), seg_low ey (by omega)]; exact L
theorem page_two (s : St) (hs : s.Ok) (va : Int) (hv : W32 va) :
    ∃ (a b c : Int) (r : Bool), segF s (bits .andNot .u32 va 3) 4 false = (a, c, r) ∧ segF s (bits .andNot .u32 va 1023) 4 false = (b, c, r) ∧ ((0 ≤ c ∧ a = 0 ∧ b = 0) ∨ (c = -1 ∧ (a - b) % 4294967296 = bits .and .u32 va 1020)) := by
  have e1 := clear3 va hv
  have e2 := page_of va hv
  have e3 := and1020 va hv
  have h1 := w_andNot va 3
  have h2 := w_andNot va 1023
  obtain ⟨v0, v1⟩ := hv
  obtain ⟨a, b, c, r, ha, hb, h⟩ := page_pair s hs _ _ h1 h2 (by rw [e1, e2]; omega) (by rw [e1]; omega) (by rw [e2]; omega)
  refine ⟨a, b, c, r, ha, hb, ?_⟩
  rcases h with h | ⟨h, k⟩
  · exact .inl h
  · refine .inr ⟨h, ?_⟩
    rw [k, e1, e2, e3]
    omega
section
variable {w : World} {ra ca ta : Option Addr} {rl rc cl cc tl tc : Nat} {pc st cs hi ct sh : Int} {sl lk : Bool}
set_option maxRecDepth 100000 in
set_option maxHeartbeats 4000000 in
theorem aligned_walk (va n : Int) (hv : W32 va) (h : DrawnAt w w.heap.size ra ca ta rl cl tl pc st cs hi ct sh) (n0 : -9223372036854775808 ≤ n) (n1 : n ≤ 9223372036854775807) :
    Calls Try.prog 6 #[drawnV ra ca ta rl rc cl cc tl tc pc st cs hi ct sh sl lk, .int .u32 va, .int .i64 n] w (RetB (.bool true) w) := by
  have HD := Lib.hid h
  obtain ⟨v0, v1⟩ := id hv
  have HV := Lib.hid hv
  clear h hv
  unfold drawnV
  go_enter Try.func6, Try.ntmps6
  go_wp2_with fail
  have b0 := (Below.refl w.heap.size w).alloc (Nat.le_refl _) (.cells #[.slice ra rl rc, .int .u32 pc, .int .u32 st, .int .u32 cs, .int .u32 hi, .bool sl, .bool lk, .slice ca cl cc, .slice ta tl tc, .int .u32 ct, .int .u32 sh] 38)
  have g0 := (Fr.refl (New w.heap.size) w).alloc (.cells #[.slice ra rl rc, .int .u32 pc, .int .u32 st, .int .u32 cs, .int .u32 hi, .bool sl, .bool lk, .slice ca cl cc, .slice ta tl tc, .int .u32 ct, .int .u32 sh] 38)
  refine (state_any (rc := rc) (cc := cc) (tc := tc) (sl := sl) (lk := lk) 0 ((HD.out.below b0).up b0.size) ⟨by omega, by omega⟩).mono ?_
  rintro e w1 ⟨s, rfl, ok, dn, tm, b1⟩
  have g1 := g0.trans (Fr.of_below (S := New w.heap.size) b1)
  have z1 := g1.size
  clear b0 g0 b1 dn tm HD
  go_wp2_with (with_reducible refine wpList_allocSt ?_)
  intro g w2 l2 h2 f2
  go_wp2_with ((with_reducible refine wpList_storeSt ?_ ?_ h2 ok ?_); rfl; rfl)
  intro w3 t3
  have hg : w.heap.size ≤ g := by omega
  have F3 := (g1.trans (f2.new (fun _ x => x.elim))).trans (t3.fr.new (by rintro k rfl; exact hg))
  have h3 := t3.at_
  clear t3 h2 f2 l2 g1 z1
  have h4 := h3.alloc (.cells #[.int .i64 1, .int .i64 2, .int .i64 4] 3)
  have F4 := F3.alloc (.cells #[.int .i64 1, .int .i64 2, .int .i64 4] 3)
  clear h3 F3
  have hr : n.tmod 3 = -2 ∨ n.tmod 3 = -1 ∨ n.tmod 3 = 0 ∨ n.tmod 3 = 1 ∨ n.tmod 3 = 2 := by
    have := tmod_pos n 3 (by decide)
    omega
  rcases hr with hr | hr | hr | hr | hr
  · go_wp2_with fail
    refine (segfind_any va 2 true h4 HV.out).mono ?_
    rintro e w5 ⟨rfl, b5⟩
    have h5 := h4.below b5
    have F5 := F4.trans (Fr.of_below (S := New w.heap.size) b5)
    clear h4 F4 b5
    by_cases hm : va % 2 = 0
    · unfold segV
      obtain ⟨a, b, c, r, ha, hb, hc⟩ := page_two s h5.ok va HV.out
      have HA := Lib.hid ha
      have HB := Lib.hid hb
      clear ha hb
      go_wp2_with fail
      refine (segfind_any _ 4 false h5 (w_andNot va 3)).mono ?_
      rintro e w6 ⟨rfl, b6⟩
      rw [seg_as HA.out]
      have h6 := h5.below b6
      have F6 := F5.trans (Fr.of_below (S := New w.heap.size) b6)
      clear h5 F5 b6
      go_wp2_with fail
      refine (segfind_any _ 4 false h6 (w_andNot va 1023)).mono ?_
      rintro e w7 ⟨rfl, b7⟩
      rw [seg_as HB.out]
      have F7 := F6.trans (Fr.of_below (S := New w.heap.size) b7)
      clear h6 F6 b7
      rcases hc with ⟨hc, rfl, rfl⟩ | ⟨rfl, hc⟩
      all_goals
        go_wp2_with fail
        refine (known_any _).mono ?_
        rintro e w8 ⟨rfl, b8⟩
        go_wp2_with fail
        go_ret
        exact ⟨rfl, (F7.trans (Fr.of_below (S := New w.heap.size) b8)).newB⟩
    · rw [seg_as (seg_odd (s := s) (st := true) (show ¬ va % szI 2 = 0 from hm))]
      go_wp2_with fail
      refine (known_any _).mono ?_
      rintro e w8 ⟨rfl, b8⟩
      go_wp2_with fail
      go_ret
      exact ⟨rfl, (F5.trans (Fr.of_below (S := New w.heap.size) b8)).newB⟩
  · go_wp2_with fail
    refine (segfind_any va 4 true h4 HV.out).mono ?_
    rintro e w5 ⟨rfl, b5⟩
    have h5 := h4.below b5
    have F5 := F4.trans (Fr.of_below (S := New w.heap.size) b5)
    clear h4 F4 b5
    by_cases hm : va % 4 = 0
    · unfold segV
      obtain ⟨a, b, c, r, ha, hb, hc⟩ := page_two s h5.ok va HV.out
      have HA := Lib.hid ha
      have HB := Lib.hid hb
      clear ha hb
      go_wp2_with fail
      refine (segfind_any _ 4 false h5 (w_andNot va 3)).mono ?_
      rintro e w6 ⟨rfl, b6⟩
      rw [seg_as HA.out]
      have h6 := h5.below b6
      have F6 := F5.trans (Fr.of_below (S := New w.heap.size) b6)
      clear h5 F5 b6
      go_wp2_with fail
      refine (segfind_any _ 4 false h6 (w_andNot va 1023)).mono ?_
      rintro e w7 ⟨rfl, b7⟩
      rw [seg_as HB.out]
      have F7 := F6.trans (Fr.of_below (S := New w.heap.size) b7)
      clear h6 F6 b7
      rcases hc with ⟨hc, rfl, rfl⟩ | ⟨rfl, hc⟩
      all_goals
        go_wp2_with fail
        refine (known_any _).mono ?_
        rintro e w8 ⟨rfl, b8⟩
        go_wp2_with fail
        go_ret
        exact ⟨rfl, (F7.trans (Fr.of_below (S := New w.heap.size) b8)).newB⟩
    · rw [seg_as (seg_odd (s := s) (st := true) (show ¬ va % szI 4 = 0 from hm))]
      go_wp2_with fail
      refine (known_any _).mono ?_
      rintro e w8 ⟨rfl, b8⟩
      go_wp2_with fail
      go_ret
      exact ⟨rfl, (F5.trans (Fr.of_below (S := New w.heap.size) b8)).newB⟩
  · go_wp2_with fail
    refine (segfind_any va 1 true h4 HV.out).mono ?_
    rintro e w5 ⟨rfl, b5⟩
    have h5 := h4.below b5
    have F5 := F4.trans (Fr.of_below (S := New w.heap.size) b5)
    clear h4 F4 b5
    unfold segV
    obtain ⟨a, b, c, r, ha, hb, hc⟩ := page_two s h5.ok va HV.out
    have HA := Lib.hid ha
    have HB := Lib.hid hb
    clear ha hb
    go_wp2_with fail
    refine (segfind_any _ 4 false h5 (w_andNot va 3)).mono ?_
    rintro e w6 ⟨rfl, b6⟩
    rw [seg_as HA.out]
    have h6 := h5.below b6
    have F6 := F5.trans (Fr.of_below (S := New w.heap.size) b6)
    clear h5 F5 b6
    go_wp2_with fail
    refine (segfind_any _ 4 false h6 (w_andNot va 1023)).mono ?_
    rintro e w7 ⟨rfl, b7⟩
    rw [seg_as HB.out]
    have F7 := F6.trans (Fr.of_below (S := New w.heap.size) b7)
    clear h6 F6 b7
    rcases hc with ⟨hc, rfl, rfl⟩ | ⟨rfl, hc⟩
    all_goals
      go_wp2_with fail
      refine (known_any _).mono ?_
      rintro e w8 ⟨rfl, b8⟩
      go_wp2_with fail
      go_ret
      exact ⟨rfl, (F7.trans (Fr.of_below (S := New w.heap.size) b8)).newB⟩
  · go_wp2_with fail
    refine (segfind_any va 2 true h4 HV.out).mono ?_
    rintro e w5 ⟨rfl, b5⟩
    have h5 := h4.below b5
    have F5 := F4.trans (Fr.of_below (S := New w.heap.size) b5)
    clear h4 F4 b5
    by_cases hm : va % 2 = 0
    · unfold segV
      obtain ⟨a, b, c, r, ha, hb, hc⟩ := page_two s h5.ok va HV.out
      have HA := Lib.hid ha
      have HB := Lib.hid hb
      clear ha hb
      go_wp2_with fail
      refine (segfind_any _ 4 false h5 (w_andNot va 3)).mono ?_
      rintro e w6 ⟨rfl, b6⟩
      rw [seg_as HA.out]
      have h6 := h5.below b6
      have F6 := F5.trans (Fr.of_below (S := New w.heap.size) b6)
      clear h5 F5 b6
      go_wp2_with fail
      refine (segfind_any _ 4 false h6 (w_andNot va 1023)).mono ?_
      rintro e w7 ⟨rfl, b7⟩
      rw [seg_as HB.out]
      have F7 := F6.trans (Fr.of_below (S := New w.heap.size) b7)
      clear h6 F6 b7
      rcases hc with ⟨hc, rfl, rfl⟩ | ⟨rfl, hc⟩
      all_goals
        go_wp2_with fail
        refine (known_any _).mono ?_
        rintro e w8 ⟨rfl, b8⟩
        go_wp2_with fail
        go_ret
        exact ⟨rfl, (F7.trans (Fr.of_below (S := New w.heap.size) b8)).newB⟩
    · rw [seg_as (seg_odd (s := s) (st := true) (show ¬ va % szI 2 = 0 from hm))]
      go_wp2_with fail
      refine (known_any _).mono ?_
      rintro e w8 ⟨rfl, b8⟩
      go_wp2_with fail
      go_ret
      exact ⟨rfl, (F5.trans (Fr.of_below (S := New w.heap.size) b8)).newB⟩
  · go_wp2_with fail
    refine (segfind_any va 4 true h4 HV.out).mono ?_
    rintro e w5 ⟨rfl, b5⟩
    have h5 := h4.below b5
    have F5 := F4.trans (Fr.of_below (S := New w.heap.size) b5)
    clear h4 F4 b5
    by_cases hm : va % 4 = 0
    · unfold segV
      obtain ⟨a, b, c, r, ha, hb, hc⟩ := page_two s h5.ok va HV.out
      have HA := Lib.hid ha
      have HB := Lib.hid hb
      clear ha hb
      go_wp2_with fail
      refine (segfind_any _ 4 false h5 (w_andNot va 3)).mono ?_
      rintro e w6 ⟨rfl, b6⟩
      rw [seg_as HA.out]
      have h6 := h5.below b6
      have F6 := F5.trans (Fr.of_below (S := New w.heap.size) b6)
      clear h5 F5 b6
      go_wp2_with fail
      refine (segfind_any _ 4 false h6 (w_andNot va 1023)).mono ?_
      rintro e w7 ⟨rfl, b7⟩
      rw [seg_as HB.out]
      have F7 := F6.trans (Fr.of_below (S := New w.heap.size) b7)
      clear h6 F6 b7
      rcases hc with ⟨hc, rfl, rfl⟩ | ⟨rfl, hc⟩
      all_goals
        go_wp2_with fail
        refine (known_any _).mono ?_
        rintro e w8 ⟨rfl, b8⟩
        go_wp2_with fail
        go_ret
        exact ⟨rfl, (F7.trans (Fr.of_below (S := New w.heap.size) b8)).newB⟩
    · rw [seg_as (seg_odd (s := s) (st := true) (show ¬ va % szI 4 = 0 from hm))]
      go_wp2_with fail
      refine (known_any _).mono ?_
      rintro e w8 ⟨rfl, b8⟩
      go_wp2_with fail
      go_ret
      exact ⟨rfl, (F5.trans (Fr.of_below (S := New w.heap.size) b8)).newB⟩
end
end Go.Proofs.Ytecddcbkgelcmaa

/-
  Chapter 7: the law's own functions: known (its runs), same (both tell the same of an address), do (one call of both), page.
-/
import Derived.Test.YtckgkelggmhldaaTlR
import Derived.Deep.RegionHeld3
namespace Go.Proofs.Ytckgkelggmhldaa
open Go.RowKit
set_option linter.unusedVariables false
theorem kn_l1 : lookF freshF 20480 false = (0, 2, true) := by decide +kernel
theorem kn_f1 : findF freshF 20480 = -1 := by decide +kernel
def knF : St := putF ((freshF.setC 10 20480).setC 2 9217) false
theorem kn_l2 : lookF knF 20496 false = (9232, -1, false) := by decide +kernel
theorem kn_l3 : lookF knF 20496 true = (0, 1, false) := by decide +kernel
theorem look_as {s : St} {va a b : Int} {st c : Bool} (h : lookF s va st = (a, b, c)) : lookV s va st = .tuple #[.int .u32 a, .int .i64 b, .bool c] := by unfold lookV; rw [h]
set_option maxHeartbeats 1000000 in
theorem known_any (w : World) : Calls Try.prog 10 #[] w (RetB (.bool true) w) := by
  go_enter Try.func10, Try.ntmps10
  go_wp2_with fail
  refine (fresh_any w).mono ?_
  rintro e w1 ⟨rfl, b1⟩
  go_wp2_with (with_reducible refine wpList_allocSt ?_)
  intro g w2 l2 h2 f2
  have ok := St.Ok.of_fresh
  go_wp2_with (refine wpList_storeSt rfl rfl h2 ok ?_)
  intro w3 t3
  have q1 := b1.size
  have hg : w.heap.size ≤ g := by omega
  have F3 : Fr (New w.heap.size) w w3 := ((Fr.of_below (S := New w.heap.size) b1).trans (f2.new (fun _ x => x.elim))).trans (t3.fr.new (by rintro k rfl; exact hg))
  have h3 := t3.at_
  clear h2 f2 t3 b1 l2 q1
  go_wp2_with fail
  refine (look_any 20480 false h3 ⟨by decide, by decide⟩).mono ?_
  rintro e w4 ⟨rfl, b4⟩
  rw [look_as kn_l1]
  have h4 := h3.below b4
  have F4 := F3.trans (Fr.of_below (S := New w.heap.size) b4)
  clear h3 b4
  go_wp2_with fail
  refine (find_any 20480 h4 ⟨by decide, by decide⟩).mono ?_
  rintro e w5 ⟨rfl, b5⟩
  rw [kn_f1]
  have h5 := h4.below b5
  have F5 := F4.trans (Fr.of_below (S := New w.heap.size) b5)
  clear h4 b5
  have c2 := h5.c2
  have c10 := h5.c10
  have z2 := h5.frozenAt 41
  have z10 := h5.frozenAt 49
  have t6 : Turned w5 ((w5.setCell ⟨g, 49, none⟩ (.int .u32 20480)).setCell ⟨g, 41, none⟩ (.int .u32 9217)) g ((freshF.setC 10 20480).setC 2 9217) := ((Turned.refl h5).setC 10 (by decide) 20480 ⟨by decide, by decide⟩).setC 2 (by decide) 9217 ⟨by decide, by decide⟩
  go_wp2_with fail
  refine (put7_any false t6.at_).mono ?_
  rintro e w7 ⟨rfl, t7⟩
  have F7 := (F5.trans (t6.fr.new (by rintro k rfl; exact hg))).trans (t7.fr.new (by rintro k rfl; exact hg))
  have h7 : StAt w7 g knF := t7.at_
  clear c2 c10 z2 z10 t6 t7 h5
  go_wp2_with fail
  refine (look_any 20496 false h7 ⟨by decide, by decide⟩).mono ?_
  rintro e w8 ⟨rfl, b8⟩
  rw [look_as kn_l2]
  have h8 := h7.below b8
  go_wp2_with fail
  refine (look_any 20496 true h8 ⟨by decide, by decide⟩).mono ?_
  rintro e w9 ⟨rfl, b9⟩
  rw [look_as kn_l3]
  go_wp2_with fail
  go_ret
  exact ⟨rfl, ((F7.trans (Fr.of_below (S := New w.heap.size) b8)).trans (Fr.of_below (S := New w.heap.size) b9)).newB⟩
set_option maxHeartbeats 1000000 in
theorem page_any (n va : Int) (w : World) (hv : W32 va) (n0 : -9223372036854775808 ≤ n) (n1 : n ≤ 9223372036854775807) : Calls Try.prog 12 #[.int .i64 n, .int .u32 va] w fun e w' => (∃ v, e = .returned (.int .u32 v) ∧ W32 v) ∧ w = w' := by
  obtain ⟨v0, v1⟩ := id hv
  cases h : (n.tmod 4 == 3)
  · go_enter Try.func12, Try.ntmps12
    go_wp2_with fail
    go_ret
    exact ⟨⟨_, rfl, w_or _ _⟩, rfl⟩
  · go_enter Try.func12, Try.ntmps12
    go_wp2_with fail
    go_ret
    exact ⟨⟨_, rfl, hv⟩, rfl⟩
section
variable {w : World} {g m : Nat} {s : St}
set_option maxRecDepth 100000 in
set_option maxHeartbeats 2000000 in
theorem same_any (va : Int) (h : Two w g m s) (hv : W32 va) :
    Calls Try.prog 9 #[.pointer (some ⟨g, 0, none⟩), .pointer (some ⟨m, 0, none⟩), .int .u32 va] w (RetB (.bool true) w) := by
  have HV := Lib.hid hv
  clear hv
  go_enter Try.func9, Try.ntmps9
  go_wp2_with fail
  have b0 := (Below.refl w.heap.size w).alloc (Nat.le_refl _) (.cells #[.bool false, .bool true] 4)
  have h0 := h.below b0
  have hq := heap_alloc_last w (.cells #[.bool false, .bool true] 4)
  have q0 : (w.alloc (.cells #[.bool false, .bool true] 4)).cell? ⟨w.heap.size, 0, none⟩ = some (.bool false) := cell_of_row _ _ 0 _ _ _ hq
  have q1 : (w.alloc (.cells #[.bool false, .bool true] 4)).cell? ⟨w.heap.size, 1, none⟩ = some (.bool true) := cell_of_row _ _ 1 _ _ _ hq
  clear hq h
  generalize w.alloc (.cells #[.bool false, .bool true] 4) = W0 at b0 h0 q0 q1 ⊢
  go_loopw [17] (fun i wr => ∃ k : Nat, k ≤ 2 ∧ i = .int .i64 k ∧ Bl W0 wr) (fun i _ => 2 - (intOf i).toNat)
  case atStart => exact ⟨0, by omega, by go_num, Below.refl _ _⟩
  case round =>
    obtain ⟨k, hk, rfl, hb⟩ := hrel
    have h1 := h0.below hb
    have e0 := hb.cell q0
    have e1 := hb.cell q1
    clear q0 q1
    have k3 : k = 0 ∨ k = 1 ∨ k = 2 := by omega
    rcases k3 with rfl | rfl | rfl
    · go_wp2_with fail
      refine (look_any va false h1.a HV.out).mono ?_
      rintro e w1 ⟨rfl, b1⟩
      unfold lookV
      go_wp2_with fail
      refine (rlook_any va false (h1.below b1).b).mono ?_
      rintro e w2 ⟨rfl, b2⟩
      unfold lookV
      go_wp2_with fail
      go_roundw
      case rel => exact ⟨1, by omega, rfl, (hb.step b1).step b2⟩
      case measure => simp [intOf]
    · go_wp2_with fail
      refine (look_any va true h1.a HV.out).mono ?_
      rintro e w1 ⟨rfl, b1⟩
      unfold lookV
      go_wp2_with fail
      refine (rlook_any va true (h1.below b1).b).mono ?_
      rintro e w2 ⟨rfl, b2⟩
      unfold lookV
      go_wp2_with fail
      go_roundw
      case rel => exact ⟨2, by omega, rfl, (hb.step b1).step b2⟩
      case measure => simp [intOf]
    · go_wp2_with fail
      refine wp_region_bl (by kernel_rfl) (by kernel_rfl) ?_
      go_big_quiet_step (exact fun _ => rfl)
      go_big_quiet_step (exact fun _ => rfl)
      refine quiet_loadSt rfl (fun w' hw' => h1.a.below hw') ?_
      quiet_step (exact fun _ => rfl)
      go_big_quiet_step (exact fun _ => rfl)
      refine quiet_loadSt rfl (fun w' hw' => h1.b.below hw') ?_
      refine quiet_eqlSt rfl rfl ?_
      quiet_step (exact fun _ => rfl)
      repeat go_big_quiet_step ((first
        | exact fun _ => rfl
        | (intro hw'; go_at_call 15; exact (find_any va (h1.a.below hw') HV.out).mono (RetB.bl hw'))
        | (intro hw'; go_at_call 25; exact (rfind_any va (h1.b.below hw')).mono (RetB.bl hw'))))
      refine wpQuiet_nil ?_
      intro w3 hb3
      go_wp2_with fail
      go_ret
      exact ⟨rfl, b0.trans ((hb.step hb3).mono b0.size)⟩
end
end Go.Proofs.Ytckgkelggmhldaa

/-
  Chapter 6: the closed sentence (the walk of Cp0Numbers).
-/
import Derived.Test.YtjadjfcdgnmomaaDo6
namespace Go.Proofs.Ytjadjfcdgnmomaa
open Go.RowKit
set_option linter.unusedVariables false
theorem wpList_neqSt {ops : Array Oper} {rest : List Oper} {a : Act} {w : World} {Q : Exit → Act → World → Prop} {dst : Option Tmp} {ty ty' : TypeId} {pos : String} {aft : Array Edge} {x y : Operand} {s : St} (hx : a.eval x = .agg s.arr) (hy : a.eval y = .agg s.arr) (h : wpList Try.prog ops Q rest (a.put dst (.bool false)) w) :
    wpList Try.prog ops Q (⟨dst, .binOp .neq 29 x y ty', ty, pos, aft, none⟩ :: rest) a w :=
  wpList_plain rfl fun K hK => by
    have hg : (eqGuard .neq 29 x y (.agg s.arr) (.agg s.arr)).run Try.prog w = .ok () w := by
      unfold eqGuard
      simp
    unfold Oper.wp execOp
    simp only [hx, hy, Sem.run_bind, hg, s.neq w, Result.andThen_ok, Sem.run_pure]
    exact hK _ _ h
theorem word_at {w : World} {cs : Array Value} {t : TypeId} (L : List Int) (h : cs.toList = L.map (Value.int .u32)) (hL : ∀ x ∈ L, 0 ≤ x ∧ x < 4294967296) (j : Nat) (hj : j < L.length) : ∃ v : Int, W32 v ∧ (w.alloc (.cells cs t)).cell? ⟨w.heap.size, j, none⟩ = some (.int .u32 v) := by
  refine ⟨L[j], hL _ (List.getElem_mem hj), ?_⟩
  have e : (w.alloc (.cells cs t)).cell? ⟨w.heap.size, j, none⟩ = cs[j]? := by simp
  rw [e, ← Array.getElem?_toList, h, List.getElem?_map, List.getElem?_eq_getElem hj]
  rfl
def na : List Int := [4294967295, 0, 1431655765, 2147483648]
def nb : List Int := [0, 1, 2, 5]
theorem pick6 (j : Nat) (h : j < 6) : ∃ y : Int, 0 ≤ y ∧ y ≤ 14 ∧ [Value.int IntKind.i64 12, Value.int IntKind.i64 13, Value.int IntKind.i64 9, Value.int IntKind.i64 11, Value.int IntKind.i64 14, Value.int IntKind.i64 10][j]? = some (.int .i64 y) := by
  have : j = 0 ∨ j = 1 ∨ j = 2 ∨ j = 3 ∨ j = 4 ∨ j = 5 := by omega
  rcases this with rfl | rfl | rfl | rfl | rfl | rfl
  · exact ⟨12, by omega, by omega, rfl⟩
  · exact ⟨13, by omega, by omega, rfl⟩
  · exact ⟨9, by omega, by omega, rfl⟩
  · exact ⟨11, by omega, by omega, rfl⟩
  · exact ⟨14, by omega, by omega, rfl⟩
  · exact ⟨10, by omega, by omega, rfl⟩
set_option maxRecDepth 100000 in
set_option maxHeartbeats 4000000 in
theorem numbers_walk (w : World) : Calls Try.prog 3 #[] w (RetB (.bool true) w) := by
  go_enter Try.func3, Try.ntmps3
  go_wp2_with fail
  refine (fresh_any w).mono ?_
  rintro e w1 ⟨rfl, b1⟩
  have z1 := b1.size
  have okf := St.Ok.of_fresh
  go_wp2_with (with_reducible refine wpList_allocSt ?_)
  intro g w2 l2 h2 f2
  go_wp2_with ((with_reducible refine wpList_storeSt ?_ ?_ h2 okf ?_); rfl; rfl)
  intro w3 t3
  go_wp2_with fail
  refine (rfresh_any w3).mono ?_
  rintro e w4 ⟨rfl, b4⟩
  have z4 := b4.size
  go_wp2_with (with_reducible refine wpList_allocSt ?_)
  intro m w5 l5 h5 f5
  go_wp2_with ((with_reducible refine wpList_storeSt ?_ ?_ h5 okf ?_); rfl; rfl)
  intro w6 t6
  have hgw : w.heap.size ≤ g := by omega
  have hmg : g ≠ m := by have := t3.at_.lt; omega
  have hmw : w.heap.size ≤ m := by have := t3.at_.lt; omega
  have A6 := ((t3.at_.fr (Fr.of_below (S := fun _ => False) b4) id).fr f5 id).fr t6.fr hmg
  have T6 : Two w6 g m freshF := ⟨A6, t6.at_, hmg⟩
  have g6 : Fr (New w.heap.size) w w6 := (((((Fr.of_below (S := New w.heap.size) b1).trans (f2.new (fun _ x => x.elim))).trans (t3.fr.new (by rintro k rfl; exact hgw))).trans (Fr.of_below (S := New w.heap.size) b4)).trans (f5.new (fun _ x => x.elim))).trans (t6.fr.new (by rintro k rfl; exact hmw))
  have B6 := t6.at_
  clear t6 t3 h2 f2 l2 b1 b4 h5 f5 l5 z1 z4
  go_upto_region 3 with fail
  go_step
  with_reducible refine wpList_loadSt ?_ A6 ?_
  · rfl
  with_reducible refine wpList_loadSt ?_ B6 ?_
  · rfl
  with_reducible refine wpList_neqSt (s := freshF) ?_ ?_ ?_
  · rfl
  · rfl
  clear A6 B6
  go_wp2_with fail
  go_loopw [3] (fun i wr => ∃ (n : Int) (s : St), -1 ≤ n ∧ n ≤ 18 ∧ i = .int .i64 n ∧ Two wr g m s ∧ Fr (New w.heap.size) w wr) (fun i _ => (18 - intOf i).toNat)
  case atStart => exact ⟨-1, freshF, by omega, by omega, rfl, T6, g6⟩
  case round =>
    clear T6 g6
    obtain ⟨n, s, n0, n1, rfl, T, F⟩ := hrel
    by_cases hlt : n < 18
    · go_wp2_with fail
      have Q := Lib.hid (fun j (hj : j < 4) => word_at (w := wr) (cs := #[.int .u32 4294967295, .int .u32 0, .int .u32 1431655765, .int .u32 2147483648]) (t := 22) na (by kernel_rfl) (by decide) j hj)
      have T0 := T.fr ((Fr.refl (fun _ => False) wr).alloc (.cells #[.int .u32 4294967295, .int .u32 0, .int .u32 1431655765, .int .u32 2147483648] 22)) id id
      have F0 := F.alloc (.cells #[.int .u32 4294967295, .int .u32 0, .int .u32 1431655765, .int .u32 2147483648] 22)
      have hq : ¬ Own2 g m wr.heap.size := by rintro (e | e); (have := T.a.lt; omega); (have := T.b.lt; omega)
      clear T F
      generalize wr.alloc (.cells #[.int .u32 4294967295, .int .u32 0, .int .u32 1431655765, .int .u32 2147483648] 22) = W0 at Q T0 F0 ⊢
      generalize wr.heap.size = q at Q hq ⊢
      go_loopw [22] (fun i wi => ∃ (j : Nat) (s : St), j ≤ 4 ∧ i = .int .i64 j ∧ Two wi g m s ∧ Fr (Own2 g m) W0 wi) (fun i _ => 4 - (intOf i).toNat)
      case atStart => exact ⟨0, s, by omega, by go_num, T0, Fr.refl _ _⟩
      case round =>
        clear T0
        obtain ⟨j, s1, j1, rfl, T, F⟩ := hrel
        by_cases hj : j < 4
        · obtain ⟨v, hv, hx⟩ := Q.out j hj
          have cx := cell_fr F hx hq
          have y4 : (j : Int) < 4 := by omega
          clear hx
          go_wp2_with fail
          refine (do_any _ _ _ _ _ T hv (by omega) (by omega) (by omega) (by omega)).mono ?_
          rintro e wA ⟨rfl, ⟨sA, TA⟩, FA⟩
          go_wp2_with fail
          refine (do_any _ _ _ _ _ TA w32_0 (by omega) (by omega) (by omega) (by omega)).mono ?_
          rintro e wB ⟨rfl, ⟨sB, TB⟩, FB⟩
          have FF := (F.trans FA).trans FB
          clear cx
          go_wp2_with fail
          go_roundw
          case rel => exact ⟨j + 1, sB, by omega, by go_num, TB, FF⟩
          case measure => simp [intOf]; omega
        · have y4 : ¬ (j : Int) < 4 := by omega
          have FF := F0.trans (F.new (own2_new hgw hmw))
          go_wp2_with fail
          go_roundw
          case rel => exact ⟨n + 1, s1, by omega, by omega, rfl, T, FF⟩
          case measure => simp [intOf]; omega
    · go_wp2_with fail
      go_loopw [6] (fun i wr => ∃ (k : Nat) (s : St), k ≤ 200 ∧ i = .int .i64 k ∧ Two wr g m s ∧ Fr (New w.heap.size) w wr) (fun i _ => 200 - (intOf i).toNat)
      case atStart => exact ⟨0, s, by omega, by go_num, T, F⟩
      case round =>
        clear T F
        obtain ⟨k, s, hk, rfl, T, F⟩ := hrel
        by_cases hk2 : k < 200
        · have y200 : (k : Int) < 200 := by omega
          obtain ⟨y, y0, y1, hpick⟩ := pick6 (k % 6) (by omega)
          go_upto_region 18 with fail
          clear hpick
          have hx := ask_row (wr.alloc (.cells #[.int .i64 12, .int .i64 13, .int .i64 9, .int .i64 11, .int .i64 14, .int .i64 10] 3)) ((k : Int) % 10) y ((k : Int) * 16777619) ((k : Int) % 3 == 0) ((k : Int) % 5 - 1)
          rw [show (wr.alloc (.cells #[.int .i64 12, .int .i64 13, .int .i64 9, .int .i64 11, .int .i64 14, .int .i64 10] 3)).heap.size = wr.heap.size + 1 by simp] at hx
          have T2 := T.fr (((Fr.refl (fun _ => False) wr).alloc (.cells #[.int .i64 12, .int .i64 13, .int .i64 9, .int .i64 11, .int .i64 14, .int .i64 10] 3)).alloc (.cells #[.int .i64 ((k : Int) % 10), .int .i64 y, .int .u32 ((k : Int) * 16777619), .bool ((k : Int) % 3 == 0), .int .i64 ((k : Int) % 5 - 1)] 35)) id id
          have F2 := (F.alloc (.cells #[.int .i64 12, .int .i64 13, .int .i64 9, .int .i64 11, .int .i64 14, .int .i64 10] 3)).alloc (.cells #[.int .i64 ((k : Int) % 10), .int .i64 y, .int .u32 ((k : Int) * 16777619), .bool ((k : Int) % 3 == 0), .int .i64 ((k : Int) % 5 - 1)] 35)
          have hXg : wr.heap.size + 1 ≠ g := by have := T.a.lt; omega
          have hXm : wr.heap.size + 1 ≠ m := by have := T.b.lt; omega
          clear T F
          generalize (wr.alloc (.cells #[.int .i64 12, .int .i64 13, .int .i64 9, .int .i64 11, .int .i64 14, .int .i64 10] 3)).alloc (.cells #[.int .i64 ((k : Int) % 10), .int .i64 y, .int .u32 ((k : Int) * 16777619), .bool ((k : Int) % 3 == 0), .int .i64 ((k : Int) % 5 - 1)] 35) = W2 at hx T2 F2 ⊢
          generalize wr.heap.size + 1 = X at hx hXg hXm ⊢
          have x0 := hx.cell (i := 0) (by omega)
          have x1 := hx.cell (i := 1) (by omega)
          have x2 := hx.cell (i := 2) (by omega)
          have x3 := hx.cell (i := 3) (by omega)
          have x4 := hx.cell (i := 4) (by omega)
          simp only [askF] at x0 x1 x2 x3 x4
          clear hx
          have hv : W32 ((k : Int) * 16777619) := ⟨by omega, by omega⟩
          by_cases h17 : k % 17 = 16
          · have e17 : ((k : Int) % 17 == 16) = true := by simp; omega
            have T3 : Two ((W2.setCell ⟨g, 36, none⟩ (.bool true)).setCell ⟨m, 36, none⟩ (.bool true)) g m (s.setSlot true) := ⟨(T2.a.setSlot true).setOther (a := ⟨m, 36, none⟩) hmg _, (T2.b.setOther (a := ⟨g, 36, none⟩) hmg.symm _).setSlot true, hmg⟩
            have F3 := (F2.setCell (x := ⟨g, 36, none⟩) (.inl hgw) (.bool true)).setCell (x := ⟨m, 36, none⟩) (.inl hmw) (.bool true)
            have k1 := T2.a.cSlot
            have k2 := T2.b.cSlot
            have k3 := T2.a.frozenAt 36
            have k4 := T2.b.frozenAt 36
            have hXg' : ¬ X = g := hXg
            have hXm' : ¬ X = m := hXm
            go_wp2_with fail
            refine (do_any _ _ _ _ _ T3 hv (by omega) (by omega) (by omega) (by omega)).mono ?_
            rintro e wA ⟨rfl, ⟨sA, TA⟩, FA⟩
            have FF := F3.trans (FA.new (own2_new hgw hmw))
            clear x0 x1 x2 x3 x4 k1 k2 k3 k4 T3 F3 T2 F2
            go_wp2_with fail
            go_roundw
            case rel => exact ⟨k + 1, sA, by omega, by go_num, TA, FF⟩
            case measure => simp [intOf]; omega
          · have e17 : ((k : Int) % 17 == 16) = false := by simp; omega
            go_wp2_with fail
            refine (do_any _ _ _ _ _ T2 hv (by omega) (by omega) (by omega) (by omega)).mono ?_
            rintro e wA ⟨rfl, ⟨sA, TA⟩, FA⟩
            have FF := F2.trans (FA.new (own2_new hgw hmw))
            clear x0 x1 x2 x3 x4 T2 F2
            go_wp2_with fail
            go_roundw
            case rel => exact ⟨k + 1, sA, by omega, by go_num, TA, FF⟩
            case measure => simp [intOf]; omega
        · have y200 : ¬ (k : Int) < 200 := by omega
          have y201 : 200 ≤ k := by omega
          go_wp2_with fail
          have Q := Lib.hid (fun j (hj : j < 4) => word_at (w := wr) (cs := #[.int .u32 0, .int .u32 1, .int .u32 2, .int .u32 5]) (t := 22) nb (by kernel_rfl) (by decide) j hj)
          have T0 := T.fr ((Fr.refl (fun _ => False) wr).alloc (.cells #[.int .u32 0, .int .u32 1, .int .u32 2, .int .u32 5] 22)) id id
          have F0 := F.alloc (.cells #[.int .u32 0, .int .u32 1, .int .u32 2, .int .u32 5] 22)
          have hq : ¬ Own2 g m wr.heap.size := by rintro (e | e); (have := T.a.lt; omega); (have := T.b.lt; omega)
          clear T F
          generalize wr.alloc (.cells #[.int .u32 0, .int .u32 1, .int .u32 2, .int .u32 5] 22) = W0 at Q T0 F0 ⊢
          generalize wr.heap.size = q at Q hq ⊢
          go_loopw [68] (fun i wi => ∃ (j : Nat) (s : St), j ≤ 4 ∧ i = .int .i64 j ∧ Two wi g m s ∧ Fr (Own2 g m) W0 wi) (fun i _ => 4 - (intOf i).toNat)
          case atStart => exact ⟨0, s, by omega, by go_num, T0, Fr.refl _ _⟩
          case round =>
            clear T0
            obtain ⟨j, s1, j1, rfl, T, F⟩ := hrel
            by_cases hj : j < 4
            · obtain ⟨v, hv, hx⟩ := Q.out j hj
              have cx := cell_fr F hx hq
              have y4 : (j : Int) < 4 := by omega
              clear hx
              go_wp2_with fail
              clear cx
              go_loopw [10] (fun i wi => ∃ (r : Nat) (s : St), r ≤ 8 ∧ i = .int .i64 r ∧ Two wi g m s ∧ Fr (Own2 g m) W0 wi) (fun i _ => 8 - (intOf i).toNat)
              case atStart => exact ⟨0, s1, by omega, by go_num, T, F⟩
              case round =>
                clear T F
                obtain ⟨r, s2, r1, rfl, T, F⟩ := hrel
                by_cases hr : r < 8
                · have y8 : (r : Int) < 8 := by omega
                  go_wp2_with fail
                  refine (fresh_any _).mono ?_
                  rintro e wA ⟨rfl, bA⟩
                  go_wp2_with fail
                  refine (rfresh_any _).mono ?_
                  rintro e wB ⟨rfl, bB⟩
                  have TB := (T.fr (Fr.of_below (S := fun _ => False) bA) id id).fr (Fr.of_below (S := fun _ => False) bB) id id
                  have FB := (F.trans (Fr.of_below (S := Own2 g m) bA)).trans (Fr.of_below (S := Own2 g m) bB)
                  have TBa := TB.a
                  clear T F bA bB
                  go_wp2_with ((with_reducible refine wpList_storeSt ?_ ?_ TBa okf ?_); rfl; rfl)
                  intro wC tC
                  have TBb := TB.rest tC
                  go_wp2_with ((with_reducible refine wpList_storeSt ?_ ?_ TBb okf ?_); rfl; rfl)
                  intro wD tD
                  have TD := TB.both tC tD
                  have FD := FB.trans (Two.fr2 tC tD)
                  clear TBa TBb TB FB tC tD
                  go_wp2_with fail
                  refine (do_any _ _ _ _ _ TD ⟨by omega, by omega⟩ (by omega) (by omega) (by omega) (by omega)).mono ?_
                  rintro e wE ⟨rfl, ⟨sE, TE⟩, FE⟩
                  go_wp2_with fail
                  refine (do_any _ _ _ _ _ TE (w_mod _) (by omega) (by omega) (by omega) (by omega)).mono ?_
                  rintro e wG ⟨rfl, ⟨sG, TG⟩, FG⟩
                  go_wp2_with fail
                  refine (do_any _ _ _ _ _ TG w32_0 (by omega) (by omega) (by omega) (by omega)).mono ?_
                  rintro e wH ⟨rfl, ⟨sH, TH⟩, FH⟩
                  have FF := ((FD.trans FE).trans FG).trans FH
                  go_wp2_with fail
                  go_roundw
                  case rel => exact ⟨r + 1, sH, by omega, by go_num, TH, FF⟩
                  case measure => simp [intOf]; omega
                · have y8 : ¬ (r : Int) < 8 := by omega
                  go_wp2_with fail
                  go_roundw
                  case rel => exact ⟨j + 1, s2, by omega, by go_num, T, F⟩
                  case measure => simp [intOf]; omega
            · have y4 : ¬ (j : Int) < 4 := by omega
              have FF := F0.trans (F.new (own2_new hgw hmw))
              go_wp2_with fail
              refine (write_nil _ _ _).mono ?_
              rintro e wA ⟨rfl, rfl⟩
              go_wp2_with fail
              refine (enter_nil _ _ _).mono ?_
              rintro e wA ⟨rfl, rfl⟩
              go_wp2_with fail
              refine (go_nil _ _).mono ?_
              rintro e wA ⟨rfl, rfl⟩
              go_wp2_with fail
              refine (user_nil _).mono ?_
              rintro e wA ⟨rfl, rfl⟩
              go_wp2_with fail
              refine (read_nil _ _).mono ?_
              rintro e wA ⟨rfl, rfl⟩
              go_wp2_with fail
              refine (known_any _).mono ?_
              rintro e wA ⟨rfl, bA⟩
              go_wp2_with fail
              go_ret
              exact ⟨rfl, (FF.trans (Fr.of_below (S := New w.heap.size) bA)).newB⟩
end Go.Proofs.Ytjadjfcdgnmomaa

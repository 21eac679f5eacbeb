/-
  Chapter 7: Find and Look of package tlb, on any State.
-/
import Derived.Test.YtecddcbkgelcmaaTlb
namespace Go.Proofs.Ytecddcbkgelcmaa
open Go.RowKit
set_option linter.unusedVariables false
theorem ofAll_any (x y : Int) (w : World) : Calls Try.prog 30 #[.agg #[.int .u32 x, .int .u32 y]] w (RetB (.bool (bits .and .u32 y 4 != 0)) w) := by
  go_enter Try.func30, Try.ntmps30
  go_wp2
  go_ret
  exact ⟨rfl, (Below.refl _ _).alloc (Nat.le_refl _) _⟩
theorem ofSpace_any (x y z : Int) (w : World) : Calls Try.prog 31 #[.agg #[.int .u32 x, .int .u32 y], .int .u32 z] w (RetB (.bool (bits .and .u32 x 255 == bits .and .u32 z 255)) w) := by
  go_enter Try.func31, Try.ntmps31
  go_wp2
  go_ret
  exact ⟨rfl, (Below.refl _ _).alloc (Nat.le_refl _) _⟩
theorem missing_any (st : Bool) (w : World) : Calls Try.prog 28 #[.bool st] w fun e w' => e = .returned (.int .i64 (missI7 st)) ∧ w = w' := by
  cases st
  all_goals
    go_enter Try.func28, Try.ntmps28
    go_wp2
    go_ret
    exact ⟨rfl, rfl⟩
theorem pg_prog (s : St) (h : s.Ok) (va : Int) (hv : W32 va) (k : Nat) : (s.H k / 1024 != va / 1024) = !pgB s va k := by
  unfold pgB
  rw [page_iff _ _ (h.h k) hv]
  by_cases e : s.H k / 1024 = va / 1024 <;> simp [e]
section
variable {w : World} {g : Nat} {s : St}
set_option maxHeartbeats 1000000 in
theorem find_any (va : Int) (h : StAt w g s) (hv : W32 va) :
    Calls Try.prog 27 #[.pointer (some ⟨g, 0, none⟩), .int .u32 va] w (RetB (.int .i64 (findF s va)) w) := by
  obtain ⟨v0, v1⟩ := id hv
  have HV := Lib.hid hv
  have HS := Lib.hid h
  clear hv
  go_enter Try.func27, Try.ntmps27
  go_wp2
  go_step3
  go_wp2
  go_step3
  go_wp2_with ((with_reducible refine wpList_loadTab (g := g) (s := s) ?_ h ?_); rfl)
  clear h
  go_loopg [5, 14] 8 (fun gh fo i wr => ∃ k : Nat, k + gh = 8 ∧ fo = .int .i64 (-1) ∧ i = .int .i64 k ∧ Hid (∀ j, j < k → hitB s va j = false) ∧ Below w.heap.size w wr)
  case atStart => exact ⟨0, by omega, rfl, rfl, Lib.hid (fun j hj => absurd hj (by omega)), Below.refl _ _⟩
  case round =>
    obtain ⟨k, hk, rfl, rfl, HN, hb⟩ := hrel
    cases gk with
    | zero =>
      have e8 : decide ((k : Int) < 8) = false := by simp; omega
      go_wp2_with fail
      try rw [Exit.noGoto_ret]
      go_ret
      exact ⟨ret_int (find_none fun i hi => HN.out i (by omega)).symm, hb⟩
    | succ gh =>
      have hlt : k < 8 := by omega
      have hlt' : (k : Int) < 8 := by omega
      have h1 := HS.out.below hb
      obtain ⟨x0, x1⟩ := id (h1.ok.h k)
      have e1 := pg_prog s h1.ok va HV.out k
      cases hp : pgB s va k
      · rw [hp] at e1
        have HP := Lib.hid hp
        clear hp
        go_wp2_with ((with_reducible refine wpList_indexTab (k := k) (s := s) ?_ ?_ hlt ?_); rfl; rfl)
        go_roundg gh
        case measure => omega
        case rel => exact ⟨k + 1, by omega, rfl, by go_num, Lib.hid (fun j hj => by by_cases e : j = k; · subst e; unfold hitB; rw [HP.out]; rfl
                                                                                    · exact HN.out j (by omega)), hb.alloc hb.size _⟩
      · rw [hp] at e1
        have HP := Lib.hid hp
        clear hp
        go_wp2_with ((with_reducible refine wpList_indexTab (k := k) (s := s) ?_ ?_ hlt ?_); rfl; rfl)
        refine (ofAll_any _ _ _).mono ?_
        rintro e w2 ⟨rfl, b2⟩
        have hX : wr.heap.size < (wr.alloc (.cells #[.int .u32 (s.H k), .int .u32 (s.L k)] 27)).heap.size := by simp
        have h2 := (h1.alloc (.cells #[.int .u32 (s.H k), .int .u32 (s.L k)] 27)).below b2
        have hb2 : Below w.heap.size w w2 := (hb.alloc hb.size (.cells #[.int .u32 (s.H k), .int .u32 (s.L k)] 27)).trans (b2.mono (by have := hb.size; simp; omega))
        have hq := heap_alloc_last wr (.cells #[.int .u32 (s.H k), .int .u32 (s.L k)] 27)
        have q0 := (b2.cell (p := ⟨wr.heap.size, 0, none⟩) hX).trans (cell_of_row _ _ 0 _ _ _ hq)
        have q1 := (b2.cell (p := ⟨wr.heap.size, 1, none⟩) hX).trans (cell_of_row _ _ 1 _ _ _ hq)
        simp at q0 q1
        clear hq b2 hX
        cases hg : (bits .and .u32 (s.L k) 4 != 0)
        · have HG := Lib.hid hg
          clear hg
          go_wp2_with fail
          refine wp_region_bl (by kernel_rfl) (by kernel_rfl) ?_
          refine quiet_loadEnt rfl (fun w' hw' => ⟨hw'.cell q0, hw'.cell q1⟩) ?_
          quiet_step (exact fun _ => rfl)
          repeat go_big_quiet_step ((first
            | exact fun _ => rfl
            | (intro hw'; go_at_call 26; exact (read_any 10 (h2.below hw')).mono fun _ _ h => ⟨h.1, h.2 ▸ hw'⟩)
            | (intro hw'; go_at_call 31; exact (ofSpace_any _ _ _ _).mono (RetB.bl hw'))))
          refine wpQuiet_nil ?_
          intro w3 hb3
          have hb4 : Below w.heap.size w w3 := hb2.trans (hb3.mono hb2.size)
          cases hs : (bits .and .u32 (s.H k) 255 == bits .and .u32 (rdF s 10) 255)
          · have HP2 := Lib.hid hs
            clear hs
            go_wp2_with fail
            go_roundg gh
            case measure => omega
            case rel => exact ⟨k + 1, by omega, rfl, by go_num, Lib.hid (fun j hj => by
                by_cases e : j = k
                · subst e
                  have HP3 : spB s j = false := HP2.out
                  have HG3 : glB s j = false := HG.out
                  unfold hitB; rw [HG3, HP3]; simp
                · exact HN.out j (by omega)), hb4⟩
          · have HP2 := Lib.hid hs
            clear hs
            go_wp2_with fail
            try rw [Exit.noGoto_ret]
            go_ret
            have HP3 : spB s k = true := HP2.out
            exact ⟨ret_int (find_hit hlt (by unfold hitB; rw [HP.out, HP3]; simp) HN.out).symm, hb4⟩
        · have HG := Lib.hid hg
          clear hg
          go_wp2_with fail
          try rw [Exit.noGoto_ret]
          go_ret
          exact ⟨ret_int (find_hit hlt (by unfold hitB glB; rw [HP.out, HG.out]; rfl) HN.out).symm, hb2⟩
end
end Go.Proofs.Ytecddcbkgelcmaa

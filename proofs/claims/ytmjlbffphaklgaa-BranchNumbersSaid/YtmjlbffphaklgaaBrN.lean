/-
  Chapter 5: the walk of BranchNumbers: it returns true, and nothing that was there has turned.
-/
import Derived.Test.YtmjlbffphaklgaaBrS
namespace Go.Proofs.Ytmjlbffphaklgaa
open Go.RowKit
set_option linter.unusedVariables false

def nl : List Int := [0, 1, 4, 2147483647, 2147483648, 4294967295, 4294967292, 268435452, 2147484672]
def ni : List Int := [0, 1, 32767, 32768, 65535, 67108863]
theorem word_at {w : World} {cs : Array Value} {t : TypeId} (L : List Int) (h : cs.toList = L.map (Value.int .u32)) (M : Int) (hL : ∀ x ∈ L, 0 ≤ x ∧ x < M) (j : Nat) (hj : j < L.length) : ∃ v : Int, 0 ≤ v ∧ v < M ∧ (w.alloc (.cells cs t)).cell? ⟨w.heap.size, j, none⟩ = some (.int .u32 v) := by
  refine ⟨L[j], (hL _ (List.getElem_mem hj)).1, (hL _ (List.getElem_mem hj)).2, ?_⟩
  have e : (w.alloc (.cells cs t)).cell? ⟨w.heap.size, j, none⟩ = cs[j]? := by simp
  rw [e, ← Array.getElem?_toList, h, List.getElem?_map, List.getElem?_eq_getElem hj]
  rfl

theorem bthen' {a b c : World} (h : Below a.heap.size a b) (k : Below b.heap.size b c) : Below a.heap.size a c := below_then h k (Nat.le_refl _)

set_option maxRecDepth 100000 in
set_option maxHeartbeats 4000000 in
theorem numbers_walk (w : World) : Calls Try.prog 3 #[] w (TrB w) := by
  go_enter Try.func3, Try.ntmps3
  go_wp2
  have Q := Lib.hid (fun j (hj : j < 9) => word_at (w := w) (cs := #[.int .u32 0, .int .u32 1, .int .u32 4, .int .u32 2147483647, .int .u32 2147483648, .int .u32 4294967295, .int .u32 4294967292, .int .u32 268435452, .int .u32 2147484672]) (t := 22) nl (by kernel_rfl) 4294967296 (by decide) j hj)
  have hT : w.heap.size < (w.alloc (.cells #[.int .u32 0, .int .u32 1, .int .u32 4, .int .u32 2147483647, .int .u32 2147483648, .int .u32 4294967295, .int .u32 4294967292, .int .u32 268435452, .int .u32 2147484672] 22)).heap.size := by simp
  have hW : Below w.heap.size w (w.alloc (.cells #[.int .u32 0, .int .u32 1, .int .u32 4, .int .u32 2147483647, .int .u32 2147483648, .int .u32 4294967295, .int .u32 4294967292, .int .u32 268435452, .int .u32 2147484672] 22)) := below_new
  generalize w.alloc (.cells #[.int .u32 0, .int .u32 1, .int .u32 4, .int .u32 2147483647, .int .u32 2147483648, .int .u32 4294967295, .int .u32 4294967292, .int .u32 268435452, .int .u32 2147484672] 22) = wT at Q hT hW ⊢
  generalize hB : w.heap.size = B at Q hT hW ⊢
  go_loopw [2] (fun i wr => ∃ k : Int, -1 ≤ k ∧ k ≤ 80 ∧ i = .int .i64 k ∧ Below wT.heap.size wT wr) (fun i _ => (80 - intOf i).toNat)
  case atStart => exact ⟨-1, by omega, by omega, rfl, Below.refl _ _⟩
  case round =>
    obtain ⟨k, k0, k1, rfl, hg⟩ := hrel
    by_cases hlt : k < 80
    · have hkd : decide (k < 80) = true := by simp; omega
      go_wp2
      go_loopw [16] (fun i wr => ∃ j : Nat, j ≤ 9 ∧ i = .int .i64 j ∧ Below wT.heap.size wT wr) (fun i _ => 9 - (intOf i).toNat)
      case atStart => exact ⟨0, by omega, rfl, hg⟩
      case round =>
        obtain ⟨j, j1, rfl, hg2⟩ := hrel
        by_cases hlj : j < 9
        · have hjd : decide ((j : Int) < 9) = true := by simp; omega
          have hji : (j : Int) < 9 := by omega
          obtain ⟨v, v0, v1, hv⟩ := Q.out j hlj
          have c2 := (hg2.cell (p := ⟨B, j, none⟩) hT).trans hv
          go_wp2
          clear c2 hv
          go_loopw [22] (fun i wr => ∃ m : Nat, m ≤ 9 ∧ i = .int .i64 m ∧ Below wT.heap.size wT wr) (fun i _ => 9 - (intOf i).toNat)
          case atStart => exact ⟨0, by omega, rfl, hg2⟩
          case round =>
            obtain ⟨m, m1, rfl, hg3⟩ := hrel
            by_cases hlm : m < 9
            · have hmd : decide ((m : Int) < 9) = true := by simp; omega
              have hmi : (m : Int) < 9 := by omega
              obtain ⟨y, hy0, hy1, hu⟩ := Q.out m hlm
              have c3 := (hg3.cell (p := ⟨B, m, none⟩) hT).trans hu
              go_wp2
              clear c3 hu
              have P := Lib.hid (fun j (hj : j < 6) => word_at (w := wr) (cs := #[.int .u32 0, .int .u32 1, .int .u32 32767, .int .u32 32768, .int .u32 65535, .int .u32 67108863]) (t := 22) ni (by kernel_rfl) 67108864 (by decide) j hj)
              have hz3 : wr.heap.size < (wr.alloc (.cells #[.int .u32 0, .int .u32 1, .int .u32 32767, .int .u32 32768, .int .u32 65535, .int .u32 67108863] 22)).heap.size := by simp
              have hg4 := bthen' hg3 (below_new (w := wr) (o := .cells #[.int .u32 0, .int .u32 1, .int .u32 32767, .int .u32 32768, .int .u32 65535, .int .u32 67108863] 22))
              generalize wr.alloc (.cells #[.int .u32 0, .int .u32 1, .int .u32 32767, .int .u32 32768, .int .u32 65535, .int .u32 67108863] 22) = wU at P hz3 hg4 ⊢
              generalize wr.heap.size = bU at P hz3 ⊢
              go_loopw [28] (fun i wr => ∃ n : Nat, n ≤ 6 ∧ i = .int .i64 n ∧ Below wU.heap.size wU wr) (fun i _ => 6 - (intOf i).toNat)
              case atStart => exact ⟨0, by omega, rfl, Below.refl _ _⟩
              case round =>
                obtain ⟨n, n1, rfl, hg5⟩ := hrel
                by_cases hln : n < 6
                · have hnd : decide ((n : Int) < 6) = true := by simp; omega
                  have hni : (n : Int) < 6 := by omega
                  obtain ⟨x, x0, x1, hx⟩ := P.out n hln
                  have c4 := (hg5.cell (p := ⟨bU, n, none⟩) hz3).trans hx
                  go_wp2_with fail
                  clear c4 hx
                  refine (same_any _ _ _ _ _ _ _ _ _ _ v0 v1 hy0 hy1 (by omega) (by omega) x0 x1).mono ?_
                  rintro e w5 ⟨rfl, G5⟩
                  go_wp2_with fail
                  refine (same_any _ _ _ _ _ _ _ _ _ _ v0 v1 hy0 hy1 hy0 hy1 x0 x1).mono ?_
                  rintro e w6 ⟨rfl, G6⟩
                  go_wp2
                  go_roundw
                  case rel => exact ⟨n + 1, by omega, by go_num, bthen' (bthen' hg5 G5) G6⟩
                  case measure => simp [intOf]; omega
                · have hnd : decide ((n : Int) < 6) = false := by simp; omega
                  go_wp2
                  go_roundw
                  case rel => exact ⟨m + 1, by omega, by go_num, hg4.trans (hg5.mono hg4.size)⟩
                  case measure => simp [intOf]; omega
            · have hmd : decide ((m : Int) < 9) = false := by simp; omega
              go_wp2
              go_roundw
              case rel => exact ⟨j + 1, by omega, by go_num, hg3⟩
              case measure => simp [intOf]; omega
        · have hjd : decide ((j : Int) < 9) = false := by simp; omega
          go_wp2
          go_roundw
          case rel => exact ⟨k + 1, by omega, by omega, by go_num, hg2⟩
          case measure => simp [intOf]; omega
    · have hkd : decide (k < 80) = false := by simp; omega
      go_wp2_with fail
      refine (known_any _).mono ?_
      rintro e w7 ⟨rfl, G7⟩
      go_wp2
      go_ret
      rw [← hB] at hW
      exact ⟨rfl, below_then (hW.trans (hg.mono hW.size)) G7 (Nat.le_refl _)⟩
end Go.Proofs.Ytmjlbffphaklgaa

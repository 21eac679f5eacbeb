/-
  The walk of DecodeNumbers: it returns true, and nothing that was there has turned.
-/
import Derived.Test.YtngfjjgejpkmmaaDoorKnown3
namespace Go.Proofs.YtngfjjgejpkmmaaDoor
open Go.RowKit
set_option linter.unusedVariables false

/-- six words in block b -/
def Six (w : World) (b : Nat) : Prop := b < w.heap.size ∧ ∀ j, j < 6 → ∃ y : Int, 0 ≤ y ∧ y < 4294967296 ∧ w.cell? ⟨b, j, none⟩ = some (.int .u32 y)
theorem six_below {w w' : World} {b : Nat} (h : Six w b) (hb : Below w.heap.size w w') : Six w' b :=
  ⟨Nat.lt_of_lt_of_le h.1 hb.size, fun j hj => by
    obtain ⟨y, y0, y1, e⟩ := h.2 j hj
    exact ⟨y, y0, y1, (hb.cell (p := ⟨b, j, none⟩) h.1).trans e⟩⟩
theorem six_new (w : World) (a b c d e f : Int) (ha : 0 ≤ a ∧ a < 4294967296) (hb : 0 ≤ b ∧ b < 4294967296) (hc : 0 ≤ c ∧ c < 4294967296) (hd : 0 ≤ d ∧ d < 4294967296) (he : 0 ≤ e ∧ e < 4294967296) (hf : 0 ≤ f ∧ f < 4294967296) (t : TypeId) :
    Six (w.alloc (.cells #[.int .u32 a, .int .u32 b, .int .u32 c, .int .u32 d, .int .u32 e, .int .u32 f] t)) w.heap.size := by
  refine ⟨by simp, fun j hj => ?_⟩
  have : j = 0 ∨ j = 1 ∨ j = 2 ∨ j = 3 ∨ j = 4 ∨ j = 5 := by omega
  rcases this with rfl | rfl | rfl | rfl | rfl | rfl
  · exact ⟨a, ha.1, ha.2, by simp⟩
  · exact ⟨b, hb.1, hb.2, by simp⟩
  · exact ⟨c, hc.1, hc.2, by simp⟩
  · exact ⟨d, hd.1, hd.2, by simp⟩
  · exact ⟨e, he.1, he.2, by simp⟩
  · exact ⟨f, hf.1, hf.2, by simp⟩
theorem bits_u32 (o : BinOp) (a b : Int) : 0 ≤ bits o .u32 a b ∧ bits o .u32 a b < 4294967296 := rng_u32 (wf_bits o .u32 a b)

set_option maxRecDepth 100000 in
set_option maxHeartbeats 8000000 in
theorem numbers_walk (w : World) {gb go cap : Nat} (hL : Hid (Laid w gb go cap)) : Calls Tryd.prog 3 #[] w (TrB w) := by
  go_enter Tryd.func3, Tryd.ntmps3
  go_wp2
  go_loopg [1] 64 (fun g1 i wr => ∃ o : Nat, o + g1 = 64 ∧ i = .int .u32 o ∧ Below w.heap.size w wr)
  case atStart => exact ⟨0, by omega, rfl, Below.refl _ _⟩
  case round =>
    obtain ⟨o, ho, rfl, hb⟩ := hrel
    cases gk with
    | succ g1 =>
      have ho64 : o < 64 := by omega
      have hod : decide ((o : Int) < 64) = true := by simp; omega
      go_wp2
      go_loopg [2] 64 (fun g2 i wr => ∃ x : Nat, x + g2 = 64 ∧ i = .int .u32 x ∧ Below w.heap.size w wr)
      case atStart => exact ⟨0, by omega, rfl, hb⟩
      case round =>
        clear hb
        obtain ⟨x, hx, rfl, hb⟩ := hrel
        cases gk with
        | succ g2 =>
          have hx64 : x < 64 := by omega
          have hxd : decide ((x : Int) < 64) = true := by simp; omega
          have r1 := bits_u32 .and ((x : Int) * 65536) 2031616
          have r2 := bits_u32 .and ((x : Int) * 2097152) 65011712
          have r3 := bits_u32 .or 33554432 (x : Int)
          have r4 := bits_u32 .or ((x : Int) * 64) 63
          have hS := Lib.hid (six_new wr x _ _ _ _ (67108863 - (x : Int)) (by omega) r1 r2 r3 r4 (by omega) 22)
          go_wp2
          have hb0 := hb.alloc hb.size (.cells #[.int .u32 (x : Int), .int .u32 (bits .and .u32 ((x : Int) * 65536) 2031616), .int .u32 (bits .and .u32 ((x : Int) * 2097152) 65011712), .int .u32 (bits .or .u32 33554432 (x : Int)), .int .u32 (bits .or .u32 ((x : Int) * 64) 63), .int .u32 (67108863 - (x : Int))] 22)
          clear r1 r2 r3 r4
          go_loopg [32] 6 (fun g3 i wq => ∃ j : Nat, j + g3 = 6 ∧ i = .int .i64 j ∧ Hid (Six wq wr.heap.size) ∧ Below w.heap.size w wq)
          case atStart => exact ⟨0, by omega, rfl, hS, hb0⟩
          case round =>
            clear hS hb0
            rename_i wq
            obtain ⟨j, hj, rfl, hS, hb0⟩ := hrel
            cases gk with
            | succ g3 =>
              obtain ⟨y, y0, y1, hy⟩ := hS.out.2 j (by omega)
              obtain ⟨v0, v1⟩ := bits_u32 .or ((o : Int) * 67108864) y
              obtain ⟨V, hV⟩ := Int.eq_ofNat_of_zero_le v0
              have hV1 : V < 4294967296 := by rw [hV] at v1; omega
              have HV := Lib.hid hV
              clear hV v0 v1
              have hL1 := Lib.hid (hL.out.below hb0)
              have hjd : decide ((j : Int) < 6) = true := by simp; omega
              go_wp2_with fail
              rw [HV.out]
              refine (words_any V _ hL1 hV1).mono ?_
              rintro e w2 ⟨rfl, hb2⟩
              have hb3 := band hb0 hb2
              have hS2 := Lib.hid (six_below hS.out hb2)
              go_wp2
              go_roundg g3
              case measure => omega
              case rel => exact ⟨j + 1, by omega, by go_num, hS2, hb3⟩
            | zero =>
              obtain rfl : j = 6 := by omega
              go_wp2
              go_roundg g2
              case measure => omega
              case rel => exact ⟨x + 1, by omega, by go_num, hb0⟩
        | zero =>
          obtain rfl : x = 64 := by omega
          go_wp2
          go_roundg g1
          case measure => omega
          case rel => exact ⟨o + 1, by omega, by go_num, hb⟩
    | zero =>
      obtain rfl : o = 64 := by omega
      go_wp2
      go_loopg [5] 83 (fun g4 i wr => ∃ k : Int, k + g4 = 81 ∧ -2 ≤ k ∧ i = .int .i64 k ∧ Below w.heap.size w wr)
      case atStart => exact ⟨-2, by omega, by omega, rfl, hb⟩
      case round =>
        clear hb
        obtain ⟨k, hk, k0, rfl, hb⟩ := hrel
        cases gk with
        | succ g4 =>
          have k1 : k < 81 := by omega
          go_wp2
          go_loopg [6] 14 (fun g5 i wr => ∃ f : Nat, f + g5 = 14 ∧ i = .int .i64 f ∧ Below w.heap.size w wr)
          case atStart => exact ⟨0, by omega, rfl, hb⟩
          case round =>
            clear hb
            obtain ⟨f, hf, rfl, hb⟩ := hrel
            have hsz := hb.size
            cases gk with
            | succ g5 =>
              have hf14 : f = 0 ∨ f = 1 ∨ f = 2 ∨ f = 3 ∨ f = 4 ∨ f = 5 ∨ f = 6 ∨ f = 7 ∨ f = 8 ∨ f = 9 ∨ f = 10 ∨ f = 11 ∨ f = 12 ∨ f = 13 := by omega
              obtain ⟨f0, HF0⟩ : ∃ f0, Hid (f0 = f) := ⟨_, rfl⟩
              rcases hf14 with rfl | rfl | rfl | rfl | rfl | rfl | rfl | rfl | rfl | rfl | rfl | rfl | rfl | rfl
              all_goals
                go_wp2_with fail
                refine (insts_any _ _ _ _ _ _ _ (Lib.hid (hL.out.below (by (repeat' (first | (with_reducible exact hb) | (with_reducible apply bel_set) | (with_reducible apply bel_alloc) | (with_reducible apply below_drewN) | (simp; done) | (simp; omega) | omega | (simp [World.setCell]; done) | (simp [World.setCell]; omega)))))) (Lib.hid ⟨⟨by omega, by omega⟩, ⟨by omega, by omega⟩, ⟨by omega, by omega⟩, ⟨by omega, by omega⟩, ⟨by omega, by omega⟩, by omega, by omega⟩)).mono ?_
                rintro e w2 ⟨rfl, hb2⟩
                go_wp2
                go_roundg g5
                case measure => omega
                case rel => exact ⟨f0 + 1, by have := HF0.out; omega, by rw [HF0.out]; rfl, band (by (repeat' (first | (with_reducible exact hb) | (with_reducible apply bel_set) | (with_reducible apply bel_alloc) | (with_reducible apply below_drewN) | (simp; done) | (simp; omega) | omega | (simp [World.setCell]; done) | (simp [World.setCell]; omega)))) hb2⟩
            | zero =>
              obtain rfl : f = 14 := by omega
              go_wp2
              go_roundg g4
              case measure => omega
              case rel => exact ⟨k + 1, by omega, by omega, by go_num, hb⟩
        | zero =>
          obtain rfl : k = 81 := by omega
          go_wp2_with fail
          refine (known_any _ (Lib.hid (hL.out.below hb))).mono ?_
          rintro e w2 ⟨rfl, hb2⟩
          go_wp2
          go_ret
          exact ⟨rfl, band hb hb2⟩
end Go.Proofs.YtngfjjgejpkmmaaDoor

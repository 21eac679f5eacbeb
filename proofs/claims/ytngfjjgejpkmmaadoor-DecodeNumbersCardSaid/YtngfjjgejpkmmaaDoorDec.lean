/-
  Chapter 3: what the program's tables are in memory, and functions isKind, kindOf, Of of package decode.
-/
import Derived.Test.YtngfjjgejpkmmaaDoorGre
import Derived.Deep.QuietTactic
import Derived.BigQuiet
import Derived.WalkMore
import Derived.Deep.LoopGhost
namespace Go.Proofs.YtngfjjgejpkmmaaDoor
open Go.RowKit
set_option linter.unusedVariables false

/-- the program's tables lie where they were laid: the keys in block 0, the groups in block gb -/
structure Laid (w : World) (gb go cap : Nat) : Prop where
  key : ∀ i, i < 78 → w.cell? ⟨0, i, none⟩ = some (.int .u32 (D.key i : Int))
  grp : w.cell? ⟨1, 0, none⟩ = some (.slice (some ⟨gb, go, none⟩) 8 cap)
  f : ∀ i, i < 8 → w.cell? ⟨gb, go + i * 4, none⟩ = some (.int .i64 (D.gF i : Int))
  l : ∀ i, i < 8 → w.cell? ⟨gb, go + i * 4 + 1, none⟩ = some (.int .i64 (D.gL i : Int))
  s : ∀ i, i < 8 → w.cell? ⟨gb, go + i * 4 + 2, none⟩ = some (.int .u32 (D.gS i : Int))
  a : ∀ i, i < 8 → w.cell? ⟨gb, go + i * 4 + 3, none⟩ = some (.int .u32 (D.gA i : Int))
  one : 1 < w.heap.size
  blk : gb < w.heap.size
theorem Laid.below {w w' : World} {gb go cap : Nat} (h : Laid w gb go cap) (hb : Below w.heap.size w w') : Laid w' gb go cap where
  key i hi := (hb.cell (p := ⟨0, i, none⟩) (Nat.lt_of_succ_lt h.one)).trans (h.key i hi)
  grp := (hb.cell (p := ⟨1, 0, none⟩) h.one).trans h.grp
  f i hi := (hb.cell (p := ⟨gb, go + i * 4, none⟩) h.blk).trans (h.f i hi)
  l i hi := (hb.cell (p := ⟨gb, go + i * 4 + 1, none⟩) h.blk).trans (h.l i hi)
  s i hi := (hb.cell (p := ⟨gb, go + i * 4 + 2, none⟩) h.blk).trans (h.s i hi)
  a i hi := (hb.cell (p := ⟨gb, go + i * 4 + 3, none⟩) h.blk).trans (h.a i hi)
  one := Nat.lt_of_lt_of_le h.one hb.size
  blk := Nat.lt_of_lt_of_le h.blk hb.size
theorem band {a b c : World} (h : Below a.heap.size a b) (k : Below b.heap.size b c) : Below a.heap.size a c := h.trans (k.mono h.size)
theorem ret_int {k : IntKind} {a b : Int} (h : a = b) : Ending.returned (.int k a) = .returned (.int k b) := by rw [h]
theorem ret_bool {a b : Bool} (h : a = b) : Ending.returned (.bool a) = .returned (.bool b) := by rw [h]

def isK (k : Int) : Bool := decide (0 < k ∧ k < 78)
set_option maxHeartbeats 400000 in
theorem isk_any (k : Int) (w : World) : Calls Tryd.prog 25 #[.int .i64 k] w fun e w' => e = .returned (.bool (isK k)) ∧ w = w' := by
  by_cases h : 0 < k
  · go_enter Tryd.func25, Tryd.ntmps25
    go_wp2
    go_ret
    exact ⟨ret_bool (by simp [isK, h]), rfl⟩
  · have h' : decide (0 < k) = false := by simpa using h
    go_enter Tryd.func25, Tryd.ntmps25
    go_wp2
    go_ret
    exact ⟨ret_bool (by simp only [isK]; symm; rw [decide_eq_false_iff_not]; omega), rfl⟩

/-- the tests of kindOf -/
def shB (W g c : Nat) : Bool := (bits .and .u32 (bits .xor .u32 (W : Int) (D.key c : Int)) (D.gS g : Int) != 0)
def apB (W g c : Nat) : Bool := (bits .and .u32 (bits .xor .u32 (W : Int) (D.key c : Int)) (D.gA g : Int) == 0)
theorem g_lt : ∀ g, g < 8 → D.gS g < 4294967296 ∧ D.gA g < 4294967296 := by decide +kernel
theorem bits_eq {W c m : Nat} (hW : W < 4294967296) (hc : c < 78) (hm : m < 4294967296) : bits .and .u32 (bits .xor .u32 (W : Int) (D.key c : Int)) (m : Int) = (((W ^^^ D.key c) &&& m : Nat) : Int) := by
  rw [u32_xor_nat _ _ hW (D.key_lt c hc), u32_and_nat _ _ (Nat.xor_lt_two_pow (n := 32) hW (D.key_lt c hc)) hm]
theorem sh_iff {W g c : Nat} (hW : W < 4294967296) (hg : g < 8) (hc : c < 78) : shB W g c = true ↔ (W ^^^ D.key c) &&& D.gS g ≠ 0 := by
  unfold shB
  rw [bits_eq hW hc (g_lt g hg).1]
  simp
theorem ap_iff {W g c : Nat} (hW : W < 4294967296) (hg : g < 8) (hc : c < 78) : apB W g c = true ↔ (W ^^^ D.key c) &&& D.gA g = 0 := by
  unfold apB
  rw [bits_eq hW hc (g_lt g hg).2]
  simp

set_option maxHeartbeats 1000000 in
theorem kind_any (W : Nat) (w : World) {gb go cap : Nat} (h : Hid (Laid w gb go cap)) (hW : W < 4294967296) : Calls Tryd.prog 23 #[.int .u32 (W : Int)] w fun e w' => e = .returned (.int .i64 (D.kW W : Int)) ∧ Below w.heap.size w w' := by
  have hg := h.out.grp
  have hz := h.out.blk
  have hz1 := h.out.one
  go_enter Tryd.func23, Tryd.ntmps23
  go_wp2
  go_step3
  go_wp2
  go_step3
  go_wp2
  clear hg
  go_loopg [3, 10] 8 (fun gh fo i wr => ∃ g : Nat, g + gh = 8 ∧ fo = .int .i64 0 ∧ i = .int .i64 g ∧ Hid (D.kW W = 0 ∨ D.gF g ≤ D.kW W) ∧ Below w.heap.size w wr)
  case atStart => exact ⟨0, by omega, rfl, rfl, show D.kW W = 0 ∨ D.gF 0 ≤ D.kW W by have : D.gF 0 = 1 := rfl; omega, Below.refl _ _⟩
  case round =>
    obtain ⟨g, hg, rfl, rfl, HK, hb⟩ := hrel
    have hsz := hb.size
    cases gk with
    | succ gh =>
      have hlt : g < 8 := by omega
      have q0 := (hb.cell (p := ⟨gb, go + g * 4, none⟩) hz).trans (h.out.f g hlt)
      have q1 := (hb.cell (p := ⟨gb, go + g * 4 + 1, none⟩) hz).trans (h.out.l g hlt)
      have q2 := (hb.cell (p := ⟨gb, go + g * 4 + 2, none⟩) hz).trans (h.out.s g hlt)
      have q3 := (hb.cell (p := ⟨gb, go + g * 4 + 3, none⟩) hz).trans (h.out.a g hlt)
      have HN := Lib.hid (D.g_next g hlt)
      go_wp2
      clear q0 q1 q2 q3
      go_loopg [3, 6] (D.gL g + 1 - D.gF g) (fun ig fo i wq => ∃ c : Nat, c + ig = D.gL g + 1 ∧ D.gF g ≤ c ∧ fo = .int .i64 0 ∧ i = .int .i64 c ∧ Hid (D.kW W = 0 ∨ c ≤ D.kW W) ∧ wq = wr.alloc (.cells #[.int .i64 (D.gF g : Int), .int .i64 (D.gL g : Int), .int .u32 (D.gS g : Int), .int .u32 (D.gA g : Int)] 60))
      case atStart => exact ⟨D.gF g, by have := HN.out; omega, by omega, rfl, rfl, HK, rfl⟩
      case round =>
        obtain ⟨c, hc, hc1, rfl, rfl, HC, rfl⟩ := hrel
        have hB2 : Below w.heap.size w (wr.alloc (.cells #[.int .i64 (D.gF g : Int), .int .i64 (D.gL g : Int), .int .u32 (D.gS g : Int), .int .u32 (D.gA g : Int)] 60)) := hb.alloc hsz _
        have hGL : D.gL g ≤ 77 := HN.out.2.2.2
        cases gk with
        | succ ig =>
          have hc2 : c ≤ D.gL g := by omega
          have qk := (hB2.cell (p := ⟨0, c, none⟩) (by show 0 < _; omega)).trans (h.out.key c (by omega))
          have z0 : 0 < wr.heap.size := by omega
          cases hs : shB W g c
          · have HS := Lib.hid hs
            have hs' : (bits .and .u32 (bits .xor .u32 (W : Int) (D.key c : Int)) (D.gS g : Int) != 0) = false := hs
            cases ha : apB W g c
            · have HA := Lib.hid ha
              have ha' : (bits .and .u32 (bits .xor .u32 (W : Int) (D.key c : Int)) (D.gA g : Int) == 0) = false := ha
              clear hs ha
              go_wp2
              go_roundg ig
              case measure => omega
              case rel => exact ⟨c + 1, by omega, by omega, rfl, by go_num, D.onward hW hlt hc1 hc2 (fun e => by have := (ap_iff hW hlt (by omega)).2 e; rw [HA.out] at this; exact absurd this (by decide)) HC.out, rfl⟩
            · have HA := Lib.hid ha
              have ha' : (bits .and .u32 (bits .xor .u32 (W : Int) (D.key c : Int)) (D.gA g : Int) == 0) = true := ha
              clear hs ha
              go_wp2
              try rw [Exit.noGoto_ret]
              go_ret
              exact ⟨ret_int (by rw [D.found hW hlt hc1 hc2 (by by_cases e : (W ^^^ D.key c) &&& D.gS g = 0; exact e; exact absurd ((sh_iff hW hlt (by omega)).2 e) (by rw [HS.out]; decide)) ((ap_iff hW hlt (by omega)).1 HA.out)]), hB2⟩
          · have HS := Lib.hid hs
            have hs' : (bits .and .u32 (bits .xor .u32 (W : Int) (D.key c : Int)) (D.gS g : Int) != 0) = true := hs
            clear hs
            go_wp2
            go_roundg gh
            case measure => omega
            case rel => exact ⟨g + 1, by omega, rfl, by go_num, D.skip hW hlt hc1 hc2 ((sh_iff hW hlt (by omega)).1 HS.out) HC.out, hB2⟩
        | zero =>
          have hcl : decide (c ≤ D.gL g) = false := by simp; omega
          have hcl' : decide ((c : Int) ≤ (D.gL g : Int)) = false := by simp; omega
          go_wp2
          go_roundg gh
          case measure => omega
          case rel => exact ⟨g + 1, by omega, rfl, by go_num, by show _ ∨ _; rw [HN.out.1, ← hc]; exact HC.out, hB2⟩
    | zero =>
      obtain rfl : g = 8 := by omega
      go_wp2
      try rw [Exit.noGoto_ret]
      go_ret
      exact ⟨ret_int (by have := HK.out; have h78 : D.gF 8 = 78 := rfl; have := D.kW_le W; omega), hb⟩
end Go.Proofs.YtngfjjgejpkmmaaDoor

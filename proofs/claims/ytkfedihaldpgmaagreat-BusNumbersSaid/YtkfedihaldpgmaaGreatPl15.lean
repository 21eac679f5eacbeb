/-
  Chapter 15: any calls, against the document's bus (function 'play').
-/
import Derived.Test.YtkfedihaldpgmaaGreatSm15
import Derived.BigQuiet
/-
  Chapter 15: some runs (function 'known').
-/
namespace Go.Proofs.YtkfedihaldpgmaaGreat
open Go.RowKit
set_option linter.unusedVariables false
set_option linter.unusedSimpArgs false
/-- a literal list of numbers in a new block, by its place -/
theorem lit_at (ki : IntKind) (W : World) (L : List Int) (cs : Array Value) (t : TypeId) (h : cs.toList = L.map (Value.int ki)) (j : Nat) (hj : j < L.length) : (W.alloc (.cells cs t)).cell? ⟨W.heap.size, j, none⟩ = some (.int ki (L.getD j 0)) := by
  have e : (W.alloc (.cells cs t)).cell? ⟨W.heap.size, j, none⟩ = cs[j]? := by simp
  rw [e, ← Array.getElem?_toList, h, List.getElem?_map, List.getElem?_eq_getElem hj, List.getD_eq_getElem?_getD, List.getElem?_eq_getElem hj]
  rfl
def kL : List Int := [1, 2, 3, 4]
def kF : Nat → Int := fun i => kL.getD i 0
theorem kF_bd (i : Nat) : 0 ≤ kF i ∧ kF i ≤ 255 := by
  have h : ∀ j : Nat, j < 4 → 0 ≤ kF j ∧ kF j ≤ 255 := by decide
  by_cases hi : i < 4
  · exact h i hi
  · unfold kF; rw [List.getD_eq_getElem?_getD, List.getElem?_eq_none (by show 4 ≤ i; omega)]; exact ⟨by decide, by decide⟩
theorem by_nil (Q : Nat → Prop) (w : World) (f : Nat → Int) : ByAt Q w (.slice none 0 0) 0 f := .inl ⟨0, rfl, rfl⟩
section
variable {W0 w : World} {G : PG} {U : PV} {S : BS}
theorem bsize_any (h : Px w G U S) : Calls Tryz.prog 18 #[.pointer (some ⟨G.r, 0, none⟩)] w fun e w' => e = .returned (.int .u32 (1024 * G.p : Nat)) ∧ w = w' := by
  obtain ⟨M, hM, _⟩ := h.mm.mem
  obtain ⟨bb, mm, tt, hO, hmem⟩ := hM
  exact (size_any hmem).mono fun e w' h => by simpa using h
end
set_option maxHeartbeats 4000000 in
set_option maxRecDepth 100000 in
theorem known_any (w : World) : Calls Tryz.prog 14 #[] w (RetB (.bool true) w) := by
  have H1 : Hid (∀ D, ldV 1 0 4 0 (S0B (imC 1 4 kF) D) = .tuple #[.int .u32 16909060, .bool true]) := Lib.hid (fun D => rfl)
  have H2 : Hid (∀ D, ldV 1 520093696 4 0 (S0B (imC 1 4 kF) D) = .tuple #[.int .u32 0, .bool true]) := Lib.hid (fun D => rfl)
  have H3 : Hid (∀ S, ldV 1 520093697 1 0 S = .tuple #[.int .u32 0, .bool false]) := Lib.hid (fun S => rfl)
  have H4 : Hid (stV 1 4294967292 4 = false) := Lib.hid rfl
  have E1 : Hid (∀ D, ldS 1 0 4 (S0B (imC 1 4 kF) D) = S0B (imC 1 4 kF) D) := Lib.hid (fun D => rfl)
  have b0 : Below w.heap.size w (w.alloc (.cells #[.int .u8 1, .int .u8 2, .int .u8 3, .int .u8 4] 5)) := (Below.refl _ _).alloc (Nat.le_refl _) _
  have hv : ByAt (fun _ => True) (w.alloc (.cells #[.int .u8 1, .int .u8 2, .int .u8 3, .int .u8 4] 5)) (.slice (some ⟨w.heap.size, 0, none⟩) 4 4) 4 kF := .inr ⟨_, _, rfl, Nat.le_refl _, fun _ => ⟨rfl, trivial⟩, fun i hi => ⟨by
    rw [add_none, Nat.zero_add]
    exact lit_at .u8 w kL #[.int .u8 1, .int .u8 2, .int .u8 3, .int .u8 4] 5 rfl i hi, kF_bd i⟩⟩
  have HN := Lib.hid (bnewp_any 1 1 rfl _ _ 4 0 kF Z0 _ hv (by_nil (fun _ => True) _ Z0) (by omega) (by omega) (by omega))
  clear hv
  go_enter Tryz.func14, Tryz.ntmps14
  go_wp2_with fail
  with_reducible refine HN.out.mono ?_
  rintro e w1 ⟨G, U, rfl, hp, hn, hP, ho, b1⟩
  obtain ⟨D, hD⟩ : ∃ D, imD 0 Z0 = D := ⟨_, rfl⟩
  rw [hD] at hP
  have hO : One w G w1 U (S0B (imC 1 4 kF) D) := ⟨hP, fun k hk => by have := ho k hk; have := b0.size; omega, b0.trans (b1.mono b0.size)⟩
  have hG : Ok 0 (S0B (imC 1 4 kF) D) := Ok.zero _ _
  have HL := Lib.hid (load1 0 4 0 hO hG.g (by omega) (by omega) (by omega) (by omega) (by omega) (by omega))
  rw [hp, H1.out, E1.out] at HL
  clear b0 b1 ho hP hD hO
  go_wp2_with fail
  with_reducible refine HL.out.mono ?_
  rintro e w2 ⟨rfl, U2, hO2⟩
  have HL2 := Lib.hid (load1 520093696 4 0 hO2 hG.g (by omega) (by omega) (by omega) (by omega) (by omega) (by omega))
  have hG3 : Ok 0 (ldS G.p 520093696 4 (S0B (imC 1 4 kF) D)) := hG.ld _ _
  rw [hp, H2.out] at HL2
  rw [hp] at hG3
  clear hO2
  generalize ldS 1 520093696 4 (S0B (imC 1 4 kF) D) = S3 at HL2 hG3
  go_wp2_with fail
  with_reducible refine HL2.out.mono ?_
  rintro e w3 ⟨rfl, U3, hO3⟩
  have HL3 := Lib.hid (load1 520093697 1 0 hO3 hG3.g (by omega) (by omega) (by omega) (by omega) (by omega) (by omega))
  have hG4 : Ok 0 (ldS G.p 520093697 1 S3) := hG3.ld _ _
  rw [hp, H3.out] at HL3
  rw [hp] at hG4
  clear hO3 hG3
  generalize ldS 1 520093697 1 S3 = S4 at HL3 hG4
  go_wp2_with fail
  with_reducible refine HL3.out.mono ?_
  rintro e w4 ⟨rfl, U4, hO4⟩
  have HS := Lib.hid (store1 4294967292 4 1 0 hO4 hG4.g (by omega) (by omega) (by omega) (by omega) (by omega) ⟨by omega, by omega⟩ (by omega) (by omega))
  rw [hp, H4.out] at HS
  clear hO4 hG4
  go_wp2_with fail
  with_reducible refine HS.out.mono ?_
  rintro e w5 ⟨rfl, U5, hO5⟩
  have HR := Lib.hid (bram_any hO5.px)
  have HZ := Lib.hid (bsize_any hO5.px)
  rw [hp] at HZ
  have hbl := hO5.bl
  clear hO5
  go_wp2_with fail
  with_reducible refine HR.out.mono ?_
  rintro e w6 ⟨rfl, rfl⟩
  go_wp2_with fail
  with_reducible refine HR.out.mono ?_
  rintro e w6 ⟨rfl, rfl⟩
  go_wp2_with fail
  with_reducible refine HZ.out.mono ?_
  rintro e w6 ⟨rfl, rfl⟩
  go_wp2
  go_ret
  exact ⟨rfl, hbl⟩
end Go.Proofs.YtkfedihaldpgmaaGreat

namespace Go.Proofs.YtkfedihaldpgmaaGreat
open Go.RowKit
set_option linter.unusedVariables false
set_option linter.unusedSimpArgs false
/-- a call's cells -/
def ask7 (kd kk dv at_ yv by_ bb : Int) : Nat → Value
  | 0 => .int .i64 kd
  | 1 => .int .i64 kk
  | 2 => .int .i64 dv
  | 3 => .int .u32 at_
  | 4 => .int .u32 yv
  | 5 => .int .i64 by_
  | _ => .int .u8 bb
/-- a call in its box, beside both -/
structure Ab (w : World) (X : Nat) (G : PG) (m : Nat) (O : Nat → Prop) (U : PV) (V : SV) (kd kk dv at_ yv by_ bb : Int) : Prop where
  row : w.rowIs X 97 7 (ask7 kd kk dv at_ yv by_ bb)
  no : Out2 G m O U V X
section
variable {W0 w w1 : World} {X : Nat} {G : PG} {m r y : Nat} {O : Nat → Prop} {U U2 : PV} {V V2 : SV} {S R : BS} {kd kk dv at_ yv by_ bb : Int}
theorem Ab.new (h : Two W0 G m r y O w U V S R) (kd kk dv at_ yv by_ bb : Int) : Ab (w.alloc (.cells #[.int .i64 kd, .int .i64 kk, .int .i64 dv, .int .u32 at_, .int .u32 yv, .int .i64 by_, .int .u8 bb] 97)) w.heap.size G m O U V kd kk dv at_ yv by_ bb :=
  ⟨World.rowIs_alloc w _ _ _ fun i hi => by
    have : i = 0 ∨ i = 1 ∨ i = 2 ∨ i = 3 ∨ i = 4 ∨ i = 5 ∨ i = 6 := by have : i < 7 := hi; omega
    rcases this with rfl | rfl | rfl | rfl | rfl | rfl | rfl <;> rfl, fun e => Nat.lt_irrefl _ (h.ta.lt _ e), fun e => Nat.lt_irrefl _ (h.tb.lt _ e)⟩
theorem Ab.off (h : Ab w X G m O U V kd kk dv at_ yv by_ bb) (c : Off G m O U V U2 V2 w w1) : Ab w1 X G m O U2 V2 kd kk dv at_ yv by_ bb :=
  let ⟨a, b, d⟩ := c X h.row.lt h.no
  ⟨h.row.of_block a, d⟩
theorem Ab.no' (h : Ab w X G m O U V kd kk dv at_ yv by_ bb) (f : Fr (fun _ => False) w w1) : Ab w1 X G m O U V kd kk dv at_ yv by_ bb := ⟨h.row.of_block (f.block _ h.row.lt id), h.no⟩
theorem Ab.c0 (h : Ab w X G m O U V kd kk dv at_ yv by_ bb) : w.cell? ⟨X, 0, none⟩ = some (.int .i64 kd) := h.row.cell (i := 0) (by omega)
theorem Ab.c1 (h : Ab w X G m O U V kd kk dv at_ yv by_ bb) : w.cell? ⟨X, 1, none⟩ = some (.int .i64 kk) := h.row.cell (i := 1) (by omega)
theorem Ab.c2 (h : Ab w X G m O U V kd kk dv at_ yv by_ bb) : w.cell? ⟨X, 2, none⟩ = some (.int .i64 dv) := h.row.cell (i := 2) (by omega)
theorem Ab.c3 (h : Ab w X G m O U V kd kk dv at_ yv by_ bb) : w.cell? ⟨X, 3, none⟩ = some (.int .u32 at_) := h.row.cell (i := 3) (by omega)
theorem Ab.c4 (h : Ab w X G m O U V kd kk dv at_ yv by_ bb) : w.cell? ⟨X, 4, none⟩ = some (.int .u32 yv) := h.row.cell (i := 4) (by omega)
theorem Ab.c5 (h : Ab w X G m O U V kd kk dv at_ yv by_ bb) : w.cell? ⟨X, 5, none⟩ = some (.int .i64 by_) := h.row.cell (i := 5) (by omega)
theorem Ab.c6 (h : Ab w X G m O U V kd kk dv at_ yv by_ bb) : w.cell? ⟨X, 6, none⟩ = some (.int .u8 bb) := h.row.cell (i := 6) (by omega)
end
/-- the cells of a slice of calls, as the walk asks for them -/
def Asks (w : World) (B : Nat) (a : Option Addr) (len : Nat) : Prop :=
  ∀ i, i < len → ∃ (b o : Nat) (kd kk dv at_ yv by_ bb : Int), a = some ⟨b, o, none⟩ ∧ b < B ∧
    w.cell? ⟨b, o + i * 7, none⟩ = some (.int .i64 kd) ∧ w.cell? ⟨b, o + i * 7 + 1, none⟩ = some (.int .i64 kk) ∧ w.cell? ⟨b, o + i * 7 + 2, none⟩ = some (.int .i64 dv) ∧ w.cell? ⟨b, o + i * 7 + 3, none⟩ = some (.int .u32 at_) ∧ w.cell? ⟨b, o + i * 7 + 4, none⟩ = some (.int .u32 yv) ∧ w.cell? ⟨b, o + i * 7 + 5, none⟩ = some (.int .i64 by_) ∧ w.cell? ⟨b, o + i * 7 + 6, none⟩ = some (.int .u8 bb) ∧
    (-9223372036854775808 ≤ kk ∧ kk ≤ 9223372036854775807) ∧ (-9223372036854775808 ≤ dv ∧ dv ≤ 9223372036854775807) ∧ (0 ≤ at_ ∧ at_ < 4294967296) ∧ (0 ≤ yv ∧ yv < 4294967296) ∧ (-9223372036854775808 ≤ by_ ∧ by_ ≤ 9223372036854775807) ∧ (0 ≤ bb ∧ bb ≤ 255)
/-- a number brought into 0 .. 1048576: the same at each world -/
theorem within_one (n : Int) (n0 : -9223372036854775808 ≤ n) (n1 : n ≤ 9223372036854775807) : ∃ v : Int, 0 ≤ v ∧ v ≤ 1048576 ∧ ∀ w, Calls Tryz.prog 46 #[.int .i64 n, .int .i64 0, .int .i64 1048576] w fun e w' => e = .returned (.int .i64 v) ∧ w = w' := by
  by_cases hin : 0 ≤ n ∧ n ≤ 1048576
  · obtain ⟨i0, i1⟩ := hin
    refine ⟨n, i0, i1, fun w => ?_⟩
    go_enter Tryz.func46, Tryz.ntmps46
    go_wp2
    go_ret
    exact ⟨rfl, rfl⟩
  · obtain ⟨t0, t1⟩ := tmod_pos n 1048577 (by omega)
    have hd : (decide (0 ≤ n) && decide (n ≤ 1048576)) = false := by simp; omega
    by_cases hneg : n.tmod 1048577 < 0
    · have hlo : ¬ 0 ≤ n := fun h => by have := Int.tmod_nonneg 1048577 h; omega
      refine ⟨n.tmod 1048577 + 1048577, by omega, by omega, fun w => ?_⟩
      go_enter Tryz.func46, Tryz.ntmps46
      go_wp2
      go_ret
      exact ⟨congrArg (fun z => Ending.returned (.int .i64 z)) (by omega), rfl⟩
    · refine ⟨n.tmod 1048577, by omega, by omega, fun w => ?_⟩
      by_cases hlo : 0 ≤ n
      all_goals
        (try have hh : ¬ n ≤ 1048576 := by omega)
        (try have ht : n.tmod 1048577 = n % 1048577 := Int.tmod_eq_emod_of_nonneg (by omega))
        go_enter Tryz.func46, Tryz.ntmps46
        go_wp2
        go_ret
        exact ⟨congrArg (fun z => Ending.returned (.int .i64 z)) (by omega), rfl⟩
theorem and3i (n : Int) : bits .and .i64 n 3 = n % 4 := by
  have e : (BitVec.ofInt 64 n &&& BitVec.ofInt 64 3).toNat = (n % 4).toNat := by
    rw [BitVec.toNat_and]
    have h3 : (BitVec.ofInt 64 3).toNat = 2 ^ 2 - 1 := by decide
    rw [h3, Nat.and_two_pow_sub_one_eq_mod, BitVec.toNat_ofInt]
    omega
  show IntKind.i64.wrap ((BitVec.ofInt 64 n &&& BitVec.ofInt 64 3).toNat : Int) = n % 4
  rw [e, IntKind.wrap_i64]; omega
/-- a literal list of four numbers, by its place -/
def nL : List Int := [1, 2, 4, 4]
theorem n_rng : ∀ k : Nat, k < 4 → 1 ≤ nL.getD k 0 ∧ nL.getD k 0 ≤ 4 := by decide
section
variable {W0 w : World} {G : PG} {m r y : Nat} {O : Nat → Prop} {U : PV} {V : SV} {S : BS}
end
end Go.Proofs.YtkfedihaldpgmaaGreat

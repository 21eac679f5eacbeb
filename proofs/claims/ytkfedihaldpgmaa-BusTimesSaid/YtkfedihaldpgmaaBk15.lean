/-
  Chapter 15: the document's bus: what is written to dma's and disk's words.
-/
import Derived.Test.YtkfedihaldpgmaaBs15
import Derived.Deep.RegionHeld3
namespace Go.Proofs.Ytkfedihaldpgmaa
open Go.RowKit
set_option linter.unusedVariables false
set_option linter.unusedSimpArgs false
/-- how long a move takes -/
def dl (c : Int) : Int := min c 4096 / 4 + 1
theorem dl_wrap (now c : Int) (c0 : 0 ≤ c) (n0 : 0 ≤ now) (n1 : now ≤ 4611686018427387000) : IntKind.i64.wrap (IntKind.i64.wrap (now + IntKind.i64.wrap ((IntKind.i64.wrap (if 4096 < c then 4096 else c)).tdiv 4)) + 1) = now + dl c := by
  have e : (if 4096 < c then 4096 else c) = min c 4096 := by split <;> omega
  rw [e]
  unfold dl
  obtain ⟨k, hk⟩ : ∃ k, min c 4096 = k := ⟨_, rfl⟩
  have k0 : 0 ≤ k := by omega
  have k1 : k ≤ 4096 := by omega
  rw [hk]
  clear hk e c0
  have w1 : IntKind.i64.wrap k = k := by rw [IntKind.wrap_i64]; omega
  rw [w1, Int.tdiv_eq_ediv_of_nonneg k0]
  have w2 : IntKind.i64.wrap (k / 4) = k / 4 := by rw [IntKind.wrap_i64]; omega
  rw [w2]
  have w3 : IntKind.i64.wrap (now + k / 4) = now + k / 4 := by rw [IntKind.wrap_i64]; omega
  rw [w3, IntKind.wrap_i64]
  omega
/-- Arm of device d for T -/
def armS (d T : Int) (S : BS) : BS := { S with L := armF d T S.a S.L, a := S.a + 1 }
def startM (now : Int) (S : BS) : BS := armS 4 (now + dl S.n) { S with bz := true }
def ctlM (v now : Int) (S : BS) : BS := if v % 2 = 1 ∧ S.bz = false then startM now S else S
def wrM (k : Nat) (v now : Int) (S : BS) : BS := match k with
  | 0 => { S with f := v }
  | 1 => { S with t := v }
  | 2 => { S with n := v }
  | 3 => ctlM v now S
  | 4 => { S with dn := S.dn && !decide (v / 2 % 2 = 1), er := S.er && !decide (v / 4 % 2 = 1) }
  | _ => S
def startK (v now : Int) (S : BS) : BS := armS 5 (now + 32) { S with kc := v, kz := true }
def ctlK (v now : Int) (S : BS) : BS := match S.kz with
  | true => S
  | false => startK v now S
def wrK (k : Nat) (v now : Int) (S : BS) : BS := match k with
  | 0 => { S with z := v }
  | 1 => { S with kt := v }
  | 2 => ctlK v now S
  | 3 => { S with kd := S.kd && !decide (v / 2 % 2 = 1), ke := S.ke && !decide (v / 4 % 2 = 1) }
  | _ => S
section
variable {w w' : World} {m r y : Nat} {O : Nat → Prop} {p n : Nat} {V : SV} {S : BS}
end
end Go.Proofs.Ytkfedihaldpgmaa

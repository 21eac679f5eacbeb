/-
  Chapter 15: the document's bus: move and sector, in the one state.
-/
import Derived.Test.YtkfedihaldpgmaaBk15
namespace Go.Proofs.Ytkfedihaldpgmaa
open Go.RowKit
set_option linter.unusedVariables false
set_option linter.unusedSimpArgs false
def movB (p : Nat) (S : BS) : Bool := decide (S.n ≤ 4096) && (inB p S.f S.n && inB p S.t S.n)
def movC (S : BS) : Nat → Int := putC S.C S.t.toNat S.n.toNat (fun i => S.C (S.f.toNat + i))
def fiM (p : Nat) (S : BS) : BS := match movB p S with
  | true => { S with bz := false, dn := true, C := movC S }
  | false => { S with bz := false, dn := true, er := true }
def okX (p n : Nat) (S : BS) : Bool := decide (S.z < n) && ((decide (S.kc = 1) || decide (S.kc = 2)) && inB p S.kt 64)
def rdK (S : BS) : Nat → Int := putC S.C S.kt.toNat 64 (fun i => S.D (S.z.toNat * 64 + i))
def wtK (S : BS) : Nat → Int := putC S.D (S.z.toNat * 64) 64 (fun i => S.C (S.kt.toNat + i))
def ioX (S : BS) : Nat → Int := if S.kc = 1 then rdK S else S.C
def ioY (S : BS) : Nat → Int := if S.kc = 1 then S.D else wtK S
def doK (S : BS) : BS := { S with C := ioX S, D := ioY S }
theorem dk_read {S : BS} (h : S.kc = 1) : doK S = { S with C := rdK S } := by unfold doK ioX ioY; rw [if_pos h, if_pos h]
theorem dk_write {S : BS} (h : ¬ S.kc = 1) : doK S = { S with D := wtK S } := by unfold doK ioX ioY; rw [if_neg h, if_neg h]
def fiK (p n : Nat) (S : BS) : BS := match okX p n S with
  | true => { doK S with kz := false, kd := true }
  | false => { S with kz := false, kd := true, ke := true }
section
variable {w w' : World} {m r y : Nat} {O : Nat → Prop} {p n : Nat} {V : SV} {S : BS}
end
end Go.Proofs.Ytkfedihaldpgmaa

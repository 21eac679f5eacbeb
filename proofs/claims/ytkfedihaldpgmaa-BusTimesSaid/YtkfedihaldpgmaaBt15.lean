/-
  Chapter 15: the document's bus: what is written to a timer's words, in the one state.
-/
import Derived.Test.YtkfedihaldpgmaaBv15
namespace Go.Proofs.Ytkfedihaldpgmaa
open Go.RowKit
set_option linter.unusedVariables false
set_option linter.unusedSimpArgs false
def due (t p : Int) : Int := t + (if p = 0 then 1 else p)
theorem ct_and3 (v : Int) (h0 : 0 ≤ v) (h1 : v < 4294967296) : bits .and .u32 v 3 = cwB (decide (v % 2 = 1)) (decide (v / 2 % 2 = 1)) := by
  have e : bits .and .u32 v 3 = v % 4 := by
    have := Go.u32_and_nat v.toNat 3 (by omega) (by omega)
    rw [show ((v.toNat : Nat) : Int) = v by omega] at this
    rw [show ((3 : Nat) : Int) = 3 from rfl] at this
    rw [this, show (3 : Nat) = 2 ^ 2 - 1 from rfl, Nat.and_two_pow_sub_one_eq_mod]
    omega
  rw [e]
  by_cases a1 : v % 2 = 1 <;> by_cases a2 : v / 2 % 2 = 1 <;> simp only [a1, a2, decide_true, decide_false, cwB] <;> omega
theorem ct_and1 (v : Int) (h0 : 0 ≤ v) (h1 : v < 4294967296) : bits .and .u32 v 1 = ibB (decide (v % 2 = 1)) := by
  have e : bits .and .u32 v 1 = v % 2 := by
    have := Go.u32_and_nat v.toNat 1 (by omega) (by omega)
    rw [show ((v.toNat : Nat) : Int) = v by omega] at this
    rw [show ((1 : Nat) : Int) = 1 from rfl] at this
    rw [this, show (1 : Nat) = 2 ^ 1 - 1 from rfl, Nat.and_two_pow_sub_one_eq_mod]
    omega
  rw [e]
  by_cases a1 : v % 2 = 1 <;> simp only [a1, decide_true, decide_false, ibB] <;> omega
theorem due_wrap (now p : Int) (n0 : 0 ≤ now) (n1 : now ≤ 4611686018427387904) (p0 : 0 ≤ p) (p1 : p < 4294967296) : IntKind.i64.wrap (now + if IntKind.i64.wrap p < 1 then 1 else IntKind.i64.wrap p) = due now p := by
  have h1 : IntKind.i64.wrap p = p := by rw [IntKind.wrap_i64]; omega
  rw [h1]
  unfold due
  by_cases hp : p = 0
  · subst hp
    rw [if_pos (by omega), if_pos rfl, IntKind.wrap_i64]; omega
  · rw [if_neg (by omega), if_neg hp, IntKind.wrap_i64]; omega
theorem due_ok (d now p : Int) (d0 : 0 ≤ d) (d1 : d < 16) (n0 : 0 ≤ now) (p0 : 0 ≤ p) : okB d (due now p) = true := by unfold okB due; apply decide_eq_true; split <;> omega
def stT0 (now : Int) (S : BS) : BS := if S.r0 then armS 1 (due now S.p0) S else { S with L := delF 1 S.L }
def ctT0 (v : Int) (S : BS) : BS := { S with r0 := decide (v % 2 = 1), g0 := decide (v / 2 % 2 = 1) }
def fgT0 (v : Int) (S : BS) : BS := { S with s0 := if v % 2 = 1 then false else S.s0 }
def wrT0 (k : Nat) (v now : Int) (S : BS) : BS := match k with
  | 0 => stT0 now (ctT0 v S)
  | 1 => { S with p0 := v }
  | 2 => fgT0 v S
  | _ => S
section
variable {w w' : World} {m r y : Nat} {O : Nat → Prop} {p n : Nat} {V : SV} {S : BS}
end
def stT1 (now : Int) (S : BS) : BS := if S.r1 then armS 2 (due now S.p1) S else { S with L := delF 2 S.L }
def ctT1 (v : Int) (S : BS) : BS := { S with r1 := decide (v % 2 = 1), g1 := decide (v / 2 % 2 = 1) }
def fgT1 (v : Int) (S : BS) : BS := { S with s1 := if v % 2 = 1 then false else S.s1 }
def wrT1 (k : Nat) (v now : Int) (S : BS) : BS := match k with
  | 0 => stT1 now (ctT1 v S)
  | 1 => { S with p1 := v }
  | 2 => fgT1 v S
  | _ => S
section
variable {w w' : World} {m r y : Nat} {O : Nat → Prop} {p n : Nat} {V : SV} {S : BS}
end
end Go.Proofs.Ytkfedihaldpgmaa

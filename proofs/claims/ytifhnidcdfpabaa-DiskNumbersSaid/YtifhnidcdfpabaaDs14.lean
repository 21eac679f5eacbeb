/-
  Chapter 14: what a disk is, and what its calls make of it.
-/
import Derived.Test.YtifhnidcdfpabaaWa9
import Derived.Test.YtifhnidcdfpabaaRa13
namespace Go.Proofs.Ytifhnidcdfpabaa
open Go.RowKit
set_option linter.unusedVariables false
set_option linter.unusedSimpArgs false

/-- what a disk is: sector, address, command; busy, done, error; when it is due and which Arm's that is; the wheel's next number; memory's bytes; its own -/
structure DS where
  z : Int
  t : Int
  c : Int
  bz : Bool
  dn : Bool
  er : Bool
  q : Option (Int × Int)
  a : Int
  C : Nat → Int
  D : Nat → Int
/-- the word status -/
def sw (b d e : Bool) : Int := match b, d, e with
  | false, false, false => 0
  | true, false, false => 1
  | false, true, false => 2
  | true, true, false => 3
  | false, false, true => 4
  | true, false, true => 5
  | false, true, true => 6
  | true, true, true => 7
theorem sw_or1 (b d e : Bool) : bits .or .u32 (sw b d e) 1 = sw true d e := by cases b <;> cases d <;> cases e <;> rfl
theorem sw_or2 (b d e : Bool) : bits .or .u32 (sw b d e) 2 = sw b true e := by cases b <;> cases d <;> cases e <;> rfl
theorem sw_or4 (b d e : Bool) : bits .or .u32 (sw b d e) 4 = sw b d true := by cases b <;> cases d <;> cases e <;> rfl
theorem sw_not1 (b d e : Bool) : bits .andNot .u32 (sw b d e) 1 = sw false d e := by cases b <;> cases d <;> cases e <;> rfl
theorem sw_is1 (b d e : Bool) : (bits .and .u32 (sw b d e) 1 != 0) = b := by cases b <;> cases d <;> cases e <;> rfl
theorem sw_is0 (b d e : Bool) : (bits .and .u32 (sw b d e) 1 == 0) = !b := by cases b <;> cases d <;> cases e <;> rfl
theorem sw_is6 (b d e : Bool) : (bits .and .u32 (sw b d e) 6 != 0) = (d || e) := by cases b <;> cases d <;> cases e <;> rfl
theorem v_and1 (v : Int) (h0 : 0 ≤ v) (h1 : v < 4294967296) : bits .and .u32 v 1 = v % 2 := by
  have := Go.u32_and_nat v.toNat 1 (by omega) (by omega)
  rw [show ((v.toNat : Nat) : Int) = v by omega] at this
  rw [show ((1 : Nat) : Int) = 1 from rfl] at this
  rw [this, show (1 : Nat) = 2 ^ 1 - 1 from rfl, Nat.and_two_pow_sub_one_eq_mod]
  omega
theorem v_and6 (v : Int) (h0 : 0 ≤ v) (h1 : v < 4294967296) : bits .and .u32 v 6 = sw false (decide (v / 2 % 2 = 1)) (decide (v / 4 % 2 = 1)) := by
  have e : bits .and .u32 v 6 = v / 2 % 4 * 2 := by
    have := Go.u32_and_nat v.toNat 6 (by omega) (by omega)
    rw [show ((v.toNat : Nat) : Int) = v by omega] at this
    rw [show ((6 : Nat) : Int) = 6 from rfl] at this
    rw [this, show (6 : Nat) = 2 ^ 3 - 2 ^ 1 from rfl, nat_midmask 3 1 _ (by decide)]
    omega
  rw [e]
  by_cases a1 : v / 2 % 2 = 1 <;> by_cases a2 : v / 4 % 2 = 1 <;> simp only [a1, a2, decide_true, decide_false, sw] <;> omega
theorem sw_clr (b d e x y : Bool) : bits .andNot .u32 (sw b d e) (sw false x y) = sw b (d && !x) (e && !y) := by
  cases b <;> cases d <;> cases e <;> cases x <;> cases y <;> rfl
/-- the list of what is due: the device's event, if there is one -/
def qL (d : Int) (q : Option (Int × Int)) : List Ev := match q with
  | none => []
  | some (t, s) => [⟨t, d, s⟩]
theorem qL_len (d : Int) (q : Option (Int × Int)) : (qL d q).length ≤ 1 := by
  cases q with
  | none => exact Nat.zero_le _
  | some x => exact Nat.le_refl _
theorem arm_q (d t a : Int) (q : Option (Int × Int)) : armF d t a (qL d q) = qL d (some (t, a)) := by
  cases q with
  | none => rfl
  | some x =>
    obtain ⟨u, s⟩ := x
    have e : delF d (qL d (some (u, s))) = [] := by simp [delF, ixD, qL, List.findIdx_cons]
    unfold armF
    rw [e]
    rfl
def startD (u now : Int) (S : DS) : DS := { S with c := u, bz := true, q := some (now + 32, S.a), a := S.a + 1 }
def ctlD (u now : Int) (S : DS) : DS := match S.bz with
  | true => S
  | false => startD u now S
def clrD (v : Int) (S : DS) : DS := { S with dn := S.dn && !decide (v / 2 % 2 = 1), er := S.er && !decide (v / 4 % 2 = 1) }
/-- what Write at word k leaves -/
def wrD (k : Nat) (v now : Int) (S : DS) : DS := match k with
  | 0 => { S with z := v }
  | 1 => { S with t := v }
  | 2 => ctlD v now S
  | 3 => clrD v S
  | _ => S
def wordD (k : Nat) (S : DS) : Int := match k with
  | 0 => S.z
  | 1 => S.t
  | 2 => S.c
  | 3 => sw S.bz S.dn S.er
  | _ => 0
/-- whether a command may be done: n sectors, p pages -/
def okK (p n : Nat) (S : DS) : Bool := decide (S.z < n) && ((decide (S.c = 1) || decide (S.c = 2)) && inB p S.t 64)
/-- memory behind a sector that is read -/
def rdC (S : DS) : Nat → Int := putC S.C S.t.toNat 64 (fun i => S.D (S.z.toNat * 64 + i))
/-- the disk behind a sector that is written -/
def wtD (S : DS) : Nat → Int := putC S.D (S.z.toNat * 64) 64 (fun i => S.C (S.t.toNat + i))
/-- what a command leaves, if it may be done -/
def ioC (S : DS) : Nat → Int := if S.c = 1 then rdC S else S.C
def ioD (S : DS) : Nat → Int := if S.c = 1 then S.D else wtD S
def doD (S : DS) : DS := { S with C := ioC S, D := ioD S }
theorem do_read {S : DS} (h : S.c = 1) : doD S = { S with C := rdC S } := by unfold doD ioC ioD; rw [if_pos h, if_pos h]
theorem do_write {S : DS} (h : ¬ S.c = 1) : doD S = { S with D := wtD S } := by unfold doD ioC ioD; rw [if_neg h, if_neg h]
def doN (p n : Nat) (S : DS) : DS := match okK p n S with
  | true => doD S
  | false => S
/-- what Fire leaves -/
def fiD (p n : Nat) (S : DS) : DS := match okK p n S with
  | true => { doD S with bz := false, dn := true }
  | false => { S with bz := false, dn := true, er := true }
/-- whether it is due -/
def duB (now : Int) (S : DS) : Bool := match S.q with
  | some (t, _) => decide (t ≤ now)
  | none => false
def tmQ (S : DS) : Int := match S.q with
  | some (x, _) => x
  | none => 0
def sqQ (S : DS) : Int := match S.q with
  | some (_, s) => s
  | none => 0
theorem due_cases {now : Int} {S : DS} (h : duB now S = true) : S.q = some (tmQ S, sqQ S) ∧ tmQ S ≤ now := by
  unfold duB at h
  unfold tmQ sqQ
  cases hq : S.q with
  | none => rw [hq] at h; cases h
  | some x =>
    obtain ⟨t, s⟩ := x
    rw [hq] at h
    exact ⟨rfl, of_decide_eq_true h⟩
theorem due_q (d now : Int) (S : DS) : dueB now (qL d S.q) = duB now S := by
  unfold duB
  cases hq : S.q with
  | none => rfl
  | some x => obtain ⟨t, u⟩ := x; rfl
/-- bounds of what a disk is: at most n Arms were let by -/
structure Gd (n : Int) (S : DS) : Prop where
  a0 : 0 ≤ S.a
  a1 : S.a ≤ n
  z0 : 0 ≤ S.z
  z1 : S.z < 4294967296
  t0 : 0 ≤ S.t
  t1 : S.t < 4294967296
  q0 : ∀ x s, S.q = some (x, s) → 0 ≤ x
section
variable {n now x : Int} {S : DS} {p m : Nat}
theorem Gd.mono {n2 : Int} (h : Gd n S) (hn : n ≤ n2) : Gd n2 S := ⟨h.a0, by have := h.a1; omega, h.z0, h.z1, h.t0, h.t1, h.q0⟩
theorem Gd.ctl (h : Gd n S) (h0 : 0 ≤ now) : Gd (n + 1) (ctlD x now S) := by
  unfold ctlD
  split
  · exact h.mono (by omega)
  · refine ⟨?_, ?_, h.z0, h.z1, h.t0, h.t1, ?_⟩
    · show 0 ≤ S.a + 1; have := h.a0; omega
    · show S.a + 1 ≤ n + 1; have := h.a1; omega
    · intro y s e
      have e : some (now + 32, S.a) = some (y, s) := e
      cases e
      omega
theorem Gd.write (h : Gd n S) (k : Nat) (h0 : 0 ≤ now) (x0 : 0 ≤ x) (x1 : x < 4294967296) : Gd (n + 1) (wrD k x now S) := by
  have hm : n ≤ n + 1 := by omega
  match k with
  | 0 => exact Gd.mono ⟨h.a0, h.a1, x0, x1, h.t0, h.t1, h.q0⟩ hm
  | 1 => exact Gd.mono ⟨h.a0, h.a1, h.z0, h.z1, x0, x1, h.q0⟩ hm
  | 2 => exact h.ctl h0
  | 3 => exact Gd.mono ⟨h.a0, h.a1, h.z0, h.z1, h.t0, h.t1, h.q0⟩ hm
  | k + 4 => exact h.mono hm
theorem Gd.noq (h : Gd n S) : Gd n { S with q := none } := ⟨h.a0, h.a1, h.z0, h.z1, h.t0, h.t1, fun x s e => by cases e⟩
theorem Gd.setC (h : Gd n S) (C : Nat → Int) : Gd n { S with C := C } := ⟨h.a0, h.a1, h.z0, h.z1, h.t0, h.t1, h.q0⟩
theorem Gd.fire (h : Gd n S) : Gd n (fiD p m S) := by
  unfold fiD
  split
  · exact ⟨h.a0, h.a1, h.z0, h.z1, h.t0, h.t1, h.q0⟩
  · exact ⟨h.a0, h.a1, h.z0, h.z1, h.t0, h.t1, h.q0⟩
end
end Go.Proofs.Ytifhnidcdfpabaa

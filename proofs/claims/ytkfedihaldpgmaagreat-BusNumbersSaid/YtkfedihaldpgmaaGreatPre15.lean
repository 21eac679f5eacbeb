/-
  Chapter 15: a number brought into bounds; parts of a disk's row.
-/
import Derived.Test.YtkfedihaldpgmaaGreatWa9
import Derived.Test.YtkfedihaldpgmaaGreatRa13
import Derived.Test.YtkfedihaldpgmaaGreatBt11
/-
  Chapter 14: what a disk is, and what its calls make of it.
-/
namespace Go.Proofs.YtkfedihaldpgmaaGreat
open Go.RowKit
set_option linter.unusedVariables false
set_option linter.unusedSimpArgs false

/-- what a disk is: sector, address, command; busy, done, error; when it is due and which Arm's that is; the wheel's next number; memory's bytes; its own -/
structure DS where
  z : Int
  t : Int
  c : Int
  bz : Bool
  dn : Bool
  er : Bool
  q : Option (Int × Int)
  a : Int
  C : Nat → Int
  D : Nat → Int
/-- the word status -/
def sw (b d e : Bool) : Int := match b, d, e with
  | false, false, false => 0
  | true, false, false => 1
  | false, true, false => 2
  | true, true, false => 3
  | false, false, true => 4
  | true, false, true => 5
  | false, true, true => 6
  | true, true, true => 7
theorem sw_or1 (b d e : Bool) : bits .or .u32 (sw b d e) 1 = sw true d e := by cases b <;> cases d <;> cases e <;> rfl
theorem sw_or2 (b d e : Bool) : bits .or .u32 (sw b d e) 2 = sw b true e := by cases b <;> cases d <;> cases e <;> rfl
theorem sw_or4 (b d e : Bool) : bits .or .u32 (sw b d e) 4 = sw b d true := by cases b <;> cases d <;> cases e <;> rfl
theorem sw_not1 (b d e : Bool) : bits .andNot .u32 (sw b d e) 1 = sw false d e := by cases b <;> cases d <;> cases e <;> rfl
theorem sw_is1 (b d e : Bool) : (bits .and .u32 (sw b d e) 1 != 0) = b := by cases b <;> cases d <;> cases e <;> rfl
theorem sw_is0 (b d e : Bool) : (bits .and .u32 (sw b d e) 1 == 0) = !b := by cases b <;> cases d <;> cases e <;> rfl
theorem sw_is6 (b d e : Bool) : (bits .and .u32 (sw b d e) 6 != 0) = (d || e) := by cases b <;> cases d <;> cases e <;> rfl
theorem v_and1 (v : Int) (h0 : 0 ≤ v) (h1 : v < 4294967296) : bits .and .u32 v 1 = v % 2 := by
  have := Go.u32_and_nat v.toNat 1 (by omega) (by omega)
  rw [show ((v.toNat : Nat) : Int) = v by omega] at this
  rw [show ((1 : Nat) : Int) = 1 from rfl] at this
  rw [this, show (1 : Nat) = 2 ^ 1 - 1 from rfl, Nat.and_two_pow_sub_one_eq_mod]
  omega
theorem v_and6 (v : Int) (h0 : 0 ≤ v) (h1 : v < 4294967296) : bits .and .u32 v 6 = sw false (decide (v / 2 % 2 = 1)) (decide (v / 4 % 2 = 1)) := by
  have e : bits .and .u32 v 6 = v / 2 % 4 * 2 := by
    have := Go.u32_and_nat v.toNat 6 (by omega) (by omega)
    rw [show ((v.toNat : Nat) : Int) = v by omega] at this
    rw [show ((6 : Nat) : Int) = 6 from rfl] at this
    rw [this, show (6 : Nat) = 2 ^ 3 - 2 ^ 1 from rfl, nat_midmask 3 1 _ (by decide)]
    omega
  rw [e]
  by_cases a1 : v / 2 % 2 = 1 <;> by_cases a2 : v / 4 % 2 = 1 <;> simp only [a1, a2, decide_true, decide_false, sw] <;> omega
theorem sw_clr (b d e x y : Bool) : bits .andNot .u32 (sw b d e) (sw false x y) = sw b (d && !x) (e && !y) := by
  cases b <;> cases d <;> cases e <;> cases x <;> cases y <;> rfl
/-- the list of what is due: the device's event, if there is one -/
def qL (d : Int) (q : Option (Int × Int)) : List Ev := match q with
  | none => []
  | some (t, s) => [⟨t, d, s⟩]
theorem qL_len (d : Int) (q : Option (Int × Int)) : (qL d q).length ≤ 1 := by
  cases q with
  | none => exact Nat.zero_le _
  | some x => exact Nat.le_refl _
theorem arm_q (d t a : Int) (q : Option (Int × Int)) : armF d t a (qL d q) = qL d (some (t, a)) := by
  cases q with
  | none => rfl
  | some x =>
    obtain ⟨u, s⟩ := x
    have e : delF d (qL d (some (u, s))) = [] := by simp [delF, ixD, qL, List.findIdx_cons]
    unfold armF
    rw [e]
    rfl
def startD (u now : Int) (S : DS) : DS := { S with c := u, bz := true, q := some (now + 32, S.a), a := S.a + 1 }
def ctlD (u now : Int) (S : DS) : DS := match S.bz with
  | true => S
  | false => startD u now S
def clrD (v : Int) (S : DS) : DS := { S with dn := S.dn && !decide (v / 2 % 2 = 1), er := S.er && !decide (v / 4 % 2 = 1) }
/-- what Write at word k leaves -/
def wrD (k : Nat) (v now : Int) (S : DS) : DS := match k with
  | 0 => { S with z := v }
  | 1 => { S with t := v }
  | 2 => ctlD v now S
  | 3 => clrD v S
  | _ => S
def wordD (k : Nat) (S : DS) : Int := match k with
  | 0 => S.z
  | 1 => S.t
  | 2 => S.c
  | 3 => sw S.bz S.dn S.er
  | _ => 0
/-- whether a command may be done: n sectors, p pages -/
def okK (p n : Nat) (S : DS) : Bool := decide (S.z < n) && ((decide (S.c = 1) || decide (S.c = 2)) && inB p S.t 64)
/-- memory behind a sector that is read -/
def rdC (S : DS) : Nat → Int := putC S.C S.t.toNat 64 (fun i => S.D (S.z.toNat * 64 + i))
/-- the disk behind a sector that is written -/
def wtD (S : DS) : Nat → Int := putC S.D (S.z.toNat * 64) 64 (fun i => S.C (S.t.toNat + i))
/-- what a command leaves, if it may be done -/
def ioC (S : DS) : Nat → Int := if S.c = 1 then rdC S else S.C
def ioD (S : DS) : Nat → Int := if S.c = 1 then S.D else wtD S
def doD (S : DS) : DS := { S with C := ioC S, D := ioD S }
theorem do_read {S : DS} (h : S.c = 1) : doD S = { S with C := rdC S } := by unfold doD ioC ioD; rw [if_pos h, if_pos h]
theorem do_write {S : DS} (h : ¬ S.c = 1) : doD S = { S with D := wtD S } := by unfold doD ioC ioD; rw [if_neg h, if_neg h]
def doN (p n : Nat) (S : DS) : DS := match okK p n S with
  | true => doD S
  | false => S
/-- what Fire leaves -/
def fiD (p n : Nat) (S : DS) : DS := match okK p n S with
  | true => { doD S with bz := false, dn := true }
  | false => { S with bz := false, dn := true, er := true }
/-- whether it is due -/
def duB (now : Int) (S : DS) : Bool := match S.q with
  | some (t, _) => decide (t ≤ now)
  | none => false
def tmQ (S : DS) : Int := match S.q with
  | some (x, _) => x
  | none => 0
def sqQ (S : DS) : Int := match S.q with
  | some (_, s) => s
  | none => 0
theorem due_cases {now : Int} {S : DS} (h : duB now S = true) : S.q = some (tmQ S, sqQ S) ∧ tmQ S ≤ now := by
  unfold duB at h
  unfold tmQ sqQ
  cases hq : S.q with
  | none => rw [hq] at h; cases h
  | some x =>
    obtain ⟨t, s⟩ := x
    rw [hq] at h
    exact ⟨rfl, of_decide_eq_true h⟩
theorem due_q (d now : Int) (S : DS) : dueB now (qL d S.q) = duB now S := by
  unfold duB
  cases hq : S.q with
  | none => rfl
  | some x => obtain ⟨t, u⟩ := x; rfl
/-- bounds of what a disk is: at most n Arms were let by -/
structure Gd (n : Int) (S : DS) : Prop where
  a0 : 0 ≤ S.a
  a1 : S.a ≤ n
  z0 : 0 ≤ S.z
  z1 : S.z < 4294967296
  t0 : 0 ≤ S.t
  t1 : S.t < 4294967296
  q0 : ∀ x s, S.q = some (x, s) → 0 ≤ x
section
variable {n now x : Int} {S : DS} {p m : Nat}
theorem Gd.mono {n2 : Int} (h : Gd n S) (hn : n ≤ n2) : Gd n2 S := ⟨h.a0, by have := h.a1; omega, h.z0, h.z1, h.t0, h.t1, h.q0⟩
theorem Gd.ctl (h : Gd n S) (h0 : 0 ≤ now) : Gd (n + 1) (ctlD x now S) := by
  unfold ctlD
  split
  · exact h.mono (by omega)
  · refine ⟨?_, ?_, h.z0, h.z1, h.t0, h.t1, ?_⟩
    · show 0 ≤ S.a + 1; have := h.a0; omega
    · show S.a + 1 ≤ n + 1; have := h.a1; omega
    · intro y s e
      have e : some (now + 32, S.a) = some (y, s) := e
      cases e
      omega
theorem Gd.write (h : Gd n S) (k : Nat) (h0 : 0 ≤ now) (x0 : 0 ≤ x) (x1 : x < 4294967296) : Gd (n + 1) (wrD k x now S) := by
  have hm : n ≤ n + 1 := by omega
  match k with
  | 0 => exact Gd.mono ⟨h.a0, h.a1, x0, x1, h.t0, h.t1, h.q0⟩ hm
  | 1 => exact Gd.mono ⟨h.a0, h.a1, h.z0, h.z1, x0, x1, h.q0⟩ hm
  | 2 => exact h.ctl h0
  | 3 => exact Gd.mono ⟨h.a0, h.a1, h.z0, h.z1, h.t0, h.t1, h.q0⟩ hm
  | k + 4 => exact h.mono hm
theorem Gd.noq (h : Gd n S) : Gd n { S with q := none } := ⟨h.a0, h.a1, h.z0, h.z1, h.t0, h.t1, fun x s e => by cases e⟩
theorem Gd.setC (h : Gd n S) (C : Nat → Int) : Gd n { S with C := C } := ⟨h.a0, h.a1, h.z0, h.z1, h.t0, h.t1, h.q0⟩
theorem Gd.fire (h : Gd n S) : Gd n (fiD p m S) := by
  unfold fiD
  split
  · exact ⟨h.a0, h.a1, h.z0, h.z1, h.t0, h.t1, h.q0⟩
  · exact ⟨h.a0, h.a1, h.z0, h.z1, h.t0, h.t1, h.q0⟩
end
end Go.Proofs.YtkfedihaldpgmaaGreat

/-
  Chapter 14: a memory and a disk's bytes beside it.
-/
namespace Go.Proofs.YtkfedihaldpgmaaGreat
open Go.RowKit
set_option linter.unusedVariables false
set_option linter.unusedSimpArgs false
/-- block r is a memory of p pages, its bytes C; block y has n sectors, their bytes D; all their blocks are O -/
def Mk (T : TypeId) (w : World) (r y : Nat) (O : Nat → Prop) (p n : Nat) (C D : Nat → Int) : Prop :=
  ∃ M : Nat → Prop, O = (fun k => M k ∨ k = y) ∧ ¬ M y ∧ Ra T w r M p C ∧ w.rowIs y 5 (64 * n) (fun i => .int .u8 (D i)) ∧ ∀ i, 0 ≤ D i ∧ D i ≤ 255
/-- it returns x; the memory's bytes are C2 then -/
def RetK (T : TypeId) (x : Value) (w : World) (r y : Nat) (O : Nat → Prop) (p n : Nat) (C2 D : Nat → Int) (e : Ending) (w' : World) : Prop := e = .returned x ∧ Mk T w' r y O p n C2 D ∧ Fr O w w'
theorem putC_bd {C : Nat → Int} {a n : Nat} {f : Nat → Int} (hC : ∀ i, 0 ≤ C i ∧ C i ≤ 255) (hf : ∀ j, j < n → 0 ≤ f j ∧ f j ≤ 255) (i : Nat) : 0 ≤ putC C a n f i ∧ putC C a n f i ≤ 255 := by
  unfold putC
  split
  · exact hf _ (by omega)
  · exact hC i
section
variable {T : TypeId} {w w' : World} {r y : Nat} {O : Nat → Prop} {p n : Nat} {C D : Nat → Int}
theorem Mk.fr {S : Nat → Prop} (h : Mk T w r y O p n C D) (f : Fr S w w') (hs : ∀ k, O k → ¬ S k) : Mk T w' r y O p n C D := by
  obtain ⟨M, rfl, hn, hm, hr, hb⟩ := h
  exact ⟨M, rfl, hn, hm.fr f (fun k hk => hs k (.inl hk)), hr.of_block (f.block _ hr.lt (hs y (.inr rfl))), hb⟩
theorem Mk.lt (h : Mk T w r y O p n C D) : ∀ k, O k → k < w.heap.size := by
  obtain ⟨M, rfl, hn, hm, hr, hb⟩ := h
  rintro k (hk | rfl)
  · exact hm.lt k hk
  · exact hr.lt
theorem Mk.own (h : Mk T w r y O p n C D) : O r := by obtain ⟨M, rfl, hn, hm, hr, hb⟩ := h; exact .inl hm.own
theorem Mk.ownY (h : Mk T w r y O p n C D) : O y := by obtain ⟨M, rfl, hn, hm, hr, hb⟩ := h; exact .inr rfl
theorem Mk.drewN (h : Mk T w r y O p n C D) (k : Nat) : Mk T (w.drewN k) r y O p n C D := h.fr ((Fr.refl (fun _ => False) w).drewN k) (fun _ _ => id)
theorem Mk.below (h : Mk T w r y O p n C D) (b : Below w.heap.size w w') : Mk T w' r y O p n C D := h.fr (Fr.of_below (S := fun _ => False) b) (fun _ _ => id)
theorem Mk.bC (h : Mk T w r y O p n C D) (i : Nat) : 0 ≤ C i ∧ C i ≤ 255 := by obtain ⟨M, rfl, hn, hm, hr, hb⟩ := h; exact ⟨hm.c0 i, hm.c1 i⟩
theorem Mk.bD (h : Mk T w r y O p n C D) (i : Nat) : 0 ≤ D i ∧ D i ≤ 255 := by obtain ⟨M, rfl, hn, hm, hr, hb⟩ := h; exact hb i
theorem Mk.row (h : Mk T w r y O p n C D) : w.rowIs y 5 (64 * n) (fun i => .int .u8 (D i)) := by obtain ⟨M, rfl, hn, hm, hr, hb⟩ := h; exact hr
theorem Mk.mem (h : Mk T w r y O p n C D) : ∃ M : Nat → Prop, Ra T w r M p C ∧ ∀ k, M k → O k := by obtain ⟨M, rfl, hn, hm, hr, hb⟩ := h; exact ⟨M, hm, fun k hk => .inl hk⟩
/-- the disk's row has other bytes -/
theorem Mk.setRow {A : Nat} {f : Nat → Int} (h : Mk T w r y O p n C D) (hr : w'.rowIs y 5 (64 * n) (fun i => if A ≤ i ∧ i < A + 64 then .int .u8 (f (i - A)) else .int .u8 (D i))) (hf : Fr (fun k => k = y) w w') (hB : ∀ j, j < 64 → 0 ≤ f j ∧ f j ≤ 255) : Mk T w' r y O p n C (putC D A 64 f) ∧ Fr O w w' := by
  obtain ⟨M, rfl, hn, hm, _, hb⟩ := h
  refine ⟨⟨M, rfl, hn, hm.fr hf (fun k hk e => hn (e ▸ hk)), hr.congr fun i _ => ?_, putC_bd hb hB⟩, hf.mono fun k e => .inr e⟩
  unfold putC
  split <;> rfl
/-- the disk's row was written, and has the same bytes -/
theorem Mk.same (h : Mk T w r y O p n C D) (hr : w'.rowIs y 5 (64 * n) (fun i => .int .u8 (D i))) (hf : Fr (fun k => k = y) w w') : Mk T w' r y O p n C D := by
  obtain ⟨M, rfl, hn, hm, _, hb⟩ := h
  exact ⟨M, rfl, hn, hm.fr hf (fun k hk e => hn (e ▸ hk)), hr, hb⟩
theorem Mk.fr_row (h : Mk T w r y O p n C D) (hf : Fr (fun k => k = y) w w') : Fr O w w' := hf.mono fun k e => e ▸ h.ownY
/-- a part of the disk's row, as bytes -/
theorem Mk.part (h : Mk T w r y O p n C D) (A N c : Nat) (hc : N ≤ c) (hN : A + N ≤ 64 * n) : ByAt (fun k => k = y) w (.slice (some ⟨y, A, none⟩) N c) N (fun i => D (A + i)) := by
  refine .inr ⟨_, _, rfl, hc, fun _ => ⟨rfl, rfl⟩, fun i hi => ⟨?_, h.bD _⟩⟩
  rw [add_none]
  exact h.row.cell (i := A + i) (by omega)
end
section
variable {w : World} {r y : Nat} {O : Nat → Prop} {p n : Nat} {C D : Nat → Int}
theorem kput_any {Q : Nat → Prop} (a : Int) (v : Value) (m : Nat) (f : Nat → Int) (h : Mk 103 w r y O p n C D) (hv : ByAt Q w v m f) (h0 : 0 ≤ a) (h1 : a < 4294967296) (hn : m ≤ 9223372036854775807) :
    Calls Tryz.prog 17 #[.pointer (some ⟨r, 0, none⟩), .int .u32 a, v] w (RetK 103 (.bool (inB p a m)) w r y O p n (uC p C a m f) D) := by
  obtain ⟨M, rfl, hy, hm, hr, hb⟩ := h
  exact (mput_any a v m f hm hv h0 h1 hn).mono fun e w' ⟨he, hm, hf⟩ => ⟨he, ⟨M, rfl, hy, hm, hr.of_block (hf.block _ hr.lt hy), hb⟩, hf.mono fun k e => .inl e⟩
theorem lput_any {Q : Nat → Prop} (a : Int) (v : Value) (m : Nat) (f : Nat → Int) (h : Mk 62 w r y O p n C D) (hv : ByAt Q w v m f) (h0 : 0 ≤ a) (h1 : a < 4294967296) (hn : m ≤ 9223372036854775807) :
    Calls Tryz.prog 85 #[.pointer (some ⟨r, 0, none⟩), .int .u32 a, v] w (RetK 62 (.bool (inB p a m)) w r y O p n (uC p C a m f) D) := by
  obtain ⟨M, rfl, hy, hm, hr, hb⟩ := h
  exact (nput_any a v m f hm hv h0 h1 hn).mono fun e w' ⟨he, hm, hf⟩ => ⟨he, ⟨M, rfl, hy, hm, hr.of_block (hf.block _ hr.lt hy), hb⟩, hf.mono fun k e => .inl e⟩
theorem kstore_any (a m v : Int) (h : Mk 103 w r y O p n C D) (h0 : 0 ≤ a) (h1 : a < 4294967296) (n0 : -9223372036854775808 ≤ m) (n1 : m ≤ 9223372036854775807) (v0 : 0 ≤ v) (v1 : v < 4294967296) :
    Calls Tryz.prog 30 #[.pointer (some ⟨r, 0, none⟩), .int .u32 a, .int .i64 m, .int .u32 v] w (RetK 103 (.bool (okN p a m)) w r y O p n (aC p C a m v) D) := by
  obtain ⟨M, rfl, hy, hm, hr, hb⟩ := h
  exact (mstore_any a m v hm h0 h1 n0 n1 v0 v1).mono fun e w' ⟨he, hm, hf⟩ => ⟨he, ⟨M, rfl, hy, hm, hr.of_block (hf.block _ hr.lt hy), hb⟩, hf.mono fun k e => .inl e⟩
theorem lstore_any (a m v : Int) (h : Mk 62 w r y O p n C D) (h0 : 0 ≤ a) (h1 : a < 4294967296) (n0 : -9223372036854775808 ≤ m) (n1 : m ≤ 9223372036854775807) (v0 : 0 ≤ v) (v1 : v < 4294967296) :
    Calls Tryz.prog 32 #[.pointer (some ⟨r, 0, none⟩), .int .u32 a, .int .i64 m, .int .u32 v] w (RetK 62 (.bool (okN p a m)) w r y O p n (aC p C a m v) D) := by
  obtain ⟨M, rfl, hy, hm, hr, hb⟩ := h
  exact (nstore_any a m v hm h0 h1 n0 n1 v0 v1).mono fun e w' ⟨he, hm, hf⟩ => ⟨he, ⟨M, rfl, hy, hm, hr.of_block (hf.block _ hr.lt hy), hb⟩, hf.mono fun k e => .inl e⟩
theorem kbytes_any (a m : Int) (h : Mk 103 w r y O p n C D) (h0 : 0 ≤ a) (h1 : a < 4294967296) (n0 : -9223372036854775808 ≤ m) (n1 : m ≤ 9223372036854775807) :
    Calls Tryz.prog 49 #[.pointer (some ⟨r, 0, none⟩), .int .u32 a, .int .i64 m] w (BytesP w p C a m) := by
  obtain ⟨M, _, _, hm, _⟩ := h
  exact mbytes_any a m hm h0 h1 n0 n1
theorem lbytes_any (a m : Int) (h : Mk 62 w r y O p n C D) (h0 : 0 ≤ a) (h1 : a < 4294967296) (n0 : -9223372036854775808 ≤ m) (n1 : m ≤ 9223372036854775807) :
    Calls Tryz.prog 84 #[.pointer (some ⟨r, 0, none⟩), .int .u32 a, .int .i64 m] w (BytesP w p C a m) := by
  obtain ⟨M, _, _, hm, _⟩ := h
  exact nbytes_any a m hm h0 h1 n0 n1
theorem lin_any (a m : Int) (h : Mk 62 w r y O p n C D) (h0 : 0 ≤ a) (h1 : a < 4294967296) (n0 : -9223372036854775808 ≤ m) (n1 : m ≤ 9223372036854775807) :
    Calls Tryz.prog 63 #[.pointer (some ⟨r, 0, none⟩), .int .u32 a, .int .i64 m] w fun e w' => e = .returned (.bool (inB p a m)) ∧ w = w' := by
  obtain ⟨M, _, _, hm, _⟩ := h
  exact nin_any a m hm h0 h1 n0 n1
end
end Go.Proofs.YtkfedihaldpgmaaGreat

namespace Go.Proofs.YtkfedihaldpgmaaGreat
open Go.RowKit
set_option linter.unusedVariables false
set_option linter.unusedSimpArgs false
/-- it returns a number from lo to hi, and the world stands -/
def InP (lo hi : Int) (w : World) (e : Ending) (w' : World) : Prop := ∃ v : Int, lo ≤ v ∧ v ≤ hi ∧ e = .returned (.int .i64 v) ∧ w = w'
theorem tmod_pos (n K : Int) (hK : 0 < K) : -K < n.tmod K ∧ n.tmod K < K := by
  by_cases h : 0 ≤ n
  · rw [Int.tmod_eq_emod_of_nonneg h]
    have := Int.emod_nonneg n (show K ≠ 0 by omega)
    have := Int.emod_lt_of_pos n hK
    omega
  · have e : n.tmod K = -((-n) % K) := by rw [← Int.tmod_eq_emod_of_nonneg (by omega), Int.neg_tmod]; omega
    have := Int.emod_nonneg (-n) (show K ≠ 0 by omega)
    have := Int.emod_lt_of_pos (-n) hK
    omega
set_option maxHeartbeats 400000 in
theorem within_any (n lo hi : Int) (w : World) (h0 : -1000000000 ≤ lo) (h1 : lo ≤ hi) (h2 : hi ≤ 1000000000) (n0 : -9223372036854775808 ≤ n) (n1 : n ≤ 9223372036854775807) :
    Calls Tryz.prog 46 #[.int .i64 n, .int .i64 lo, .int .i64 hi] w (InP lo hi w) := by
  by_cases hin : lo ≤ n ∧ n ≤ hi
  · obtain ⟨i0, i1⟩ := hin
    go_enter Tryz.func46, Tryz.ntmps46
    go_wp2
    go_ret
    exact ⟨n, i0, i1, rfl, rfl⟩
  · obtain ⟨t0, t1⟩ := tmod_pos n (hi - lo + 1) (by omega)
    have hd : (decide (lo ≤ n) && decide (n ≤ hi)) = false := by simp; omega
    by_cases hlo : lo ≤ n
    · have hh : ¬ n ≤ hi := by omega
      by_cases hneg : n.tmod (hi - lo + 1) < 0
      all_goals
        go_enter Tryz.func46, Tryz.ntmps46
        go_wp2
        go_ret
        exact ⟨_, by omega, by omega, rfl, rfl⟩
    · by_cases hneg : n.tmod (hi - lo + 1) < 0
      all_goals
        go_enter Tryz.func46, Tryz.ntmps46
        go_wp2
        go_ret
        exact ⟨_, by omega, by omega, rfl, rfl⟩
theorem ByAt.one {Q : Nat → Prop} {w : World} {v : Value} {n : Nat} {f : Nat → Int} (h : ByAt Q w v n f) : ∃ sp c, v = .slice sp n c ∧ (0 < n → ∃ ad, sp = some ad ∧ ∀ j, j < n → w.cell? (ad.add j) = some (.int .u8 (f j))) := by
  rcases h with ⟨c, rfl, rfl⟩ | ⟨ad, c, rfl, _, _, hi⟩
  · exact ⟨none, c, rfl, fun h => absurd h (by omega)⟩
  · exact ⟨some ad, c, rfl, fun _ => ⟨ad, rfl, fun j hj => (hi j hj).1⟩⟩
theorem fr_new0 {w w' : World} (h : w.grownBy w' none) : Fr (fun _ => False) w w' := ⟨h.os, h.tape, h.output, h.size, fun k hk _ => h.block k hk (by simp)⟩
theorem elem_u8 : Tryz.prog.elem 24 = 5 := by kernel_rfl
theorem und_u8 : Tryz.prog.underlying 24 = some (.slice (Tryz.prog.elem 24)) := by kernel_rfl
theorem size1_u8 (w : World) : (sizeOf (Tryz.prog.elem 24)).run Tryz.prog w = .ok 1 w := by
  obtain ⟨i0, hi, hi3⟩ := Option.map_eq_some_iff.1 info_u8
  simp only [Prod.mk.injEq] at hi3
  obtain ⟨hz0, hz1, hz2⟩ := hi3
  rw [elem_u8]
  simp [sizeOf, typeInfo, hi, hz1]
theorem slice_c (y Z n : Nat) (h : Z < n) (hn : n ≤ 64) : ∀ w, (Instr.slice 24 (.slice (some ⟨y, 0, none⟩) (64 * n) (64 * n)) (some (.int .i64 ((Z : Int) * 64))) (some (.int .i64 (IntKind.i64.wrap ((Z : Int) * 64 + 64)))) none).run Tryz.prog w = .ok (.slice (some ⟨y, Z * 64, none⟩) 64 (64 * n - Z * 64)) w := by
  intro w
  have e : IntKind.i64.wrap ((Z : Int) * 64 + 64) = (Z * 64 + 64 : Nat) := by rw [IntKind.wrap_i64]; omega
  rw [e, show (Z : Int) * 64 = (Z * 64 : Nat) by omega, run_slice_lh (ht := und_u8) (h0 := by omega) (h1 := by omega) (h2 := by omega), size1_u8]
  show Result.ok (sliced (some ⟨y, 0, none⟩) (((Z * 64 : Nat) : Int).toNat) (((Z * 64 + 64 : Nat) : Int).toNat) (64 * n) 1) w = _
  unfold sliced
  rw [if_neg (by omega), Int.toNat_natCast, Int.toNat_natCast]
  show Result.ok (Value.slice (some ((⟨y, 0, none⟩ : Addr).add (Z * 64 * 1))) (Z * 64 + 64 - Z * 64) (64 * n - Z * 64)) w = _
  rw [add_none, Nat.mul_one, Nat.zero_add, Nat.add_sub_cancel_left]
theorem slice_d (y Z n : Nat) (h : Z < n) (hn : n ≤ 64) : ∀ w, (Instr.slice 24 (.slice (some ⟨y, 0, none⟩) (64 * n) (64 * n)) (some (.int .i64 ((Z : Int) * 64))) none none).run Tryz.prog w = .ok (.slice (some ⟨y, Z * 64, none⟩) (64 * n - Z * 64) (64 * n - Z * 64)) w := by
  intro w
  rw [show (Z : Int) * 64 = (Z * 64 : Nat) by omega, run_slice_l (ht := und_u8) (h0 := by omega) (h1 := by omega), size1_u8]
  show Result.ok (sliced (some ⟨y, 0, none⟩) (((Z * 64 : Nat) : Int).toNat) (64 * n) (64 * n) 1) w = _
  unfold sliced
  rw [if_neg (by omega), Int.toNat_natCast]
  show Result.ok (Value.slice (some ((⟨y, 0, none⟩ : Addr).add (Z * 64 * 1))) (64 * n - Z * 64) (64 * n - Z * 64)) w = _
  rw [add_none, Nat.mul_one, Nat.zero_add]
theorem wrap_n (n : Nat) (hn : n ≤ 64) : IntKind.u32.wrap (IntKind.i64.wrap ((((64 * n : Nat)) : Int).tdiv 64)) = n := by
  rw [Int.tdiv_eq_ediv_of_nonneg (by omega), IntKind.wrap_i64, IntKind.wrap_u32]
  omega
end Go.Proofs.YtkfedihaldpgmaaGreat

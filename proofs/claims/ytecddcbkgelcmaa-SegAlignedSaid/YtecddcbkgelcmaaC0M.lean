/-
  Chapter 6, plain mathematics: the registers of coprocessor 0 as functions of what a State holds.
-/
import Derived.Test.YtecddcbkgelcmaaStL
import Derived.Laws.BitsAllLaws
namespace Go.Proofs.Ytecddcbkgelcmaa
open Go.RowKit
set_option linter.unusedVariables false

/-! bits of words -/
theorem bv_back (b : BitVec 32) : BitVec.ofInt 32 ((b.toNat : Nat) : Int) = b := by
  rw [BitVec.ofInt_natCast, BitVec.ofNat_toNat, BitVec.setWidth_eq]
theorem wrap_bv (b : BitVec 32) : IntKind.u32.wrap ((b.toNat : Nat) : Int) = ((b.toNat : Nat) : Int) := by
  rw [IntKind.wrap_u32']
  have := b.isLt
  omega
theorem bv_and (x y : Int) : bits .and .u32 x y = (((BitVec.ofInt 32 x &&& BitVec.ofInt 32 y).toNat : Nat) : Int) := wrap_bv _
theorem bv_or (x y : Int) : bits .or .u32 x y = (((BitVec.ofInt 32 x ||| BitVec.ofInt 32 y).toNat : Nat) : Int) := wrap_bv _
theorem bv_andNot (x y : Int) : bits .andNot .u32 x y = (((BitVec.ofInt 32 x &&& ~~~BitVec.ofInt 32 y).toNat : Nat) : Int) := wrap_bv _
theorem w_and (x y : Int) : W32 (bits .and .u32 x y) := by
  rw [bv_and]; have := (BitVec.ofInt 32 x &&& BitVec.ofInt 32 y).isLt; exact ⟨by omega, by omega⟩
theorem w_or (x y : Int) : W32 (bits .or .u32 x y) := by
  rw [bv_or]; have := (BitVec.ofInt 32 x ||| BitVec.ofInt 32 y).isLt; exact ⟨by omega, by omega⟩
theorem w_andNot (x y : Int) : W32 (bits .andNot .u32 x y) := by
  rw [bv_andNot]; have := (BitVec.ofInt 32 x &&& ~~~BitVec.ofInt 32 y).isLt; exact ⟨by omega, by omega⟩
theorem w_mod (x : Int) : W32 (x % 4294967296) := ⟨by omega, by omega⟩
/-- the bits of mask m are those of v, the others stay -/
def pu (c m v : Int) : Int := bits .or .u32 (bits .andNot .u32 c m) (bits .and .u32 v m)
theorem w_pu (c m v : Int) : W32 (pu c m v) := w_or _ _
theorem pu_clear (c m : Int) : bits .andNot .u32 c m = pu c m 0 := by
  unfold pu
  simp only [bv_or, bv_and, bv_andNot, bv_back]
  congr 2
  ext i hi
  simp
theorem pu_set (c m : Int) : bits .or .u32 c m = pu c m m := by
  unfold pu
  simp only [bv_or, bv_and, bv_andNot, bv_back]
  congr 2
  ext i hi
  simp
  cases (BitVec.ofInt 32 c)[i] <;> cases (BitVec.ofInt 32 m)[i] <;> rfl
theorem pu_set2 (c m : Int) : bits .or .u32 (pu c m 0) m = pu c m m := by
  unfold pu
  simp only [bv_or, bv_and, bv_andNot, bv_back]
  congr 2
  ext i hi
  simp
theorem pu_hi (c v : Int) : bits .or .u32 (bits .and .u32 c 1023) (bits .andNot .u32 v 1023) = pu c 4294966272 v := by
  unfold pu
  simp only [bv_or, bv_and, bv_andNot, bv_back]
  have e : BitVec.ofInt 32 1023 = ~~~(BitVec.ofInt 32 4294966272) := by decide
  rw [e]
  simp
theorem pend_eq (c s : Int) : bits .and .u32 (bits .and .u32 (bits .and .u32 c 65280) s) 65280 = bits .and .u32 (bits .and .u32 c s) 65280 := by
  simp only [bv_and, bv_back]
  congr 2
  ext i hi
  simp
  cases (BitVec.ofInt 32 c)[i] <;> cases (BitVec.ofInt 32 s)[i] <;> simp
/-- a bit of a word -/
def tb (c : Int) (i : Nat) : Bool := c.toNat.testBit i
theorem and_pow (c : Int) (i : Nat) (hc : W32 c) (hi : i < 32) : bits .and .u32 c ((2 ^ i : Nat) : Int) = (((tb c i).toNat * 2 ^ i : Nat) : Int) := by
  obtain ⟨h0, h1⟩ := hc
  have h2 : 2 ^ i < 2 ^ 32 := Nat.pow_lt_pow_right (by omega) hi
  rw [u32_and _ _ h0 h1 (Int.natCast_nonneg _) (Int.ofNat_lt.2 h2), Int.toNat_natCast, nat_bit, tb, Nat.toNat_testBit]
theorem and_two (c : Int) (i j : Nat) (hc : W32 c) (hi : i < 32) (hj : j < 32) : bits .and .u32 c ((2 ^ i ||| 2 ^ j : Nat) : Int) = (((tb c i).toNat * 2 ^ i ||| (tb c j).toNat * 2 ^ j : Nat) : Int) := by
  obtain ⟨h0, h1⟩ := hc
  have h2 : 2 ^ i < 2 ^ 32 := Nat.pow_lt_pow_right (by omega) hi
  have h3 : 2 ^ j < 2 ^ 32 := Nat.pow_lt_pow_right (by omega) hj
  have h4 : 2 ^ i ||| 2 ^ j < 2 ^ 32 := Nat.or_lt_two_pow h2 h3
  rw [u32_and _ _ h0 h1 (Int.natCast_nonneg _) (Int.ofNat_lt.2 h4), Int.toNat_natCast, Nat.and_or_distrib_left, nat_bit, nat_bit, tb, tb, Nat.toNat_testBit, Nat.toNat_testBit]
theorem and_2 (c : Int) (hc : W32 c) : bits .and .u32 c 2 = if tb c 1 then 2 else 0 := by
  have := and_pow c 1 hc (by omega)
  rw [show ((2 ^ 1 : Nat) : Int) = 2 from rfl] at this
  rw [this]; cases tb c 1 <;> rfl
theorem and_16 (c : Int) (hc : W32 c) : bits .and .u32 c 16 = if tb c 4 then 16 else 0 := by
  have := and_pow c 4 hc (by omega)
  rw [show ((2 ^ 4 : Nat) : Int) = 16 from rfl] at this
  rw [this]; cases tb c 4 <;> rfl
theorem and_18 (c : Int) (hc : W32 c) : bits .and .u32 c 18 = if tb c 4 then (if tb c 1 then 18 else 16) else (if tb c 1 then 2 else 0) := by
  have := and_two c 4 1 hc (by omega) (by omega)
  rw [show ((2 ^ 4 ||| 2 ^ 1 : Nat) : Int) = 18 from rfl] at this
  rw [this]; cases tb c 4 <;> cases tb c 1 <;> rfl
theorem and_3 (c : Int) (hc : W32 c) : bits .and .u32 c 3 = if tb c 1 then (if tb c 0 then 3 else 2) else (if tb c 0 then 1 else 0) := by
  have := and_two c 1 0 hc (by omega) (by omega)
  rw [show ((2 ^ 1 ||| 2 ^ 0 : Nat) : Int) = 3 from rfl] at this
  rw [this]; cases tb c 1 <;> cases tb c 0 <;> rfl

/-! the functions -/
/-- it is within an exception -/
def inX (s : St) : Bool := tb (s.C 12) 1
def rdF (s : St) (n : Int) : Int := if n = 1 then s.C 9 % 8 else if n = 0 ∨ n = 2 ∨ (8 ≤ n ∧ n ≤ 15) then s.C n.toNat else 0
def wrF (s : St) (n v : Int) : St :=
  if n = 0 then s.setC 0 (bits .and .u32 v 7)
  else if n = 2 then s.setC 2 (bits .and .u32 v 4294966279)
  else if n = 10 then s.setC 10 (bits .and .u32 v 4294966527)
  else if n = 9 then s.setC 9 v
  else if n = 14 then s.setC 14 v
  else if n = 11 then (s.setC 11 v).setC 13 (pu (s.C 13) 32768 0)
  else if n = 12 then s.setC 12 (bits .and .u32 v 65299)
  else if n = 13 then s.setC 13 (pu (s.C 13) 768 v)
  else s
def userB (s : St) : Bool := tb (s.C 12) 4 && !inX s
def pendB (s : St) : Bool := bits .and .u32 (bits .and .u32 (s.C 13) (s.C 12)) 65280 != 0
def takenB (s : St) : Bool := pendB s && (tb (s.C 12) 0 && !inX s)
def St.jump (s : St) (x : Int) : St := ((s.setPC x).setNext ((x + 4) % 4294967296)).setSlot false
/-- where Return leads is noted -/
def keepF (s : St) : St := if s.Slot then (s.setC 14 ((s.PC - 4) % 4294967296)).setC 13 (pu (s.C 13) 2147483648 2147483648) else (s.setC 14 s.PC).setC 13 (pu (s.C 13) 2147483648 0)
def codeF (s : St) (code : Int) : St := (s.setC 13 (pu (s.C 13) 124 (code % 4294967296 * 4 % 4294967296))).setC 12 (pu (s.C 12) 2 2)
def enterF (s : St) (code : Int) (refill : Bool) : St :=
  if inX s then (codeF s code).jump 2147484032 else (codeF (keepF s) code).jump (if refill then 2147483648 else 2147484032)
def badF (s : St) (va : Int) (table : Bool) : St := if table then (s.setC 8 va).setC 10 (pu (s.C 10) 4294966272 va) else s.setC 8 va
def retF (s : St) : St := ((s.setC 12 (pu (s.C 12) 2 0)).setLink false).jump (s.C 14)
def missI (s : St) : Int := if (s.C 11 - s.C 9) % 4294967296 = 0 then 4294967296 else (s.C 11 - s.C 9) % 4294967296
def goB (s : St) (n : Int) : Bool := decide (1 ≤ n ∧ missI s ≤ n)
def timeF (s : St) (n : Int) : St := (s.setTime (wrap64 (s.Time + n))).setC 9 ((s.C 9 + n) % 4294967296)
def goF (s : St) (n : Int) : St := if n < 1 then s else if missI s ≤ n then (timeF s n).setC 13 (pu (s.C 13) 32768 32768) else timeF s n
def lineF (s : St) (up : Bool) : St := s.setC 13 (pu (s.C 13) 1024 (if up then 1024 else 0))
def freshF : St := (((St.zero).setC 15 98304).setPC 2147484672).setNext 2147484676

theorem St.Ok.of_fresh : freshF.Ok := { St.zero_ok with c := if_all St.zero_ok.c 15 ⟨by decide, by decide⟩, pc := ⟨by decide, by decide⟩, nx := ⟨by decide, by decide⟩ }
theorem user_prog (s : St) (h : s.Ok) : (bits .and .u32 (s.C 12) 18 == 16) = userB s := by
  rw [and_18 _ (h.c 12)]; unfold userB inX; cases tb (s.C 12) 4 <;> cases tb (s.C 12) 1 <;> rfl
theorem ie_prog (s : St) (h : s.Ok) : (bits .and .u32 (s.C 12) 3 == 1) = (tb (s.C 12) 0 && !inX s) := by
  rw [and_3 _ (h.c 12)]; unfold inX; cases tb (s.C 12) 0 <;> cases tb (s.C 12) 1 <;> rfl
theorem exl0 (s : St) (h : s.Ok) (e : inX s = false) : bits .and .u32 (s.C 12) 2 = 0 := by
  rw [and_2 _ (h.c 12)]; unfold inX at e; rw [e]; rfl
theorem exl2 (s : St) (h : s.Ok) (e : inX s = true) : bits .and .u32 (s.C 12) 2 = 2 := by
  rw [and_2 _ (h.c 12)]; unfold inX at e; rw [e]; rfl
theorem w_64 (x : Int) : W64 (wrap64 x) := by unfold W64 wrap64; omega
theorem miss_rng (s : St) : 1 ≤ missI s ∧ missI s ≤ 4294967296 := by unfold missI; split <;> omega

/-! worlds in which one State has turned -/
section
variable {w w' w'' : World} {g : Nat} {s s' : St}
theorem Turned.refl (h : StAt w g s) : Turned w w g s := ⟨h, Fr.refl _ _, rfl⟩
theorem Turned.trans (h : Turned w w' g s) (k : Turned w' w'' g s') : Turned w w'' g s' := ⟨k.at_, h.fr.trans k.fr, k.size.trans h.size⟩
theorem Turned.drew (h : Turned w w' g s) : Turned w w'.drew g s := ⟨h.at_.drew, h.fr.drew, h.size⟩
theorem Turned.drewN (h : Turned w w' g s) (n : Nat) : Turned w (w'.drewN n) g s := ⟨h.at_.drewN n, h.fr.drewN n, h.size⟩
theorem Turned.of (h : Turned w w' g s) {i : Nat} {v : Value} (k : StAt (w'.setCell ⟨g, i, none⟩ v) g s') : Turned w (w'.setCell ⟨g, i, none⟩ v) g s' :=
  ⟨k, h.fr.setCell (.inl rfl) v, by rw [← h.size]; simp [World.setCell]⟩
theorem Turned.setC (h : Turned w w' g s) (n : Nat) (hn : n < 16) (x : Int) (hx : W32 x) : Turned w (w'.setCell ⟨g, 39 + n, none⟩ (.int .u32 x)) g (s.setC n x) := h.of (h.at_.setC n hn x hx)
theorem Turned.setR (h : Turned w w' g s) (n : Nat) (hn : n < 32) (x : Int) (hx : W32 x) : Turned w (w'.setCell ⟨g, n, none⟩ (.int .u32 x)) g (s.setR n x) := h.of (h.at_.setR n hn x hx)
theorem Turned.setPC (h : Turned w w' g s) (x : Int) (hx : W32 x) : Turned w (w'.setCell ⟨g, 34, none⟩ (.int .u32 x)) g (s.setPC x) := h.of (h.at_.setPC x hx)
theorem Turned.setNext (h : Turned w w' g s) (x : Int) (hx : W32 x) : Turned w (w'.setCell ⟨g, 35, none⟩ (.int .u32 x)) g (s.setNext x) := h.of (h.at_.setNext x hx)
theorem Turned.setSlot (h : Turned w w' g s) (x : Bool) : Turned w (w'.setCell ⟨g, 36, none⟩ (.bool x)) g (s.setSlot x) := h.of (h.at_.setSlot x)
theorem Turned.setLink (h : Turned w w' g s) (x : Bool) : Turned w (w'.setCell ⟨g, 37, none⟩ (.bool x)) g (s.setLink x) := h.of (h.at_.setLink x)
theorem Turned.setTime (h : Turned w w' g s) (x : Int) (hx : W64 x) : Turned w (w'.setCell ⟨g, 72, none⟩ (.int .i64 x)) g (s.setTime x) := h.of (h.at_.setTime x hx)
theorem Turned.to (h : Turned w w' g s) (e : s = s') : Turned w w' g s' := e ▸ h
/-! its registers -/
theorem StAt.c0 (h : StAt w g s) : w.cell? ⟨g, 39, none⟩ = some (.int .u32 (s.C 0)) := h.cC 0 (by omega)
theorem StAt.c2 (h : StAt w g s) : w.cell? ⟨g, 41, none⟩ = some (.int .u32 (s.C 2)) := h.cC 2 (by omega)
theorem StAt.c8 (h : StAt w g s) : w.cell? ⟨g, 47, none⟩ = some (.int .u32 (s.C 8)) := h.cC 8 (by omega)
theorem StAt.c9 (h : StAt w g s) : w.cell? ⟨g, 48, none⟩ = some (.int .u32 (s.C 9)) := h.cC 9 (by omega)
theorem StAt.c10 (h : StAt w g s) : w.cell? ⟨g, 49, none⟩ = some (.int .u32 (s.C 10)) := h.cC 10 (by omega)
theorem StAt.c11 (h : StAt w g s) : w.cell? ⟨g, 50, none⟩ = some (.int .u32 (s.C 11)) := h.cC 11 (by omega)
theorem StAt.c12 (h : StAt w g s) : w.cell? ⟨g, 51, none⟩ = some (.int .u32 (s.C 12)) := h.cC 12 (by omega)
theorem StAt.c13 (h : StAt w g s) : w.cell? ⟨g, 52, none⟩ = some (.int .u32 (s.C 13)) := h.cC 13 (by omega)
theorem StAt.c14 (h : StAt w g s) : w.cell? ⟨g, 53, none⟩ = some (.int .u32 (s.C 14)) := h.cC 14 (by omega)
theorem StAt.c15 (h : StAt w g s) : w.cell? ⟨g, 54, none⟩ = some (.int .u32 (s.C 15)) := h.cC 15 (by omega)
end
/-- it returns v, and of what was there block g alone has turned, and holds s now -/
def RetS (v : Value) (w : World) (g : Nat) (s : St) (e : Ending) (w' : World) : Prop := e = .returned v ∧ Turned w w' g s
/-- it returns v, and the world has at most made draws -/
def Dr (v : Value) (w : World) (e : Ending) (w' : World) : Prop := e = .returned v ∧ ∃ n, w' = w.drewN n
/-- it returns v, what was there is as it was -/
def RetB (v : Value) (w : World) (e : Ending) (w' : World) : Prop := e = .returned v ∧ Below w.heap.size w w'
end Go.Proofs.Ytecddcbkgelcmaa

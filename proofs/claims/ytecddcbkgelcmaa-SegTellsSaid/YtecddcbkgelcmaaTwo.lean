/-
  Two States side by side that hold the same; a call that turns one State and may make memory; regions that draw their order and whose calls make memory: what was there stays as it was, one walk serves every order.
-/
import Derived.Test.YtecddcbkgelcmaaC0
import Derived.Test.YtecddcbkgelcmaaBit
import Derived.Deep.Quiet
namespace Go.Proofs.Ytecddcbkgelcmaa
open Go.RowKit
set_option linter.unusedVariables false

/-- of what was there block g alone has turned, and holds s; new blocks may be there -/
structure Tn (w w' : World) (g : Nat) (s : St) : Prop where
  at_ : StAt w' g s
  fr : Fr (fun k => k = g) w w'
/-- two blocks hold the same State -/
structure Two (w : World) (g m : Nat) (s : St) : Prop where
  a : StAt w g s
  b : StAt w m s
  ne : g ≠ m
def Own2 (g m k : Nat) : Prop := k = g ∨ k = m
theorem own2_new {g m B : Nat} (hg : B ≤ g) (hm : B ≤ m) : ∀ k, Own2 g m k → B ≤ k := by rintro k (rfl | rfl); exact hg; exact hm
section
variable {w w' w1 w2 : World} {g m : Nat} {s s' : St}
theorem Turned.tn (h : Turned w w' g s) : Tn w w' g s := ⟨h.at_, h.fr⟩
theorem Tn.trans {s'' : St} (h : Tn w w1 g s') (k : Tn w1 w2 g s'') : Tn w w2 g s'' := ⟨k.at_, h.fr.trans k.fr⟩
theorem Tn.to (h : Tn w w' g s) (e : s = s') : Tn w w' g s' := e ▸ h
theorem Tn.of_below (h : StAt w g s) (b : Below w.heap.size w w') : Tn w w' g s := ⟨h.fr (Fr.of_below (S := fun _ => False) b) id, Fr.of_below b⟩
theorem StAt.below (h : StAt w g s) (b : Below w.heap.size w w') : StAt w' g s := h.fr (Fr.of_below (S := fun _ => False) b) id
theorem Two.fr {S : Nat → Prop} (h : Two w g m s) (f : Fr S w w') (hg : ¬ S g) (hm : ¬ S m) : Two w' g m s := ⟨h.a.fr f hg, h.b.fr f hm, h.ne⟩
theorem Two.below (h : Two w g m s) (b : Below w.heap.size w w') : Two w' g m s := ⟨h.a.below b, h.b.below b, h.ne⟩
/-- both have turned alike -/
theorem Two.both (h : Two w g m s) (t1 : Tn w w1 g s') (t2 : Tn w1 w2 m s') : Two w2 g m s' := ⟨t1.at_.fr t2.fr h.ne, t2.at_, h.ne⟩
theorem Two.fr2 (t1 : Tn w w1 g s') (t2 : Tn w1 w2 m s') : Fr (Own2 g m) w w2 := (t1.fr.mono fun _ e => .inl e).trans (t2.fr.mono fun _ e => .inr e)
theorem Two.rest (h : Two w g m s) (t1 : Tn w w1 g s') : StAt w1 m s := h.b.fr t1.fr (fun e => h.ne e.symm)
theorem row_two {w3 : World} {X T n : Nat} {F : Nat → Value} (h : w1.rowIs X T n F) (t1 : Tn w1 w2 g s) (t2 : Tn w2 w3 m s') (hX : ¬ X = g ∧ ¬ X = m) : w3.rowIs X T n F :=
  (h.of_block (t1.fr.block _ h.lt hX.1)).of_block (t2.fr.block _ (h.of_block (t1.fr.block _ h.lt hX.1)).lt hX.2)
end
/-- it returns v; block g alone has turned, and holds s now; it may have made memory -/
def RetT (v : Value) (w : World) (g : Nat) (s : St) (e : Ending) (w' : World) : Prop := e = .returned v ∧ Tn w w' g s
theorem below_drewN {B : Nat} {w w' : World} (h : Below B w w') (n : Nat) : Below B w (w'.drewN n) := ⟨h.os, h.tape, h.output, h.size, h.block⟩
/-- what was there is as it was: the class of worlds of a region whose calls make memory -/
def Bl (w w' : World) : Prop := Below w.heap.size w w'
theorem Bl.step {w w1 w2 : World} (h : Bl w w1) (k : Below w1.heap.size w1 w2) : Bl w w2 := h.trans (k.mono h.size)
theorem RetB.bl {w w1 : World} {v : Value} (h : Bl w w1) : ∀ e w2, RetB v w1 e w2 → e = .returned v ∧ Bl w w2 := fun _ _ k => ⟨k.1, h.step k.2⟩
section
variable {P : Program} {id : Nat} {Q : Exit → Act → World → Prop} {a : Act} {w : World} {l : List Oper}
theorem wp_region_bl (hm : P.follows .mixedOrders = true) (hB : Region.lexB .any l.toArray = true)
    (h : wpQuiet P l.toArray (Bl w) (fun a' => ∀ w', Bl w w' → Q .normal a' w') l a) : (Code.region id l.toArray true).wp P Q a w :=
  wp_region_quiet (C := Bl w) hm hB ((Below.refl w.heap.size w).drew) (by simpa using h)
end
/-! loads in a region that draws its order -/
section
variable {ops : Array Oper} {rest : List Oper} {C : World → Prop} {Q : Act → Prop} {a : Act} {dst : Option Tmp} {t ty ty' : TypeId} {pos : String} {aft : Array Edge} {g : Nat} {s : St} {w : World}
theorem run_loadSt {w : World} (h : StAt w g s) : (Instr.loadAt 30 (.pointer (some ⟨g, 0, none⟩))).run Try.prog w = .ok (.agg s.arr) w := by
  simp only [Instr.loadAt, Instr.sureAddr, Sem.run_bind, Sem.run_pure, Result.andThen_ok]
  exact run_loadVar_row w g _ _ _ _ _ h.blk Try.underlying30 rfl (by rw [s.arr_size]; exact size_st)
theorem quiet_loadSt {x : Operand} (hx : a.eval x = .pointer (some ⟨g, 0, none⟩)) (hC : ∀ w, C w → StAt w g s) (h : wpQuiet Try.prog ops C Q rest (a.put dst (.agg s.arr))) :
    wpQuiet Try.prog ops C Q (⟨dst, .load 30 x, ty, pos, aft, none⟩ :: rest) a :=
  BigFrame.wpQuiet_want rfl fun K hK => ⟨.agg s.arr, fun w hw => by
    unfold Oper.quietAt execOp
    simp only [hx, Sem.run_bind, run_loadSt (hC w hw), Result.andThen_ok, Sem.run_pure, Oper.quietUpon, and_self], hK _ h⟩
theorem quiet_eqlSt {x y : Operand} (hx : a.eval x = .agg s.arr) (hy : a.eval y = .agg s.arr) (h : wpQuiet Try.prog ops C Q rest (a.put dst (.bool true))) :
    wpQuiet Try.prog ops C Q (⟨dst, .binOp .eql 30 x y ty', ty, pos, aft, none⟩ :: rest) a :=
  BigFrame.wpQuiet_want rfl fun K hK => ⟨.bool true, fun w hw => by
    have hg : (eqGuard .eql 30 x y (.agg s.arr) (.agg s.arr)).run Try.prog w = .ok () w := by
      unfold eqGuard
      simp
    unfold Oper.quietAt execOp
    simp only [hx, hy, Sem.run_bind, hg, s.eql w, Result.andThen_ok, Sem.run_pure, Oper.quietUpon, and_self], hK _ h⟩
theorem quiet_loadEnt {x : Operand} {b o : Nat} {u v : Value} (hx : a.eval x = .pointer (some ⟨b, o, none⟩)) (hC : ∀ w, C w → w.cell? ⟨b, o, none⟩ = some u ∧ w.cell? ⟨b, o + 1, none⟩ = some v) (h : wpQuiet Try.prog ops C Q rest (a.put dst (.agg #[u, v]))) :
    wpQuiet Try.prog ops C Q (⟨dst, .load 27 x, ty, pos, aft, none⟩ :: rest) a :=
  BigFrame.wpQuiet_want rfl fun K hK => ⟨.agg #[u, v], fun w hw => by
    have hr : w.rangeAt b o [u, v] := fun j y hy => by
      match j, hy with
      | 0, hy => simp at hy; subst hy; exact (hC w hw).1
      | 1, hy => simp at hy; subst hy; exact (hC w hw).2
    unfold Oper.quietAt execOp
    simp only [hx, Sem.run_bind, run_loadAt_mid w b o 27 [u, v] _ hr Try.underlying27 rfl (by kernel_rfl), Result.andThen_ok, Sem.run_pure, Oper.quietUpon, and_self], hK _ h⟩
theorem quiet_loadW {x : Operand} {p : Addr} {v : Value} (hx : a.eval x = .pointer (some p)) (hC : ∀ w, C w → w.cell? p = some v) (h : wpQuiet Try.prog ops C Q rest (a.put dst v)) :
    wpQuiet Try.prog ops C Q (⟨dst, .load 22 x, ty, pos, aft, none⟩ :: rest) a :=
  BigFrame.wpQuiet_want rfl fun K hK => ⟨v, fun w hw => by
    have hc := hC w hw
    have hr : (Instr.loadAt 22 (.pointer (some p))).run Try.prog w = .ok v w := by go_simp
    unfold Oper.quietAt execOp
    simp only [hx, Sem.run_bind, hr, Result.andThen_ok, Sem.run_pure, Oper.quietUpon, and_self], hK _ h⟩
theorem Bl.cell {w w' : World} {p : Addr} {v : Value} (hb : Bl w w') (h : w.cell? p = some v) : w'.cell? p = some v := (Below.cell hb (block_lt_of_cell h)).trans h
end
end Go.Proofs.Ytecddcbkgelcmaa

/-
  A region that draws its order and ends in one store that waits for all else: what reads is taken first; that the cells read are as they were must be shown behind every operation but that store.
-/
import Derived.Test.YtkfedihaldpgmaaGreatWd9
import Derived.OrdersHeld
import Derived.Deep.RegionHeld3
namespace Go.Proofs.YtkfedihaldpgmaaGreat
open Go.RowKit
set_option linter.unusedVariables false
set_option linter.unusedSimpArgs false
section
variable {P : Program} {md : Region.Mode} {ops : Array Oper} {Q : Exit → Act → World → Prop} {S : World → Prop} {z : Nat}
/-- whatever order is picked from here on, and S holds behind every operation but number z -/
def wpT (P : Program) (md : Region.Mode) (ops : Array Oper) (Q : Exit → Act → World → Prop) (S : World → Prop) (z : Nat) : Nat → Array Bool → Act → World → Prop
  | 0, listed, a, w => Region.ready md ops listed = [] ∧ Q .normal a w
  | fuel + 1, listed, a, w =>
    (Region.ready md ops listed = [] → Q .normal a w) ∧
    ∀ i ∈ Region.ready md ops listed, wpOp P ops Q i (fun a' w' => (i ≠ z → S w') ∧ wpT P md ops Q S z fuel (listed.setIfInBounds i true) a' w') a w
theorem wpT_any : ∀ (fuel : Nat) (listed : Array Bool) (a : Act) (w : World), wpT P md ops Q S z fuel listed a w → wpAny P md ops Q fuel listed a w
  | 0, _, _, _, h => h
  | fuel + 1, _, _, _, h => ⟨h.1, fun i hi => wpOp_mono (fun a' w' h' => wpT_any fuel _ a' w' h'.2) (h.2 i hi)⟩
/-- number z waits for number i -/
def waitsB (md : Region.Mode) (ops : Array Oper) (z i : Nat) : Bool := ((ops[z]?).map fun o => o.after.any fun e => Region.binds md e && e.on == i).getD false
theorem waits_spec {i : Nat} (h : waitsB md ops z i = true) : ∃ o, ops[z]? = some o ∧ ∃ e ∈ o.after, Region.binds md e = true ∧ e.on = i := by
  unfold waitsB at h
  cases ho : ops[z]? with
  | none => rw [ho] at h; cases h
  | some o =>
    rw [ho] at h
    have h : (o.after.any fun e => Region.binds md e && e.on == i) = true := h
    obtain ⟨k, hk, he⟩ := Array.any_eq_true.1 h
    simp only [Bool.and_eq_true, beq_iff_eq] at he
    exact ⟨o, rfl, _, Array.getElem_mem hk, he.1, he.2⟩
/-- of number i and any other one, one waits for the other, or they are apart -/
def soloB (md : Region.Mode) (ops : Array Oper) (i : Nat) : Bool :=
  (List.range ops.size).all fun j => j == i || waitsB md ops j i || waitsB md ops i j || ((ops[i]?).map fun oi => ((ops[j]?).map fun oj => oi.apart ops oj).getD true).getD true
theorem solo_spec {i j : Nat} {oi oj : Oper} (h : soloB md ops i = true) (hi : ops[i]? = some oi) (hj : ops[j]? = some oj) (hne : j ≠ i) (h1 : waitsB md ops j i = false) (h2 : waitsB md ops i j = false) : oi.apart ops oj = true := by
  have := List.all_eq_true.1 h j (List.mem_range.2 (Array.getElem?_eq_some_iff.1 hj).1)
  simpa [hne, h1, h2, hi, hj] using this
/-- one that may come up waits for none that has not come up yet -/
theorem ready_waits {listed : Array Bool} {j i : Nat} (hj : j ∈ Region.ready md ops listed) (hi : i ∈ Region.ready md ops listed) : waitsB md ops j i = false := by
  cases h : waitsB md ops j i with
  | false => rfl
  | true =>
    obtain ⟨o, ho, e, he, hb, hon⟩ := waits_spec h
    obtain ⟨_, o', ho', hall⟩ := mem_ready.1 hj
    obtain rfl : o = o' := Option.some.inj (ho.symm.trans ho')
    have h1 := hall e he hb
    have h0 := (mem_ready.1 hi).1
    rw [hon] at h1
    rcases Nat.lt_or_ge i listed.size with hs | hs
    · simp [hs] at h0 h1; rw [h0] at h1; cases h1
    · simp [Array.getElem?_eq_none hs] at h1
theorem wpT_take {i : Nat} {oi : Oper} {v : Value} {fuel : Nat} {listed : Array Bool} {a : Act} {w : World} (hi : ops[i]? = some oi)
    (hs : Region.noSelect ops = true) (hf : soloB md ops i = true) (hr0 : (Region.ready md ops listed).contains i = true) (hz : waitsB md ops z i = true)
    (hQ : ∀ c a w, Q (.panic c) (a.put oi.dst v) w → Q (.panic c) a w) (hS : S w) (hy : YieldsIf P ops S oi v a)
    (h : wpT P md ops Q S z fuel (listed.setIfInBounds i true) (a.put oi.dst v) w) : wpT P md ops Q S z (fuel + 1) listed a w := by
  have hsel := Region.noSelect_spec hs
  have hr : i ∈ Region.ready md ops listed := by simpa using hr0
  clear hs hr0
  revert listed a w
  induction fuel with
  | zero =>
    intro listed a w hS hy h hr
    refine ⟨fun e => absurd (e ▸ hr) List.not_mem_nil, fun j hj => ?_⟩
    by_cases hji : j = i
    · exact hji ▸ hy.wpOp hi hS ⟨fun _ => hS, h⟩
    · exact absurd (h.1 ▸ ready_mono hj hji) List.not_mem_nil
  | succ f ih =>
    intro listed a w hS hy h hr
    refine ⟨fun e => absurd (e ▸ hr) List.not_mem_nil, fun j hj => ?_⟩
    by_cases hji : j = i
    · exact hji ▸ hy.wpOp hi hS ⟨fun _ => hS, h⟩
    · obtain ⟨_, oj, hoj, _⟩ := mem_ready.1 hj
      have hjz : j ≠ z := fun e => by
        have := ready_waits hj hr
        rw [e, hz] at this
        cases this
      have step := wpOp_putIf hoj (solo_spec hf hi hoj hji (ready_waits hj hr) (ready_waits hr hj)) (fun cs b => hsel i oi cs b hi) (fun cs b => hsel j oj cs b hoj) hQ hy (h.2 j (ready_mono hj hji))
      exact wpOp_mono (fun a' w' k => ⟨fun _ => k.2.1 hjz, ih (k.2.1 hjz) k.1 (by rw [Array.setIfInBounds_comm _ _ hji]; exact k.2.2) (ready_mono hr (Ne.symm hji))⟩) step
/-- one operation alone may come up -/
theorem wpT_one {i : Nat} {o : Oper} {fuel : Nat} {listed : Array Bool} {a : Act} {w : World} (hr : Region.ready md ops listed = [i]) (ho : ops[i]? = some o)
    (h : ∀ K : Act → World → Prop, Shut (∀ a w, S w → wpT P md ops Q S z fuel (listed.setIfInBounds i true) a w → K a w) → if Region.wanted o (yielded ops a.tmps) = true then Oper.wp P o a w K Q else K (a.put o.dst undef) w) : wpT P md ops Q S z (fuel + 1) listed a w :=
  ⟨fun h0 => (by rw [hr] at h0; cases h0), fun j hj => by
    rw [hr] at hj
    have : j = i := by simpa using hj
    subst this
    exact wpOp_step ho fun K hK => h K fun a w hS hT => hK a w ⟨fun _ => hS, hT⟩⟩
/-- one of two may come up -/
theorem wpT_two {i j : Nat} {oi oj : Oper} {fuel : Nat} {listed : Array Bool} {a : Act} {w : World} (hr : Region.ready md ops listed = [i, j]) (hoi : ops[i]? = some oi) (hoj : ops[j]? = some oj)
    (h1 : ∀ K : Act → World → Prop, Shut (∀ a w, S w → wpT P md ops Q S z fuel (listed.setIfInBounds i true) a w → K a w) → if Region.wanted oi (yielded ops a.tmps) = true then Oper.wp P oi a w K Q else K (a.put oi.dst undef) w)
    (h2 : ∀ K : Act → World → Prop, Shut (∀ a w, S w → wpT P md ops Q S z fuel (listed.setIfInBounds j true) a w → K a w) → if Region.wanted oj (yielded ops a.tmps) = true then Oper.wp P oj a w K Q else K (a.put oj.dst undef) w) : wpT P md ops Q S z (fuel + 1) listed a w :=
  ⟨fun h0 => (by rw [hr] at h0; cases h0), fun k hk => by
    rw [hr] at hk
    have : k = i ∨ k = j := by simpa using hk
    rcases this with rfl | rfl
    · exact wpOp_step hoi fun K hK => h1 K fun a w hS hT => hK a w ⟨fun _ => hS, hT⟩
    · exact wpOp_step hoj fun K hK => h2 K fun a w hS hT => hK a w ⟨fun _ => hS, hT⟩⟩
/-- the last one -/
theorem wpT_last {o : Oper} {fuel : Nat} {listed : Array Bool} {a : Act} {w : World} (hr : Region.ready md ops listed = [z]) (ho : ops[z]? = some o) (hd : Region.ready md ops (listed.setIfInBounds z true) = [])
    (h : ∀ K : Act → World → Prop, Shut (∀ a w, Q .normal a w → K a w) → if Region.wanted o (yielded ops a.tmps) = true then Oper.wp P o a w K Q else K (a.put o.dst undef) w) : wpT P md ops Q S z (fuel + 1) listed a w :=
  ⟨fun h0 => (by rw [hr] at h0; cases h0), fun j hj => by
    rw [hr] at hj
    have : j = z := by simpa using hj
    subst this
    refine wpOp_step ho fun K hK => h K fun a w hQ => hK a w ⟨fun h => absurd rfl h, ?_⟩
    cases fuel with
    | zero => exact ⟨hd, hQ⟩
    | succ f => exact ⟨fun _ => hQ, fun i hi => by rw [hd] at hi; cases hi⟩⟩
theorem wp_region_T {id : Nat} {a : Act} {w : World} (z : Nat) (hm : P.follows .mixedOrders = true) (h : wpT P .any ops Q S z ops.size (Array.replicate ops.size false) a w.drew) : (Code.region id ops true).wp P Q a w :=
  wp_region_any hm (wpT_any _ _ _ _ h)
/-- append, as one step -/
theorem step_append_go {o : Oper} {a : Act} {w w' : World} {K : Act → World → Prop} {E : Prop} (hg : o.guard = none) (d s : Operand) (t t' : TypeId) (ho : o.op = .call { callee := .builtin .append, args := #[d, s], argTypes := #[t, t'] }) (v u : Value) (hd : a.eval d = v) (hs : a.eval s = u) {v' : Value}
    (hr : (Builtin.append_ #[t, t'] o.type #[v, u]).run P w = .ok v' w') (h : K (a.put o.dst v') w') : if Region.wanted o (yielded ops a.tmps) = true then Oper.wp P o a w K Q else E := by
  have hw : Region.wanted o (yielded ops a.tmps) = true := by simp [Region.wanted, hg]
  rw [if_pos hw]
  exact wp_bi2 Builtin.append_ (fun _ _ _ _ => rfl) d s t t' ho v u hd hs hr h
end
end Go.Proofs.YtkfedihaldpgmaaGreat

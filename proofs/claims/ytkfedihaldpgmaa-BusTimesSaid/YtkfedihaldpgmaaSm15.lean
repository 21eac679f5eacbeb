/-
  Chapter 15: function 'same': both tell the same of Next, Raised, Events, Out and Disk.
-/
import Derived.Test.YtkfedihaldpgmaaTw15
import Derived.Deep.RegionHeld3
import Derived.Deep.RegionWith
import Derived.Deep.DeepCutAuto
import Derived.Deep.CutBlock
namespace Go.Proofs.Ytkfedihaldpgmaa
open Go.RowKit
set_option linter.unusedVariables false
set_option linter.unusedSimpArgs false
theorem row_by {w : World} {X N : Nat} {f : Nat → Int} (h : w.rowIs X 5 N (fun i => .int .u8 (f i))) (hb : ∀ i, 0 ≤ f i ∧ f i ≤ 255) : ByAt (fun _ => True) w (.slice (some ⟨X, 0, none⟩) N N) N f :=
  .inr ⟨⟨X, 0, none⟩, N, rfl, Nat.le_refl _, fun _ => ⟨rfl, trivial⟩, fun i hi => ⟨by rw [add_none, Nat.zero_add]; exact h.cell hi, hb i⟩⟩
/-- the disk's bytes as a text -/
theorem Mk.dtext {T : TypeId} {w : World} {r y : Nat} {O : Nat → Prop} {p n : Nat} {C D : Nat → Int} (h : Mk T w r y O p n C D) : (convert 32 9 (.slice (some ⟨y, 0, none⟩) (64 * n) (64 * n))).run Try.prog w = .ok (.string (strN (64 * n) D)) w := conv_any (row_by h.row h.bD)
/-- 'take first', the slot named -/
theorem take_d {PP : Program} {md : Region.Mode} {ops : Array Oper} {QQ : Exit → Act → World → Prop} {SS : World → Prop} {i : Nat} (d : Option Tmp) {oi : Oper} {v : Value} {fuel : Nat} {listed : Array Bool} {a : Act} {w : World} (hi : ops[i]? = some oi) (hd : oi.dst = d)
    (hs : Region.noSelect ops = true) (hf : Region.free md ops listed i = true) (hr : (Region.ready md ops listed).contains i = true) (hQ : ∀ c a w, QQ (.panic c) (a.put d v) w → QQ (.panic c) a w) (hy : YieldsIf PP ops SS oi v a) (hS : SS w)
    (h : wpAnyH PP md ops QQ SS fuel (listed.setIfInBounds i true) (a.put d v) w) : wpAnyH PP md ops QQ SS (fuel + 1) listed a w := by
  subst hd
  exact wpAnyH_take hi hs hf hr hQ hy hS h
section
variable {W0 w : World} {G : PG} {m r y : Nat} {O : Nat → Prop} {U : PV} {V : SV} {S : BS}
end
end Go.Proofs.Ytkfedihaldpgmaa

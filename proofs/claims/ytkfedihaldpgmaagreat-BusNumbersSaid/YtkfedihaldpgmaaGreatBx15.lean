/-
  Chapter 15: the document's bus: Set and Line of every device, in the one state.
-/
import Derived.Test.YtkfedihaldpgmaaGreatBu15
namespace Go.Proofs.YtkfedihaldpgmaaGreat
open Go.RowKit
set_option linter.unusedVariables false
set_option linter.unusedSimpArgs false
/-- what Set of word k of device d leaves -/
def setB (d k : Nat) (v now : Int) (S : BS) : BS := match d with
  | 0 => if k = 1 then { S with ask := bits .and .u32 v 62 } else S
  | 1 => wrT0 k v now S
  | 2 => wrT1 k v now S
  | 3 => wrU k v now S
  | 4 => wrM k v now S
  | 5 => wrK k v now S
  | _ => S
/-- how many words a device has -/
def wordsN (d : Nat) : Nat := match d with
  | 0 => 4
  | 1 => 3
  | 2 => 3
  | 3 => 3
  | 4 => 5
  | 5 => 4
  | _ => 0
/-- words are words -/
structure Gs (S : BS) : Prop where
  a0 : 0 ≤ S.a ∧ S.a ≤ 1000000
  l0 : S.L.length ≤ 990000
  p0 : 0 ≤ S.p0 ∧ S.p0 < 4294967296
  p1 : 0 ≤ S.p1 ∧ S.p1 < 4294967296
  n0 : 0 ≤ S.n ∧ S.n < 4294967296
section
variable {w w' : World} {m r y : Nat} {O : Nat → Prop} {p n : Nat} {V : SV} {S : BS}
set_option maxRecDepth 100000 in
set_option maxHeartbeats 1000000 in
theorem bset_any (d k : Nat) (x now : Int) (h : Bx w m r y O p n V S) (hd : d < 6) (hk : k ≤ 15) (hG : Gs S) (x0 : 0 ≤ x) (x1 : x < 4294967296) (n0 : 0 ≤ now) (n1 : now ≤ 4611686018427387000) :
    Calls Tryz.prog 33 #[.pointer (some ⟨m, 0, none⟩), .int .i64 d, .int .u32 ((k : Int) * 4), .int .u32 x, .int .i64 now] w (RetN (.bool (decide (k < wordsN d))) w m r y O p n V (setB d k x now S)) := by
  have H1 := btimer0_any k (k : Int) x now h hk rfl x0 x1 hG.l0 hG.a0 hG.p0.1 hG.p0.2 n0 n1
  have H2 := btimer1_any k (k : Int) x now h hk rfl x0 x1 hG.l0 hG.a0 hG.p1.1 hG.p1.2 n0 n1
  have H3 := buart_any k (k : Int) x now h hk rfl x0 x1 hG.l0 hG.a0 n0 n1
  have H4 := bdma_any k (k : Int) x now h hk rfl x0 x1 hG.l0 hG.a0 hG.n0.1 hG.n0.2 n0 n1
  have H5 := bdisk_any k (k : Int) x now h hk rfl x0 x1 hG.l0 hG.a0 n0 n1
  have HH := Lib.hid (And.intro H1 (And.intro H2 (And.intro H3 (And.intro H4 H5))))
  have b24 := h.b24
  have f24 := h.wb.st.frozen 24
  clear H1 H2 H3 H4 H5
  match d, hd with
  | 0, _ =>
    by_cases hk1 : k = 1
    · subst hk1
      go_enter Tryz.func33, Tryz.ntmps33
      go_wp2
      go_ret
      exact ⟨rfl, V, h.setAsk _, CB.set m O V w 24 _⟩
    · have HA : Hid (setB 0 k x now S = S) := by show (if k = 1 then _ else S) = S; rw [if_neg hk1]
      have hne : ((k : Int) * 4 == 4) = false := beq_false_of_ne (by omega)
      have HL : Hid (decide ((k : Int) * 4 < 16) = decide (k < 4)) := by show _ = _; rw [decide_eq_decide]; omega
      go_enter Tryz.func33, Tryz.ntmps33
      go_wp2
      go_ret
      exact ⟨by first | rw [HL.out]; rfl | (show _ = _; congr 2; rw [decide_eq_decide]; show _ ↔ k < 4; omega), V, by rw [HA.out]; exact h, CB.refl _ _ _ _⟩
  | 1, _ =>
    go_enter Tryz.func33, Tryz.ntmps33
    go_wp2_with fail
    with_reducible refine HH.out.1.mono ?_
    rintro e w1 ⟨rfl, V2, h2, c2⟩
    go_wp2
    go_ret
    exact ⟨rfl, V2, h2, c2⟩
  | 2, _ =>
    go_enter Tryz.func33, Tryz.ntmps33
    go_wp2_with fail
    with_reducible refine HH.out.2.1.mono ?_
    rintro e w1 ⟨rfl, V2, h2, c2⟩
    go_wp2
    go_ret
    exact ⟨rfl, V2, h2, c2⟩
  | 3, _ =>
    go_enter Tryz.func33, Tryz.ntmps33
    go_wp2_with fail
    with_reducible refine HH.out.2.2.1.mono ?_
    rintro e w1 ⟨rfl, V2, h2, c2⟩
    go_wp2
    go_ret
    exact ⟨rfl, V2, h2, c2⟩
  | 4, _ =>
    go_enter Tryz.func33, Tryz.ntmps33
    go_wp2_with fail
    with_reducible refine HH.out.2.2.2.1.mono ?_
    rintro e w1 ⟨rfl, V2, h2, c2⟩
    go_wp2
    go_ret
    exact ⟨rfl, V2, h2, c2⟩
  | 5, _ =>
    go_enter Tryz.func33, Tryz.ntmps33
    go_wp2_with fail
    with_reducible refine HH.out.2.2.2.2.mono ?_
    rintro e w1 ⟨rfl, V2, h2, c2⟩
    go_wp2
    go_ret
    exact ⟨rfl, V2, h2, c2⟩
  | d + 6, hd => exact absurd hd (by omega)
end
end Go.Proofs.YtkfedihaldpgmaaGreat

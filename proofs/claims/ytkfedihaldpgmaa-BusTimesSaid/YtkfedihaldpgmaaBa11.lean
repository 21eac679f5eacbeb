/-
  Chapter 11, from chapter 9's text: as a part of the document's bus: Arm of the document's wheel.
-/
import Derived.Test.YtkfedihaldpgmaaBf11
import Derived.Test.YtkfedihaldpgmaaWa9
namespace Go.Proofs.Ytkfedihaldpgmaa
open Go.RowKit
set_option linter.unusedVariables false
set_option linter.unusedSimpArgs false
section
variable {C : Nat → Value} {w : World} {g : Nat} {v : Value} {L : List Ev} {a : Int}
theorem Ow.cases9 (h : Ow w v L) : (v = .slice none 0 0 ∧ L = []) ∨ ∃ b c, v = .slice (some ⟨b, 0, none⟩) L.length c ∧ L.length ≤ c ∧ c ≤ 9223372036854775808 := by
  rcases h.2 with ⟨rfl, hn⟩ | ⟨g, cap, cur, rfl, _, _, hc, hm, _⟩
  · exact .inl ⟨rfl, List.eq_nil_of_length_eq_zero hn⟩
  · exact .inr ⟨_, _, rfl, hc, by unfold maxLen at hm; omega⟩
/-- append to a slice in new memory -/
theorem app_new {w1 W : World} {vx x : Value} {Lx M : List Ev} (hF : Fr (fun k => w1.heap.size ≤ k) w1 W) (hO : Ow W vx Lx) (hn : ∀ k, vx.ownBlock = some k → w1.heap.size ≤ k) (hx : Sh W x M) (hb : Lx.length + M.length ≤ 1000000) :
    ∃ v' W', (Builtin.append_ #[80, 80] 80 #[vx, x]).run Try.prog W = .ok v' W' ∧ Ow W' v' (Lx ++ M) ∧ Fr (fun k => w1.heap.size ≤ k) w1 W' ∧ (∀ k, v'.ownBlock = some k → w1.heap.size ≤ k) ∧ Fr (fun k => vx.ownBlock = some k) W W' := by
  obtain ⟨v', W', r, O, F, N⟩ := run_append_ev 80 hO hx hb
  refine ⟨v', W', r, O, hF.trans (F.mono fun k e => hn k e), fun k hk => ?_, F⟩
  rcases N with e | e
  · rw [e] at hk; exact hn k hk
  · rw [e] at hk; cases hk; exact hF.size
theorem Sh.one (W : World) (x : Ev) : Sh (W.alloc (.cells #[.int .i64 x.t, .int .i64 x.d, .int .i64 x.s] 50)) (.slice (some ⟨W.heap.size, 0, none⟩) 1 1) [x] :=
  .inr ⟨_, 0, 1, rfl, fun j u hu => by rw [Nat.zero_add, (Rw.ev W x).cell]; exact hu⟩

end
end Go.Proofs.Ytkfedihaldpgmaa

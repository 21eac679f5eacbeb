/-
  Chapter 11: a timer of package timer beside the document's bus; what a Take and a Fire do; a call in its box.
-/
import Derived.Test.YtgpphbganpoinaaBn11
namespace Go.Proofs.Ytgpphbganpoinaa
open Go.RowKit
set_option linter.unusedVariables false
set_option linter.unusedSimpArgs false

/-- bounds of what a timer is: at most n Arms were let by -/
structure Gd (n : Int) (S : TS) : Prop where
  a0 : 0 ≤ S.a
  a1 : S.a ≤ n
  p0 : 0 ≤ S.p
  p1 : S.p < 4294967296
  q0 : ∀ x s, S.q = some (x, s) → 0 ≤ x
/-- when it is due -/
def tmQ (S : TS) : Int := match S.q with
  | some (x, _) => x
  | none => 0
def sqQ (S : TS) : Int := match S.q with
  | some (_, s) => s
  | none => 0
/-- one round: what is due is taken and done -/
def spT (now : Int) (S : TS) : TS := if duB now S then fiT (tmQ S) { S with q := none } else S
def itN (now : Int) : Nat → TS → TS
  | 0, S => S
  | k + 1, S => spT now (itN now k S)
theorem spT_yes {now : Int} {S : TS} (h : duB now S = true) : spT now S = fiT (tmQ S) { S with q := none } := by unfold spT; rw [h]; rfl
theorem spT_no {now : Int} {S : TS} (h : duB now S = false) : spT now S = S := by unfold spT; rw [h]; rfl
theorem due_cases {now : Int} {S : TS} (h : duB now S = true) : S.q = some (tmQ S, sqQ S) ∧ tmQ S ≤ now := by
  unfold duB at h
  unfold tmQ sqQ
  cases hq : S.q with
  | none => rw [hq] at h; cases h
  | some x =>
    obtain ⟨t, s⟩ := x
    rw [hq] at h
    exact ⟨rfl, of_decide_eq_true h⟩
theorem itN_stop {now : Int} {S : TS} {k : Nat} (h : duB now (itN now k S) = false) : ∀ j, itN now (k + j) S = itN now k S
  | 0 => rfl
  | j + 1 => by
    have := itN_stop h j
    show spT now (itN now (k + j) S) = _
    rw [this, spT_no h]
theorem itN_end {now : Int} {S : TS} {k : Nat} (h : duB now (itN now k S) = false) (hk : k ≤ 30) : itN now k S = itN now 30 S := by
  have := itN_stop h (30 - k)
  rw [show k + (30 - k) = 30 by omega] at this
  exact this.symm
section
variable {n now x : Int} {S : TS}
theorem Gd.mono {n2 : Int} (h : Gd n S) (hn : n ≤ n2) : Gd n2 S := ⟨h.a0, by have := h.a1; omega, h.p0, h.p1, h.q0⟩
theorem due_nn (h0 : 0 ≤ now) (p0 : 0 ≤ x) : 0 ≤ due now x := by unfold due; split <;> omega
theorem Gd.arm (h : Gd n S) (h0 : 0 ≤ now) : Gd (n + 1) (arT now S) := by
  refine ⟨?_, ?_, h.p0, h.p1, ?_⟩
  · show 0 ≤ S.a + 1; have := h.a0; omega
  · show S.a + 1 ≤ n + 1; have := h.a1; omega
  · intro x s e
    have e : some (due now S.p, S.a) = some (x, s) := e
    cases e
    exact due_nn h0 h.p0
theorem Gd.noq (h : Gd n S) : Gd n { S with q := none } := ⟨h.a0, h.a1, h.p0, h.p1, fun x s e => by cases e⟩
theorem Gd.fire (h : Gd n S) (h0 : 0 ≤ now) : Gd (n + 1) (fiT now S) := by
  have h1 : Gd n { S with s := true } := ⟨h.a0, h.a1, h.p0, h.p1, h.q0⟩
  unfold fiT
  split
  · exact h1.arm h0
  · exact Gd.mono ⟨h.a0, h.a1, h.p0, h.p1, h.q0⟩ (by omega)
theorem Gd.step (h : Gd n S) : Gd (n + 1) (spT now S) := by
  cases hd : duB now S
  · rw [spT_no hd]; exact h.mono (by omega)
  · rw [spT_yes hd]
    exact h.noq.fire (h.q0 _ _ (due_cases hd).1)
theorem Gd.its (h : Gd n S) : ∀ k : Nat, Gd (n + k) (itN now k S)
  | 0 => by rw [show n + ((0 : Nat) : Int) = n by omega]; exact h
  | k + 1 => by
    have := (Gd.its h k).step (now := now)
    rw [show n + ((k + 1 : Nat) : Int) = n + k + 1 by omega]
    exact this
theorem Gd.start (h : Gd n S) (h0 : 0 ≤ now) : Gd (n + 1) (stT now S) := by
  unfold stT
  split
  · exact h.arm h0
  · exact h.noq.mono (by omega)
theorem Gd.write (h : Gd n S) (k : Nat) (h0 : 0 ≤ now) (x0 : 0 ≤ x) (x1 : x < 4294967296) : Gd (n + 1) (wrT k x now S) := by
  have hm : n ≤ n + 1 := by omega
  match k with
  | 0 => exact Gd.start ⟨h.a0, h.a1, h.p0, h.p1, h.q0⟩ h0
  | 1 => exact Gd.mono ⟨h.a0, h.a1, x0, x1, h.q0⟩ hm
  | 2 => exact Gd.mono ⟨h.a0, h.a1, h.p0, h.p1, h.q0⟩ hm
  | k + 3 => exact h.mono hm
end

section
variable {w w' w1 w2 : World} {t g m o : Nat} {d : Int} {v v2 u u2 : Value} {S S2 R R2 : TS} {C : Nat → Value}
/-- Take of what is due -/
theorem ttake_yes {now : Int} (h : Ti w t g d v S) (hd : duB now S = true) :
    Calls Try.prog 13 #[.pointer (some ⟨g, 0, none⟩), .int .i64 now] w (RetT (.tuple #[.agg #[.int .i64 (tmQ S), .int .i64 d, .int .i64 (sqQ S)], .bool true]) w t g d v { S with q := none }) := by
  obtain ⟨hq, hle⟩ := due_cases hd
  have hl := qL_len d S.q
  have hL : qL d S.q = [⟨tmQ S, d, sqQ S⟩] := by rw [hq]; rfl
  have hw := h.wh
  refine (take_any now hw (by omega)).mono ?_
  rintro e w1 ⟨rfl, v2, hw2, hc⟩
  rw [hL] at hw2 ⊢
  have hB : dueB now [⟨tmQ S, d, sqQ S⟩] = true := decide_eq_true hle
  unfold takeV takeE
  unfold takeL at hw2
  rw [hB] at hw2 ⊢
  exact ⟨rfl, v2, h.wheel (q := none) hw2 hc, CT.of_ch hc⟩
theorem ttake_no {now : Int} (h : Ti w t g d v S) (hd : duB now S = false) :
    Calls Try.prog 13 #[.pointer (some ⟨g, 0, none⟩), .int .i64 now] w (RetT (.tuple #[.agg #[.int .i64 0, .int .i64 0, .int .i64 0], .bool false]) w t g d v S) := by
  have hl := qL_len d S.q
  have hB : dueB now (qL d S.q) = false := by rw [(take_q d now S).2, hd]
  refine (take_any now h.wh (by omega)).mono ?_
  rintro e w1 ⟨rfl, v2, hw2, hc⟩
  unfold takeV takeE
  unfold takeL at hw2
  rw [hB] at hw2 ⊢
  exact ⟨rfl, v2, h.wheel (q := S.q) (a := S.a) hw2 hc, CT.of_ch hc⟩
theorem rtake_yes {now : Int} (h : Bu C o w m d u S) (hd : duB now S = true) :
    Calls Try.prog 19 #[.pointer (some ⟨m, 1, none⟩), .int .i64 now] w (RetU (.tuple #[.agg #[.int .i64 (tmQ S), .int .i64 d, .int .i64 (sqQ S)], .bool true]) C o w m d u { S with q := none }) := by
  obtain ⟨hq, hle⟩ := due_cases hd
  have hl := qL_len d S.q
  have hL : qL d S.q = [⟨tmQ S, d, sqQ S⟩] := by rw [hq]; rfl
  refine (rtake_any now h (by omega)).mono ?_
  rintro e w1 ⟨rfl, v2, hw2, hc⟩
  rw [hL] at hw2 ⊢
  have hB : dueB now [⟨tmQ S, d, sqQ S⟩] = true := decide_eq_true hle
  unfold takeV takeE
  unfold takeL at hw2
  rw [hB] at hw2 ⊢
  exact ⟨rfl, v2, hw2, hc⟩
theorem rtake_no {now : Int} (h : Bu C o w m d u S) (hd : duB now S = false) :
    Calls Try.prog 19 #[.pointer (some ⟨m, 1, none⟩), .int .i64 now] w (RetU (.tuple #[.agg #[.int .i64 0, .int .i64 0, .int .i64 0], .bool false]) C o w m d u S) := by
  have hl := qL_len d S.q
  have hB : dueB now (qL d S.q) = false := by rw [(take_q d now S).2, hd]
  refine (rtake_any now h (by omega)).mono ?_
  rintro e w1 ⟨rfl, v2, hw2, hc⟩
  unfold takeV takeE
  unfold takeL at hw2
  rw [hB] at hw2 ⊢
  exact ⟨rfl, v2, hw2, hc⟩

/-- a timer and a bus; their blocks are apart, all new since W0 -/
structure Two (W0 : World) (C : Nat → Value) (o : Nat) (d : Int) (w : World) (t g : Nat) (v : Value) (S : TS) (m : Nat) (u : Value) (R : TS) : Prop where
  ta : Ti w t g d v S
  tb : Bu C o w m d u R
  sep : ∀ k, OwnT t g v k → ¬ Own m u k
  na : ∀ k, OwnT t g v k → W0.heap.size ≤ k
  nb : ∀ k, Own m u k → W0.heap.size ≤ k
  bl : Below W0.heap.size W0 w
variable {W0 : World}
theorem Two.left (h : Two W0 C o d w t g v S m u R) (h1 : Ti w1 t g d v2 S2) (c : CT t g v v2 w w1) : Two W0 C o d w1 t g v2 S2 m u R := by
  have hn : ∀ k, OwnT t g v2 k → OwnT t g v k ∨ w.heap.size ≤ k := by
    rintro k (e | e | e)
    · exact .inl (.inl e)
    · exact .inl (.inr (.inl e))
    · rcases c.nw k e with e | e
      · exact .inl (.inr (.inr e))
      · exact .inr e
  refine ⟨h1, Wb.fr h.tb c.fr (fun k hk e => h.sep k e hk), ?_, ?_, h.nb, h.bl.trans (c.fr.below h.bl.size (fun k hk e => by have := h.na k e; omega))⟩
  · intro k hk hm
    rcases hn k hk with e | e
    · exact h.sep k e hm
    · have := Wb.lt h.tb k hm; omega
  · intro k hk
    rcases hn k hk with e | e
    · exact h.na k e
    · have := h.bl.size; omega
theorem Two.right (h : Two W0 C o d w t g v S m u R) (h1 : Bu C o w1 m d u2 R2) (c : Ch m u u2 w w1) : Two W0 C o d w1 t g v S m u2 R2 := by
  have hn : ∀ k, Own m u2 k → Own m u k ∨ w.heap.size ≤ k := by
    rintro k (e | e)
    · exact .inl (.inl e)
    · rcases c.nw k e with e | e
      · exact .inl (.inr e)
      · exact .inr e
  refine ⟨h.ta.fr c.fr (fun k hk e => h.sep k hk e), h1, ?_, h.na, ?_, h.bl.trans (c.fr.below h.bl.size (fun k hk e => by have := h.nb k e; omega))⟩
  · intro k hk hm
    rcases hn k hm with e | e
    · exact h.sep k hk e
    · have := h.ta.lt k hk; omega
  · intro k hk
    rcases hn k hk with e | e
    · exact h.nb k e
    · have := h.bl.size; omega
theorem Two.below (h : Two W0 C o d w t g v S m u R) (b : Below w.heap.size w w1) : Two W0 C o d w1 t g v S m u R := h.left (h.ta.below b) (CT.of_below b)
theorem Two.alloc (h : Two W0 C o d w t g v S m u R) (x : Obj) : Two W0 C o d (w.alloc x) t g v S m u R := h.below ((Below.refl _ _).alloc (Nat.le_refl _) x)
theorem Two.drewN (h : Two W0 C o d w t g v S m u R) (n : Nat) : Two W0 C o d (w.drewN n) t g v S m u R := h.left (h.ta.drewN n) (CT.drewN t g v w n)
/-- a call's cells -/
def ask5 (kd kk x by_ bb : Int) : Nat → Value
  | 0 => .int .i64 kd
  | 1 => .int .i64 kk
  | 2 => .int .u32 x
  | 3 => .int .i64 by_
  | _ => .int .u8 bb
/-- a call in its box, beside both -/
structure Ab (w : World) (X t g : Nat) (v : Value) (m : Nat) (u : Value) (kd kk x by_ bb : Int) : Prop where
  row : w.rowIs X 26 5 (ask5 kd kk x by_ bb)
  na : ¬ OwnT t g v X
  nb : ¬ Own m u X
section
variable {X : Nat} {kd kk x by_ bb : Int}
theorem Ab.new (h : Two W0 C o d w t g v S m u R) (kd kk x by_ bb : Int) : Ab (w.alloc (.cells #[.int .i64 kd, .int .i64 kk, .int .u32 x, .int .i64 by_, .int .u8 bb] 26)) w.heap.size t g v m u kd kk x by_ bb :=
  ⟨World.rowIs_alloc w _ _ _ fun i hi => by
    have : i = 0 ∨ i = 1 ∨ i = 2 ∨ i = 3 ∨ i = 4 := by have : i < 5 := hi; omega
    rcases this with rfl | rfl | rfl | rfl | rfl <;> rfl, fun e => Nat.lt_irrefl _ (h.ta.lt _ e), fun e => Nat.lt_irrefl _ (Wb.lt h.tb _ e)⟩
theorem Ab.left (h : Ab w X t g v m u kd kk x by_ bb) (c : CT t g v v2 w w1) : Ab w1 X t g v2 m u kd kk x by_ bb := by
  refine ⟨h.row.of_block (c.fr.block _ h.row.lt h.na), ?_, h.nb⟩
  rintro (e | e | e)
  · exact h.na (.inl e)
  · exact h.na (.inr (.inl e))
  · rcases c.nw _ e with e | e
    · exact h.na (.inr (.inr e))
    · have := h.row.lt; omega
theorem Ab.right (h : Ab w X t g v m u kd kk x by_ bb) (c : Ch m u u2 w w1) : Ab w1 X t g v m u2 kd kk x by_ bb := by
  refine ⟨h.row.of_block (c.fr.block _ h.row.lt h.nb), h.na, ?_⟩
  rintro (e | e)
  · exact h.nb (.inl e)
  · rcases c.nw _ e with e | e
    · exact h.nb (.inr e)
    · have := h.row.lt; omega
theorem Ab.below (h : Ab w X t g v m u kd kk x by_ bb) (b : Below w.heap.size w w1) : Ab w1 X t g v m u kd kk x by_ bb := ⟨h.row.of_block (b.block _ h.row.lt), h.na, h.nb⟩
theorem Ab.c0 (h : Ab w X t g v m u kd kk x by_ bb) : w.cell? ⟨X, 0, none⟩ = some (.int .i64 kd) := h.row.cell (i := 0) (by omega)
theorem Ab.c1 (h : Ab w X t g v m u kd kk x by_ bb) : w.cell? ⟨X, 1, none⟩ = some (.int .i64 kk) := h.row.cell (i := 1) (by omega)
theorem Ab.c2 (h : Ab w X t g v m u kd kk x by_ bb) : w.cell? ⟨X, 2, none⟩ = some (.int .u32 x) := h.row.cell (i := 2) (by omega)
theorem Ab.c3 (h : Ab w X t g v m u kd kk x by_ bb) : w.cell? ⟨X, 3, none⟩ = some (.int .i64 by_) := h.row.cell (i := 3) (by omega)
end
end

/-- it returns a number from lo to hi, and the world stands -/
def InP (lo hi : Int) (w : World) (e : Ending) (w' : World) : Prop := ∃ v : Int, lo ≤ v ∧ v ≤ hi ∧ e = .returned (.int .i64 v) ∧ w = w'
theorem tmod_pos (n K : Int) (hK : 0 < K) : -K < n.tmod K ∧ n.tmod K < K := by
  by_cases h : 0 ≤ n
  · rw [Int.tmod_eq_emod_of_nonneg h]
    have := Int.emod_nonneg n (show K ≠ 0 by omega)
    have := Int.emod_lt_of_pos n hK
    omega
  · have e : n.tmod K = -((-n) % K) := by rw [← Int.tmod_eq_emod_of_nonneg (by omega), Int.neg_tmod]; omega
    have := Int.emod_nonneg (-n) (show K ≠ 0 by omega)
    have := Int.emod_lt_of_pos (-n) hK
    omega
set_option maxHeartbeats 400000 in
theorem within_any (n lo hi : Int) (w : World) (h0 : -1000000000 ≤ lo) (h1 : lo ≤ hi) (h2 : hi ≤ 1000000000) (n0 : -9223372036854775808 ≤ n) (n1 : n ≤ 9223372036854775807) :
    Calls Try.prog 12 #[.int .i64 n, .int .i64 lo, .int .i64 hi] w (InP lo hi w) := by
  by_cases hin : lo ≤ n ∧ n ≤ hi
  · obtain ⟨i0, i1⟩ := hin
    go_enter Try.func12, Try.ntmps12
    go_wp2
    go_ret
    exact ⟨n, i0, i1, rfl, rfl⟩
  · obtain ⟨t0, t1⟩ := tmod_pos n (hi - lo + 1) (by omega)
    have hd : (decide (lo ≤ n) && decide (n ≤ hi)) = false := by simp; omega
    by_cases hlo : lo ≤ n
    · have hh : ¬ n ≤ hi := by omega
      by_cases hneg : n.tmod (hi - lo + 1) < 0
      all_goals
        go_enter Try.func12, Try.ntmps12
        go_wp2
        go_ret
        exact ⟨_, by omega, by omega, rfl, rfl⟩
    · by_cases hneg : n.tmod (hi - lo + 1) < 0
      all_goals
        go_enter Try.func12, Try.ntmps12
        go_wp2
        go_ret
        exact ⟨_, by omega, by omega, rfl, rfl⟩
end Go.Proofs.Ytgpphbganpoinaa

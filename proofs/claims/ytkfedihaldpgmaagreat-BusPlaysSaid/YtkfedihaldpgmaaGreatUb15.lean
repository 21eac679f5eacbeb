/-
  Chapter 15: a line of bytes, in the one state: Read, Fire, Line, Out, New of package uart.
-/
import Derived.Test.YtkfedihaldpgmaaGreatDk15
import Derived.Test.YtkfedihaldpgmaaGreatQu12
import Derived.Laws.CopyOwn
import Derived.Laws.BytesArg
/-
  Chapter 15: a line of bytes in memory, in the one state, with a frame; the functions of package uart.
-/
namespace Go.Proofs.YtkfedihaldpgmaaGreat
open Go.RowKit
set_option linter.unusedVariables false
set_option linter.unusedSimpArgs false
def ut7 (d : Int) (g c1 c2 : Nat) (o : Value) (l : Bool) (ct : Int) : Nat → Value
  | 0 => .int .i64 d
  | 1 => .pointer (some ⟨g, 0, none⟩)
  | 2 => .chan (some c1)
  | 3 => .chan (some c2)
  | 4 => o
  | 5 => .bool l
  | _ => .int .u32 ct
/-- block t is a line on the wheel in block g (its slice: v), its queues in c1 and c2, what was put out in o; it is S; its blocks are of those that K0 named at W0, or new since, and what else was there is as it was -/
structure Ua (K0 : Nat → Prop) (W0 w : World) (t g c1 c2 : Nat) (v o : Value) (S : BS) : Prop where
  tm : w.rowIs t 132 7 (ut7 3 g c1 c2 o S.lost S.uc)
  q1 : Qu w c1 S.came
  q2 : Qu w c2 S.goes
  ou : w.ownsRow 0 5 1 o S.out.length (bys S.out)
  wh : Wh 125 w g v S.L S.a
  nc : c1 ≠ c2
  nt : t ≠ c1 ∧ t ≠ c2
  no : ∀ k, o.ownBlock = some k → k ≠ t ∧ k ≠ c1 ∧ k ≠ c2 ∧ ¬ Own g v k
  nw : ∀ k, Own g v k → k ≠ t ∧ k ≠ c1 ∧ k ≠ c2
  nb : K0 t ∧ K0 c1 ∧ K0 c2
  ng : ∀ k, Own g v k → K0 k ∨ W0.heap.size ≤ k
  nn : ∀ k, o.ownBlock = some k → K0 k ∨ W0.heap.size ≤ k
  bl : Fr K0 W0 w
/-- it returns x; the line is S2 then -/
def RetUa (x : Value) (K0 : Nat → Prop) (W0 : World) (t g c1 c2 : Nat) (S2 : BS) (e : Ending) (w' : World) : Prop := e = .returned x ∧ ∃ v2 o2, Ua K0 W0 w' t g c1 c2 v2 o2 S2
theorem frT {K0 Q : Nat → Prop} {W0 w w' : World} (h : Fr K0 W0 w) (f : Fr Q w w') (hq : ∀ k, k < W0.heap.size → Q k → K0 k) : Fr K0 W0 w' :=
  ⟨f.os.trans h.os, f.tape.trans h.tape, f.output.trans h.output, Nat.le_trans h.size f.size, fun i hi hn => (f.block i (Nat.lt_of_lt_of_le hi h.size) (fun e => hn (hq i hi e))).trans (h.block i hi hn)⟩
theorem own_lt {w : World} {base : Nat} {e : TypeId} {size n : Nat} {v : Value} {xs : List Value} (h : w.ownsRow base e size v n xs) : ∀ k, v.ownBlock = some k → base ≤ k ∧ k < w.heap.size := fun k hk => World.ownsRow.lt h k hk
theorem own_fr {S : Nat → Prop} {w w' : World} {base : Nat} {e : TypeId} {size n : Nat} {v : Value} {xs : List Value} (h : w.ownsRow base e size v n xs) (f : Fr S w w') (hs : ∀ k, v.ownBlock = some k → ¬ S k) : w'.ownsRow base e size v n xs := by
  refine ⟨h.1, ?_⟩
  rcases h.2 with h2 | ⟨g, cap, cur, rfl, hb, hh, r⟩
  · exact .inl h2
  · have hl : g < w.heap.size := (Array.getElem?_eq_some_iff.1 hh).1
    exact .inr ⟨g, cap, cur, rfl, hb, (f.block g hl (hs g rfl)).trans hh, r⟩
section
variable {K0 : Nat → Prop} {W0 w w' : World} {t g c1 c2 : Nat} {v v2 o o2 : Value} {S : BS}
theorem Ua.k0 (h : Ua K0 W0 w t g c1 c2 v o S) : w.cell? ⟨t, 0, none⟩ = some (.int .i64 3) := h.tm.cell (i := 0) (by omega)
theorem Ua.k1 (h : Ua K0 W0 w t g c1 c2 v o S) : w.cell? ⟨t, 1, none⟩ = some (.pointer (some ⟨g, 0, none⟩)) := h.tm.cell (i := 1) (by omega)
theorem Ua.k2 (h : Ua K0 W0 w t g c1 c2 v o S) : w.cell? ⟨t, 2, none⟩ = some (.chan (some c1)) := h.tm.cell (i := 2) (by omega)
theorem Ua.k3 (h : Ua K0 W0 w t g c1 c2 v o S) : w.cell? ⟨t, 3, none⟩ = some (.chan (some c2)) := h.tm.cell (i := 3) (by omega)
theorem Ua.k4 (h : Ua K0 W0 w t g c1 c2 v o S) : w.cell? ⟨t, 4, none⟩ = some o := h.tm.cell (i := 4) (by omega)
theorem Ua.k5 (h : Ua K0 W0 w t g c1 c2 v o S) : w.cell? ⟨t, 5, none⟩ = some (.bool S.lost) := h.tm.cell (i := 5) (by omega)
theorem Ua.k6 (h : Ua K0 W0 w t g c1 c2 v o S) : w.cell? ⟨t, 6, none⟩ = some (.int .u32 S.uc) := h.tm.cell (i := 6) (by omega)
theorem Ua.l1 (h : Ua K0 W0 w t g c1 c2 v o S) {n : Nat} (hn : S.came.length = n) : ∀ ty, (Builtin.len_ #[130] ty #[.chan (some c1)]).run Tryz.prog w = .ok (.int .i64 n) w := fun ty => by rw [← hn]; exact run_len_qu h.q1 _ _ Tryz.underlying130
theorem Ua.l2 (h : Ua K0 W0 w t g c1 c2 v o S) {n : Nat} (hn : S.goes.length = n) : ∀ ty, (Builtin.len_ #[130] ty #[.chan (some c2)]).run Tryz.prog w = .ok (.int .i64 n) w := fun ty => by rw [← hn]; exact run_len_qu h.q2 _ _ Tryz.underlying130
theorem Ua.no0 (h : Ua K0 W0 w t g c1 c2 v o S) (f : Fr (fun _ => False) w w') : Ua K0 W0 w' t g c1 c2 v o S :=
  ⟨h.tm.of_block (f.block _ h.tm.lt id), h.q1.fr f id, h.q2.fr f id, own_fr h.ou f (fun _ _ => id), h.wh.fr f (fun _ _ => id), h.nc, h.nt, h.no, h.nw, h.nb, h.ng, h.nn, frT h.bl f (fun _ _ => False.elim)⟩
theorem Ua.below (h : Ua K0 W0 w t g c1 c2 v o S) (b : Below w.heap.size w w') : Ua K0 W0 w' t g c1 c2 v o S := h.no0 (Fr.of_below b)
theorem Ua.alloc (h : Ua K0 W0 w t g c1 c2 v o S) (x : Obj) : Ua K0 W0 (w.alloc x) t g c1 c2 v o S := h.below ((Below.refl _ _).alloc (Nat.le_refl _) x)
theorem Ua.drewN (h : Ua K0 W0 w t g c1 c2 v o S) (n : Nat) : Ua K0 W0 (w.drewN n) t g c1 c2 v o S := h.no0 ((Fr.refl (fun _ => False) w).drewN n)
theorem Ua.que1 (h : Ua K0 W0 w t g c1 c2 v o S) {L : List Int} (hq : Qu w' c1 L) (f : Fr (fun k => k = c1) w w') : Ua K0 W0 w' t g c1 c2 v o { S with came := L } :=
  ⟨h.tm.of_block (f.block _ h.tm.lt h.nt.1), hq, h.q2.fr f (fun e => h.nc e.symm), own_fr h.ou f (fun k hk => (h.no k hk).2.1), h.wh.fr f (fun k hk => (h.nw k hk).2.1), h.nc, h.nt, h.no, h.nw, h.nb, h.ng, h.nn, frT h.bl f (fun k _ e => e ▸ h.nb.2.1)⟩
theorem Ua.que2 (h : Ua K0 W0 w t g c1 c2 v o S) {L : List Int} (hq : Qu w' c2 L) (f : Fr (fun k => k = c2) w w') : Ua K0 W0 w' t g c1 c2 v o { S with goes := L } :=
  ⟨h.tm.of_block (f.block _ h.tm.lt h.nt.2), h.q1.fr f h.nc, hq, own_fr h.ou f (fun k hk => (h.no k hk).2.2.1), h.wh.fr f (fun k hk => (h.nw k hk).2.2), h.nc, h.nt, h.no, h.nw, h.nb, h.ng, h.nn, frT h.bl f (fun k _ e => e ▸ h.nb.2.2)⟩
theorem Ua.wheel (h : Ua K0 W0 w t g c1 c2 v o S) {L : List Ev} {a : Int} (hw : Wh 125 w' g v2 L a) (hch : Ch g v v2 w w') : Ua K0 W0 w' t g c1 c2 v2 o { S with L := L, a := a } := by
  have f := hch.fr
  have ht := h.tm.lt
  have h1 := h.q1.lt
  have h2 := h.q2.lt
  have hs := h.bl.size
  have hx : ∀ k, Own g v2 k → Own g v k ∨ w.heap.size ≤ k := by
    rintro k (e | e)
    · exact .inl (.inl e)
    · rcases hch.nw k e with e | e
      · exact .inl (.inr e)
      · exact .inr e
  refine ⟨h.tm.of_block (f.block _ ht (fun e => (h.nw _ e).1 rfl)), h.q1.fr f (fun e => (h.nw _ e).2.1 rfl), h.q2.fr f (fun e => (h.nw _ e).2.2 rfl), own_fr h.ou f (fun k hk => (h.no k hk).2.2.2), hw, h.nc, h.nt, fun k hk => ?_, fun k hk => ?_, h.nb, fun k hk => ?_, h.nn, frT h.bl f (fun k hk e => (h.ng k e).resolve_right (by omega))⟩
  · obtain ⟨n1, n2, n3, n4⟩ := h.no k hk
    refine ⟨n1, n2, n3, fun e => ?_⟩
    rcases hx k e with e | e
    · exact n4 e
    · have := (own_lt h.ou k hk).2; omega
  · rcases hx k hk with e | e
    · exact h.nw k e
    · omega
  · rcases hx k hk with e | e
    · exact h.ng k e
    · exact .inr (Nat.le_trans hs e)
theorem Ua.setT (h : Ua K0 W0 w t g c1 c2 v o S) (i : Nat) (u : Value) (l : Bool) (ct : Int) (hu : ∀ j, j < 7 → (if j = i then u else ut7 3 g c1 c2 o S.lost S.uc j) = ut7 3 g c1 c2 o l ct j) :
    Ua K0 W0 (w.setCell ⟨t, i, none⟩ u) t g c1 c2 v o { S with lost := l, uc := ct } := by
  have f : Fr (fun k => k = t) w (w.setCell ⟨t, i, none⟩ u) := (Fr.refl (fun k => k = t) w).setCell (x := ⟨t, i, none⟩) (.inl rfl) u
  exact ⟨(h.tm.set i u).congr hu, h.q1.fr f (fun e => h.nt.1 e.symm), h.q2.fr f (fun e => h.nt.2 e.symm), own_fr h.ou f (fun k hk => (h.no k hk).1), h.wh.fr f (fun k hk => (h.nw k hk).1), h.nc, h.nt, h.no, h.nw, h.nb, h.ng, h.nn, frT h.bl f (fun k _ e => e ▸ h.nb.1)⟩
theorem Ua.setL (h : Ua K0 W0 w t g c1 c2 v o S) (l : Bool) : Ua K0 W0 (w.setCell ⟨t, 5, none⟩ (.bool l)) t g c1 c2 v o { S with lost := l } :=
  h.setT 5 (.bool l) l S.uc (fun j hj => by
    have : j = 0 ∨ j = 1 ∨ j = 2 ∨ j = 3 ∨ j = 4 ∨ j = 5 ∨ j = 6 := by omega
    rcases this with rfl | rfl | rfl | rfl | rfl | rfl | rfl <;> rfl)
theorem Ua.setC (h : Ua K0 W0 w t g c1 c2 v o S) (ct : Int) : Ua K0 W0 (w.setCell ⟨t, 6, none⟩ (.int .u32 ct)) t g c1 c2 v o { S with uc := ct } :=
  h.setT 6 (.int .u32 ct) S.lost ct (fun j hj => by
    have : j = 0 ∨ j = 1 ∨ j = 2 ∨ j = 3 ∨ j = 4 ∨ j = 5 ∨ j = 6 := by omega
    rcases this with rfl | rfl | rfl | rfl | rfl | rfl | rfl <;> rfl)
/-- a byte was put out: behind append and the store -/
theorem Ua.app (h : Ua K0 W0 w t g c1 c2 v o S) {b : Int} {n : Nat} (hn : n = S.out.length + 1) (hO : w'.ownsRow 0 5 1 o2 n (bys S.out ++ [.int .u8 b])) (hg : w.grownBy w' o.ownBlock) (he : o2.ownBlock = o.ownBlock ∨ o2.ownBlock = some w.heap.size) :
    (w'.rowIs t 132 7 (ut7 3 g c1 c2 o S.lost S.uc)) ∧ Ua K0 W0 (w'.setCell ⟨t, 4, none⟩ o2) t g c1 c2 v o2 { S with out := S.out ++ [b] } := by
  have ht := h.tm.lt
  have h1 := h.q1.lt
  have h2 := h.q2.lt
  have hs := h.bl.size
  have hb := own_lt h.ou
  have f0 : Fr (fun k => o.ownBlock = some k) w w' := ⟨hg.os, hg.tape, hg.output, hg.size, fun k hk hn => hg.block k hk (fun e => hn e.symm)⟩
  have f1 : Fr (fun k => k = t) w' (w'.setCell ⟨t, 4, none⟩ o2) := (Fr.refl (fun k => k = t) w').setCell (x := ⟨t, 4, none⟩) (.inl rfl) o2
  have hr := h.tm.of_block (f0.block _ ht (fun e => (h.no t e).1 rfl))
  have hx : ∀ k, o2.ownBlock = some k → o.ownBlock = some k ∨ k = w.heap.size := by
    intro k hk
    rcases he with e | e
    · exact .inl (e ▸ hk)
    · rw [e] at hk; cases hk; exact .inr rfl
  have hno : ∀ k, o2.ownBlock = some k → k ≠ t ∧ k ≠ c1 ∧ k ≠ c2 ∧ ¬ Own g v k := by
    intro k hk
    rcases hx k hk with e | e
    · exact h.no k e
    · exact ⟨by omega, by omega, by omega, fun e2 => by have := h.wh.lt k e2; omega⟩
  have hnn : ∀ k, o2.ownBlock = some k → K0 k ∨ W0.heap.size ≤ k := by
    intro k hk
    rcases hx k hk with e | e
    · exact h.nn k e
    · exact .inr (by omega)
  refine ⟨hr, (hr.set 4 o2).congr ?_, (h.q1.fr f0 (fun e => (h.no _ e).2.1 rfl)).fr f1 (fun e => h.nt.1 e.symm), (h.q2.fr f0 (fun e => (h.no _ e).2.2.1 rfl)).fr f1 (fun e => h.nt.2 e.symm), own_fr ?_ f1 (fun k hk => (hno k hk).1), (h.wh.fr f0 (fun k hk e => (h.no k e).2.2.2 hk)).fr f1 (fun k hk => (h.nw k hk).1), h.nc, h.nt, hno, h.nw, h.nb, h.ng, hnn, ?_⟩
  · intro j hj
    have : j = 0 ∨ j = 1 ∨ j = 2 ∨ j = 3 ∨ j = 4 ∨ j = 5 ∨ j = 6 := by omega
    rcases this with rfl | rfl | rfl | rfl | rfl | rfl | rfl <;> rfl
  · show w'.ownsRow _ _ 1 o2 (S.out ++ [b]).length (bys (S.out ++ [b]))
    have e1 : (S.out ++ [b]).length = n := by rw [hn]; simp
    have e2 : bys (S.out ++ [b]) = bys S.out ++ [.int .u8 b] := by simp [bys]
    rw [e1, e2]
    exact hO
  · exact frT (frT h.bl f0 (fun k hk e => (h.nn k e).resolve_right (by omega))) f1 (fun k _ e => e ▸ h.nb.1)
end
section
variable {K0 : Nat → Prop} {W0 w w' : World} {t g c1 c2 : Nat} {v v2 o o2 : Value} {S : BS}
set_option maxRecDepth 100000 in
set_option maxHeartbeats 1000000 in
theorem uarm_any (now : Int) (h : Ua K0 W0 w t g c1 c2 v o S) (hL : S.L.length ≤ 990000) (ha : 0 ≤ S.a ∧ S.a ≤ 1000000) (n0 : 0 ≤ now) (n1 : now ≤ 4611686018427387904) :
    Calls Tryz.prog 109 #[.pointer (some ⟨t, 0, none⟩), .int .i64 now] w (RetUa (.tuple #[]) K0 W0 t g c1 c2 (armS 3 (now + 8) S)) := by
  have hd : Ua K0 W0 w.drew t g c1 c2 v o S := h.drewN 1
  have hdw : Wh 125 w.drew g v (S.L) S.a := hd.wh
  have x0 : w.drew.cell? ⟨t, 0, none⟩ = some (.int .i64 3) := hd.k0
  have x1 : w.drew.cell? ⟨t, 1, none⟩ = some (.pointer (some ⟨g, 0, none⟩)) := hd.k1
  obtain ⟨T, HT⟩ : ∃ T, Hid (IntKind.i64.wrap (now + 8) = T) := ⟨_, rfl⟩
  have hT : T = now + 8 := by rw [← HT.out, IntKind.wrap_i64]; omega
  have hok : okB 3 T = true := by unfold okB; apply decide_eq_true; omega
  have HA : Hid (armS 3 (now + 8) S = armS 3 T S) := by show _ = _; rw [hT]
  clear n0 n1 hT
  go_enter Tryz.func109, Tryz.ntmps109
  go_wp2_with fail
  go_region_held3 (fun w' => w'.cell? ⟨t, 0, none⟩ = some (.int .i64 3) ∧ w'.cell? ⟨t, 1, none⟩ = some (.pointer (some ⟨g, 0, none⟩))) (first | with_reducible exact ⟨x0, x1⟩ | with_reducible exact ⟨y0, y1⟩)
    (first
      | (go_at_call 113; rw [HT.out]; (with_reducible refine (arm_S (W := w.drew) 3 T hdw hok hL ha).mono ?_); rintro e w4 ⟨rfl, v4, hw4, hch4⟩; have ht4 := hd.wheel hw4 hch4; have y0 := ht4.k0; have y1 := ht4.k1))
  go_wp2
  go_end0
  exact ⟨rfl, v4, o, by rw [HA.out]; exact ht4⟩

set_option maxRecDepth 100000 in
set_option maxHeartbeats 1000000 in
theorem usend_any (b now : Int) (h : Ua K0 W0 w t g c1 c2 v o S) (hl : S.goes.length < 16) (hL : S.L.length ≤ 990000) (ha : 0 ≤ S.a ∧ S.a ≤ 1000000) (n0 : 0 ≤ now) (n1 : now ≤ 4611686018427387904) :
    Calls Tryz.prog 112 #[.pointer (some ⟨t, 0, none⟩), .int .u8 b, .int .i64 now] w (RetUa (.tuple #[]) K0 W0 t g c1 c2 (sendB b now S)) := by
  have k3 := h.k3
  by_cases hn : S.goes = []
  · have HA : Hid (sendB b now S = { armS 3 (now + 8) S with goes := S.goes ++ [b] }) := by show _ = _; unfold sendB; rw [if_pos hl, if_pos (by rw [hn]; rfl)]; rfl
    have l2 := h.l2 (n := 0) (by rw [hn]; rfl)
    clear hn
    go_enter Tryz.func112, Tryz.ntmps112
    go_wp2_with fail
    with_reducible refine (uarm_any now h hL ha n0 n1).mono ?_
    rintro e w1 ⟨rfl, v1, o1, h1⟩
    have k3' := h1.k3
    go_wp2_with fail
    have q2 : Qu w1 c2 S.goes := h1.q2
    with_reducible refine (put_yes b q2 hl).mono ?_
    rintro e w2 ⟨rfl, hq, hf⟩
    have h2 := h1.que2 hq hf
    go_wp2
    go_end0
    exact ⟨rfl, v1, o1, by rw [HA.out]; exact h2⟩
  · have HA : Hid (sendB b now S = { S with goes := S.goes ++ [b] }) := by
      show _ = _
      unfold sendB
      rw [if_pos hl, if_neg (fun e => hn (List.eq_nil_of_length_eq_zero e))]
    obtain ⟨n, hN⟩ : ∃ n, S.goes.length = n := ⟨_, rfl⟩
    have l2 := h.l2 hN
    have hn0 : ((n : Int) == 0) = false := by
      cases hg : S.goes with
      | nil => exact absurd hg hn
      | cons x L => rw [hg] at hN; simp at hN; exact beq_false_of_ne (by omega)
    clear hn hN
    go_enter Tryz.func112, Tryz.ntmps112
    go_wp2_with fail
    with_reducible refine (put_yes b h.q2 hl).mono ?_
    rintro e w2 ⟨rfl, hq, hf⟩
    have h2 := h.que2 hq hf
    go_wp2
    go_end0
    exact ⟨rfl, v, o, by rw [HA.out]; exact h2⟩
set_option maxRecDepth 100000 in
set_option maxHeartbeats 1000000 in
theorem usend_full (b now : Int) (h : Ua K0 W0 w t g c1 c2 v o S) (hl : 16 ≤ S.goes.length) :
    Calls Tryz.prog 112 #[.pointer (some ⟨t, 0, none⟩), .int .u8 b, .int .i64 now] w fun e w' => e = .returned (.tuple #[]) ∧ w = w' := by
  have k3 := h.k3
  obtain ⟨n, hN⟩ : ∃ n, S.goes.length = n := ⟨_, rfl⟩
  have l2 := h.l2 hN
  have hn0 : ((n : Int) == 0) = false := beq_false_of_ne (by omega)
  clear hN
  go_enter Tryz.func112, Tryz.ntmps112
  go_wp2_with fail
  with_reducible refine (put_no b h.q2 hl).mono ?_
  rintro e w2 ⟨rfl, rfl⟩
  go_wp2
  go_end0
  exact ⟨rfl, rfl⟩
set_option maxRecDepth 100000 in
set_option maxHeartbeats 1000000 in
/-- Write of each word -/
theorem uwrite_any (k : Nat) (z x now : Int) (h : Ua K0 W0 w t g c1 c2 v o S) (hk : k ≤ 15) (hz : z = (k : Int) * 4) (x0 : 0 ≤ x) (x1 : x < 4294967296) (hL : S.L.length ≤ 990000) (ha : 0 ≤ S.a ∧ S.a ≤ 1000000) (n0 : 0 ≤ now) (n1 : now ≤ 4611686018427387000) :
    Calls Tryz.prog 107 #[.pointer (some ⟨t, 0, none⟩), .int .u32 z, .int .u32 x, .int .i64 now] w (RetUa (.bool (decide (k < 3))) K0 W0 t g c1 c2 (wrU k x now S)) := by
  have k5 := h.k5
  have k6 := h.k6
  have f5 := h.tm.frozen 5
  have f6 := h.tm.frozen 6
  match k with
  | 0 =>
    obtain rfl : z = 0 := by omega
    clear hz hk
    have HB : Hid (IntKind.u8.wrap x = x % 256) := Lib.hid (by rw [IntKind.wrap_u8])
    by_cases hl : S.goes.length < 16
    · have HS := Lib.hid (usend_any (x % 256) now h hl hL ha n0 (by omega))
      go_enter Tryz.func107, Tryz.ntmps107
      go_wp2_with fail
      try rw [HB.out]
      with_reducible refine HS.out.mono ?_
      rintro e w1 ⟨rfl, v1, o1, h1⟩
      go_wp2
      go_ret
      exact ⟨rfl, v1, o1, h1⟩
    · have HA : Hid (wrU 0 x now S = S) := by show sendB (x % 256) now S = _; unfold sendB; rw [if_neg hl]
      have HS := Lib.hid (usend_full (x % 256) now h (by omega))
      go_enter Tryz.func107, Tryz.ntmps107
      go_wp2_with fail
      try rw [HB.out]
      with_reducible refine HS.out.mono ?_
      rintro e w1 ⟨rfl, rfl⟩
      go_wp2
      go_ret
      exact ⟨rfl, v, o, by rw [HA.out]; exact h⟩
  | 1 =>
    obtain rfl : z = 4 := by omega
    clear hz hk
    have hv := and4 x x0 x1
    by_cases hx : x / 4 % 2 = 1
    · have hb : (bits .and .u32 x 4 != 0) = true := by rw [hv, if_pos hx]; rfl
      have H0 : Hid (wrU 1 x now S = { S with lost := false }) := by show ({ S with lost := if x / 4 % 2 = 1 then false else S.lost } : BS) = _; rw [if_pos hx]
      clear hv hx
      go_enter Tryz.func107, Tryz.ntmps107
      go_wp2
      go_ret
      exact ⟨rfl, v, o, by rw [H0.out]; exact h.setL false⟩
    · have hb : (bits .and .u32 x 4 != 0) = false := by rw [hv, if_neg hx]; rfl
      have H0 : Hid (wrU 1 x now S = S) := by show ({ S with lost := if x / 4 % 2 = 1 then false else S.lost } : BS) = _; rw [if_neg hx]
      clear hv hx
      go_enter Tryz.func107, Tryz.ntmps107
      go_wp2
      go_ret
      exact ⟨rfl, v, o, by rw [H0.out]; exact h⟩
  | 2 =>
    obtain rfl : z = 8 := by omega
    clear hz hk
    have hv := Lib.hid (and3 x x0 x1)
    go_enter Tryz.func107, Tryz.ntmps107
    go_wp2
    rw [hv.out]
    go_ret
    exact ⟨rfl, v, o, h.setC (x % 4)⟩
  | k + 3 =>
    have HA : Hid (wrU (k + 3) x now S = S) := Lib.hid rfl
    have HZ : Hid (decide (k + 3 < 3) = false) := Lib.hid (decide_eq_false (by omega))
    have z0 : (z == 0) = false := beq_false_of_ne (by omega)
    have z1 : (z == 4) = false := beq_false_of_ne (by omega)
    have z2 : (z == 8) = false := beq_false_of_ne (by omega)
    clear hz hk
    go_enter Tryz.func107, Tryz.ntmps107
    go_wp2
    go_ret
    exact ⟨by rw [HZ.out]; rfl, v, o, by rw [HA.out]; exact h⟩
/-- what Type leaves -/
def typeB (b : Int) (S : BS) : BS := if S.came.length < 16 then { S with came := S.came ++ [b] } else { S with lost := true }
set_option maxRecDepth 100000 in
set_option maxHeartbeats 1000000 in
theorem utype_any (b : Int) (h : Ua K0 W0 w t g c1 c2 v o S) :
    Calls Tryz.prog 81 #[.pointer (some ⟨t, 0, none⟩), .int .u8 b] w (RetUa (.tuple #[]) K0 W0 t g c1 c2 (typeB b S)) := by
  have k2 := h.k2
  have k5 := h.k5
  have f5 := h.tm.frozen 5
  by_cases hl : S.came.length < 16
  · have HA : Hid (typeB b S = { S with came := S.came ++ [b] }) := by show _ = _; unfold typeB; rw [if_pos hl]
    go_enter Tryz.func81, Tryz.ntmps81
    go_wp2_with fail
    with_reducible refine (put_yes b h.q1 hl).mono ?_
    rintro e w1 ⟨rfl, hq, hf⟩
    have h1 := h.que1 hq hf
    go_wp2
    go_end0
    exact ⟨rfl, v, o, by rw [HA.out]; exact h1⟩
  · have HA : Hid (typeB b S = { S with lost := true }) := by show _ = _; unfold typeB; rw [if_neg hl]
    have h1 := h.setL true
    go_enter Tryz.func81, Tryz.ntmps81
    go_wp2_with fail
    with_reducible refine (put_no b h.q1 (by omega)).mono ?_
    rintro e w1 ⟨rfl, rfl⟩
    go_wp2
    go_end0
    exact ⟨rfl, v, o, by rw [HA.out]; exact h1⟩
set_option maxRecDepth 100000 in
set_option maxHeartbeats 1000000 in
theorem unext_byte (b : Int) {L : List Int} (h : Ua K0 W0 w t g c1 c2 v o S) (hq : S.came = b :: L) (b0 : 0 ≤ b) (b1 : b < 256) :
    Calls Tryz.prog 111 #[.pointer (some ⟨t, 0, none⟩)] w (RetUa (.int .u32 b) K0 W0 t g c1 c2 { S with came := L }) := by
  have k2 := h.k2
  have q1 := h.q1
  rw [hq] at q1
  clear hq
  go_enter Tryz.func111, Tryz.ntmps111
  go_wp2_with fail
  with_reducible refine (take_byte b q1).mono ?_
  rintro e w1 ⟨rfl, hq, hf⟩
  have h1 := h.que1 hq hf
  go_wp2
  go_ret
  exact ⟨rfl, v, o, h1⟩
set_option maxRecDepth 100000 in
set_option maxHeartbeats 1000000 in
theorem unext_none (h : Ua K0 W0 w t g c1 c2 v o S) (hq : S.came = []) :
    Calls Tryz.prog 111 #[.pointer (some ⟨t, 0, none⟩)] w fun e w' => e = .returned (.int .u32 256) ∧ w = w' := by
  have k2 := h.k2
  have q1 := h.q1
  rw [hq] at q1
  clear hq
  go_enter Tryz.func111, Tryz.ntmps111
  go_wp2_with fail
  with_reducible refine (take_none q1).mono ?_
  rintro e w1 ⟨rfl, rfl⟩
  go_wp2
  go_ret
  exact ⟨rfl, rfl⟩
end
/-- the status word: one is there that came; the queue of what goes is full; one was lost; nothing is to go -/
def stU (c f l e : Bool) : Int := (match c with | true => 1 | false => 0) + (match f with | true => 2 | false => 0) + (match l with | true => 4 | false => 0) + (match e with | true => 8 | false => 0)
def stW (S : BS) : Int := stU (decide (0 < S.came.length)) (decide (S.goes.length = 16)) S.lost (decide (S.goes.length = 0))
section
variable {K0 : Nat → Prop} {W0 w w' : World} {t g c1 c2 : Nat} {v v2 o o2 : Value} {S : BS}
set_option maxRecDepth 100000 in
set_option maxHeartbeats 4000000 in
theorem ustatus_any (h : Ua K0 W0 w t g c1 c2 v o S) :
    Calls Tryz.prog 110 #[.pointer (some ⟨t, 0, none⟩)] w fun e w' => e = .returned (.int .u32 (stW S)) ∧ w = w' := by
  have k2 := h.k2
  have k3 := h.k3
  have k5 := h.k5
  obtain ⟨x, HX⟩ : ∃ x, Hid (stW S = x) := ⟨_, rfl⟩
  have HX2 : Hid (stU (decide (0 < S.came.length)) (decide (S.goes.length = 16)) S.lost (decide (S.goes.length = 0)) = x) := HX
  rw [HX.out]
  clear HX
  obtain ⟨n, hN⟩ : ∃ n, S.came.length = n := ⟨_, rfl⟩
  obtain ⟨m, hM⟩ : ∃ m, S.goes.length = m := ⟨_, rfl⟩
  have l1 := h.l1 hN
  have l2 := h.l2 hM
  rw [hN, hM] at HX2
  clear hN hM
  by_cases hm0 : m = 0
  · subst hm0
    cases hl : S.lost
    all_goals
      rw [hl] at k5 HX2
      by_cases hn : 0 < n
      · have hnI : (0 : Int) < n := by omega
        rw [decide_eq_true hn] at HX2
        have HX : Hid (x = stU true false _ true) := HX2.out.symm
        clear hl HX2
        rw [HX.out]
        go_enter Tryz.func110, Tryz.ntmps110
        go_wp2
        go_ret
        exact ⟨rfl, rfl⟩
      · obtain rfl : n = 0 := by omega
        have HX : Hid (x = stU false false _ true) := HX2.out.symm
        clear hl HX2 hn
        rw [HX.out]
        go_enter Tryz.func110, Tryz.ntmps110
        go_wp2
        go_ret
        exact ⟨rfl, rfl⟩
  · have hmb : ((m : Int) == 0) = false := beq_false_of_ne (by omega)
    by_cases hm1 : m = 16
    · subst hm1
      cases hl : S.lost
      all_goals
        rw [hl] at k5 HX2
        by_cases hn : 0 < n
        · have hnI : (0 : Int) < n := by omega
          rw [decide_eq_true hn] at HX2
          have HX : Hid (x = stU true true _ false) := HX2.out.symm
          clear hl HX2
          rw [HX.out]
          go_enter Tryz.func110, Tryz.ntmps110
          go_wp2
          go_ret
          exact ⟨rfl, rfl⟩
        · obtain rfl : n = 0 := by omega
          have HX : Hid (x = stU false true _ false) := HX2.out.symm
          clear hl HX2 hn
          rw [HX.out]
          go_enter Tryz.func110, Tryz.ntmps110
          go_wp2
          go_ret
          exact ⟨rfl, rfl⟩
    · have hmc : ((m : Int) == 16) = false := beq_false_of_ne (by omega)
      rw [decide_eq_false hm1, decide_eq_false hm0] at HX2
      cases hl : S.lost
      all_goals
        rw [hl] at k5 HX2
        by_cases hn : 0 < n
        · have hnI : (0 : Int) < n := by omega
          rw [decide_eq_true hn] at HX2
          have HX : Hid (x = stU true false _ false) := HX2.out.symm
          clear hl HX2 hm0 hm1
          rw [HX.out]
          go_enter Tryz.func110, Tryz.ntmps110
          go_wp2
          go_ret
          exact ⟨rfl, rfl⟩
        · obtain rfl : n = 0 := by omega
          have HX : Hid (x = stU false false _ false) := HX2.out.symm
          clear hl HX2 hn hm0 hm1
          rw [HX.out]
          go_enter Tryz.func110, Tryz.ntmps110
          go_wp2
          go_ret
          exact ⟨rfl, rfl⟩
set_option maxRecDepth 100000 in
set_option maxHeartbeats 1000000 in
theorem uread0_byte (b : Int) {L : List Int} (h : Ua K0 W0 w t g c1 c2 v o S) (hq : S.came = b :: L) (b0 : 0 ≤ b) (b1 : b < 256) :
    Calls Tryz.prog 106 #[.pointer (some ⟨t, 0, none⟩), .int .u32 0] w (RetUa (.tuple #[.int .u32 b, .bool true]) K0 W0 t g c1 c2 { S with came := L }) := by
  have HQ := Lib.hid hq
  clear hq
  go_enter Tryz.func106, Tryz.ntmps106
  go_wp2_with fail
  with_reducible refine (unext_byte b h HQ.out b0 b1).mono ?_
  rintro e w1 ⟨rfl, v1, o1, h1⟩
  go_wp2
  go_ret2
  exact ⟨rfl, v1, o1, h1⟩
set_option maxRecDepth 100000 in
set_option maxHeartbeats 1000000 in
theorem uread0_none (h : Ua K0 W0 w t g c1 c2 v o S) (hq : S.came = []) :
    Calls Tryz.prog 106 #[.pointer (some ⟨t, 0, none⟩), .int .u32 0] w fun e w' => e = .returned (.tuple #[.int .u32 256, .bool true]) ∧ w = w' := by
  have HQ := Lib.hid hq
  clear hq
  go_enter Tryz.func106, Tryz.ntmps106
  go_wp2_with fail
  with_reducible refine (unext_none h HQ.out).mono ?_
  rintro e w1 ⟨rfl, rfl⟩
  go_wp2
  go_ret2
  exact ⟨rfl, rfl⟩
set_option maxRecDepth 100000 in
set_option maxHeartbeats 1000000 in
theorem uread4_any (h : Ua K0 W0 w t g c1 c2 v o S) :
    Calls Tryz.prog 106 #[.pointer (some ⟨t, 0, none⟩), .int .u32 4] w fun e w' => e = .returned (.tuple #[.int .u32 (stW S), .bool true]) ∧ w = w' := by
  go_enter Tryz.func106, Tryz.ntmps106
  go_wp2_with fail
  with_reducible refine (ustatus_any h).mono ?_
  rintro e w1 ⟨rfl, rfl⟩
  go_wp2
  go_ret2
  exact ⟨rfl, rfl⟩
end
def bi (b : Bool) (k : Int) : Int := match b with
  | true => k
  | false => 0
def lnB (i e c z : Bool) : Bool := (i && c) || (e && z)
theorem st_1 (c f l e : Bool) : bits .and .u32 (stU c f l e) 1 = bi c 1 := by cases c <;> cases f <;> cases l <;> cases e <;> rfl
theorem st_8 (c f l e : Bool) : bits .and .u32 (stU c f l e) 8 = bi e 8 := by cases c <;> cases f <;> cases l <;> cases e <;> rfl
theorem st_4 (c f l e : Bool) : bits .and .u32 (stU c f l e) 4 = bi l 4 := by cases c <;> cases f <;> cases l <;> cases e <;> rfl
theorem own_form {w : World} {base : Nat} {e : TypeId} {size n : Nat} {v : Value} {xs : List Value} (h : w.ownsRow base e size v n xs) : ∃ A c, v = .slice A n c ∧ n ≤ c ∧ (0 < n → ∃ b, A = some ⟨b, 0, none⟩) := by
  rcases h.2 with ⟨rfl, hn⟩ | ⟨g, cap, cur, rfl, _, _, hc, hm, _⟩
  · exact ⟨none, 0, by rw [hn], by omega, fun h => by omega⟩
  · exact ⟨_, _, rfl, hc, fun _ => ⟨_, rfl⟩⟩
section
variable {K0 : Nat → Prop} {W0 w w' : World} {t g c1 c2 : Nat} {v v2 o o2 : Value} {S : BS}
set_option maxRecDepth 100000 in
set_option maxHeartbeats 4000000 in
theorem uline_any (i e : Bool) (h : Ua K0 W0 w t g c1 c2 v o S) (hct : S.uc = cwB i e) :
    Calls Tryz.prog 105 #[.pointer (some ⟨t, 0, none⟩)] w fun r w' => r = .returned (.bool (lnB i e (decide (0 < S.came.length)) (decide (S.goes.length = 0)))) ∧ w = w' := by
  have k6 := h.k6
  have a1 := st_1 (decide (0 < S.came.length)) (decide (S.goes.length = 16)) S.lost (decide (S.goes.length = 0))
  have a8 := st_8 (decide (0 < S.came.length)) (decide (S.goes.length = 16)) S.lost (decide (S.goes.length = 0))
  obtain ⟨x, HX⟩ : ∃ x, Hid (stW S = x) := ⟨_, rfl⟩
  rw [show stU (decide (0 < S.came.length)) (decide (S.goes.length = 16)) S.lost (decide (S.goes.length = 0)) = x from HX.out] at a1 a8
  generalize decide (0 < S.came.length) = c at a1 ⊢
  generalize decide (S.goes.length = 0) = z at a8 ⊢
  rw [hct] at k6
  have b1 : bits .and .u32 (cwB i e) 1 = bi i 1 := by cases i <;> cases e <;> rfl
  have b2 : bits .and .u32 (cwB i e) 2 = bi e 2 := by cases i <;> cases e <;> rfl
  clear hct
  generalize cwB i e = y at k6 b1 b2
  cases i <;> cases e <;> cases c <;> cases z
  all_goals
    simp only [bi] at a1 a8 b1 b2
    go_enter Tryz.func105, Tryz.ntmps105
    go_wp2_with fail
    with_reducible refine (ustatus_any h).mono ?_
    rintro r w1 ⟨rfl, rfl⟩
    rw [HX.out]
    go_wp2
    go_ret
    exact ⟨rfl, rfl⟩
set_option maxRecDepth 100000 in
set_option maxHeartbeats 4000000 in
/-- Fire of a byte that is the last one -/
theorem ufire_last (b at_ : Int) (h : Ua K0 W0 w t g c1 c2 v o S) (hq : S.goes = [b]) (hl : S.out.length ≤ 60000) :
    Calls Tryz.prog 104 #[.pointer (some ⟨t, 0, none⟩), .int .i64 at_] w (RetUa (.tuple #[]) K0 W0 t g c1 c2 { S with goes := [], out := S.out ++ [b] }) := by
  have k3 := h.k3
  have q2 := h.q2
  rw [hq] at q2
  clear hq
  obtain ⟨i0, hi, hi3⟩ := Option.map_eq_some_iff.1 info_u8
  simp only [Prod.mk.injEq] at hi3
  obtain ⟨hz0, hz1, hz2⟩ := hi3
  have HI := Lib.hid hi
  have HZ0 := Lib.hid hz0
  have HZ1 := Lib.hid hz1
  have HZ2 := Lib.hid hz2
  clear hi hz0 hz1 hz2
  go_enter Tryz.func104, Tryz.ntmps104
  go_wp2_with fail
  with_reducible refine (take_byte b q2).mono ?_
  rintro e w1 ⟨rfl, hq, hf⟩
  have h1 := h.que2 hq hf
  obtain ⟨A, c, rfl, hc, hA⟩ := own_form h1.ou
  have k4 := h1.k4
  have hnI : (S.out.length : Int) < 65536 := by omega
  have h2 := h1.alloc (.cells #[.int .u8 b] 5)
  have hou := h2.ou
  have hs : 0 ≤ (w1.alloc (.cells #[.int .u8 b] 5)).heap.size := Nat.zero_le _
  clear hA hc
  go_wp2_with (at_builtin; refine wpList_append_own_at _ rfl (.tmp 26) (.tmp 28) 24 rfl 0 5 i0 (.int .u8 0) 1 1 Tryz.underlying24 HI.out HZ0.out HZ1.out HZ2.out rfl (by decide) _ _ _ rfl hou ⟨w1.heap.size, 0, none⟩ 1 1 [.int .u8 b] rfl rfl (cell_one_new _ _ _) (by intro u hu; simp at hu; subst hu; rfl) (by unfold maxLen; omega) (by omega) hs ?_)
  intro v1 w2 hown1 hgrow1 _ hblk1
  obtain ⟨h3, h4⟩ := h2.app (b := b) rfl hown1 hgrow1 (by rw [World.size_alloc]; exact hblk1)
  obtain ⟨A1, cc1, rfl, hc1, _⟩ := own_form hown1
  have k4' := h3.cell (i := 4) (by omega)
  have f4' := h3.frozen 4
  have k3' := h3.cell (i := 3) (by omega)
  simp only [ut7] at k3' k4'
  have l2 := h4.l2 (n := 0) rfl
  clear hown1 hgrow1 hblk1 h3
  go_wp2
  go_end0
  exact ⟨rfl, v, _, h4⟩
set_option maxRecDepth 100000 in
set_option maxHeartbeats 4000000 in
/-- Fire of a byte behind which there are more -/
theorem ufire_more (b x at_ : Int) {L : List Int} (h : Ua K0 W0 w t g c1 c2 v o S) (hq : S.goes = b :: x :: L) (hl : S.out.length ≤ 60000) (hL : S.L.length ≤ 990000) (ha : 0 ≤ S.a ∧ S.a ≤ 1000000) (n0 : 0 ≤ at_) (n1 : at_ ≤ 4611686018427387904) :
    Calls Tryz.prog 104 #[.pointer (some ⟨t, 0, none⟩), .int .i64 at_] w (RetUa (.tuple #[]) K0 W0 t g c1 c2 (armS 3 (at_ + 8) { S with goes := x :: L, out := S.out ++ [b] })) := by
  have k3 := h.k3
  have q2 := h.q2
  rw [hq] at q2
  clear hq
  obtain ⟨i0, hi, hi3⟩ := Option.map_eq_some_iff.1 info_u8
  simp only [Prod.mk.injEq] at hi3
  obtain ⟨hz0, hz1, hz2⟩ := hi3
  have HI := Lib.hid hi
  have HZ0 := Lib.hid hz0
  have HZ1 := Lib.hid hz1
  have HZ2 := Lib.hid hz2
  clear hi hz0 hz1 hz2
  go_enter Tryz.func104, Tryz.ntmps104
  go_wp2_with fail
  with_reducible refine (take_byte b q2).mono ?_
  rintro e w1 ⟨rfl, hq, hf⟩
  have h1 := h.que2 hq hf
  obtain ⟨A, c, rfl, hc, hA⟩ := own_form h1.ou
  have k4 := h1.k4
  have hnI : (S.out.length : Int) < 65536 := by omega
  have h2 := h1.alloc (.cells #[.int .u8 b] 5)
  have hou := h2.ou
  have hs : 0 ≤ (w1.alloc (.cells #[.int .u8 b] 5)).heap.size := Nat.zero_le _
  clear hA hc
  go_wp2_with (at_builtin; refine wpList_append_own_at _ rfl (.tmp 26) (.tmp 28) 24 rfl 0 5 i0 (.int .u8 0) 1 1 Tryz.underlying24 HI.out HZ0.out HZ1.out HZ2.out rfl (by decide) _ _ _ rfl hou ⟨w1.heap.size, 0, none⟩ 1 1 [.int .u8 b] rfl rfl (cell_one_new _ _ _) (by intro u hu; simp at hu; subst hu; rfl) (by unfold maxLen; omega) (by omega) hs ?_)
  intro v1 w2 hown1 hgrow1 _ hblk1
  obtain ⟨h3, h4⟩ := h2.app (b := b) rfl hown1 hgrow1 (by rw [World.size_alloc]; exact hblk1)
  obtain ⟨A1, cc1, rfl, hc1, _⟩ := own_form hown1
  have k4' := h3.cell (i := 4) (by omega)
  have f4' := h3.frozen 4
  have k3' := h3.cell (i := 3) (by omega)
  simp only [ut7] at k3' k4'
  obtain ⟨n, hN, hn0⟩ : ∃ n : Nat, (x :: L).length = n ∧ 0 < n := ⟨_, rfl, by simp⟩
  have l2 := h4.l2 (n := n) hN
  have hnI0 : (0 : Int) < n := by omega
  clear hN
  clear hown1 hgrow1 hblk1 h3
  go_wp2_with fail
  with_reducible refine (uarm_any at_ h4 hL ha n0 n1).mono ?_
  rintro e w5 ⟨rfl, v5, o5, h5⟩
  go_wp2
  go_end0
  exact ⟨rfl, v5, o5, h5⟩

end
end Go.Proofs.YtkfedihaldpgmaaGreat

namespace Go.Proofs.YtkfedihaldpgmaaGreat
open Go.RowKit
set_option linter.unusedVariables false
set_option linter.unusedSimpArgs false
/-- what Fire leaves of the line -/
def fiU (at_ : Int) (S : BS) : BS := match S.goes with
  | [] => S
  | [b] => { S with goes := [], out := S.out ++ [b] }
  | b :: x :: L => armS 3 (at_ + 8) { S with goes := x :: L, out := S.out ++ [b] }
/-- what word k of the line tells -/
def wordU (k : Nat) (S : BS) : Int := match k with
  | 0 => (match S.came with | [] => 256 | b :: _ => b)
  | 1 => stW S
  | 2 => S.uc
  | _ => 0
/-- what is left behind the reading of word k -/
def readU (k : Nat) (S : BS) : BS := match k with
  | 0 => (match S.came with | [] => S | _ :: L => { S with came := L })
  | _ => S
section
variable {K0 : Nat → Prop} {W0 w w' : World} {t g c1 c2 : Nat} {v v2 o o2 : Value} {S : BS}
set_option maxRecDepth 100000 in
set_option maxHeartbeats 1000000 in
theorem ufire_none (at_ : Int) (h : Ua K0 W0 w t g c1 c2 v o S) (hq : S.goes = []) :
    Calls Tryz.prog 104 #[.pointer (some ⟨t, 0, none⟩), .int .i64 at_] w fun e w' => e = .returned (.tuple #[]) ∧ w = w' := by
  have k3 := h.k3
  have q2 := h.q2
  rw [hq] at q2
  clear hq
  go_enter Tryz.func104, Tryz.ntmps104
  go_wp2_with fail
  with_reducible refine (take_none q2).mono ?_
  rintro e w1 ⟨rfl, rfl⟩
  go_wp2
  refine bodyPost_ret (results_none rfl _ _ _) rfl ?_
  exact ⟨rfl, rfl⟩
theorem ufire_any (at_ : Int) (h : Ua K0 W0 w t g c1 c2 v o S) (hl : S.out.length ≤ 60000) (hL : S.L.length ≤ 990000) (ha : 0 ≤ S.a ∧ S.a ≤ 1000000) (n0 : 0 ≤ at_) (n1 : at_ ≤ 4611686018427387000) :
    Calls Tryz.prog 104 #[.pointer (some ⟨t, 0, none⟩), .int .i64 at_] w (RetUa (.tuple #[]) K0 W0 t g c1 c2 (fiU at_ S)) := by
  match hq : S.goes with
  | [] =>
    have HA : fiU at_ S = S := by unfold fiU; rw [hq]
    rw [HA]
    exact (ufire_none at_ h hq).mono fun e w' ⟨he, hw⟩ => ⟨he, v, o, hw ▸ h⟩
  | [b] =>
    have HA : fiU at_ S = { S with goes := [], out := S.out ++ [b] } := by unfold fiU; rw [hq]
    rw [HA]
    exact ufire_last b at_ h hq hl
  | b :: x :: L =>
    have HA : fiU at_ S = armS 3 (at_ + 8) { S with goes := x :: L, out := S.out ++ [b] } := by unfold fiU; rw [hq]
    rw [HA]
    exact ufire_more b x at_ h hq hl hL ha n0 (by omega)
set_option maxRecDepth 100000 in
set_option maxHeartbeats 1000000 in
theorem uread_any (k : Nat) (z : Int) (h : Ua K0 W0 w t g c1 c2 v o S) (hk : k ≤ 15) (hz : z = (k : Int) * 4) (hb : ∀ x ∈ S.came, 0 ≤ x ∧ x ≤ 255) :
    Calls Tryz.prog 106 #[.pointer (some ⟨t, 0, none⟩), .int .u32 z] w (RetUa (.tuple #[.int .u32 (wordU k S), .bool (decide (k < 3))]) K0 W0 t g c1 c2 (readU k S)) := by
  have k6 := h.k6
  match k with
  | 0 =>
    obtain rfl : z = 0 := by omega
    match hq : S.came with
    | [] =>
      have HA : readU 0 S = S := by unfold readU; rw [hq]; rfl
      have HB : wordU 0 S = 256 := by unfold wordU; rw [hq]; rfl
      rw [HA, HB]
      exact (uread0_none h hq).mono fun e w' ⟨he, hw⟩ => ⟨he, v, o, hw ▸ h⟩
    | b :: L =>
      have HA : readU 0 S = { S with came := L } := by unfold readU; rw [hq]; rfl
      have HB : wordU 0 S = b := by unfold wordU; rw [hq]; rfl
      rw [HA, HB]
      have hbb := hb b (by rw [hq]; simp)
      exact uread0_byte b h hq (by omega) (by omega)
  | 1 =>
    obtain rfl : z = 4 := by omega
    exact (uread4_any h).mono fun e w' ⟨he, hw⟩ => ⟨he, v, o, hw ▸ h⟩
  | 2 =>
    obtain rfl : z = 8 := by omega
    clear hz hk hb
    go_enter Tryz.func106, Tryz.ntmps106
    go_wp2
    go_ret2
    exact ⟨rfl, v, o, h⟩
  | k + 3 =>
    have HZ : Hid (decide (k + 3 < 3) = false) := Lib.hid (decide_eq_false (by omega))
    have z0 : (z == 0) = false := beq_false_of_ne (by omega)
    have z1 : (z == 4) = false := beq_false_of_ne (by omega)
    have z2 : (z == 8) = false := beq_false_of_ne (by omega)
    clear hz hk hb
    go_enter Tryz.func106, Tryz.ntmps106
    go_wp2
    go_ret2
    exact ⟨by rw [HZ.out]; rfl, v, o, h⟩
/-- control is two bits -/
theorem uc_form {x : Int} (h : 0 ≤ x ∧ x ≤ 3) : ∃ i e, x = cwB i e := by
  have : x = 0 ∨ x = 1 ∨ x = 2 ∨ x = 3 := by omega
  rcases this with rfl | rfl | rfl | rfl
  · exact ⟨false, false, rfl⟩
  · exact ⟨true, false, rfl⟩
  · exact ⟨false, true, rfl⟩
  · exact ⟨true, true, rfl⟩
theorem uline_S (h : Ua K0 W0 w t g c1 c2 v o S) (hu : 0 ≤ S.uc ∧ S.uc ≤ 3) :
    Calls Tryz.prog 105 #[.pointer (some ⟨t, 0, none⟩)] w fun r w' => r = .returned (.bool (lineU S)) ∧ w = w' := by
  obtain ⟨i, e, hc⟩ := uc_form hu
  have HA : lineU S = lnB i e (decide (0 < S.came.length)) (decide (S.goes.length = 0)) := by
    unfold lineU lnB
    rw [hc]
    cases i <;> cases e <;> rfl
  rw [HA]
  exact uline_any i e h hc
theorem run_append_by (ty : TypeId) {x : Value} {L : List Int} {w : World} (hx : w.ownsRow 0 5 1 x L.length (bys L)) (hl : L.length ≤ 1000000) :
    ∃ v' w', (Builtin.append_ #[24, 24] ty #[.slice none 0 0, x]).run Tryz.prog w = .ok v' w' ∧ w'.ownsRow 0 5 1 v' L.length (bys L) ∧ Below w.heap.size w w' := by
  obtain ⟨i0, hi, hi3⟩ := Option.map_eq_some_iff.1 info_u8
  simp only [Prod.mk.injEq] at hi3
  obtain ⟨hz0, hz1, hz2⟩ := hi3
  rcases hx.2 with ⟨rfl, hn⟩ | ⟨g, cap, cur, rfl, hb, r⟩
  · refine ⟨.slice none 0 0, w, ?_, hx, Below.refl _ _⟩
    simp [Builtin.append_, run_underlying Tryz.underlying24, sizeOf, typeInfo, hi, Builtin.lenOf, Builtin.firstCells]
  · obtain ⟨v', w', hr, h1, h2, _, h4⟩ := run_append_own_at (P := Tryz.prog) w 0 24 ty 5 i0 _ 1 1 Tryz.underlying24 hi hz0 hz1 hz2 rfl (by decide) (.slice none 0 0) 0 [] (World.ownsRow_nil _ _ _ _) ⟨g, 0, none⟩ L.length cap (bys L) (by rw [bys_len]; omega)
      (fun j u hu => World.ownsRow.cells hx (g := g) rfl j u hu) (by intro u hu; simp [bys] at hu; obtain ⟨z, _, rfl⟩ := hu; rfl) (by unfold maxLen; omega) (by omega) (Nat.zero_le _)
    refine ⟨v', w', hr, by simpa using h1, ⟨h2.os, h2.tape, h2.output, h2.size, fun k hk => h2.block k hk (by simp [Value.ownBlock])⟩⟩
set_option maxHeartbeats 1000000 in
theorem uout_any (h : Ua K0 W0 w t g c1 c2 v o S) (hl : S.out.length ≤ 1000000) :
    Calls Tryz.prog 75 #[.pointer (some ⟨t, 0, none⟩)] w fun e w' => ∃ u, e = .returned u ∧ w'.ownsRow 0 5 1 u S.out.length (bys S.out) ∧ Below w.heap.size w w' := by
  have k4 := h.k4
  obtain ⟨u, w1, hr, hO, hB⟩ := run_append_by 24 h.ou hl
  obtain ⟨A, c, rfl, hc, _⟩ := own_form h.ou
  have HO := Lib.hid hO
  clear hO
  go_enter Tryz.func75, Tryz.ntmps75
  go_wp2_with (at_builtin; refine wpList_append_go rfl (.const (.slice none 0 0)) (.tmp 6) 24 24 rfl _ _ rfl rfl hr ?_)
  go_ret
  exact ⟨u, rfl, HO.out, hB⟩
/-- bytes as a text -/
def strL (L : List Int) : ByteArray := strOfNums L
theorem conv_own {B : Nat} {u : Value} {L : List Int} (h : w.ownsRow B 5 1 u L.length (bys L)) : (convert 24 9 u).run Tryz.prog w = .ok (.string (strL L)) w := by
  rcases h.2 with ⟨rfl, hn⟩ | ⟨g, cap, cur, rfl, hb, r⟩
  · have hL : L = [] := List.eq_nil_of_length_eq_zero hn
    subst hL
    exact run_convert_bytes_nil w 24 5 Tryz.underlying24 Tryz.underlying5 0 0 9 Tryz.underlying9
  · have hl : (loadCells ⟨g, 0, none⟩ L.length).run Tryz.prog w = .ok (bys L).toArray w := by
      have := run_loadCells_list (P := Tryz.prog) w ⟨g, 0, none⟩ (bys L) (fun j u hu => World.ownsRow.cells h (g := g) rfl j u hu)
      rwa [bys_len] at this
    rw [run_convert_bytes_string w 24 9 5 _ L.length cap Tryz.underlying24 Tryz.underlying5 Tryz.underlying9, run_bytesToString w _ L.length cap _ hl]
    rw [foldl_push_bytes]
    simp [strL, strOfNums, ByteArray.empty, ByteArray.emptyWithCapacity]
    rfl
/-- it returns a line's block and its two queues, all new -/
def NewUr (w : World) (g : Nat) (e : Ending) (w' : World) : Prop := ∃ t c1 c2, w.heap.size ≤ t ∧ w.heap.size ≤ c1 ∧ w.heap.size ≤ c2 ∧ c1 ≠ c2 ∧ t ≠ c1 ∧ t ≠ c2 ∧ e = .returned (.pointer (some ⟨t, 0, none⟩)) ∧ w'.rowIs t 132 7 (ut7 3 g c1 c2 (.slice none 0 0) false 0) ∧ Qu w' c1 [] ∧ Qu w' c2 [] ∧ Below w.heap.size w w'
theorem ur_new (g : Nat) {c1 c2 : Nat} (hc : (c1 = w.heap.size ∧ c2 = w.heap.size + 1) ∨ (c1 = w.heap.size + 1 ∧ c2 = w.heap.size)) {wx : World} (hx : wx = ((((w.alloc (.chan 16 #[] false 0 0 false)).alloc (.chan 16 #[] false 0 0 false)).alloc (.cells #[.int .i64 3, .pointer (some ⟨g, 0, none⟩), .chan (some c1), .chan (some c2), .slice none 0 0, .bool false, .int .u32 0] 132)).drew)) :
    w.heap.size ≤ c1 ∧ w.heap.size ≤ c2 ∧ c1 ≠ c2 ∧ w.heap.size + 1 + 1 ≠ c1 ∧ w.heap.size + 1 + 1 ≠ c2 ∧ wx.rowIs (w.heap.size + 1 + 1) 132 7 (ut7 3 g c1 c2 (.slice none 0 0) false 0) ∧ Qu wx c1 [] ∧ Qu wx c2 [] ∧ Below w.heap.size w wx := by
  subst hx
  have e1 : (w.alloc (.chan 16 #[] false 0 0 false)).heap.size = w.heap.size + 1 := by simp
  have e2 : ((w.alloc (.chan 16 #[] false 0 0 false)).alloc (.chan 16 #[] false 0 0 false)).heap.size = w.heap.size + 1 + 1 := by simp
  have b1 : Below w.heap.size w (w.alloc (.chan 16 #[] false 0 0 false)) := (Below.refl _ _).alloc (Nat.le_refl _) _
  have b2 : Below (w.heap.size + 1) (w.alloc (.chan 16 #[] false 0 0 false)) ((w.alloc (.chan 16 #[] false 0 0 false)).alloc (.chan 16 #[] false 0 0 false)) := (Below.refl _ _).alloc (by rw [e1]; exact Nat.le_refl _) _
  have b3 : Below (w.heap.size + 1 + 1) ((w.alloc (.chan 16 #[] false 0 0 false)).alloc (.chan 16 #[] false 0 0 false)) (((w.alloc (.chan 16 #[] false 0 0 false)).alloc (.chan 16 #[] false 0 0 false)).alloc (.cells #[.int .i64 3, .pointer (some ⟨g, 0, none⟩), .chan (some c1), .chan (some c2), .slice none 0 0, .bool false, .int .u32 0] 132)) := (Below.refl _ _).alloc (by rw [e2]; exact Nat.le_refl _) _
  have qa : Qu (w.alloc (.chan 16 #[] false 0 0 false)) w.heap.size [] := qu_new w
  have qb : Qu ((w.alloc (.chan 16 #[] false 0 0 false)).alloc (.chan 16 #[] false 0 0 false)) (w.heap.size + 1) [] := by have := qu_new (w.alloc (.chan 16 #[] false 0 0 false)); rwa [e1] at this
  have fr2 : Fr (fun _ => False) (w.alloc (.chan 16 #[] false 0 0 false)) ((w.alloc (.chan 16 #[] false 0 0 false)).alloc (.chan 16 #[] false 0 0 false)) := (Fr.refl _ _).alloc _
  have fr3 : Fr (fun _ => False) ((w.alloc (.chan 16 #[] false 0 0 false)).alloc (.chan 16 #[] false 0 0 false)) ((((w.alloc (.chan 16 #[] false 0 0 false)).alloc (.chan 16 #[] false 0 0 false)).alloc (.cells #[.int .i64 3, .pointer (some ⟨g, 0, none⟩), .chan (some c1), .chan (some c2), .slice none 0 0, .bool false, .int .u32 0] 132)).drew) := ((Fr.refl _ _).alloc _).drew
  have q1 := (qa.fr fr2 id).fr fr3 id
  have q2 := qb.fr fr3 id
  have hb3 : Below w.heap.size w ((((w.alloc (.chan 16 #[] false 0 0 false)).alloc (.chan 16 #[] false 0 0 false)).alloc (.cells #[.int .i64 3, .pointer (some ⟨g, 0, none⟩), .chan (some c1), .chan (some c2), .slice none 0 0, .bool false, .int .u32 0] 132)).drew) := ((b1.trans (b2.mono (by omega))).trans (b3.mono (by omega))).drew
  have hr := World.rowIs_alloc ((w.alloc (.chan 16 #[] false 0 0 false)).alloc (.chan 16 #[] false 0 0 false)) #[.int .i64 3, .pointer (some ⟨g, 0, none⟩), .chan (some c1), .chan (some c2), .slice none 0 0, .bool false, .int .u32 0] 132 (ut7 3 g c1 c2 (.slice none 0 0) false 0) (fun i hi => by
    have : i = 0 ∨ i = 1 ∨ i = 2 ∨ i = 3 ∨ i = 4 ∨ i = 5 ∨ i = 6 := by have : i < 7 := hi; omega
    rcases this with rfl | rfl | rfl | rfl | rfl | rfl | rfl <;> rfl)
  rw [e2] at hr
  refine ⟨by omega, by omega, by omega, by omega, by omega, hr, ?_, ?_, hb3⟩
  · rcases hc with ⟨rfl, rfl⟩ | ⟨rfl, rfl⟩
    · exact q1
    · exact q2
  · rcases hc with ⟨rfl, rfl⟩ | ⟨rfl, rfl⟩
    · exact q2
    · exact q1
set_option maxHeartbeats 1000000 in
theorem unew_any (g : Nat) (w : World) :
    Calls Tryz.prog 53 #[.int .i64 3, .pointer (some ⟨g, 0, none⟩)] w (NewUr w g) := by
  have hmc := mk16
  have N1 := Lib.hid (ur_new (w := w) g (c1 := w.heap.size) (c2 := w.heap.size + 1) (.inl ⟨rfl, rfl⟩) rfl)
  have N2 := Lib.hid (ur_new (w := w) g (c1 := w.heap.size + 1) (c2 := w.heap.size) (.inr ⟨rfl, rfl⟩) rfl)
  go_enter Tryz.func53, Tryz.ntmps53
  go_wp2_with fail
  go_region
  · go_wp2
    go_ret
    obtain ⟨a1, a2, a3, a4, a5, a6, a7, a8, a9⟩ := N1.out
    exact ⟨_, _, _, by omega, a1, a2, a3, a4, a5, rfl, a6, a7, a8, a9⟩
  · go_wp2
    go_ret
    obtain ⟨a1, a2, a3, a4, a5, a6, a7, a8, a9⟩ := N2.out
    exact ⟨_, _, _, by omega, a1, a2, a3, a4, a5, rfl, a6, a7, a8, a9⟩
end
end Go.Proofs.YtkfedihaldpgmaaGreat

/-
  Chapter 15: the program's bus in memory, all its devices in one state.
-/
import Derived.Test.YtkfedihaldpgmaaGreatUb15
import Derived.Test.YtkfedihaldpgmaaGreatLn15
namespace Go.Proofs.YtkfedihaldpgmaaGreat
open Go.RowKit
set_option linter.unusedVariables false
set_option linter.unusedSimpArgs false
/-- the blocks of a bus that stay: itself, its row of parts, its memory, the disk's bytes, the wheel, the lines, the timers, the uart and its queues, the mover, the disk; memory's own blocks and the disk's bytes; pages, sectors -/
structure PG where
  b : Nat
  P : Nat
  r : Nat
  y : Nat
  g : Nat
  l : Nat
  t0 : Nat
  t1 : Nat
  u : Nat
  c1 : Nat
  c2 : Nat
  d : Nat
  k : Nat
  O : Nat → Prop
  p : Nat
  n : Nat
/-- the slices that a bus owns: the wheel's, what went out -/
structure PV where
  u : Value
  o : Value
def bs6 (G : PG) : Nat → Value
  | 0 => .pointer (some ⟨G.r, 0, none⟩)
  | 1 => .pointer (some ⟨G.g, 0, none⟩)
  | 2 => .pointer (some ⟨G.l, 0, none⟩)
  | 3 => .pointer (some ⟨G.u, 0, none⟩)
  | 4 => .pointer (some ⟨G.k, 0, none⟩)
  | _ => .slice (some ⟨G.P, 0, none⟩) 5 5
def pt10 (G : PG) : Nat → Value
  | 0 => .int .i64 1
  | 1 => .iface 109 (.pointer (some ⟨G.t0, 0, none⟩))
  | 2 => .int .i64 2
  | 3 => .iface 109 (.pointer (some ⟨G.t1, 0, none⟩))
  | 4 => .int .i64 3
  | 5 => .iface 66 (.pointer (some ⟨G.u, 0, none⟩))
  | 6 => .int .i64 4
  | 7 => .iface 111 (.pointer (some ⟨G.d, 0, none⟩))
  | 8 => .int .i64 5
  | _ => .iface 67 (.pointer (some ⟨G.k, 0, none⟩))
/-- the bus's own blocks, by parts -/
def KP (G : PG) (V : PV) : Nat → Nat → Prop
  | 0, k => k = G.b ∨ k = G.P
  | 1, k => Own G.g V.u k
  | 2, k => k = G.l
  | 3, k => k = G.t0
  | 4, k => k = G.t1
  | 5, k => k = G.u ∨ k = G.c1 ∨ k = G.c2 ∨ V.o.ownBlock = some k
  | 6, k => k = G.d
  | 7, k => k = G.k
  | _, k => G.O k
def SepP (K : Nat → Nat → Prop) : Prop := ∀ i j k, i < 9 → j < 9 → i ≠ j → K i k → ¬ K j k
/-- all the bus's own blocks -/
def OwnP (G : PG) (V : PV) (k : Nat) : Prop := ∃ i, i < 9 ∧ KP G V i k
theorem SepP.upd {K K2 : Nat → Nat → Prop} {B : Nat} (h : SepP K) (hlt : ∀ j k, j < 9 → K j k → k < B) (h2 : ∀ j k, j < 9 → K2 j k → K j k ∨ ((j = 1 ∨ j = 5) ∧ B ≤ k)) (h15 : ∀ k, K2 1 k → ¬ K2 5 k) : SepP K2 := by
  intro i j k hi hj hij ki kj
  rcases h2 i k hi ki with e1 | ⟨e1, b1⟩
  · rcases h2 j k hj kj with e2 | ⟨e2, b2⟩
    · exact h i j k hi hj hij e1 e2
    · have := hlt i k hi e1; omega
  · rcases h2 j k hj kj with e2 | ⟨e2, b2⟩
    · have := hlt j k hj e2; omega
    · rcases e1 with rfl | rfl <;> rcases e2 with rfl | rfl
      · exact hij rfl
      · exact h15 k ki kj
      · exact h15 k kj ki
      · exact hij rfl
theorem SepP.updU {K K2 : Nat → Nat → Prop} {B : Nat} (h : SepP K) (hlt : ∀ j k, j < 9 → K j k → k < B) (h2 : ∀ j k, j < 9 → K2 j k → (j ≠ 1 ∧ j ≠ 5 ∧ K j k) ∨ ((j = 1 ∨ j = 5) ∧ ((K 1 k ∨ K 5 k) ∨ B ≤ k))) (h15 : ∀ k, K2 1 k → ¬ K2 5 k) : SepP K2 := by
  have aux : ∀ i j k, i < 9 → j < 9 → (i ≠ 1 ∧ i ≠ 5 ∧ K i k) → ((j = 1 ∨ j = 5) ∧ ((K 1 k ∨ K 5 k) ∨ B ≤ k)) → False := by
    intro i j k hi hj ⟨n1, n5, e1⟩ ⟨_, e2⟩
    rcases e2 with (e2 | e2) | e2
    · exact h i 1 k hi (by omega) n1 e1 e2
    · exact h i 5 k hi (by omega) n5 e1 e2
    · have := hlt i k hi e1; omega
  intro i j k hi hj hij ki kj
  rcases h2 i k hi ki with e1 | e1
  · rcases h2 j k hj kj with e2 | e2
    · exact h i j k hi hj hij e1.2.2 e2.2.2
    · exact aux i j k hi hj e1 e2
  · rcases h2 j k hj kj with e2 | e2
    · exact aux j i k hj hi e2 e1
    · rcases e1.1 with rfl | rfl <;> rcases e2.1 with rfl | rfl
      · exact hij rfl
      · exact h15 k ki kj
      · exact h15 k kj ki
      · exact hij rfl
/-- G is the program's bus; its slices are V; it is S -/
structure Px (w : World) (G : PG) (V : PV) (S : BS) : Prop where
  bb : w.rowIs G.b 70 6 (bs6 G)
  pp : w.rowIs G.P 92 10 (pt10 G)
  wh : Wh 125 w G.g V.u S.L S.a
  ln : Ln w G.l S.up S.ask
  t0 : w.rowIs G.t0 138 5 (tm5 1 G.g (cwB S.r0 S.g0) S.p0 (ibB S.s0))
  t1 : w.rowIs G.t1 138 5 (tm5 2 G.g (cwB S.r1 S.g1) S.p1 (ibB S.s1))
  ub : w.rowIs G.u 132 7 (ut7 3 G.g G.c1 G.c2 V.o S.lost S.uc)
  q1 : Qu w G.c1 S.came
  q2 : Qu w G.c2 S.goes
  ou : w.ownsRow 0 5 1 V.o S.out.length (bys S.out)
  dm : w.rowIs G.d 140 7 (dm7 4 G.g G.r S.f S.t S.n (sw S.bz S.dn S.er))
  dk : w.rowIs G.k 134 8 (dk8 5 G.g G.r G.y G.n S.z S.kt S.kc (sw S.kz S.kd S.ke))
  mm : Mk 103 w G.r G.y G.O G.p G.n S.C S.D
  un : G.c1 ≠ G.c2 ∧ G.u ≠ G.c1 ∧ G.u ≠ G.c2
  uo : ∀ k, V.o.ownBlock = some k → k ≠ G.u ∧ k ≠ G.c1 ∧ k ≠ G.c2
  sep : SepP (KP G V)
/-- of what was there the bus's own blocks alone have turned -/
structure CP (G : PG) (V V2 : PV) (w w' : World) : Prop where
  fr : Fr (OwnP G V) w w'
  nw : ∀ k, OwnP G V2 k → OwnP G V k ∨ w.heap.size ≤ k
/-- it returns v; the bus is S2 then -/
def RetPx (v : Value) (w : World) (G : PG) (V : PV) (S2 : BS) (e : Ending) (w' : World) : Prop :=
  e = .returned v ∧ ∃ V2, Px w' G V2 S2 ∧ CP G V V2 w w'
section
variable {w w' w1 w2 : World} {G : PG} {V V2 V3 : PV} {S S2 : BS}
theorem CP.refl (G : PG) (V : PV) (w : World) : CP G V V w w := ⟨Fr.refl _ _, fun _ h => .inl h⟩
theorem CP.trans (h : CP G V V2 w w1) (k : CP G V2 V3 w1 w2) : CP G V V3 w w2 := by
  refine ⟨⟨k.fr.os.trans h.fr.os, k.fr.tape.trans h.fr.tape, k.fr.output.trans h.fr.output, Nat.le_trans h.fr.size k.fr.size, fun i hi hn => ?_⟩, fun i hi => ?_⟩
  · refine (k.fr.block i (Nat.lt_of_lt_of_le hi h.fr.size) (fun e => ?_)).trans (h.fr.block i hi hn)
    rcases h.nw i e with e | e
    · exact hn e
    · omega
  · rcases k.nw i hi with e | e
    · exact h.nw i e
    · exact .inr (Nat.le_trans h.fr.size e)
theorem CP.of (h : Fr (OwnP G V) w w') : CP G V V w w' := ⟨h, fun _ h => .inl h⟩
theorem CP.of_no (b : Fr (fun _ => False) w w') : CP G V V w w' := CP.of (b.mono fun _ e => e.elim)
theorem CP.of_below (b : Below w.heap.size w w') : CP G V V w w' := CP.of (Fr.of_below b)
theorem CP.drewN (G : PG) (V : PV) (w : World) (k : Nat) : CP G V V w (w.drewN k) := CP.of ((Fr.refl _ w).drewN k)
theorem Px.klt (h : Px w G V S) : ∀ j k, j < 9 → KP G V j k → k < w.heap.size := by
  intro j k hj hk
  match j, hj with
  | 0, _ => rcases (show k = G.b ∨ k = G.P from hk) with rfl | rfl
            · exact h.bb.lt
            · exact h.pp.lt
  | 1, _ => exact h.wh.lt k hk
  | 2, _ => exact (show k = G.l from hk) ▸ h.ln.lt
  | 3, _ => exact (show k = G.t0 from hk) ▸ h.t0.lt
  | 4, _ => exact (show k = G.t1 from hk) ▸ h.t1.lt
  | 5, _ => rcases (show k = G.u ∨ k = G.c1 ∨ k = G.c2 ∨ V.o.ownBlock = some k from hk) with rfl | rfl | rfl | e
            · exact h.ub.lt
            · exact h.q1.lt
            · exact h.q2.lt
            · exact (own_lt h.ou k e).2
  | 6, _ => exact (show k = G.d from hk) ▸ h.dm.lt
  | 7, _ => exact (show k = G.k from hk) ▸ h.dk.lt
  | 8, _ => exact h.mm.lt k hk
theorem Px.lt (h : Px w G V S) : ∀ k, OwnP G V k → k < w.heap.size := fun k ⟨i, hi, hk⟩ => h.klt i k hi hk
theorem Px.fr {Q : Nat → Prop} (h : Px w G V S) (f : Fr Q w w') (hs : ∀ k, OwnP G V k → ¬ Q k) : Px w' G V S :=
  ⟨h.bb.of_block (f.block _ h.bb.lt (hs _ ⟨0, by omega, .inl rfl⟩)), h.pp.of_block (f.block _ h.pp.lt (hs _ ⟨0, by omega, .inr rfl⟩)), h.wh.fr f (fun k hk => hs k ⟨1, by omega, hk⟩), h.ln.fr f (hs _ ⟨2, by omega, rfl⟩), h.t0.of_block (f.block _ h.t0.lt (hs _ ⟨3, by omega, rfl⟩)), h.t1.of_block (f.block _ h.t1.lt (hs _ ⟨4, by omega, rfl⟩)), h.ub.of_block (f.block _ h.ub.lt (hs _ ⟨5, by omega, .inl rfl⟩)), h.q1.fr f (hs _ ⟨5, by omega, .inr (.inl rfl)⟩), h.q2.fr f (hs _ ⟨5, by omega, .inr (.inr (.inl rfl))⟩), own_fr h.ou f (fun k hk => hs k ⟨5, by omega, .inr (.inr (.inr hk))⟩), h.dm.of_block (f.block _ h.dm.lt (hs _ ⟨6, by omega, rfl⟩)), h.dk.of_block (f.block _ h.dk.lt (hs _ ⟨7, by omega, rfl⟩)), h.mm.fr f (fun k hk => hs k ⟨8, by omega, hk⟩), h.un, h.uo, h.sep⟩
theorem Px.no (h : Px w G V S) (f : Fr (fun _ => False) w w') : Px w' G V S := h.fr f (fun _ _ => id)
theorem Px.drewN (h : Px w G V S) (k : Nat) : Px (w.drewN k) G V S := h.no ((Fr.refl (fun _ => False) w).drewN k)
theorem Px.below (h : Px w G V S) (b : Below w.heap.size w w') : Px w' G V S := h.no (Fr.of_below (S := fun _ => False) b)
theorem Px.alloc (h : Px w G V S) (o : Obj) : Px (w.alloc o) G V S := h.below ((Below.refl _ _).alloc (Nat.le_refl _) o)
/-! the bus's parts as the devices' own predicates -/
def getT0 (S : BS) : TS := ⟨S.r0, S.g0, S.s0, S.p0, S.L, S.a⟩
def getT1 (S : BS) : TS := ⟨S.r1, S.g1, S.s1, S.p1, S.L, S.a⟩
def putT0 (T : TS) (S : BS) : BS := { S with r0 := T.r, g0 := T.ag, s0 := T.s, p0 := T.p, L := T.L, a := T.a }
def putT1 (T : TS) (S : BS) : BS := { S with r1 := T.r, g1 := T.ag, s1 := T.s, p1 := T.p, L := T.L, a := T.a }
theorem Px.ti0 (h : Px w G V S) : Ti w G.t0 G.g 1 V.u (getT0 S) := ⟨h.t0, h.wh, fun e => h.sep 1 3 _ (by omega) (by omega) (by omega) e rfl⟩
theorem Px.ti1 (h : Px w G V S) : Ti w G.t1 G.g 2 V.u (getT1 S) := ⟨h.t1, h.wh, fun e => h.sep 1 4 _ (by omega) (by omega) (by omega) e rfl⟩
theorem Px.mv (h : Px w G V S) : Dm w G.d G.g G.r G.y G.O G.p G.n V.u S := ⟨h.dm, h.wh, h.mm, fun e => h.sep 1 6 _ (by omega) (by omega) (by omega) e rfl, fun e => h.sep 8 6 _ (by omega) (by omega) (by omega) e rfl, fun k e => h.sep 1 8 _ (by omega) (by omega) (by omega) e⟩
theorem Px.di (h : Px w G V S) : Dk w G.k G.g G.r G.y G.O G.p G.n V.u S := ⟨h.dk, h.wh, h.mm, fun e => h.sep 1 7 _ (by omega) (by omega) (by omega) e rfl, fun e => h.sep 8 7 _ (by omega) (by omega) (by omega) e rfl, fun k e => h.sep 1 8 _ (by omega) (by omega) (by omega) e⟩
/-- the uart's blocks and the wheel's -/
def KU (G : PG) (V : PV) (k : Nat) : Prop := KP G V 1 k ∨ KP G V 5 k
theorem Px.ua (h : Px w G V S) : Ua (KU G V) w w G.u G.g G.c1 G.c2 V.u V.o S := by
  refine ⟨h.ub, h.q1, h.q2, h.ou, h.wh, h.un.1, h.un.2, fun k hk => ?_, fun k hk => ?_, ⟨.inr (.inl rfl), .inr (.inr (.inl rfl)), .inr (.inr (.inr (.inl rfl)))⟩, fun k hk => .inl (.inl hk), fun k hk => .inl (.inr (.inr (.inr (.inr hk)))), Fr.refl _ _⟩
  · obtain ⟨a, b, c⟩ := h.uo k hk
    exact ⟨a, b, c, fun e => h.sep 1 5 k (by omega) (by omega) (by omega) e (.inr (.inr (.inr hk)))⟩
  · refine ⟨fun e => ?_, fun e => ?_, fun e => ?_⟩
    · exact h.sep 1 5 k (by omega) (by omega) (by omega) hk (.inl e)
    · exact h.sep 1 5 k (by omega) (by omega) (by omega) hk (.inr (.inl e))
    · exact h.sep 1 5 k (by omega) (by omega) (by omega) hk (.inr (.inr (.inl e)))
/-- part i is not of those that have turned -/
theorem Px.off (h : Px w G V S) {Q : Nat → Prop} (J : List Nat) (hJ : ∀ j ∈ J, j < 9) (hQ : ∀ k, Q k → ∃ j, j ∈ J ∧ KP G V j k) (i : Nat) (hi : i < 9) (hn : i ∉ J) : ∀ k, KP G V i k → ¬ Q k := by
  intro k hk hq
  obtain ⟨j, hj, hkj⟩ := hQ k hq
  exact h.sep i j k hi (hJ j hj) (fun e => hn (e ▸ hj)) hk hkj
/-- the wheel's slice is another one -/
theorem Px.sepU (h : Px w G V S) {v2 : Value} (hn : ∀ k, v2.ownBlock = some k → V.u.ownBlock = some k ∨ w.heap.size ≤ k) : SepP (KP G { V with u := v2 }) := by
  refine h.sep.upd (B := w.heap.size) h.klt (fun j k hj hk => ?_) (fun k h1 h5 => ?_)
  · match j, hj with
    | 0, _ => exact .inl hk
    | 1, _ => rcases (show k = G.g ∨ v2.ownBlock = some k from hk) with e | e
              · exact .inl (.inl e)
              · rcases hn k e with e | e
                · exact .inl (.inr e)
                · exact .inr ⟨.inl rfl, e⟩
    | 2, _ => exact .inl hk
    | 3, _ => exact .inl hk
    | 4, _ => exact .inl hk
    | 5, _ => exact .inl hk
    | 6, _ => exact .inl hk
    | 7, _ => exact .inl hk
    | 8, _ => exact .inl hk
  · have h5' : KP G V 5 k := h5
    rcases (show k = G.g ∨ v2.ownBlock = some k from h1) with e | e
    · exact h.sep 1 5 k (by omega) (by omega) (by omega) (.inl e) h5'
    · rcases hn k e with e | e
      · exact h.sep 1 5 k (by omega) (by omega) (by omega) (.inr e) h5'
      · have := h.klt 5 k (by omega) h5'; omega
theorem CP.ofU (h : Px w G V S) {v2 : Value} {Q : Nat → Prop} (f : Fr Q w w') (hQ : ∀ k, Q k → OwnP G V k) (hn : ∀ k, v2.ownBlock = some k → V.u.ownBlock = some k ∨ w.heap.size ≤ k) : CP G V { V with u := v2 } w w' := by
  refine ⟨f.mono hQ, fun k ⟨j, hj, hk⟩ => ?_⟩
  match j, hj with
  | 0, hj => exact .inl ⟨0, hj, hk⟩
  | 1, hj => rcases (show k = G.g ∨ v2.ownBlock = some k from hk) with e | e
             · exact .inl ⟨1, hj, .inl e⟩
             · rcases hn k e with e | e
               · exact .inl ⟨1, hj, .inr e⟩
               · exact .inr e
  | 2, hj => exact .inl ⟨2, hj, hk⟩
  | 3, hj => exact .inl ⟨3, hj, hk⟩
  | 4, hj => exact .inl ⟨4, hj, hk⟩
  | 5, hj => exact .inl ⟨5, hj, hk⟩
  | 6, hj => exact .inl ⟨6, hj, hk⟩
  | 7, hj => exact .inl ⟨7, hj, hk⟩
  | 8, hj => exact .inl ⟨8, hj, hk⟩
theorem Px.outT0 (h : Px w G V S) {v2 : Value} {T : TS} (hd : Ti w' G.t0 G.g 1 v2 T) (c : CT G.t0 G.g V.u v2 w w') : Px w' G { V with u := v2 } (putT0 T S) ∧ CP G V { V with u := v2 } w w' := by
  have f := c.fr
  have hJ : ∀ j ∈ ([1, 3] : List Nat), j < 9 := by decide
  have hQ : ∀ k, _ → ∃ j, j ∈ ([1, 3] : List Nat) ∧ KP G V j k := fun k (hk : OwnT G.t0 G.g V.u k) => by
    rcases hk with e | e
    · exact ⟨3, by decide, e⟩
    · exact ⟨1, by decide, e⟩
  have o0 := h.off [1, 3] hJ hQ 0 (by omega) (by decide)
  have o2 := h.off [1, 3] hJ hQ 2 (by omega) (by decide)
  have o4 := h.off [1, 3] hJ hQ 4 (by omega) (by decide)
  have o5 := h.off [1, 3] hJ hQ 5 (by omega) (by decide)
  have o6 := h.off [1, 3] hJ hQ 6 (by omega) (by decide)
  have o7 := h.off [1, 3] hJ hQ 7 (by omega) (by decide)
  have o8 := h.off [1, 3] hJ hQ 8 (by omega) (by decide)
  refine ⟨⟨h.bb.of_block (f.block _ h.bb.lt (o0 _ (.inl rfl))), h.pp.of_block (f.block _ h.pp.lt (o0 _ (.inr rfl))), hd.wh, h.ln.fr f (o2 _ rfl), hd.tm, h.t1.of_block (f.block _ h.t1.lt (o4 _ rfl)), h.ub.of_block (f.block _ h.ub.lt (o5 _ (.inl rfl))), h.q1.fr f (o5 _ (.inr (.inl rfl))), h.q2.fr f (o5 _ (.inr (.inr (.inl rfl)))), own_fr h.ou f (fun k hk => o5 k (.inr (.inr (.inr hk)))), h.dm.of_block (f.block _ h.dm.lt (o6 _ rfl)), h.dk.of_block (f.block _ h.dk.lt (o7 _ rfl)), h.mm.fr f o8, h.un, h.uo, h.sepU c.nw⟩, CP.ofU h f (fun k hk => by obtain ⟨j, hj, hk⟩ := hQ k hk; exact ⟨j, hJ j hj, hk⟩) c.nw⟩
theorem Px.outT1 (h : Px w G V S) {v2 : Value} {T : TS} (hd : Ti w' G.t1 G.g 2 v2 T) (c : CT G.t1 G.g V.u v2 w w') : Px w' G { V with u := v2 } (putT1 T S) ∧ CP G V { V with u := v2 } w w' := by
  have f := c.fr
  have hJ : ∀ j ∈ ([1, 4] : List Nat), j < 9 := by decide
  have hQ : ∀ k, _ → ∃ j, j ∈ ([1, 4] : List Nat) ∧ KP G V j k := fun k (hk : OwnT G.t1 G.g V.u k) => by
    rcases hk with e | e
    · exact ⟨4, by decide, e⟩
    · exact ⟨1, by decide, e⟩
  have o0 := h.off [1, 4] hJ hQ 0 (by omega) (by decide)
  have o2 := h.off [1, 4] hJ hQ 2 (by omega) (by decide)
  have o3 := h.off [1, 4] hJ hQ 3 (by omega) (by decide)
  have o5 := h.off [1, 4] hJ hQ 5 (by omega) (by decide)
  have o6 := h.off [1, 4] hJ hQ 6 (by omega) (by decide)
  have o7 := h.off [1, 4] hJ hQ 7 (by omega) (by decide)
  have o8 := h.off [1, 4] hJ hQ 8 (by omega) (by decide)
  refine ⟨⟨h.bb.of_block (f.block _ h.bb.lt (o0 _ (.inl rfl))), h.pp.of_block (f.block _ h.pp.lt (o0 _ (.inr rfl))), hd.wh, h.ln.fr f (o2 _ rfl), h.t0.of_block (f.block _ h.t0.lt (o3 _ rfl)), hd.tm, h.ub.of_block (f.block _ h.ub.lt (o5 _ (.inl rfl))), h.q1.fr f (o5 _ (.inr (.inl rfl))), h.q2.fr f (o5 _ (.inr (.inr (.inl rfl)))), own_fr h.ou f (fun k hk => o5 k (.inr (.inr (.inr hk)))), h.dm.of_block (f.block _ h.dm.lt (o6 _ rfl)), h.dk.of_block (f.block _ h.dk.lt (o7 _ rfl)), h.mm.fr f o8, h.un, h.uo, h.sepU c.nw⟩, CP.ofU h f (fun k hk => by obtain ⟨j, hj, hk⟩ := hQ k hk; exact ⟨j, hJ j hj, hk⟩) c.nw⟩
theorem Px.outM (h : Px w G V S) {v2 : Value} {S2 : BS} (hd : Dm w' G.d G.g G.r G.y G.O G.p G.n v2 S2) (c : CM G.d G.g G.O V.u v2 w w') (e : S2 = { S with f := S2.f, t := S2.t, n := S2.n, bz := S2.bz, dn := S2.dn, er := S2.er, L := S2.L, a := S2.a, C := S2.C, D := S2.D }) : Px w' G { V with u := v2 } S2 ∧ CP G V { V with u := v2 } w w' := by
  rw [e]; rw [e] at hd
  have f := c.fr
  have hJ : ∀ j ∈ ([1, 6, 8] : List Nat), j < 9 := by decide
  have hQ : ∀ k, _ → ∃ j, j ∈ ([1, 6, 8] : List Nat) ∧ KP G V j k := fun k (hk : OwnMv G.d G.g G.O V.u k) => by
    rcases hk with e | e | e
    · exact ⟨6, by decide, e⟩
    · exact ⟨1, by decide, e⟩
    · exact ⟨8, by decide, e⟩
  have o0 := h.off [1, 6, 8] hJ hQ 0 (by omega) (by decide)
  have o2 := h.off [1, 6, 8] hJ hQ 2 (by omega) (by decide)
  have o3 := h.off [1, 6, 8] hJ hQ 3 (by omega) (by decide)
  have o4 := h.off [1, 6, 8] hJ hQ 4 (by omega) (by decide)
  have o5 := h.off [1, 6, 8] hJ hQ 5 (by omega) (by decide)
  have o7 := h.off [1, 6, 8] hJ hQ 7 (by omega) (by decide)
  refine ⟨⟨h.bb.of_block (f.block _ h.bb.lt (o0 _ (.inl rfl))), h.pp.of_block (f.block _ h.pp.lt (o0 _ (.inr rfl))), hd.wh, h.ln.fr f (o2 _ rfl), h.t0.of_block (f.block _ h.t0.lt (o3 _ rfl)), h.t1.of_block (f.block _ h.t1.lt (o4 _ rfl)), h.ub.of_block (f.block _ h.ub.lt (o5 _ (.inl rfl))), h.q1.fr f (o5 _ (.inr (.inl rfl))), h.q2.fr f (o5 _ (.inr (.inr (.inl rfl)))), own_fr h.ou f (fun k hk => o5 k (.inr (.inr (.inr hk)))), hd.row, h.dk.of_block (f.block _ h.dk.lt (o7 _ rfl)), hd.mm, h.un, h.uo, h.sepU c.nw⟩, CP.ofU h f (fun k hk => by obtain ⟨j, hj, hk⟩ := hQ k hk; exact ⟨j, hJ j hj, hk⟩) c.nw⟩
theorem Px.outK (h : Px w G V S) {v2 : Value} {S2 : BS} (hd : Dk w' G.k G.g G.r G.y G.O G.p G.n v2 S2) (c : CK G.k G.g G.O V.u v2 w w') (e : S2 = { S with z := S2.z, kt := S2.kt, kc := S2.kc, kz := S2.kz, kd := S2.kd, ke := S2.ke, L := S2.L, a := S2.a, C := S2.C, D := S2.D }) : Px w' G { V with u := v2 } S2 ∧ CP G V { V with u := v2 } w w' := by
  rw [e]; rw [e] at hd
  have f := c.fr
  have hJ : ∀ j ∈ ([1, 7, 8] : List Nat), j < 9 := by decide
  have hQ : ∀ k, _ → ∃ j, j ∈ ([1, 7, 8] : List Nat) ∧ KP G V j k := fun k (hk : OwnDk G.k G.g G.O V.u k) => by
    rcases hk with e | e | e
    · exact ⟨7, by decide, e⟩
    · exact ⟨1, by decide, e⟩
    · exact ⟨8, by decide, e⟩
  have o0 := h.off [1, 7, 8] hJ hQ 0 (by omega) (by decide)
  have o2 := h.off [1, 7, 8] hJ hQ 2 (by omega) (by decide)
  have o3 := h.off [1, 7, 8] hJ hQ 3 (by omega) (by decide)
  have o4 := h.off [1, 7, 8] hJ hQ 4 (by omega) (by decide)
  have o5 := h.off [1, 7, 8] hJ hQ 5 (by omega) (by decide)
  have o6 := h.off [1, 7, 8] hJ hQ 6 (by omega) (by decide)
  refine ⟨⟨h.bb.of_block (f.block _ h.bb.lt (o0 _ (.inl rfl))), h.pp.of_block (f.block _ h.pp.lt (o0 _ (.inr rfl))), hd.wh, h.ln.fr f (o2 _ rfl), h.t0.of_block (f.block _ h.t0.lt (o3 _ rfl)), h.t1.of_block (f.block _ h.t1.lt (o4 _ rfl)), h.ub.of_block (f.block _ h.ub.lt (o5 _ (.inl rfl))), h.q1.fr f (o5 _ (.inr (.inl rfl))), h.q2.fr f (o5 _ (.inr (.inr (.inl rfl)))), own_fr h.ou f (fun k hk => o5 k (.inr (.inr (.inr hk)))), h.dm.of_block (f.block _ h.dm.lt (o6 _ rfl)), hd.row, hd.mm, h.un, h.uo, h.sepU c.nw⟩, CP.ofU h f (fun k hk => by obtain ⟨j, hj, hk⟩ := hQ k hk; exact ⟨j, hJ j hj, hk⟩) c.nw⟩
theorem Px.outL (h : Px w G V S) {a e : Int} (hd : Ln w' G.l a e) (f : Fr (fun k => k = G.l) w w') : Px w' G V { S with up := a, ask := e } ∧ CP G V V w w' := by
  skip
  have hJ : ∀ j ∈ ([2] : List Nat), j < 9 := by decide
  have hQ : ∀ k, _ → ∃ j, j ∈ ([2] : List Nat) ∧ KP G V j k := fun k (hk : k = G.l) => ⟨2, by decide, hk⟩
  have o0 := h.off [2] hJ hQ 0 (by omega) (by decide)
  have o1 := h.off [2] hJ hQ 1 (by omega) (by decide)
  have o3 := h.off [2] hJ hQ 3 (by omega) (by decide)
  have o4 := h.off [2] hJ hQ 4 (by omega) (by decide)
  have o5 := h.off [2] hJ hQ 5 (by omega) (by decide)
  have o6 := h.off [2] hJ hQ 6 (by omega) (by decide)
  have o7 := h.off [2] hJ hQ 7 (by omega) (by decide)
  have o8 := h.off [2] hJ hQ 8 (by omega) (by decide)
  refine ⟨⟨h.bb.of_block (f.block _ h.bb.lt (o0 _ (.inl rfl))), h.pp.of_block (f.block _ h.pp.lt (o0 _ (.inr rfl))), h.wh.fr f o1, hd, h.t0.of_block (f.block _ h.t0.lt (o3 _ rfl)), h.t1.of_block (f.block _ h.t1.lt (o4 _ rfl)), h.ub.of_block (f.block _ h.ub.lt (o5 _ (.inl rfl))), h.q1.fr f (o5 _ (.inr (.inl rfl))), h.q2.fr f (o5 _ (.inr (.inr (.inl rfl)))), own_fr h.ou f (fun k hk => o5 k (.inr (.inr (.inr hk)))), h.dm.of_block (f.block _ h.dm.lt (o6 _ rfl)), h.dk.of_block (f.block _ h.dk.lt (o7 _ rfl)), h.mm.fr f o8, h.un, h.uo, h.sep⟩, CP.of (f.mono fun k hk => ⟨2, by omega, hk⟩)⟩
theorem Px.outR (h : Px w G V S) {C : Nat → Int} (hd : Mk 103 w' G.r G.y G.O G.p G.n C S.D) (f : Fr G.O w w') : Px w' G V { S with C := C } ∧ CP G V V w w' := by
  skip
  have hJ : ∀ j ∈ ([8] : List Nat), j < 9 := by decide
  have hQ : ∀ k, _ → ∃ j, j ∈ ([8] : List Nat) ∧ KP G V j k := fun k (hk : G.O k) => ⟨8, by decide, hk⟩
  have o0 := h.off [8] hJ hQ 0 (by omega) (by decide)
  have o1 := h.off [8] hJ hQ 1 (by omega) (by decide)
  have o2 := h.off [8] hJ hQ 2 (by omega) (by decide)
  have o3 := h.off [8] hJ hQ 3 (by omega) (by decide)
  have o4 := h.off [8] hJ hQ 4 (by omega) (by decide)
  have o5 := h.off [8] hJ hQ 5 (by omega) (by decide)
  have o6 := h.off [8] hJ hQ 6 (by omega) (by decide)
  have o7 := h.off [8] hJ hQ 7 (by omega) (by decide)
  refine ⟨⟨h.bb.of_block (f.block _ h.bb.lt (o0 _ (.inl rfl))), h.pp.of_block (f.block _ h.pp.lt (o0 _ (.inr rfl))), h.wh.fr f o1, h.ln.fr f (o2 _ rfl), h.t0.of_block (f.block _ h.t0.lt (o3 _ rfl)), h.t1.of_block (f.block _ h.t1.lt (o4 _ rfl)), h.ub.of_block (f.block _ h.ub.lt (o5 _ (.inl rfl))), h.q1.fr f (o5 _ (.inr (.inl rfl))), h.q2.fr f (o5 _ (.inr (.inr (.inl rfl)))), own_fr h.ou f (fun k hk => o5 k (.inr (.inr (.inr hk)))), h.dm.of_block (f.block _ h.dm.lt (o6 _ rfl)), h.dk.of_block (f.block _ h.dk.lt (o7 _ rfl)), hd, h.un, h.uo, h.sep⟩, CP.of (f.mono fun k hk => ⟨8, by omega, hk⟩)⟩
theorem Px.outW (h : Px w G V S) {v2 : Value} {L : List Ev} {a : Int} (hd : Wh 125 w' G.g v2 L a) (c : Ch G.g V.u v2 w w') : Px w' G { V with u := v2 } { S with L := L, a := a } ∧ CP G V { V with u := v2 } w w' := by
  have f := c.fr
  have hJ : ∀ j ∈ ([1] : List Nat), j < 9 := by decide
  have hQ : ∀ k, _ → ∃ j, j ∈ ([1] : List Nat) ∧ KP G V j k := fun k (hk : Own G.g V.u k) => ⟨1, by decide, hk⟩
  have o0 := h.off [1] hJ hQ 0 (by omega) (by decide)
  have o2 := h.off [1] hJ hQ 2 (by omega) (by decide)
  have o3 := h.off [1] hJ hQ 3 (by omega) (by decide)
  have o4 := h.off [1] hJ hQ 4 (by omega) (by decide)
  have o5 := h.off [1] hJ hQ 5 (by omega) (by decide)
  have o6 := h.off [1] hJ hQ 6 (by omega) (by decide)
  have o7 := h.off [1] hJ hQ 7 (by omega) (by decide)
  have o8 := h.off [1] hJ hQ 8 (by omega) (by decide)
  refine ⟨⟨h.bb.of_block (f.block _ h.bb.lt (o0 _ (.inl rfl))), h.pp.of_block (f.block _ h.pp.lt (o0 _ (.inr rfl))), hd, h.ln.fr f (o2 _ rfl), h.t0.of_block (f.block _ h.t0.lt (o3 _ rfl)), h.t1.of_block (f.block _ h.t1.lt (o4 _ rfl)), h.ub.of_block (f.block _ h.ub.lt (o5 _ (.inl rfl))), h.q1.fr f (o5 _ (.inr (.inl rfl))), h.q2.fr f (o5 _ (.inr (.inr (.inl rfl)))), own_fr h.ou f (fun k hk => o5 k (.inr (.inr (.inr hk)))), h.dm.of_block (f.block _ h.dm.lt (o6 _ rfl)), h.dk.of_block (f.block _ h.dk.lt (o7 _ rfl)), h.mm.fr f o8, h.un, h.uo, h.sepU c.nw⟩, CP.ofU h f (fun k hk => ⟨1, by omega, hk⟩) c.nw⟩
theorem Px.sepUo (h : Px w G V S) {v2 o2 : Value} (hu : Ua (KU G V) w w' G.u G.g G.c1 G.c2 v2 o2 S2) : SepP (KP G ⟨v2, o2⟩) := by
  refine h.sep.updU (B := w.heap.size) h.klt (fun j k hj hk => ?_) (fun k h1 h5 => ?_)
  · match j, hj with
    | 0, _ => exact .inl ⟨by omega, by omega, hk⟩
    | 1, _ => exact .inr ⟨.inl rfl, hu.ng k hk⟩
    | 2, _ => exact .inl ⟨by omega, by omega, hk⟩
    | 3, _ => exact .inl ⟨by omega, by omega, hk⟩
    | 4, _ => exact .inl ⟨by omega, by omega, hk⟩
    | 5, _ =>
      refine .inr ⟨.inr rfl, ?_⟩
      rcases (show k = G.u ∨ k = G.c1 ∨ k = G.c2 ∨ o2.ownBlock = some k from hk) with e | e | e | e
      · exact .inl (.inr (.inl e))
      · exact .inl (.inr (.inr (.inl e)))
      · exact .inl (.inr (.inr (.inr (.inl e))))
      · exact hu.nn k e
    | 6, _ => exact .inl ⟨by omega, by omega, hk⟩
    | 7, _ => exact .inl ⟨by omega, by omega, hk⟩
    | 8, _ => exact .inl ⟨by omega, by omega, hk⟩
  · have hw := hu.nw k h1
    rcases (show k = G.u ∨ k = G.c1 ∨ k = G.c2 ∨ o2.ownBlock = some k from h5) with e | e | e | e
    · exact hw.1 e
    · exact hw.2.1 e
    · exact hw.2.2 e
    · exact (hu.no k e).2.2.2 h1
theorem CP.ofUa (h : Px w G V S) {v2 o2 : Value} (hu : Ua (KU G V) w w' G.u G.g G.c1 G.c2 v2 o2 S2) : CP G V ⟨v2, o2⟩ w w' := by
  have kk : ∀ k, KU G V k → OwnP G V k := by
    intro k hk
    rcases hk with e | e
    · exact ⟨1, by omega, e⟩
    · exact ⟨5, by omega, e⟩
  refine ⟨hu.bl.mono kk, fun k ⟨j, hj, hk⟩ => ?_⟩
  match j, hj with
  | 0, hj => exact .inl ⟨0, hj, hk⟩
  | 1, hj => exact (hu.ng k hk).imp_left (kk k)
  | 2, hj => exact .inl ⟨2, hj, hk⟩
  | 3, hj => exact .inl ⟨3, hj, hk⟩
  | 4, hj => exact .inl ⟨4, hj, hk⟩
  | 5, hj =>
    rcases (show k = G.u ∨ k = G.c1 ∨ k = G.c2 ∨ o2.ownBlock = some k from hk) with e | e | e | e
    · exact .inl ⟨5, hj, .inl e⟩
    · exact .inl ⟨5, hj, .inr (.inl e)⟩
    · exact .inl ⟨5, hj, .inr (.inr (.inl e))⟩
    · exact (hu.nn k e).imp_left (kk k)
  | 6, hj => exact .inl ⟨6, hj, hk⟩
  | 7, hj => exact .inl ⟨7, hj, hk⟩
  | 8, hj => exact .inl ⟨8, hj, hk⟩
theorem Px.outU (h : Px w G V S) {v2 o2 : Value} {S2 : BS} (hd : Ua (KU G V) w w' G.u G.g G.c1 G.c2 v2 o2 S2) (e : S2 = { S with came := S2.came, goes := S2.goes, out := S2.out, lost := S2.lost, uc := S2.uc, L := S2.L, a := S2.a }) : Px w' G ⟨v2, o2⟩ S2 ∧ CP G V ⟨v2, o2⟩ w w' := by
  rw [e]; rw [e] at hd
  have f := hd.bl
  have hJ : ∀ j ∈ ([1, 5] : List Nat), j < 9 := by decide
  have hQ : ∀ k, _ → ∃ j, j ∈ ([1, 5] : List Nat) ∧ KP G V j k := fun k (hk : KU G V k) => by
    rcases hk with e | e
    · exact ⟨1, by decide, e⟩
    · exact ⟨5, by decide, e⟩
  have o0 := h.off [1, 5] hJ hQ 0 (by omega) (by decide)
  have o2 := h.off [1, 5] hJ hQ 2 (by omega) (by decide)
  have o3 := h.off [1, 5] hJ hQ 3 (by omega) (by decide)
  have o4 := h.off [1, 5] hJ hQ 4 (by omega) (by decide)
  have o6 := h.off [1, 5] hJ hQ 6 (by omega) (by decide)
  have o7 := h.off [1, 5] hJ hQ 7 (by omega) (by decide)
  have o8 := h.off [1, 5] hJ hQ 8 (by omega) (by decide)
  refine ⟨⟨h.bb.of_block (f.block _ h.bb.lt (o0 _ (.inl rfl))), h.pp.of_block (f.block _ h.pp.lt (o0 _ (.inr rfl))), hd.wh, h.ln.fr f (o2 _ rfl), h.t0.of_block (f.block _ h.t0.lt (o3 _ rfl)), h.t1.of_block (f.block _ h.t1.lt (o4 _ rfl)), hd.tm, hd.q1, hd.q2, hd.ou, h.dm.of_block (f.block _ h.dm.lt (o6 _ rfl)), h.dk.of_block (f.block _ h.dk.lt (o7 _ rfl)), h.mm.fr f o8, h.un, fun k hk => ⟨(hd.no k hk).1, (hd.no k hk).2.1, (hd.no k hk).2.2.1⟩, h.sepUo hd⟩, CP.ofUa h hd⟩
end
end Go.Proofs.YtkfedihaldpgmaaGreat

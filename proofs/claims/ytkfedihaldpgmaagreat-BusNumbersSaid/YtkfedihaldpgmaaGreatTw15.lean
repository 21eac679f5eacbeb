/-
  Chapter 15: a bus whose blocks are all new; a bus and the document's, side by side; what each call does to both.
-/
import Derived.Test.YtkfedihaldpgmaaGreatBz15
namespace Go.Proofs.YtkfedihaldpgmaaGreat
open Go.RowKit
set_option linter.unusedVariables false
set_option linter.unusedSimpArgs false
/-- a state that a call leaves: within bounds, lines gathered -/
structure Ok (N : Int) (S : BS) : Prop where
  g : Gk N S
  e : gat S = S
section
variable {N : Int} {S : BS} {p n : Nat}
theorem Ok.mono {N2 : Int} (h : Ok N S) (hn : N ≤ N2) : Ok N2 S := ⟨h.g.mono hn, h.e⟩
theorem gat_zero (C D : Nat → Int) : gat (S0B C D) = S0B C D := by
  have h : linesW (S0B C D) = 0 := by
    have e : lineU (S0B C D) = false := by
      show (((bits .and .u32 0 1 != 0) && decide (0 < ([] : List Int).length)) || ((bits .and .u32 0 2 != 0) && decide (([] : List Int).length = 0))) = false
      rw [show bits .and .u32 0 2 = 0 from rfl, show bits .and .u32 0 1 = 0 from rfl]
      rfl
    show upW false false (lineU (S0B C D)) false false = 0
    rw [e]
    rfl
  show { S0B C D with up := linesW (S0B C D) } = _
  rw [h]
  rfl
theorem Ok.zero (C D : Nat → Int) : Ok 0 (S0B C D) := by
  refine ⟨⟨by show (0 : Int) ≤ 0; omega, by show (0 : Int) ≤ 0; omega, by show ((0 : Nat) : Int) ≤ 0; omega, by show ((0 : Nat) : Int) ≤ 0; omega, fun e he => (by cases he), ?_, ?_⟩, gat_zero C D⟩
  · refine ⟨?_, ?_, ?_, ?_, ?_, ?_, ?_, ?_, ⟨false, false, false, false, false, rfl⟩⟩ <;> first | exact (show (0 : Int) ≤ 0 ∧ (0 : Int) < 4294967296 from ⟨by decide, by decide⟩) | exact (show (0 : Int) ≤ 0 ∧ (0 : Int) ≤ 3 from ⟨by decide, by decide⟩)
  · exact ⟨fun x hx => (by cases hx), fun x hx => (by cases hx), fun x hx => (by cases hx), Nat.zero_le 16, Nat.zero_le 16⟩
theorem Ok.ld (h : Ok N S) (a k : Int) : Ok N (ldS p a k S) := by
  unfold ldS
  split
  · exact h
  · exact ⟨(h.g.rdX _ _).gath, gat_gat _⟩
  · exact h
theorem Ok.setC (h : Ok N S) (C : Nat → Int) : Ok N { S with C := C } := ⟨h.g.mem C S.D, by show { gat S with C := C } = _; rw [h.e]⟩
theorem Ok.st (h : Ok N S) (a k : Int) {x now : Int} (hx : Wd x) (hn : 0 ≤ now) : Ok (N + 1) (stS p a k x now S) := by
  unfold stS
  split
  · exact (h.setC _).mono (by omega)
  · exact ⟨(h.g.setX _ _ _ _ hx hn).gath, gat_gat _⟩
  · exact h.mono (by omega)
theorem Gk.run {now : Int} : ∀ (k : Nat) {S : BS} {N : Int}, Gk N S → Gk (N + k) (runS p n now k S)
  | 0, S, N, h => h.mono (by omega)
  | k + 1, S, N, h => by
    cases hd : dueB now S.L with
    | true =>
      have e : runS p n now (k + 1) S = runS p n now k (stepF p n now S) := by show (match dueB now S.L with | true => _ | false => _) = _; rw [hd]
      rw [e]
      exact (Gk.run k (h.step hd)).mono (by omega)
    | false =>
      have e : runS p n now (k + 1) S = S := by show (match dueB now S.L with | true => _ | false => _) = _; rw [hd]
      rw [e]
      exact h.mono (by omega)
theorem Ok.fire (h : Ok N S) (now : Int) : Ok (N + 256) (gat (runS p n now 256 S)) := ⟨(h.g.run 256).gath, gat_gat _⟩
theorem Ok.typ (h : Ok N S) {b : Int} (hb : 0 ≤ b ∧ b ≤ 255) : Ok N (gat (typeB b S)) := ⟨(h.g.typ b hb).gath, gat_gat _⟩
end
/-- a bus whose blocks are all new since W0; what was there is as it was -/
structure One (W0 : World) (G : PG) (w : World) (U : PV) (S : BS) : Prop where
  px : Px w G U S
  nw : ∀ k, OwnP G U k → W0.heap.size ≤ k
  bl : Below W0.heap.size W0 w
def RetO (v : Value) (W0 : World) (G : PG) (S2 : BS) (e : Ending) (w' : World) : Prop := e = .returned v ∧ ∃ U2, One W0 G w' U2 S2
section
variable {W0 w w1 : World} {G : PG} {U U2 : PV} {S S2 : BS} {N : Int} {v : Value} {e : Ending}
theorem One.step (h : One W0 G w U S) (h1 : Px w1 G U2 S2) (c : CP G U U2 w w1) : One W0 G w1 U2 S2 := by
  refine ⟨h1, fun k hk => ?_, h.bl.trans (c.fr.below h.bl.size (fun k hk e => by have := h.nw k e; omega))⟩
  rcases c.nw k hk with e | e
  · exact h.nw k e
  · exact Nat.le_trans h.bl.size e
theorem One.ret (h : One W0 G w U S) (r : RetPx v w G U S2 e w1) : RetO v W0 G S2 e w1 := let ⟨he, U2, h1, c⟩ := r; ⟨he, U2, h.step h1 c⟩
theorem One.no (h : One W0 G w U S) (f : Fr (fun _ => False) w w1) : One W0 G w1 U S := h.step (h.px.no f) (CP.of_no f)
theorem One.drewN (h : One W0 G w U S) (k : Nat) : One W0 G (w.drewN k) U S := h.step (h.px.drewN k) (CP.drewN G U w k)
theorem One.below (h : One W0 G w U S) (b : Below w.heap.size w w1) : One W0 G w1 U S := h.no (Fr.of_below b)
theorem load1 (a n now : Int) (h : One W0 G w U S) (hG : Gk N S) (h0 : 0 ≤ a) (h1 : a < 4294967296) (m0 : -9223372036854775808 ≤ n) (m1 : n ≤ 9223372036854775807) (n0 : 0 ≤ now) (n1 : now ≤ 4611686018427387000) :
    Calls Tryz.prog 7 #[.pointer (some ⟨G.b, 0, none⟩), .int .u32 a, .int .i64 n, .int .i64 now] w (RetO (ldV G.p a n now S) W0 G (ldS G.p a n S)) :=
  (bload_any a n now h.px hG h0 h1 m0 m1 n0 n1).mono fun _ _ r => h.ret r
theorem store1 (a n x now : Int) (h : One W0 G w U S) (hG : Gk N S) (hN : N + 1 ≤ 60000) (h0 : 0 ≤ a) (h1 : a < 4294967296) (m0 : -9223372036854775808 ≤ n) (m1 : n ≤ 9223372036854775807) (hx : Wd x) (n0 : 0 ≤ now) (n1 : now ≤ 4611686018427387000) :
    Calls Tryz.prog 9 #[.pointer (some ⟨G.b, 0, none⟩), .int .u32 a, .int .i64 n, .int .u32 x, .int .i64 now] w (RetO (.bool (stV G.p a n)) W0 G (stS G.p a n x now S)) :=
  (bstore_any a n x now h.px hG hN h0 h1 m0 m1 hx n0 n1).mono fun _ _ r => h.ret r
theorem fire1 (now : Int) (h : One W0 G w U S) (hG : Gk N S) (hN : N + 256 ≤ 60000) (hn : G.n ≤ 64) (n0 : 0 ≤ now) (n1 : now ≤ 4611686018427387000) :
    Calls Tryz.prog 12 #[.pointer (some ⟨G.b, 0, none⟩), .int .i64 now] w (RetO (.int .i64 (runC G.p G.n now 256 S : Int)) W0 G (gat (runS G.p G.n now 256 S))) :=
  (bfire_any now h.px hG hN hn n0 n1).mono fun _ _ r => h.ret r
end
/-- a bus and the document's; their blocks are apart, all new since W0 -/
structure Two (W0 : World) (G : PG) (m r y : Nat) (O : Nat → Prop) (w : World) (U : PV) (V : SV) (S R : BS) : Prop where
  ta : Px w G U S
  tb : Bx w m r y O G.p G.n V R
  sep : ∀ k, OwnP G U k → ¬ OwnB m O V k
  na : ∀ k, OwnP G U k → W0.heap.size ≤ k
  nb : ∀ k, OwnB m O V k → W0.heap.size ≤ k
  bl : Below W0.heap.size W0 w
/-- neither's -/
def Out2 (G : PG) (m : Nat) (O : Nat → Prop) (U : PV) (V : SV) (X : Nat) : Prop := ¬ OwnP G U X ∧ ¬ OwnB m O V X
/-- what was neither's stays, and neither's -/
def Off (G : PG) (m : Nat) (O : Nat → Prop) (U : PV) (V : SV) (U2 : PV) (V2 : SV) (w w' : World) : Prop :=
  ∀ X, X < w.heap.size → Out2 G m O U V X → w'.heap[X]? = w.heap[X]? ∧ X < w'.heap.size ∧ Out2 G m O U2 V2 X
section
variable {W0 w w1 w2 : World} {G : PG} {m r y : Nat} {O : Nat → Prop} {U U2 U3 : PV} {V V2 V3 : SV} {S S2 R R2 : BS} {N : Int} {v : Value} {e : Ending}
theorem Off.refl : Off G m O U V U V w w := fun X h0 h => ⟨rfl, h0, h⟩
theorem Off.trans (h : Off G m O U V U2 V2 w w1) (k : Off G m O U2 V2 U3 V3 w1 w2) : Off G m O U V U3 V3 w w2 := fun X h0 h1 =>
  let ⟨a, b, c⟩ := h X h0 h1
  let ⟨a2, b2, c2⟩ := k X b c
  ⟨a2.trans a, b2, c2⟩
theorem Off.left (c : CP G U U2 w w1) : Off G m O U V U2 V w w1 := fun X h0 h1 => ⟨c.fr.block X h0 h1.1, Nat.lt_of_lt_of_le h0 c.fr.size, fun e => by
  rcases c.nw X e with e | e
  · exact h1.1 e
  · omega, h1.2⟩
theorem Off.right (c : CB m O V V2 w w1) : Off G m O U V U V2 w w1 := fun X h0 h1 => ⟨c.fr.block X h0 h1.2, Nat.lt_of_lt_of_le h0 c.fr.size, h1.1, fun e => by
  rcases c.nw X e with e | e
  · exact h1.2 e
  · omega⟩
theorem Two.left (h : Two W0 G m r y O w U V S R) (h1 : Px w1 G U2 S2) (c : CP G U U2 w w1) : Two W0 G m r y O w1 U2 V S2 R := by
  refine ⟨h1, h.tb.fr c.fr (fun k hk e => h.sep k e hk), ?_, ?_, h.nb, h.bl.trans (c.fr.below h.bl.size (fun k hk e => by have := h.na k e; omega))⟩
  · intro k hk hm
    rcases c.nw k hk with e | e
    · exact h.sep k e hm
    · have := h.tb.lt k hm; omega
  · intro k hk
    rcases c.nw k hk with e | e
    · exact h.na k e
    · have := h.bl.size; omega
theorem Two.right (h : Two W0 G m r y O w U V S R) (h1 : Bx w1 m r y O G.p G.n V2 R2) (c : CB m O V V2 w w1) : Two W0 G m r y O w1 U V2 S R2 := by
  refine ⟨h.ta.fr c.fr (fun k hk e => h.sep k hk e), h1, ?_, h.na, ?_, h.bl.trans (c.fr.below h.bl.size (fun k hk e => by have := h.nb k e; omega))⟩
  · intro k hk hm
    rcases c.nw k hm with e | e
    · exact h.sep k hk e
    · have := h.ta.lt k hk; omega
  · intro k hk
    rcases c.nw k hk with e | e
    · exact h.nb k e
    · have := h.bl.size; omega
theorem Two.no (h : Two W0 G m r y O w U V S R) (f : Fr (fun _ => False) w w1) : Two W0 G m r y O w1 U V S R := h.left (h.ta.no f) (CP.of_no f)
theorem Two.below (h : Two W0 G m r y O w U V S R) (b : Below w.heap.size w w1) : Two W0 G m r y O w1 U V S R := h.no (Fr.of_below b)
theorem Two.alloc (h : Two W0 G m r y O w U V S R) (o : Obj) : Two W0 G m r y O (w.alloc o) U V S R := h.below ((Below.refl _ _).alloc (Nat.le_refl _) o)
theorem Two.drewN (h : Two W0 G m r y O w U V S R) (k : Nat) : Two W0 G m r y O (w.drewN k) U V S R := h.left (h.ta.drewN k) (CP.drewN G U w k)
/-- it returns v; the program's bus is S2 then -/
def RetA (v : Value) (W0 : World) (G : PG) (m r y : Nat) (O : Nat → Prop) (U : PV) (V : SV) (S2 R : BS) (w : World) (e : Ending) (w' : World) : Prop := e = .returned v ∧ ∃ U2, Two W0 G m r y O w' U2 V S2 R ∧ Off G m O U V U2 V w w'
/-- it returns v; the document's bus is R2 then -/
def RetB2 (v : Value) (W0 : World) (G : PG) (m r y : Nat) (O : Nat → Prop) (U : PV) (V : SV) (S R2 : BS) (w : World) (e : Ending) (w' : World) : Prop := e = .returned v ∧ ∃ V2, Two W0 G m r y O w' U V2 S R2 ∧ Off G m O U V U V2 w w'
theorem Two.retA (h : Two W0 G m r y O w U V S R) (q : RetPx v w G U S2 e w1) : RetA v W0 G m r y O U V S2 R w e w1 := let ⟨he, U2, h1, c⟩ := q; ⟨he, U2, h.left h1 c, Off.left c⟩
theorem Two.retB (h : Two W0 G m r y O w U V S R) (q : RetN v w m r y O G.p G.n V R2 e w1) : RetB2 v W0 G m r y O U V S R2 w e w1 := let ⟨he, V2, h1, c⟩ := q; ⟨he, V2, h.right h1 c, Off.right c⟩
theorem loadA (a n now : Int) (h : Two W0 G m r y O w U V S R) (hG : Ok N S) (h0 : 0 ≤ a) (h1 : a < 4294967296) (m0 : -9223372036854775808 ≤ n) (m1 : n ≤ 9223372036854775807) (n0 : 0 ≤ now) (n1 : now ≤ 4611686018427387000) :
    Calls Tryz.prog 7 #[.pointer (some ⟨G.b, 0, none⟩), .int .u32 a, .int .i64 n, .int .i64 now] w (RetA (ldV G.p a n now S) W0 G m r y O U V (ldS G.p a n S) R w) :=
  (bload_any a n now h.ta hG.g h0 h1 m0 m1 n0 n1).mono fun _ _ q => h.retA q
theorem loadB (a n now : Int) (h : Two W0 G m r y O w U V S R) (hG : Ok N R) (h0 : 0 ≤ a) (h1 : a < 4294967296) (m0 : -9223372036854775808 ≤ n) (m1 : n ≤ 9223372036854775807) (n0 : 0 ≤ now) (n1 : now ≤ 4611686018427387000) :
    Calls Tryz.prog 8 #[.pointer (some ⟨m, 0, none⟩), .int .u32 a, .int .i64 n, .int .i64 now] w (RetB2 (ldV G.p a n now R) W0 G m r y O U V S (ldS G.p a n R) w) :=
  (rbload_any a n now h.tb hG.g hG.e h0 h1 m0 m1 n0 n1).mono fun _ _ q => h.retB q
theorem storeA (a n x now : Int) (h : Two W0 G m r y O w U V S R) (hG : Ok N S) (hN : N + 1 ≤ 60000) (h0 : 0 ≤ a) (h1 : a < 4294967296) (m0 : -9223372036854775808 ≤ n) (m1 : n ≤ 9223372036854775807) (hx : Wd x) (n0 : 0 ≤ now) (n1 : now ≤ 4611686018427387000) :
    Calls Tryz.prog 9 #[.pointer (some ⟨G.b, 0, none⟩), .int .u32 a, .int .i64 n, .int .u32 x, .int .i64 now] w (RetA (.bool (stV G.p a n)) W0 G m r y O U V (stS G.p a n x now S) R w) :=
  (bstore_any a n x now h.ta hG.g hN h0 h1 m0 m1 hx n0 n1).mono fun _ _ q => h.retA q
theorem storeB (a n x now : Int) (h : Two W0 G m r y O w U V S R) (hG : Ok N R) (hN : N + 1 ≤ 60000) (h0 : 0 ≤ a) (h1 : a < 4294967296) (m0 : -9223372036854775808 ≤ n) (m1 : n ≤ 9223372036854775807) (hx : Wd x) (n0 : 0 ≤ now) (n1 : now ≤ 4611686018427387000) :
    Calls Tryz.prog 10 #[.pointer (some ⟨m, 0, none⟩), .int .u32 a, .int .i64 n, .int .u32 x, .int .i64 now] w (RetB2 (.bool (stV G.p a n)) W0 G m r y O U V S (stS G.p a n x now R) w) :=
  (rbstore_any a n x now h.tb hG.g hN hG.e h0 h1 m0 m1 hx n0 n1).mono fun _ _ q => h.retB q
theorem fireA (now : Int) (h : Two W0 G m r y O w U V S R) (hG : Ok N S) (hN : N + 256 ≤ 60000) (hn : G.n ≤ 64) (n0 : 0 ≤ now) (n1 : now ≤ 4611686018427387000) :
    Calls Tryz.prog 12 #[.pointer (some ⟨G.b, 0, none⟩), .int .i64 now] w (RetA (.int .i64 (runC G.p G.n now 256 S : Int)) W0 G m r y O U V (gat (runS G.p G.n now 256 S)) R w) :=
  (bfire_any now h.ta hG.g hN hn n0 n1).mono fun _ _ q => h.retA q
theorem fireB (now : Int) (h : Two W0 G m r y O w U V S R) (hG : Ok N R) (hN : N + 256 ≤ 60000) (hn : G.n ≤ 64) (n0 : 0 ≤ now) (n1 : now ≤ 4611686018427387000) :
    Calls Tryz.prog 13 #[.pointer (some ⟨m, 0, none⟩), .int .i64 now] w (RetB2 (.int .i64 (runC G.p G.n now 256 R : Int)) W0 G m r y O U V S (gat (runS G.p G.n now 256 R)) w) :=
  (rfire_any now h.tb hG.g hN hn n0 n1).mono fun _ _ q => h.retB q
theorem typeA (b : Int) (h : Two W0 G m r y O w U V S R) (hG : Ok N S) (hb : 0 ≤ b ∧ b ≤ 255) :
    Calls Tryz.prog 47 #[.pointer (some ⟨G.b, 0, none⟩), .int .u8 b] w (RetA (.tuple #[]) W0 G m r y O U V (gat (typeB b S)) R w) :=
  (btype_any b h.ta hG.g hb).mono fun _ _ q => h.retA q
theorem typeB2 (b : Int) (h : Two W0 G m r y O w U V S R) (hb : 0 ≤ b ∧ b ≤ 255) :
    Calls Tryz.prog 48 #[.pointer (some ⟨m, 0, none⟩), .int .u8 b] w (RetB2 (.tuple #[]) W0 G m r y O U V S (gat (typeB b R)) w) :=
  (rtype_any b h.tb hb).mono fun _ _ q => h.retB q
theorem two_new {W0 w1 w2 : World} {G : PG} {U : PV} {m r y : Nat} {O : Nat → Prop} {S : BS} (hP : Px w1 G U S) (ho : ∀ k, OwnP G U k → W0.heap.size ≤ k) (hb : Below W0.heap.size W0 w1) {V : SV} (hB : Bx w2 m r y O G.p G.n V S) (ho2 : ∀ k, OwnB m O V k → w1.heap.size ≤ k) (hb2 : Below w1.heap.size w1 w2) :
    Two W0 G m r y O w2 U V S S := by
  have s1 := hb.size
  refine ⟨hP.below hb2, hB, fun k hk e => ?_, ho, fun k hk => ?_, hb.trans (hb2.mono s1)⟩
  · have h1 := hP.lt k hk
    have h2 := ho2 k e
    omega
  · have := ho2 k hk; omega
end
end Go.Proofs.YtkfedihaldpgmaaGreat

/-
  Chapter 15: two lists made, two buses over them, in any order: what stands at each point (BusNumbers' first region).
-/
import Derived.Test.YtkfedihaldpgmaaGreatPl15
import Derived.Deep.RegionHeld3
namespace Go.Proofs.YtkfedihaldpgmaaGreat
open Go.RowKit
set_option linter.unusedVariables false
set_option linter.unusedSimpArgs false
def zF : Nat → Int := fun _ => 0
def xF : Nat → Int := fun i => if i = 0 then 120 else 0
theorem xF_bd (i : Nat) : 0 ≤ xF i ∧ xF i ≤ 255 := by unfold xF; split <;> omega
/-- a list of 2000 zeros -/
abbrev oZ : Obj := .cells (madeCells #[.int .u8 0] 2000) 5
/-- a list of one byte, before and behind its conversion -/
abbrev oX (k : Nat) : Obj := .cells #[.int .u8 120] 5 (if k = 2 then (1, 2) else (0, 0))
theorem at_new (w : World) (o : Obj) : (w.alloc o).heap[w.heap.size]? = some o := by
  show (w.heap.push o)[w.heap.size]? = some o
  simp
theorem at_lt {w : World} {X : Nat} {o : Obj} (h : w.heap[X]? = some o) : X < w.heap.size := by
  rcases Nat.lt_or_ge X w.heap.size with h' | h'
  · exact h'
  · rw [Array.getElem?_eq_none h'] at h; cases h
theorem at_fr {Q : Nat → Prop} {w w' : World} {X : Nat} {o : Obj} (h : w.heap[X]? = some o) (f : Fr Q w w') (hq : ¬ Q X) : w'.heap[X]? = some o := (f.block X (at_lt h) hq).trans h
theorem at_alloc {w : World} {X : Nat} {o : Obj} (h : w.heap[X]? = some o) (o2 : Obj) : (w.alloc o2).heap[X]? = some o := at_fr h (Fr.of_below (S := fun _ => False) ((Below.refl _ _).alloc (Nat.le_refl _) o2)) id
theorem by_z {w : World} {X : Nat} (h : w.heap[X]? = some oZ) : ByAt (fun _ => True) w (.slice (some ⟨X, 0, none⟩) 2000 2000) 2000 zF :=
  .inr ⟨⟨X, 0, none⟩, 2000, rfl, Nat.le_refl _, fun _ => ⟨rfl, trivial⟩, fun i hi => ⟨by
    rw [add_none, Nat.zero_add]
    have hr := (World.rowIs_made w (.int .u8 0) 2000 5).cell hi
    refine Eq.trans ?_ hr
    unfold World.cell?
    rw [h, at_new], (show (0 : Int) ≤ 0 by decide), (show (0 : Int) ≤ 255 by decide)⟩⟩
theorem by_x {w : World} {X k : Nat} (h : w.heap[X]? = some (oX k)) : ByAt (fun _ => True) w (.slice (some ⟨X, 0, none⟩) 1 1) 1 xF :=
  .inr ⟨⟨X, 0, none⟩, 1, rfl, Nat.le_refl _, fun _ => ⟨rfl, trivial⟩, fun i hi => ⟨by
    obtain rfl : i = 0 := by omega
    rw [add_none, Nat.zero_add]
    unfold World.cell?
    rw [h]
    rfl, xF_bd i⟩⟩
/-- the conversion of one byte's literal marks its row, and no more -/
theorem conv_x {w : World} {X : Nat} (h : w.heap[X]? = some (oX 1)) : ∃ w', (convert 24 24 (.slice (some ⟨X, 0, none⟩) 1 1)).run Tryz.prog w = .ok (.slice (some ⟨X, 0, none⟩) 1 1) w' ∧ w'.heap[X]? = some (oX 2) ∧ Fr (fun k => k = X) w w' := by
  have hs : w.shape? X = some (5, 1) := by unfold World.shape?; rw [h]; rfl
  refine ⟨w.freeze ⟨X, 1, none⟩ 1, ?_, ?_, ?_⟩
  · simp [convert, run_underlying Tryz.underlying24, run_underlying Tryz.underlying5, markStringish, hs]
  · unfold World.freeze
    rw [if_neg (by decide)]
    show (w.heap.modify X _)[X]? = _
    rw [Array.getElem?_modify, if_pos rfl, h]
    rfl
  · unfold World.freeze
    rw [if_neg (by decide)]
    refine ⟨rfl, rfl, rfl, by show _ ≤ (w.heap.modify X _).size; simp, fun k _ hk => ?_⟩
    show (w.heap.modify X _)[k]? = _
    rw [Array.getElem?_modify, if_neg (fun e => hk e.symm)]
/-- ahead of the first bus: which lists are made -/
structure St (W w : World) (a0 a1 a4 a5 : Nat) (X0 X1 X4 X5 : Nat) : Prop where
  bl : Below W.heap.size W w
  b0 : 0 < a0 → w.heap[X0]? = some oZ
  b1 : 0 < a1 → w.heap[X1]? = some (oX a1) ∧ W.heap.size ≤ X1
  b4 : 0 < a4 → w.heap[X4]? = some oZ
  b5 : 0 < a5 → w.heap[X5]? = some (oX a5) ∧ W.heap.size ≤ X5
  n01 : 0 < a0 → 0 < a1 → X0 ≠ X1
  n41 : 0 < a4 → 0 < a1 → X4 ≠ X1
  n51 : 0 < a5 → 0 < a1 → X5 ≠ X1
  n05 : 0 < a0 → 0 < a5 → X0 ≠ X5
  n45 : 0 < a4 → 0 < a5 → X4 ≠ X5
section
variable {W w w' : World} {a0 a1 a4 a5 X0 X1 X4 X5 : Nat}
theorem St.zero (h : Below W.heap.size W w) : St W w 0 0 0 0 0 0 0 0 :=
  ⟨h, fun e => absurd e (by omega), fun e => absurd e (by omega), fun e => absurd e (by omega), fun e => absurd e (by omega), fun e => absurd e (by omega), fun e => absurd e (by omega), fun e => absurd e (by omega), fun e => absurd e (by omega), fun e => absurd e (by omega)⟩
theorem St.al0 (h : St W w 0 a1 a4 a5 X0 X1 X4 X5) : St W (w.alloc oZ) 1 a1 a4 a5 w.heap.size X1 X4 X5 :=
  ⟨h.bl.alloc h.bl.size _, fun _ => at_new _ _, fun e => ⟨at_alloc (h.b1 e).1 _, (h.b1 e).2⟩, fun e => at_alloc (h.b4 e) _, fun e => ⟨at_alloc (h.b5 e).1 _, (h.b5 e).2⟩,
    fun _ e => by have := at_lt (h.b1 e).1; omega, h.n41, h.n51, fun _ e => by have := at_lt (h.b5 e).1; omega, h.n45⟩
theorem St.al4 (h : St W w a0 a1 0 a5 X0 X1 X4 X5) : St W (w.alloc oZ) a0 a1 1 a5 X0 X1 w.heap.size X5 :=
  ⟨h.bl.alloc h.bl.size _, fun e => at_alloc (h.b0 e) _, fun e => ⟨at_alloc (h.b1 e).1 _, (h.b1 e).2⟩, fun _ => at_new _ _, fun e => ⟨at_alloc (h.b5 e).1 _, (h.b5 e).2⟩,
    h.n01, fun _ e => by have := at_lt (h.b1 e).1; omega, h.n51, h.n05, fun _ e => by have := at_lt (h.b5 e).1; omega⟩
theorem St.al1 (h : St W w a0 0 a4 a5 X0 X1 X4 X5) : St W (w.alloc (oX 1)) a0 1 a4 a5 X0 w.heap.size X4 X5 :=
  ⟨h.bl.alloc h.bl.size _, fun e => at_alloc (h.b0 e) _, fun _ => ⟨at_new _ _, h.bl.size⟩, fun e => at_alloc (h.b4 e) _, fun e => ⟨at_alloc (h.b5 e).1 _, (h.b5 e).2⟩,
    fun e _ => by have := at_lt (h.b0 e); omega, fun e _ => by have := at_lt (h.b4 e); omega, fun e _ => by have := at_lt (h.b5 e).1; omega, h.n05, h.n45⟩
theorem St.al5 (h : St W w a0 a1 a4 0 X0 X1 X4 X5) : St W (w.alloc (oX 1)) a0 a1 a4 1 X0 X1 X4 w.heap.size :=
  ⟨h.bl.alloc h.bl.size _, fun e => at_alloc (h.b0 e) _, fun e => ⟨at_alloc (h.b1 e).1 _, (h.b1 e).2⟩, fun e => at_alloc (h.b4 e) _, fun _ => ⟨at_new _ _, h.bl.size⟩,
    h.n01, h.n41, fun _ e => by have := at_lt (h.b1 e).1; omega, fun e _ => by have := at_lt (h.b0 e); omega, fun e _ => by have := at_lt (h.b4 e); omega⟩
theorem St.cv1 (h : St W w a0 1 a4 a5 X0 X1 X4 X5) (f : Fr (fun k => k = X1) w w') (e1 : w'.heap[X1]? = some (oX 2)) : St W w' a0 2 a4 a5 X0 X1 X4 X5 :=
  ⟨h.bl.trans (f.below h.bl.size (fun k hk e => by have := (h.b1 (by omega)).2; omega)), fun e => at_fr (h.b0 e) f (fun q => h.n01 e (by omega) q), fun _ => ⟨e1, (h.b1 (by omega)).2⟩, fun e => at_fr (h.b4 e) f (fun q => h.n41 e (by omega) q), fun e => ⟨at_fr (h.b5 e).1 f (fun q => h.n51 e (by omega) q), (h.b5 e).2⟩,
    fun e _ => h.n01 e (by omega), fun e _ => h.n41 e (by omega), fun e _ => h.n51 e (by omega), h.n05, h.n45⟩
theorem St.cv5 (h : St W w a0 a1 a4 1 X0 X1 X4 X5) (f : Fr (fun k => k = X5) w w') (e1 : w'.heap[X5]? = some (oX 2)) : St W w' a0 a1 a4 2 X0 X1 X4 X5 :=
  ⟨h.bl.trans (f.below h.bl.size (fun k hk e => by have := (h.b5 (by omega)).2; omega)), fun e => at_fr (h.b0 e) f (fun q => h.n05 e (by omega) q), fun e => ⟨at_fr (h.b1 e).1 f (fun q => h.n51 (by omega) e q.symm), (h.b1 e).2⟩, fun e => at_fr (h.b4 e) f (fun q => h.n45 e (by omega) q), fun _ => ⟨e1, (h.b5 (by omega)).2⟩,
    h.n01, h.n41, fun _ e => h.n51 (by omega) e, fun e _ => h.n05 e (by omega), fun e _ => h.n45 e (by omega)⟩
end
/-- behind the first bus -/
structure Sp (W w : World) (C D : Nat → Int) (a4 a5 : Nat) (X4 X5 : Nat) (G : PG) (U : PV) : Prop where
  on : One W G w U (S0B C D)
  hp : G.p = 1
  hn : G.n = nS 1
  b4 : 0 < a4 → w.heap[X4]? = some oZ
  b5 : 0 < a5 → w.heap[X5]? = some (oX a5) ∧ W.heap.size ≤ X5
  n45 : 0 < a4 → 0 < a5 → X4 ≠ X5
  o5 : 0 < a5 → ¬ OwnP G U X5
section
variable {W w w' : World} {C D : Nat → Int} {a0 a1 a4 a5 X0 X1 X4 X5 : Nat} {G : PG} {U : PV}
theorem Sp.al4 (h : Sp W w C D 0 a5 X4 X5 G U) : Sp W (w.alloc oZ) C D 1 a5 w.heap.size X5 G U :=
  ⟨h.on.below ((Below.refl _ _).alloc (Nat.le_refl _) _), h.hp, h.hn, fun _ => at_new _ _, fun e => ⟨at_alloc (h.b5 e).1 _, (h.b5 e).2⟩, fun _ e => by have := at_lt (h.b5 e).1; omega, h.o5⟩
theorem Sp.al5 (h : Sp W w C D a4 0 X4 X5 G U) : Sp W (w.alloc (oX 1)) C D a4 1 X4 w.heap.size G U :=
  ⟨h.on.below ((Below.refl _ _).alloc (Nat.le_refl _) _), h.hp, h.hn, fun e => at_alloc (h.b4 e) _, fun _ => ⟨at_new _ _, h.on.bl.size⟩, fun e _ => by have := at_lt (h.b4 e); omega, fun _ e => Nat.lt_irrefl _ (h.on.px.lt _ e)⟩
theorem Sp.cv5 (h : Sp W w C D a4 1 X4 X5 G U) (f : Fr (fun k => k = X5) w w') (e1 : w'.heap[X5]? = some (oX 2)) : Sp W w' C D a4 2 X4 X5 G U :=
  ⟨⟨h.on.px.fr f (fun k hk e => h.o5 (by omega) (e ▸ hk)), h.on.nw, h.on.bl.trans (f.below h.on.bl.size (fun k hk e => by have := (h.b5 (by omega)).2; omega))⟩, h.hp, h.hn, fun e => at_fr (h.b4 e) f (fun q => h.n45 e (by omega) q), fun _ => ⟨e1, (h.b5 (by omega)).2⟩, fun e _ => h.n45 e (by omega), fun _ => h.o5 (by omega)⟩
/-- the first bus is made -/
theorem St.newp (h : St W w 1 2 a4 a5 X0 X1 X4 X5) (hC : imC 1 2000 zF = C) (hD : imD 1 xF = D) :
    Calls Tryz.prog 5 #[.int .i64 1, .slice (some ⟨X0, 0, none⟩) 2000 2000, .slice (some ⟨X1, 0, none⟩) 1 1] w fun e w' => ∃ G U, e = .returned (.pointer (some ⟨G.b, 0, none⟩)) ∧ Sp W w' C D a4 a5 X4 X5 G U :=
  (bnewp_any 1 1 rfl _ _ 2000 1 zF xF w (by_z (h.b0 (by omega))) (by_x (h.b1 (by omega)).1) (by omega) (by omega) (by omega)).mono fun e w' ⟨G, U, he, hp, hn, hP, ho, hb⟩ => by
    rw [hC, hD] at hP
    have f := Fr.of_below (S := fun _ => False) hb
    refine ⟨G, U, he, ⟨hP, fun k hk => by have := ho k hk; have := h.bl.size; omega, h.bl.trans (hb.mono h.bl.size)⟩, hp, hn, fun e => at_fr (h.b4 e) f id, fun e => ⟨at_fr (h.b5 e).1 f id, (h.b5 e).2⟩, h.n45, fun e q => ?_⟩
    have := ho _ q
    have := at_lt (h.b5 e).1
    omega
/-- the second bus is made -/
theorem Sp.newr (h : Sp W w C D 1 2 X4 X5 G U) (hC : imC 1 2000 zF = C) (hD : imD 1 xF = D) :
    Calls Tryz.prog 6 #[.int .i64 1, .slice (some ⟨X4, 0, none⟩) 2000 2000, .slice (some ⟨X5, 0, none⟩) 1 1] w fun e w' => ∃ m r y O, e = .returned (.pointer (some ⟨m, 0, none⟩)) ∧ Two W G m r y O w' U V00 (S0B C D) (S0B C D) :=
  (bnewr_any 1 1 rfl _ _ 2000 1 zF xF w (by_z (h.b4 (by omega))) (by_x (h.b5 (by omega)).1) (by omega) (by omega)).mono fun e w' ⟨m, r, y, O, he, hB, ho, hb⟩ => by
    rw [hC, hD] at hB
    exact ⟨m, r, y, O, he, two_new h.on.px h.on.nw h.on.bl (by rw [h.hp, h.hn]; exact hB) ho hb⟩
end
end Go.Proofs.YtkfedihaldpgmaaGreat

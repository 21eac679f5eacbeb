/-
  Chapter 15: what a bus's calls do to its one state, and what stays bounded.
-/
import Derived.Test.YtkfedihaldpgmaaGreatPx15
namespace Go.Proofs.YtkfedihaldpgmaaGreat
open Go.RowKit
set_option linter.unusedVariables false
set_option linter.unusedSimpArgs false
def bI (b : Bool) (k : Int) : Int := match b with
  | true => k
  | false => 0
/-- the lines that are up -/
def upW (c1 c2 c3 c4 c5 : Bool) : Int := bI c1 2 + bI c2 4 + bI c3 8 + bI c4 16 + bI c5 32
theorem upF_1 (b c1 c2 c3 c4 c5 : Bool) : upF 1 b (upW c1 c2 c3 c4 c5) = upW b c2 c3 c4 c5 := by cases b <;> cases c1 <;> cases c2 <;> cases c3 <;> cases c4 <;> cases c5 <;> rfl
theorem upF_2 (b c1 c2 c3 c4 c5 : Bool) : upF 2 b (upW c1 c2 c3 c4 c5) = upW c1 b c3 c4 c5 := by cases b <;> cases c1 <;> cases c2 <;> cases c3 <;> cases c4 <;> cases c5 <;> rfl
theorem upF_3 (b c1 c2 c3 c4 c5 : Bool) : upF 3 b (upW c1 c2 c3 c4 c5) = upW c1 c2 b c4 c5 := by cases b <;> cases c1 <;> cases c2 <;> cases c3 <;> cases c4 <;> cases c5 <;> rfl
theorem upF_4 (b c1 c2 c3 c4 c5 : Bool) : upF 4 b (upW c1 c2 c3 c4 c5) = upW c1 c2 c3 b c5 := by cases b <;> cases c1 <;> cases c2 <;> cases c3 <;> cases c4 <;> cases c5 <;> rfl
theorem upF_5 (b c1 c2 c3 c4 c5 : Bool) : upF 5 b (upW c1 c2 c3 c4 c5) = upW c1 c2 c3 c4 b := by cases b <;> cases c1 <;> cases c2 <;> cases c3 <;> cases c4 <;> cases c5 <;> rfl
def linesW (S : BS) : Int := upW (lineB 1 S) (lineB 2 S) (lineB 3 S) (lineB 4 S) (lineB 5 S)
/-- lines has each device's -/
def gat (S : BS) : BS := { S with up := linesW S }
theorem gat_gat (S : BS) : gat (gat S) = gat S := rfl
/-- what word k of device d tells -/
def wordX (d k : Nat) (now : Int) (S : BS) : Int := match d with
  | 0 => wordF ((k : Int) * 4) now S.up S.ask
  | 1 => wordT k (getT0 S)
  | 2 => wordT k (getT1 S)
  | 3 => wordU k S
  | 4 => wordM k S
  | 5 => wordK k S
  | _ => 0
/-- what is left behind the reading of word k of device d -/
def readX (d k : Nat) (S : BS) : BS := match d with
  | 3 => readU k S
  | _ => S
def fiT0 (t : Int) (S : BS) : BS := if S.g0 then armS 1 (due t S.p0) { S with s0 := true } else { S with s0 := true, r0 := false }
def fiT1 (t : Int) (S : BS) : BS := if S.g1 then armS 2 (due t S.p1) { S with s1 := true } else { S with s1 := true, r1 := false }
/-- an event of device d is done -/
def fireX (p n : Nat) (d t : Int) (S : BS) : BS :=
  if d = 1 then fiT0 t S else if d = 2 then fiT1 t S else if d = 3 then fiU t S else if d = 4 then fiM p S else if d = 5 then fiK p n S else S
theorem put_w0 (k : Nat) (v now : Int) (S : BS) : putT0 (wrT 1 k v now (getT0 S)) S = wrT0 k v now S := by
  match k with
  | 0 =>
    show putT0 (stT 1 now (ctT v (getT0 S))) S = stT0 now (ctT0 v S)
    unfold stT stT0
    show putT0 (if decide (v % 2 = 1) = true then _ else _) S = if decide (v % 2 = 1) = true then _ else _
    by_cases h : decide (v % 2 = 1) = true
    · rw [if_pos h, if_pos h]; rfl
    · rw [if_neg h, if_neg h]; rfl
  | 1 => rfl
  | 2 => rfl
  | k + 3 => rfl
theorem put_w1 (k : Nat) (v now : Int) (S : BS) : putT1 (wrT 2 k v now (getT1 S)) S = wrT1 k v now S := by
  match k with
  | 0 =>
    show putT1 (stT 2 now (ctT v (getT1 S))) S = stT1 now (ctT1 v S)
    unfold stT stT1
    show putT1 (if decide (v % 2 = 1) = true then _ else _) S = if decide (v % 2 = 1) = true then _ else _
    by_cases h : decide (v % 2 = 1) = true
    · rw [if_pos h, if_pos h]; rfl
    · rw [if_neg h, if_neg h]; rfl
  | 1 => rfl
  | 2 => rfl
  | k + 3 => rfl
theorem put_f0 (t : Int) (S : BS) : putT0 (fiT 1 t (getT0 S)) S = fiT0 t S := by
  unfold fiT fiT0
  show putT0 (if S.g0 = true then _ else _) S = _
  by_cases h : S.g0 = true
  · rw [if_pos h, if_pos h]; rfl
  · rw [if_neg h, if_neg h]; rfl
theorem put_f1 (t : Int) (S : BS) : putT1 (fiT 2 t (getT1 S)) S = fiT1 t S := by
  unfold fiT fiT1
  show putT1 (if S.g1 = true then _ else _) S = _
  by_cases h : S.g1 = true
  · rw [if_pos h, if_pos h]; rfl
  · rw [if_neg h, if_neg h]; rfl
/-! one state differs in a device's words alone -/
def OutM (S S2 : BS) : Prop := S2 = { S with f := S2.f, t := S2.t, n := S2.n, bz := S2.bz, dn := S2.dn, er := S2.er, L := S2.L, a := S2.a, C := S2.C, D := S2.D }
def OutK (S S2 : BS) : Prop := S2 = { S with z := S2.z, kt := S2.kt, kc := S2.kc, kz := S2.kz, kd := S2.kd, ke := S2.ke, L := S2.L, a := S2.a, C := S2.C, D := S2.D }
def OutU (S S2 : BS) : Prop := S2 = { S with came := S2.came, goes := S2.goes, out := S2.out, lost := S2.lost, uc := S2.uc, L := S2.L, a := S2.a }
theorem outM_w (k : Nat) (v now : Int) (S : BS) : OutM S (wrM k v now S) := by
  match k with
  | 0 => rfl
  | 1 => rfl
  | 2 => rfl
  | 3 => show OutM S (ctlM v now S); unfold ctlM; split <;> rfl
  | 4 => rfl
  | k + 5 => rfl
theorem outM_f (p : Nat) (S : BS) : OutM S (fiM p S) := by unfold fiM; split <;> rfl
theorem outK_w (k : Nat) (v now : Int) (S : BS) : OutK S (wrK k v now S) := by
  match k with
  | 0 => rfl
  | 1 => rfl
  | 2 => show OutK S (ctlK v now S); unfold ctlK; split <;> rfl
  | 3 => rfl
  | k + 4 => rfl
theorem outK_f (p n : Nat) (S : BS) : OutK S (fiK p n S) := by unfold fiK; split <;> rfl
theorem outU_w (k : Nat) (v now : Int) (S : BS) : OutU S (wrU k v now S) := by
  match k with
  | 0 => show OutU S (sendB (v % 256) now S); unfold sendB; split
         · split <;> rfl
         · rfl
  | 1 => rfl
  | 2 => rfl
  | k + 3 => rfl
theorem outU_r (k : Nat) (S : BS) : OutU S (readU k S) := by
  match k with
  | 0 => unfold readU; split
         · rename_i h; unfold OutU; split <;> rfl
         · rfl
  | k + 1 => rfl
theorem outU_f (t : Int) (S : BS) : OutU S (fiU t S) := by unfold fiU; split <;> rfl
theorem outU_t (v : Int) (S : BS) : OutU S (typeB v S) := by unfold typeB; split <;> rfl
/-! bounds -/
def Wd (x : Int) : Prop := 0 ≤ x ∧ x < 4294967296
def Byt (L : List Int) : Prop := ∀ x ∈ L, 0 ≤ x ∧ x ≤ 255
structure Wo (S : BS) : Prop where
  p0 : Wd S.p0
  p1 : Wd S.p1
  f : Wd S.f
  t : Wd S.t
  n : Wd S.n
  z : Wd S.z
  kt : Wd S.kt
  uc : 0 ≤ S.uc ∧ S.uc ≤ 3
  up : ∃ c1 c2 c3 c4 c5, S.up = upW c1 c2 c3 c4 c5
structure Bt (S : BS) : Prop where
  c : Byt S.came
  g : Byt S.goes
  o : Byt S.out
  cl : S.came.length ≤ 16
  gl : S.goes.length ≤ 16
/-- at most N Arms were let by, and N bytes went out -/
structure Gk (N : Int) (S : BS) : Prop where
  a0 : 0 ≤ S.a
  a1 : S.a ≤ N
  l1 : (S.L.length : Int) ≤ S.a
  o1 : (S.out.length : Int) ≤ N
  ev : ∀ e ∈ S.L, 0 ≤ e.t
  wo : Wo S
  bt : Bt S
section
variable {N : Int} {S : BS} {p n : Nat}
theorem Gk.mono {N2 : Int} (h : Gk N S) (hn : N ≤ N2) : Gk N2 S := ⟨h.a0, by have := h.a1; omega, h.l1, by have := h.o1; omega, h.ev, h.wo, h.bt⟩
theorem Gk.words (h : Gk N S) {S2 : BS} (e1 : S2.a = S.a) (e2 : S2.L = S.L) (e3 : S2.out = S.out) (hw : Wo S2) (hb : Bt S2) : Gk N S2 := ⟨by rw [e1]; exact h.a0, by rw [e1]; exact h.a1, by rw [e1, e2]; exact h.l1, by rw [e3]; exact h.o1, by rw [e2]; exact h.ev, hw, hb⟩
theorem delF_sub (d : Int) (L : List Ev) : ∀ e, e ∈ delF d L → e ∈ L := fun e he => List.mem_of_mem_eraseIdx he
theorem armF_mem (d T a : Int) (L : List Ev) : ∀ e, e ∈ armF d T a L → e = ⟨T, d, a⟩ ∨ e ∈ L := by
  intro e he
  unfold armF insF at he
  rcases List.mem_append.1 he with h | h
  · exact .inr (delF_sub d L e (List.mem_of_mem_take h))
  · rcases List.mem_cons.1 h with h | h
    · exact .inl h
    · exact .inr (delF_sub d L e (List.mem_of_mem_drop h))
theorem armF_len (d T a : Int) (L : List Ev) : (armF d T a L).length ≤ L.length + 1 := by
  unfold armF
  rw [insF_len _ _ _ (ixA_le _ _)]
  have := delF_len d L
  omega
theorem Gk.arm (h : Gk N S) (d T : Int) (hT : 0 ≤ T) : Gk (N + 1) (armS d T S) := by
  refine ⟨?_, ?_, ?_, ?_, fun e he => ?_, ⟨h.wo.p0, h.wo.p1, h.wo.f, h.wo.t, h.wo.n, h.wo.z, h.wo.kt, h.wo.uc, h.wo.up⟩, ⟨h.bt.c, h.bt.g, h.bt.o, h.bt.cl, h.bt.gl⟩⟩
  · show 0 ≤ S.a + 1; have := h.a0; omega
  · show S.a + 1 ≤ N + 1; have := h.a1; omega
  · show ((armF d T S.a S.L).length : Int) ≤ S.a + 1; have := armF_len d T S.a S.L; have := h.l1; omega
  · show (S.out.length : Int) ≤ N + 1; have := h.o1; omega
  · rcases armF_mem d T S.a S.L e he with rfl | he
    · exact hT
    · exact h.ev e he
theorem Gk.sub (h : Gk N S) {L : List Ev} (hl : L.length ≤ S.L.length) (hs : ∀ e, e ∈ L → e ∈ S.L) : Gk N { S with L := L } :=
  ⟨h.a0, h.a1, by show (L.length : Int) ≤ S.a; have := h.l1; omega, h.o1, fun e he => h.ev e (hs e he), ⟨h.wo.p0, h.wo.p1, h.wo.f, h.wo.t, h.wo.n, h.wo.z, h.wo.kt, h.wo.uc, h.wo.up⟩, ⟨h.bt.c, h.bt.g, h.bt.o, h.bt.cl, h.bt.gl⟩⟩
theorem Gk.take (h : Gk N S) (now : Int) : Gk N { S with L := takeL now S.L } := by
  refine h.sub ?_ (fun e he => ?_)
  · unfold takeL; split
    · rw [List.length_eraseIdx]; split <;> omega
    · omega
  · unfold takeL at he; split at he
    · exact List.mem_of_mem_eraseIdx he
    · exact he
theorem Gk.gath (h : Gk N S) : Gk N (gat S) := h.words rfl rfl rfl ⟨h.wo.p0, h.wo.p1, h.wo.f, h.wo.t, h.wo.n, h.wo.z, h.wo.kt, h.wo.uc, ⟨_, _, _, _, _, rfl⟩⟩ ⟨h.bt.c, h.bt.g, h.bt.o, h.bt.cl, h.bt.gl⟩
theorem Gk.mem (h : Gk N S) (C D : Nat → Int) : Gk N { S with C := C, D := D } := h.words rfl rfl rfl ⟨h.wo.p0, h.wo.p1, h.wo.f, h.wo.t, h.wo.n, h.wo.z, h.wo.kt, h.wo.uc, h.wo.up⟩ ⟨h.bt.c, h.bt.g, h.bt.o, h.bt.cl, h.bt.gl⟩
theorem due_lo {t x : Int} (ht : 0 ≤ t) (hx : 0 ≤ x) : 0 ≤ due t x := by unfold due; split <;> omega
theorem dl_lo {x : Int} (h : 0 ≤ x) : 1 ≤ dl x := by unfold dl; omega
theorem Gk.wT0 (h : Gk N S) (k : Nat) (v now : Int) (hv : Wd v) (hn : 0 ≤ now) : Gk (N + 1) (wrT0 k v now S) := by
  match k with
  | 0 =>
    show Gk (N + 1) (stT0 now (ctT0 v S))
    have h1 : Gk N (ctT0 v S) := h.words rfl rfl rfl ⟨h.wo.p0, h.wo.p1, h.wo.f, h.wo.t, h.wo.n, h.wo.z, h.wo.kt, h.wo.uc, h.wo.up⟩ ⟨h.bt.c, h.bt.g, h.bt.o, h.bt.cl, h.bt.gl⟩
    unfold stT0
    split
    · exact h1.arm 1 _ (due_lo hn h.wo.p0.1)
    · exact (h1.sub (delF_len 1 S.L) (delF_sub 1 S.L)).mono (by omega)
  | 1 => exact Gk.mono (h.words rfl rfl rfl ⟨hv, h.wo.p1, h.wo.f, h.wo.t, h.wo.n, h.wo.z, h.wo.kt, h.wo.uc, h.wo.up⟩ ⟨h.bt.c, h.bt.g, h.bt.o, h.bt.cl, h.bt.gl⟩) (by omega)
  | 2 => exact Gk.mono (h.words rfl rfl rfl ⟨h.wo.p0, h.wo.p1, h.wo.f, h.wo.t, h.wo.n, h.wo.z, h.wo.kt, h.wo.uc, h.wo.up⟩ ⟨h.bt.c, h.bt.g, h.bt.o, h.bt.cl, h.bt.gl⟩) (by omega)
  | k + 3 => exact h.mono (by omega)
theorem Gk.wT1 (h : Gk N S) (k : Nat) (v now : Int) (hv : Wd v) (hn : 0 ≤ now) : Gk (N + 1) (wrT1 k v now S) := by
  match k with
  | 0 =>
    show Gk (N + 1) (stT1 now (ctT1 v S))
    have h1 : Gk N (ctT1 v S) := h.words rfl rfl rfl ⟨h.wo.p0, h.wo.p1, h.wo.f, h.wo.t, h.wo.n, h.wo.z, h.wo.kt, h.wo.uc, h.wo.up⟩ ⟨h.bt.c, h.bt.g, h.bt.o, h.bt.cl, h.bt.gl⟩
    unfold stT1
    split
    · exact h1.arm 2 _ (due_lo hn h.wo.p1.1)
    · exact (h1.sub (delF_len 2 S.L) (delF_sub 2 S.L)).mono (by omega)
  | 1 => exact Gk.mono (h.words rfl rfl rfl ⟨h.wo.p0, hv, h.wo.f, h.wo.t, h.wo.n, h.wo.z, h.wo.kt, h.wo.uc, h.wo.up⟩ ⟨h.bt.c, h.bt.g, h.bt.o, h.bt.cl, h.bt.gl⟩) (by omega)
  | 2 => exact Gk.mono (h.words rfl rfl rfl ⟨h.wo.p0, h.wo.p1, h.wo.f, h.wo.t, h.wo.n, h.wo.z, h.wo.kt, h.wo.uc, h.wo.up⟩ ⟨h.bt.c, h.bt.g, h.bt.o, h.bt.cl, h.bt.gl⟩) (by omega)
  | k + 3 => exact h.mono (by omega)
theorem byt_snoc {L : List Int} {b : Int} (h : Byt L) (hb : 0 ≤ b ∧ b ≤ 255) : Byt (L ++ [b]) := by
  intro x hx
  rcases List.mem_append.1 hx with e | e
  · exact h x e
  · rw [List.mem_singleton.1 e]; exact hb
theorem Gk.goes (h : Gk N S) {L : List Int} (hb : Byt L) (hl : L.length ≤ 16) : Gk N { S with goes := L } := h.words rfl rfl rfl ⟨h.wo.p0, h.wo.p1, h.wo.f, h.wo.t, h.wo.n, h.wo.z, h.wo.kt, h.wo.uc, h.wo.up⟩ ⟨h.bt.c, hb, h.bt.o, h.bt.cl, hl⟩
theorem Gk.came (h : Gk N S) {L : List Int} (hb : Byt L) (hl : L.length ≤ 16) : Gk N { S with came := L } := h.words rfl rfl rfl ⟨h.wo.p0, h.wo.p1, h.wo.f, h.wo.t, h.wo.n, h.wo.z, h.wo.kt, h.wo.uc, h.wo.up⟩ ⟨hb, h.bt.g, h.bt.o, hl, h.bt.gl⟩
theorem Gk.wU (h : Gk N S) (k : Nat) (v now : Int) (hv : Wd v) (hn : 0 ≤ now) : Gk (N + 1) (wrU k v now S) := by
  match k with
  | 0 =>
    show Gk (N + 1) (sendB (v % 256) now S)
    unfold sendB
    split
    · rename_i h16
      have hb := byt_snoc h.bt.g (b := v % 256) (by omega)
      have hl : (S.goes ++ [v % 256]).length ≤ 16 := by simp; omega
      split
      · exact (h.goes hb hl).arm 3 _ (by omega)
      · exact (h.goes hb hl).mono (by omega)
    · exact h.mono (by omega)
  | 1 => exact Gk.mono (h.words rfl rfl rfl ⟨h.wo.p0, h.wo.p1, h.wo.f, h.wo.t, h.wo.n, h.wo.z, h.wo.kt, h.wo.uc, h.wo.up⟩ ⟨h.bt.c, h.bt.g, h.bt.o, h.bt.cl, h.bt.gl⟩) (by omega)
  | 2 => exact Gk.mono (h.words rfl rfl rfl ⟨h.wo.p0, h.wo.p1, h.wo.f, h.wo.t, h.wo.n, h.wo.z, h.wo.kt, (show 0 ≤ v % 4 ∧ v % 4 ≤ 3 by omega), h.wo.up⟩ ⟨h.bt.c, h.bt.g, h.bt.o, h.bt.cl, h.bt.gl⟩) (by omega)
  | k + 3 => exact h.mono (by omega)
theorem Gk.wM (h : Gk N S) (k : Nat) (v now : Int) (hv : Wd v) (hn : 0 ≤ now) : Gk (N + 1) (wrM k v now S) := by
  match k with
  | 0 => exact Gk.mono (h.words rfl rfl rfl ⟨h.wo.p0, h.wo.p1, hv, h.wo.t, h.wo.n, h.wo.z, h.wo.kt, h.wo.uc, h.wo.up⟩ ⟨h.bt.c, h.bt.g, h.bt.o, h.bt.cl, h.bt.gl⟩) (by omega)
  | 1 => exact Gk.mono (h.words rfl rfl rfl ⟨h.wo.p0, h.wo.p1, h.wo.f, hv, h.wo.n, h.wo.z, h.wo.kt, h.wo.uc, h.wo.up⟩ ⟨h.bt.c, h.bt.g, h.bt.o, h.bt.cl, h.bt.gl⟩) (by omega)
  | 2 => exact Gk.mono (h.words rfl rfl rfl ⟨h.wo.p0, h.wo.p1, h.wo.f, h.wo.t, hv, h.wo.z, h.wo.kt, h.wo.uc, h.wo.up⟩ ⟨h.bt.c, h.bt.g, h.bt.o, h.bt.cl, h.bt.gl⟩) (by omega)
  | 3 =>
    show Gk (N + 1) (ctlM v now S)
    unfold ctlM
    split
    · unfold startM
      exact Gk.arm (S := { S with bz := true }) (h.words rfl rfl rfl ⟨h.wo.p0, h.wo.p1, h.wo.f, h.wo.t, h.wo.n, h.wo.z, h.wo.kt, h.wo.uc, h.wo.up⟩ ⟨h.bt.c, h.bt.g, h.bt.o, h.bt.cl, h.bt.gl⟩) 4 _ (show 0 ≤ now + dl S.n by have := dl_lo h.wo.n.1; omega)
    · exact h.mono (by omega)
  | 4 => exact Gk.mono (h.words rfl rfl rfl ⟨h.wo.p0, h.wo.p1, h.wo.f, h.wo.t, h.wo.n, h.wo.z, h.wo.kt, h.wo.uc, h.wo.up⟩ ⟨h.bt.c, h.bt.g, h.bt.o, h.bt.cl, h.bt.gl⟩) (by omega)
  | k + 5 => exact h.mono (by omega)
theorem Gk.wK (h : Gk N S) (k : Nat) (v now : Int) (hv : Wd v) (hn : 0 ≤ now) : Gk (N + 1) (wrK k v now S) := by
  match k with
  | 0 => exact Gk.mono (h.words rfl rfl rfl ⟨h.wo.p0, h.wo.p1, h.wo.f, h.wo.t, h.wo.n, hv, h.wo.kt, h.wo.uc, h.wo.up⟩ ⟨h.bt.c, h.bt.g, h.bt.o, h.bt.cl, h.bt.gl⟩) (by omega)
  | 1 => exact Gk.mono (h.words rfl rfl rfl ⟨h.wo.p0, h.wo.p1, h.wo.f, h.wo.t, h.wo.n, h.wo.z, hv, h.wo.uc, h.wo.up⟩ ⟨h.bt.c, h.bt.g, h.bt.o, h.bt.cl, h.bt.gl⟩) (by omega)
  | 2 =>
    show Gk (N + 1) (ctlK v now S)
    unfold ctlK
    split
    · exact h.mono (by omega)
    · unfold startK
      exact Gk.arm (S := { S with kc := v, kz := true }) (h.words rfl rfl rfl ⟨h.wo.p0, h.wo.p1, h.wo.f, h.wo.t, h.wo.n, h.wo.z, h.wo.kt, h.wo.uc, h.wo.up⟩ ⟨h.bt.c, h.bt.g, h.bt.o, h.bt.cl, h.bt.gl⟩) 5 _ (show 0 ≤ now + 32 by omega)
  | 3 => exact Gk.mono (h.words rfl rfl rfl ⟨h.wo.p0, h.wo.p1, h.wo.f, h.wo.t, h.wo.n, h.wo.z, h.wo.kt, h.wo.uc, h.wo.up⟩ ⟨h.bt.c, h.bt.g, h.bt.o, h.bt.cl, h.bt.gl⟩) (by omega)
  | k + 4 => exact h.mono (by omega)
theorem Gk.setX (h : Gk N S) (d k : Nat) (v now : Int) (hv : Wd v) (hn : 0 ≤ now) : Gk (N + 1) (setB d k v now S) := by
  match d with
  | 0 =>
    show Gk (N + 1) (if k = 1 then { S with ask := bits .and .u32 v 62 } else S)
    split
    · exact Gk.mono (h.words rfl rfl rfl ⟨h.wo.p0, h.wo.p1, h.wo.f, h.wo.t, h.wo.n, h.wo.z, h.wo.kt, h.wo.uc, h.wo.up⟩ ⟨h.bt.c, h.bt.g, h.bt.o, h.bt.cl, h.bt.gl⟩) (by omega)
    · exact h.mono (by omega)
  | 1 => exact h.wT0 k v now hv hn
  | 2 => exact h.wT1 k v now hv hn
  | 3 => exact h.wU k v now hv hn
  | 4 => exact h.wM k v now hv hn
  | 5 => exact h.wK k v now hv hn
  | d + 6 => exact h.mono (by omega)
theorem Gk.rdX (h : Gk N S) (d k : Nat) : Gk N (readX d k S) := by
  have hU : Gk N (readU k S) := by
    match k with
    | 0 =>
      unfold readU
      cases hq : S.came with
      | nil => exact h
      | cons b L =>
        have hb := h.bt.c
        have hl := h.bt.cl
        rw [hq] at hb hl
        exact h.came (fun x hx => hb x (List.mem_cons_of_mem _ hx)) (by simp at hl; omega)
    | k + 1 => exact h
  match d with
  | 0 => exact h
  | 1 => exact h
  | 2 => exact h
  | 3 => exact hU
  | d + 4 => exact h
theorem Gk.typ (h : Gk N S) (b : Int) (hb : 0 ≤ b ∧ b ≤ 255) : Gk N (typeB b S) := by
  unfold typeB
  split
  · exact h.came (byt_snoc h.bt.c hb) (by simp; omega)
  · exact h.words rfl rfl rfl ⟨h.wo.p0, h.wo.p1, h.wo.f, h.wo.t, h.wo.n, h.wo.z, h.wo.kt, h.wo.uc, h.wo.up⟩ ⟨h.bt.c, h.bt.g, h.bt.o, h.bt.cl, h.bt.gl⟩
theorem Gk.out (h : Gk N S) {b : Int} {L : List Int} (hq : S.goes = b :: L) : Gk (N + 1) { S with goes := L, out := S.out ++ [b] } := by
  have hb := h.bt.g
  have hl := h.bt.gl
  rw [hq] at hb hl
  refine ⟨h.a0, by have := h.a1; show S.a ≤ N + 1; omega, h.l1, ?_, h.ev, ⟨h.wo.p0, h.wo.p1, h.wo.f, h.wo.t, h.wo.n, h.wo.z, h.wo.kt, h.wo.uc, h.wo.up⟩, ⟨h.bt.c, fun x hx => hb x (List.mem_cons_of_mem _ hx), byt_snoc h.bt.o (hb b (by simp)), h.bt.cl, by show L.length ≤ 16; simp at hl; omega⟩⟩
  have := h.o1
  show ((S.out ++ [b]).length : Int) ≤ N + 1
  simp
  omega
theorem Gk.fU (h : Gk N S) (t : Int) (ht : 0 ≤ t) : Gk (N + 1) (fiU t S) := by
  unfold fiU
  match hq : S.goes with
  | [] => exact h.mono (by omega)
  | [b] => exact h.out hq
  | b :: x :: L =>
    have h1 := h.out hq
    refine ⟨?_, ?_, ?_, h1.o1, fun e he => ?_, ⟨h.wo.p0, h.wo.p1, h.wo.f, h.wo.t, h.wo.n, h.wo.z, h.wo.kt, h.wo.uc, h.wo.up⟩, ⟨h1.bt.c, h1.bt.g, h1.bt.o, h1.bt.cl, h1.bt.gl⟩⟩
    · show 0 ≤ S.a + 1; have := h.a0; omega
    · show S.a + 1 ≤ N + 1; have := h.a1; omega
    · show ((armF 3 (t + 8) S.a S.L).length : Int) ≤ S.a + 1; have := armF_len 3 (t + 8) S.a S.L; have := h.l1; omega
    · rcases armF_mem 3 (t + 8) S.a S.L e he with rfl | he
      · show 0 ≤ t + 8; omega
      · exact h.ev e he
theorem Gk.fiX (h : Gk N S) (d t : Int) (ht : 0 ≤ t) : Gk (N + 1) (fireX p n d t S) := by
  unfold fireX
  split
  · unfold fiT0
    split
    · exact Gk.arm (S := { S with s0 := true }) (h.words rfl rfl rfl ⟨h.wo.p0, h.wo.p1, h.wo.f, h.wo.t, h.wo.n, h.wo.z, h.wo.kt, h.wo.uc, h.wo.up⟩ ⟨h.bt.c, h.bt.g, h.bt.o, h.bt.cl, h.bt.gl⟩) 1 _ (due_lo ht h.wo.p0.1)
    · exact Gk.mono (h.words rfl rfl rfl ⟨h.wo.p0, h.wo.p1, h.wo.f, h.wo.t, h.wo.n, h.wo.z, h.wo.kt, h.wo.uc, h.wo.up⟩ ⟨h.bt.c, h.bt.g, h.bt.o, h.bt.cl, h.bt.gl⟩) (by omega)
  · split
    · unfold fiT1
      split
      · exact Gk.arm (S := { S with s1 := true }) (h.words rfl rfl rfl ⟨h.wo.p0, h.wo.p1, h.wo.f, h.wo.t, h.wo.n, h.wo.z, h.wo.kt, h.wo.uc, h.wo.up⟩ ⟨h.bt.c, h.bt.g, h.bt.o, h.bt.cl, h.bt.gl⟩) 2 _ (due_lo ht h.wo.p1.1)
      · exact Gk.mono (h.words rfl rfl rfl ⟨h.wo.p0, h.wo.p1, h.wo.f, h.wo.t, h.wo.n, h.wo.z, h.wo.kt, h.wo.uc, h.wo.up⟩ ⟨h.bt.c, h.bt.g, h.bt.o, h.bt.cl, h.bt.gl⟩) (by omega)
    · split
      · exact h.fU t ht
      · split
        · refine Gk.mono (N := N) ?_ (by omega)
          unfold fiM
          split <;> exact h.words rfl rfl rfl ⟨h.wo.p0, h.wo.p1, h.wo.f, h.wo.t, h.wo.n, h.wo.z, h.wo.kt, h.wo.uc, h.wo.up⟩ ⟨h.bt.c, h.bt.g, h.bt.o, h.bt.cl, h.bt.gl⟩
        · split
          · refine Gk.mono (N := N) ?_ (by omega)
            unfold fiK
            split <;> exact h.words rfl rfl rfl ⟨h.wo.p0, h.wo.p1, h.wo.f, h.wo.t, h.wo.n, h.wo.z, h.wo.kt, h.wo.uc, h.wo.up⟩ ⟨h.bt.c, h.bt.g, h.bt.o, h.bt.cl, h.bt.gl⟩
          · exact h.mono (by omega)
end
end Go.Proofs.YtkfedihaldpgmaaGreat

/-
  Chapter 7: a page of one space is not found in another one, a global one is in all (the walk of TlbSpaces).
-/
import Derived.Test.YtckgkelggmhldaaSm7
namespace Go.Proofs.Ytckgkelggmhldaa
open Go.RowKit
set_option linter.unusedVariables false
theorem bit20 : ∀ i, i < 32 → tb 1048576 i = decide (i = 20) := by decide
theorem low255 : ∀ i, i < 8 → tb 255 i = true := by decide
theorem lowM : ∀ i, i < 8 → tb 4294966527 i = true := by decide
theorem w20 : W32 1048576 := ⟨by decide, by decide⟩
theorem w255 : W32 255 := ⟨by decide, by decide⟩
theorem wM : W32 4294966527 := ⟨by decide, by decide⟩
/-- the page -/
def spP (va : Int) : Int := bits .or .u32 (bits .andNot .u32 va 1023) 1048576
/-- the address -/
def spX (va : Int) : Int := bits .or .u32 (spP va) (bits .and .u32 va 1023)
theorem w_spP (va : Int) : W32 (spP va) := w_or _ _
theorem w_spX (va : Int) : W32 (spX va) := w_or _ _
section
variable {va : Int} (hv : W32 va)
include hv in
theorem tb_spP (i : Nat) : tb (spP va) i = ((tb va i && !tb 1023 i) || tb 1048576 i) := by
  unfold spP
  rw [tb_or _ _ (w_andNot _ _) w20, tb_andNot _ _ hv w1023]
include hv in
theorem tb_spX (i : Nat) : tb (spX va) i = (tb (spP va) i || (tb va i && tb 1023 i)) := by
  unfold spX
  rw [tb_or _ _ (w_spP va) (w_and _ _), tb_and _ _ hv w1023]
include hv in
theorem spP_20 : tb (spP va) 20 = true := by rw [tb_spP hv, bit20 20 (by decide)]; simp
include hv in
theorem spX_20 : tb (spX va) 20 = true := by rw [tb_spX hv, spP_20 hv]; rfl
theorem pg_or (x : Int) (hx : W32 x) (h : ∀ i, 10 ≤ i → i < 32 → tb x i = false) : bits .andNot .u32 (bits .or .u32 (spP va) x) 1023 = bits .andNot .u32 (spP va) 1023 := by
  apply tb_eq (w_andNot _ _) (w_andNot _ _)
  intro i hi
  rw [tb_andNot _ _ (w_or _ _) w1023, tb_andNot _ _ (w_spP va) w1023, tb_or _ _ (w_spP va) hx]
  by_cases e : i < 10
  · rw [low1023 i e]; simp
  · rw [h i (by omega) hi]; simp
include hv in
theorem pg_spX : bits .andNot .u32 (spX va) 1023 = bits .andNot .u32 (spP va) 1023 := pg_or _ (w_and _ _) (fun i h1 h2 => by rw [tb_and _ _ hv w1023, tb_lt 1023 10 i (by decide) h1]; simp)
include hv in
theorem low_spX : bits .and .u32 (spX va) 1023 = bits .and .u32 va 1023 := by
  apply tb_eq (w_and _ _) (w_and _ _)
  intro i hi
  rw [tb_and _ _ (w_spX va) w1023, tb_and _ _ hv w1023, tb_spX hv, tb_spP hv]
  by_cases e : i < 10
  · rw [low1023 i e, bit20 i hi, decide_eq_false (by omega)]; simp
  · rw [tb_lt 1023 10 i (by decide) (by omega)]; simp
include hv in
theorem sp_a (a : Int) (a0 : 0 ≤ a) (a1 : a < 256) : bits .and .u32 (bits .or .u32 (spP va) a) 255 = a := by
  have ha : W32 a := ⟨a0, by omega⟩
  apply tb_eq (w_and _ _) ha
  intro i hi
  rw [tb_and _ _ (w_or _ _) w255, tb_or _ _ (w_spP va) ha, tb_spP hv]
  by_cases e : i < 8
  · rw [low255 i e, low1023 i (by omega), bit20 i hi, decide_eq_false (by omega)]; simp
  · rw [tb_lt 255 8 i (by decide) (by omega), tb_lt a 8 i (by simpa using a1) (by omega)]; simp
end
theorem sp_b (b : Int) (b0 : 0 ≤ b) (b1 : b < 256) : bits .and .u32 (bits .and .u32 b 4294966527) 255 = b := by
  have hb : W32 b := ⟨b0, by omega⟩
  apply tb_eq (w_and _ _) hb
  intro i hi
  rw [tb_and _ _ (w_and _ _) w255, tb_and _ _ hb wM]
  by_cases e : i < 8
  · rw [low255 i e, lowM i e]; simp
  · rw [tb_lt 255 8 i (by decide) (by omega), tb_lt b 8 i (by simpa using b1) (by omega)]; simp
/-- the State of the law: entry 4 alone, EntryHi names space b -/
def spS (va a b lo : Int) : St := wrF ((freshF.setH 4 (bits .or .u32 (spP va) a)).setL 4 lo) 10 b
section
variable {va a b lo x : Int} (hv : W32 va) (a0 : 0 ≤ a) (a1 : a < 256) (b0 : 0 ≤ b) (b1 : b < 256) (x20 : tb x 20 = true) (hx : W32 x)
include x20 hx in
theorem sp_other (j : Nat) (hj : j < 8) (h4 : j ≠ 4) : hitB (spS va a b lo) x j = false := by
  have e : (spS va a b lo).H j = 0 := by
    show (if j = 4 then _ else (0 : Int)) = 0
    rw [if_neg h4]
  have hp : pgB (spS va a b lo) x j = false := by
    unfold pgB
    rw [e]
    apply beq_false_of_ne
    intro h
    have h2 : tb _ 20 = tb _ 20 := congrArg (fun y => tb y 20) h
    rw [tb_andNot _ _ w32_0 w1023, tb_andNot _ _ hx w1023, x20] at h2
    exact absurd h2 (by decide)
  unfold hitB
  rw [hp]; rfl
include hv a0 a1 b0 b1 in
theorem sp_four (hpx : bits .andNot .u32 x 1023 = bits .andNot .u32 (spP va) 1023) : hitB (spS va a b lo) x 4 = (bits .and .u32 lo 4 != 0 || decide (a = b)) := by
  have e1 : pgB (spS va a b lo) x 4 = true := by
    unfold pgB
    show (bits .andNot .u32 (bits .or .u32 (spP va) a) 1023 == _) = true
    rw [pg_or a ⟨a0, by omega⟩ (fun i h1 _ => tb_lt a 8 i (by simpa using a1) (by omega)), hpx]
    simp
  have e2 : glB (spS va a b lo) 4 = (bits .and .u32 lo 4 != 0) := rfl
  have e3 : spB (spS va a b lo) 4 = decide (a = b) := by
    show (bits .and .u32 (bits .or .u32 (spP va) a) 255 == bits .and .u32 (bits .and .u32 b 4294966527) 255) = decide (a = b)
    rw [sp_a hv a a0 a1, sp_b b b0 b1]
    by_cases e : a = b <;> simp [e]
  unfold hitB
  rw [e1, e2, e3]; rfl
include hv a0 a1 b0 b1 x20 hx in
theorem sp_hit (hpx : bits .andNot .u32 x 1023 = bits .andNot .u32 (spP va) 1023) (h : (bits .and .u32 lo 4 != 0 || decide (a = b)) = true) : findF (spS va a b lo) x = (4 : Nat) :=
  find_hit (by omega) ((sp_four hv a0 a1 b0 b1 hpx).trans h) (fun i hi => sp_other x20 hx i (by omega) (by omega))
include hv a0 a1 b0 b1 x20 hx in
theorem sp_none (hpx : bits .andNot .u32 x 1023 = bits .andNot .u32 (spP va) 1023) (h : (bits .and .u32 lo 4 != 0 || decide (a = b)) = false) : findF (spS va a b lo) x = -1 :=
  find_none (fun i hi => by
    by_cases e : i = 4
    · subst e; exact (sp_four hv a0 a1 b0 b1 hpx).trans h
    · exact sp_other x20 hx i hi e)
end
theorem sp_lookHit {va a b lo : Int} (hv : W32 va) (h : findF (spS va a b lo) (spX va) = (4 : Nat)) (h1 : ¬ bits .and .u32 lo 1 = 0) (h2 : ¬ bits .and .u32 lo 2 = 0) (h3 : bits .andNot .u32 lo 1023 = 8192) : lookF (spS va a b lo) (spX va) true = (bits .or .u32 8192 (bits .and .u32 va 1023), -1, false) := by
  have := look_at (st := true) h (show ¬ bits .and .u32 ((spS va a b lo).L 4) 1 = 0 from h1) (fun x => h2 x.2)
  rw [this, show (spS va a b lo).L 4 = lo from rfl, h3, low_spX hv]
section
variable {w : World}
set_option maxRecDepth 100000 in
set_option maxHeartbeats 4000000 in
theorem spaces_walk (va a b : Int) (global : Bool) (hv : W32 va) (a0 : 0 ≤ a) (a1 : a < 256) (b0 : 0 ≤ b) (b1 : b < 256) :
    Calls Try.prog 6 #[.int .u32 va, .int .u8 a, .int .u8 b, .bool global] w (RetB (.bool true) w) := by
  cases global
  · by_cases hab : a = b
    · subst hab
      clear b0 b1
      have hfx : findF (spS va a a 8195) (spX va) = (4 : Nat) := sp_hit hv a0 a1 a0 a1 (spX_20 hv) (w_spX va) (pg_spX hv) (by simp)
      have FP : Hid (findF (spS va a a 8195) (bits .or .u32 (bits .andNot .u32 va 1023) 1048576) = 4) := Lib.hid (sp_hit hv a0 a1 a0 a1 (spP_20 hv) (w_spP va) rfl (by simp))
      have FL : Hid (lookF (spS va a a 8195) (bits .or .u32 (bits .or .u32 (bits .andNot .u32 va 1023) 1048576) (bits .and .u32 va 1023)) true = (bits .or .u32 8192 (bits .and .u32 va 1023), -1, false)) := Lib.hid (sp_lookHit hv hfx (by decide) (by decide) (by decide))
      clear hfx
      have HV := Lib.hid hv
      clear hv
      go_enter Try.func6, Try.ntmps6
      go_wp2_with fail
      refine (fresh_any w).mono ?_
      rintro e w1 ⟨rfl, bb⟩
      have ok := St.Ok.of_fresh
      have z1 := bb.size
      go_wp2_with (with_reducible refine wpList_allocSt ?_)
      intro g w2 l2 h2 f2
      go_wp2_with ((with_reducible refine wpList_storeSt ?_ ?_ h2 ok ?_); rfl; rfl)
      intro w3 t3
      have hg : w.heap.size ≤ g := by omega
      have g3 := (((Fr.of_below (S := New w.heap.size) bb).trans (f2.new (fun _ x => x.elim))).trans (t3.fr.new (by rintro k rfl; exact hg)))
      have h3 := t3.at_
      clear t3 h2 f2 l2 z1 ok bb
      have ch : w3.cell? ⟨g, 63, none⟩ = some (.int .u32 (freshF.H 4)) := h3.cH 4 (by decide)
      have cl : w3.cell? ⟨g, 64, none⟩ = some (.int .u32 (freshF.L 4)) := h3.cL 4 (by decide)
      have fh := h3.frozenAt 63
      have fl := h3.frozenAt 64
      have h4 : StAt ((w3.setCell ⟨g, 63, none⟩ (.int .u32 (bits .or .u32 (bits .or .u32 (bits .andNot .u32 va 1023) 1048576) a))).setCell ⟨g, 64, none⟩ (.int .u32 8195)) g ((freshF.setH 4 (bits .or .u32 (spP va) a)).setL 4 8195) := (h3.setH 4 (by decide) _ (w_or _ _)).setL 4 (by decide) 8195 ⟨by decide, by decide⟩
      have g4 : Fr (New w.heap.size) w ((w3.setCell ⟨g, 63, none⟩ (.int .u32 (bits .or .u32 (bits .or .u32 (bits .andNot .u32 va 1023) 1048576) a))).setCell ⟨g, 64, none⟩ (.int .u32 8195)) := (g3.setCell (x := ⟨g, 63, none⟩) (.inl hg) _).setCell (x := ⟨g, 64, none⟩) (.inl hg) _
      go_wp2_with fail
      refine (write_any 10 a h4 ⟨by omega, by omega⟩).mono ?_
      rintro e v5 ⟨rfl, t5⟩
      have A5 : StAt v5 g (spS va a a 8195) := t5.at_
      have F5 := g4.trans (t5.fr.new (by rintro k rfl; exact hg))
      clear t5 h4 g4 h3 g3 ch cl fh fl
      go_wp2_with fail
      refine (look_any _ true A5 (w_or _ _)).mono ?_
      rintro e v6 ⟨rfl, b6⟩
      rw [look_as FL.out]
      have A6 := A5.below b6
      have F6 := F5.trans (Fr.of_below (S := New w.heap.size) b6)
      clear A5 F5 b6
      go_wp2_with fail
      refine (find_any _ A6 (w_or _ _)).mono ?_
      rintro e v7 ⟨rfl, b7⟩
      rw [FP.out]
      have F7 := F6.trans (Fr.of_below (S := New w.heap.size) b7)
      clear A6 F6 b7
      go_wp2_with fail
      refine (known_any _).mono ?_
      rintro e v8 ⟨rfl, b8⟩
      go_wp2_with fail
      go_ret
      exact ⟨rfl, (F7.trans (Fr.of_below (S := New w.heap.size) b8)).newB⟩
    ·
      have hq : (bits .and .u32 8195 4 != 0 || decide (a = b)) = false := by rw [decide_eq_false hab]; rfl
      have hfx : findF (spS va a b 8195) (spX va) = -1 := sp_none hv a0 a1 b0 b1 (spX_20 hv) (w_spX va) (pg_spX hv) hq
      have FP : Hid (findF (spS va a b 8195) (bits .or .u32 (bits .andNot .u32 va 1023) 1048576) = -1) := Lib.hid (sp_none hv a0 a1 b0 b1 (spP_20 hv) (w_spP va) rfl hq)
      have FL : Hid (lookF (spS va a b 8195) (bits .or .u32 (bits .or .u32 (bits .andNot .u32 va 1023) 1048576) (bits .and .u32 va 1023)) true = (0, 3, true)) := Lib.hid (look_none (st := true) hfx)
      have hab' : (a == b) = false := by simpa using hab
      clear hab hq
      clear hfx
      have HV := Lib.hid hv
      clear hv
      go_enter Try.func6, Try.ntmps6
      go_wp2_with fail
      refine (fresh_any w).mono ?_
      rintro e w1 ⟨rfl, bb⟩
      have ok := St.Ok.of_fresh
      have z1 := bb.size
      go_wp2_with (with_reducible refine wpList_allocSt ?_)
      intro g w2 l2 h2 f2
      go_wp2_with ((with_reducible refine wpList_storeSt ?_ ?_ h2 ok ?_); rfl; rfl)
      intro w3 t3
      have hg : w.heap.size ≤ g := by omega
      have g3 := (((Fr.of_below (S := New w.heap.size) bb).trans (f2.new (fun _ x => x.elim))).trans (t3.fr.new (by rintro k rfl; exact hg)))
      have h3 := t3.at_
      clear t3 h2 f2 l2 z1 ok bb
      have ch : w3.cell? ⟨g, 63, none⟩ = some (.int .u32 (freshF.H 4)) := h3.cH 4 (by decide)
      have cl : w3.cell? ⟨g, 64, none⟩ = some (.int .u32 (freshF.L 4)) := h3.cL 4 (by decide)
      have fh := h3.frozenAt 63
      have fl := h3.frozenAt 64
      have h4 : StAt ((w3.setCell ⟨g, 63, none⟩ (.int .u32 (bits .or .u32 (bits .or .u32 (bits .andNot .u32 va 1023) 1048576) a))).setCell ⟨g, 64, none⟩ (.int .u32 8195)) g ((freshF.setH 4 (bits .or .u32 (spP va) a)).setL 4 8195) := (h3.setH 4 (by decide) _ (w_or _ _)).setL 4 (by decide) 8195 ⟨by decide, by decide⟩
      have g4 : Fr (New w.heap.size) w ((w3.setCell ⟨g, 63, none⟩ (.int .u32 (bits .or .u32 (bits .or .u32 (bits .andNot .u32 va 1023) 1048576) a))).setCell ⟨g, 64, none⟩ (.int .u32 8195)) := (g3.setCell (x := ⟨g, 63, none⟩) (.inl hg) _).setCell (x := ⟨g, 64, none⟩) (.inl hg) _
      go_wp2_with fail
      refine (write_any 10 b h4 ⟨by omega, by omega⟩).mono ?_
      rintro e v5 ⟨rfl, t5⟩
      have A5 : StAt v5 g (spS va a b 8195) := t5.at_
      have F5 := g4.trans (t5.fr.new (by rintro k rfl; exact hg))
      clear t5 h4 g4 h3 g3 ch cl fh fl
      go_wp2_with fail
      refine (look_any _ true A5 (w_or _ _)).mono ?_
      rintro e v6 ⟨rfl, b6⟩
      rw [look_as FL.out]
      have A6 := A5.below b6
      have F6 := F5.trans (Fr.of_below (S := New w.heap.size) b6)
      clear A5 F5 b6
      go_wp2_with fail
      refine (find_any _ A6 (w_or _ _)).mono ?_
      rintro e v7 ⟨rfl, b7⟩
      rw [FP.out]
      have F7 := F6.trans (Fr.of_below (S := New w.heap.size) b7)
      clear A6 F6 b7
      go_wp2_with fail
      refine (known_any _).mono ?_
      rintro e v8 ⟨rfl, b8⟩
      go_wp2_with fail
      go_ret
      exact ⟨rfl, (F7.trans (Fr.of_below (S := New w.heap.size) b8)).newB⟩
  ·
    have hfx : findF (spS va a b 8199) (spX va) = (4 : Nat) := sp_hit hv a0 a1 b0 b1 (spX_20 hv) (w_spX va) (pg_spX hv) (by simp [show (bits .and .u32 8199 4 != 0) = true from rfl])
    have FP : Hid (findF (spS va a b 8199) (bits .or .u32 (bits .andNot .u32 va 1023) 1048576) = 4) := Lib.hid (sp_hit hv a0 a1 b0 b1 (spP_20 hv) (w_spP va) rfl (by simp [show (bits .and .u32 8199 4 != 0) = true from rfl]))
    have FL : Hid (lookF (spS va a b 8199) (bits .or .u32 (bits .or .u32 (bits .andNot .u32 va 1023) 1048576) (bits .and .u32 va 1023)) true = (bits .or .u32 8192 (bits .and .u32 va 1023), -1, false)) := Lib.hid (sp_lookHit hv hfx (by decide) (by decide) (by decide))
    clear hfx
    have HV := Lib.hid hv
    clear hv
    go_enter Try.func6, Try.ntmps6
    go_wp2_with fail
    refine (fresh_any w).mono ?_
    rintro e w1 ⟨rfl, bb⟩
    have ok := St.Ok.of_fresh
    have z1 := bb.size
    go_wp2_with (with_reducible refine wpList_allocSt ?_)
    intro g w2 l2 h2 f2
    go_wp2_with ((with_reducible refine wpList_storeSt ?_ ?_ h2 ok ?_); rfl; rfl)
    intro w3 t3
    have hg : w.heap.size ≤ g := by omega
    have g3 := (((Fr.of_below (S := New w.heap.size) bb).trans (f2.new (fun _ x => x.elim))).trans (t3.fr.new (by rintro k rfl; exact hg)))
    have h3 := t3.at_
    clear t3 h2 f2 l2 z1 ok bb
    have ch : w3.cell? ⟨g, 63, none⟩ = some (.int .u32 (freshF.H 4)) := h3.cH 4 (by decide)
    have cl : w3.cell? ⟨g, 64, none⟩ = some (.int .u32 (freshF.L 4)) := h3.cL 4 (by decide)
    have fh := h3.frozenAt 63
    have fl := h3.frozenAt 64
    have h4 : StAt ((w3.setCell ⟨g, 63, none⟩ (.int .u32 (bits .or .u32 (bits .or .u32 (bits .andNot .u32 va 1023) 1048576) a))).setCell ⟨g, 64, none⟩ (.int .u32 8199)) g ((freshF.setH 4 (bits .or .u32 (spP va) a)).setL 4 8199) := (h3.setH 4 (by decide) _ (w_or _ _)).setL 4 (by decide) 8199 ⟨by decide, by decide⟩
    have g4 : Fr (New w.heap.size) w ((w3.setCell ⟨g, 63, none⟩ (.int .u32 (bits .or .u32 (bits .or .u32 (bits .andNot .u32 va 1023) 1048576) a))).setCell ⟨g, 64, none⟩ (.int .u32 8199)) := (g3.setCell (x := ⟨g, 63, none⟩) (.inl hg) _).setCell (x := ⟨g, 64, none⟩) (.inl hg) _
    go_wp2_with fail
    refine (write_any 10 b h4 ⟨by omega, by omega⟩).mono ?_
    rintro e v5 ⟨rfl, t5⟩
    have A5 : StAt v5 g (spS va a b 8199) := t5.at_
    have F5 := g4.trans (t5.fr.new (by rintro k rfl; exact hg))
    clear t5 h4 g4 h3 g3 ch cl fh fl
    go_wp2_with fail
    refine (look_any _ true A5 (w_or _ _)).mono ?_
    rintro e v6 ⟨rfl, b6⟩
    rw [look_as FL.out]
    have A6 := A5.below b6
    have F6 := F5.trans (Fr.of_below (S := New w.heap.size) b6)
    clear A5 F5 b6
    go_wp2_with fail
    refine (find_any _ A6 (w_or _ _)).mono ?_
    rintro e v7 ⟨rfl, b7⟩
    rw [FP.out]
    have F7 := F6.trans (Fr.of_below (S := New w.heap.size) b7)
    clear A6 F6 b7
    go_wp2_with fail
    refine (known_any _).mono ?_
    rintro e v8 ⟨rfl, b8⟩
    go_wp2_with fail
    go_ret
    exact ⟨rfl, (F7.trans (Fr.of_below (S := New w.heap.size) b8)).newB⟩
end
end Go.Proofs.Ytckgkelggmhldaa

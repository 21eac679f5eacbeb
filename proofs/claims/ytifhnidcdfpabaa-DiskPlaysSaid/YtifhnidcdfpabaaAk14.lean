/-
  Chapter 14: a list of calls and a slice of bytes that came in, read as their cells; the walk of DiskPlays.
-/
import Derived.Test.YtifhnidcdfpabaaPl14
import Derived.Deep.DeepCutAuto
import Derived.Deep.CutBlock
import Derived.Test.YtifhnidcdfpabaaBy14
import Derived.Test.YtifhnidcdfpabaaOn14
namespace Go.Proofs.Ytifhnidcdfpabaa
open Go.RowKit Go.ChangeShapes Go.WideShapes Go.Deep
set_option linter.unusedVariables false
set_option linter.unusedSimpArgs false
theorem asks_below {w w' : World} {a : Option Addr} {len : Nat} (h : Asks w w.heap.size a len) (hb : Below w.heap.size w w') : Asks w' w'.heap.size a len := by
  intro i hi
  obtain ⟨b, o, kd, kk, x, by_, bb, e, hbl, c0, c1, c2, c3, c4, r⟩ := h i hi
  exact ⟨b, o, kd, kk, x, by_, bb, e, Nat.lt_of_lt_of_le hbl hb.size, (hb.cell (p := ⟨b, o + i * 5, none⟩) hbl).trans c0, (hb.cell (p := ⟨b, o + i * 5 + 1, none⟩) hbl).trans c1, (hb.cell (p := ⟨b, o + i * 5 + 2, none⟩) hbl).trans c2, (hb.cell (p := ⟨b, o + i * 5 + 3, none⟩) hbl).trans c3, (hb.cell (p := ⟨b, o + i * 5 + 4, none⟩) hbl).trans c4, r⟩
set_option maxRecDepth 100000 in
set_option maxHeartbeats 1000000 in
theorem plays_walk (A : Option Addr) (n c : Nat) (a : Option Addr) (len cap : Nat) (w : World) (hI : InBy w A n c) (hA : Asks w w.heap.size a len) (hl : len ≤ 9223372036854775807) :
    Calls Try.prog 4 #[.slice A n c, .slice a len cap] w (RetB (.bool true) w) := by
  have HA := Lib.hid hA
  obtain ⟨f, hnc, hn, hB⟩ := hI
  have HB := Lib.hid hB
  clear hA hB
  go_enter Try.func4, Try.ntmps4
  go_upto_if 7 with fail
  go_cut [0] (fun s wc => ∃ (m cc : Nat), s = .slice A m cc ∧ m ≤ 300 ∧ w = wc ∧ Hid (ByAt (fun k => k < w.heap.size) w (.slice A m cc) m f))
  case first =>
    by_cases hk : n ≤ 300
    · go_wp2_with fail
      go_meet
      exact ⟨n, c, rfl, hk, rfl, HB.out n (Nat.le_refl _)⟩
    · have hk2 : 300 < (n : Int) := by omega
      go_wp2_with fail
      go_meet
      exact ⟨300, c, rfl, by omega, rfl, HB.out 300 (by omega)⟩
  case rest =>
    obtain ⟨m, cc, rfl, hm, rfl, HV⟩ := hcut
    have hm4 : m ≤ 4096 := by omega
    go_wp2_with fail
    with_reducible refine (play_any (.slice A m cc) m f a len cap true w HV hm4 HA hl).mono ?_
    rintro e w2 ⟨rfl, hb2⟩
    have HA2 := Lib.hid (asks_below HA.out hb2)
    have HV2 : Hid (ByAt (fun k => k < w.heap.size) w2 (.slice A m cc) m f) := Lib.hid (HV.out.fr (S := fun _ => False) (Fr.of_below hb2) (fun _ _ _ => id))
    go_wp2_with fail
    with_reducible refine (play_any (.slice A m cc) m f a len cap false w2 HV2 hm4 HA2 hl).mono ?_
    rintro e w3 ⟨rfl, hb3⟩
    have hb23 := hb2.trans (hb3.mono hb2.size)
    go_wp2_with fail
    with_reducible refine (known_any w3).mono ?_
    rintro e w5 ⟨rfl, hb5⟩
    go_wp2
    go_ret
    exact ⟨rfl, hb23.trans (hb5.mono hb23.size)⟩
section
variable {H : Type} {enc : TypeId × Value → H} {W : World}
set_option maxRecDepth 100000 in
theorem asks_of {fuel : Nat} {a : Option Addr} {len cap : Nat} {x : DataW H × List MemPlace} (hf : DataW.trod enc Try.prog W 0 (fun _ => true) true fuel 22 [.slice a len cap] = some x) : Asks W W.heap.size a len ∧ len ≤ 9223372036854775807 := by
  rcases open_slice Try.underlying22 hf with ⟨hcs, _⟩ | ⟨ad, l, c, m, n, D, Pl, hcs, _, hl, hc, hm, _, hi⟩
  · injection hcs with e
    injection e with e1 e2 e3
    subst e2
    exact ⟨fun i h => absurd h (by omega), by omega⟩
  · injection hcs with e
    injection e with e1 e2 e3
    subst e1 e2 e3
    simp only [if_true] at hm
    subst hm
    refine ⟨fun i hil => ?_, by unfold maxLen at hc; omega⟩
    have c5 : Try.prog.cellsOf 26 = 5 := by kernel_rfl
    obtain ⟨b, o, s⟩ := ad
    have hs : s = none := by
      obtain ⟨cs0, hcc0, _⟩ := hi 0 (by omega)
      rw [c5] at hcc0
      obtain ⟨_, hcl0, hat0⟩ := World.cells?_some hcc0
      have h0 := hat0 0 (by omega)
      rw [List.getElem?_eq_getElem (by omega)] at h0
      have := addr_plain h0
      simpa [Addr.add] using this
    subst hs
    obtain ⟨cs, hcc, htr⟩ := hi i (by omega)
    rw [c5] at hcc
    obtain ⟨_, hcl, hat⟩ := World.cells?_some hcc
    obtain ⟨ys, n', _, _, _, hyl, hfld⟩ := DataW.trod_struct Try.underlying26 htr
    match cs, hcl with
    | [u0, u1, u2, u3, u4], _ =>
      have hy : ∀ j, j < 5 → ∃ y, ys[j]? = some y := fun j hj => ⟨ys[j]'(by rw [hyl]; exact hj), List.getElem?_eq_getElem _⟩
      obtain ⟨y0, z0⟩ := hy 0 (by omega)
      obtain ⟨y1, z1⟩ := hy 1 (by omega)
      obtain ⟨y2, z2⟩ := hy 2 (by omega)
      obtain ⟨y3, z3⟩ := hy 3 (by omega)
      obtain ⟨y4, z4⟩ := hy 4 (by omega)
      obtain ⟨kd, rfl, wk⟩ := int_of Try.underlying3 (show DataW.trod enc Try.prog W 0 (fun _ => true) true n' 3 [u0] = ys[0]? from hfld 0 _ rfl) z0
      obtain ⟨kk, rfl, wd⟩ := int_of Try.underlying3 (show DataW.trod enc Try.prog W 0 (fun _ => true) true n' 3 [u1] = ys[1]? from hfld 1 _ rfl) z1
      obtain ⟨x2, rfl, wp⟩ := int_of Try.underlying24 (show DataW.trod enc Try.prog W 0 (fun _ => true) true n' 24 [u2] = ys[2]? from hfld 2 _ rfl) z2
      obtain ⟨by_, rfl, wt⟩ := int_of Try.underlying2 (show DataW.trod enc Try.prog W 0 (fun _ => true) true n' 2 [u3] = ys[3]? from hfld 3 _ rfl) z3
      obtain ⟨bb, rfl, wb⟩ := int_of Try.underlying5 (show DataW.trod enc Try.prog W 0 (fun _ => true) true n' 5 [u4] = ys[4]? from hfld 4 _ rfl) z4
      have hcell : ∀ j (hj : j < 5), W.cell? ⟨b, o + i * 5 + j, none⟩ = [Value.int .i64 kd, .int .i64 kk, .int .u32 x2, .int .i64 by_, .int .u8 bb][j]? := fun j hj => by
        rw [← Addr.add_mid, ← Addr.add_mid, hat j hj]
      have q0 := hcell 0 (by omega)
      obtain ⟨r1, r2⟩ := rngi wd
      obtain ⟨r3, r4⟩ := rngw wp
      obtain ⟨r7, r8⟩ := rngi wt
      have r9 := bounds_u8 wb
      exact ⟨b, o, kd, kk, x2, by_, bb, rfl, block_lt_of_cell q0, q0, hcell 1 (by omega), hcell 2 (by omega), hcell 3 (by omega), hcell 4 (by omega), r1, r2, r3, r4, r7, r8, by omega, by omega⟩
end
end Go.Proofs.Ytifhnidcdfpabaa

/-
  Chapter 15: a list of calls and slices of bytes that came in, read as their cells; the walk of BusPlays.
-/
import Derived.Test.YtkfedihaldpgmaaGreatWf9
import Derived.Deep.MidRow
import Derived.Deep.Slices
import Derived.Deep.Fields
import Derived.ProofKit
import Derived.OpenShut
import Derived.Test.YtkfedihaldpgmaaGreatPw15
/-
  Arguments opened to their cells: integers, slices of integers.
-/
namespace Go.Proofs.YtkfedihaldpgmaaGreat
open Go.RowKit Go.ChangeShapes Go.WideShapes Go.Deep
set_option linter.unusedVariables false
set_option linter.unusedSimpArgs false
theorem rngi {a : Int} (h : (Lit.int .i64 a).wf = true) : -9223372036854775808 ≤ a ∧ a ≤ 9223372036854775807 := by
  have := bounds_i64 h; exact ⟨by omega, by omega⟩
theorem rngw {a : Int} (h : (Lit.int .u32 a).wf = true) : 0 ≤ a ∧ a < 4294967296 := by
  have := bounds_u32 h; exact ⟨by omega, by omega⟩
theorem addr_plain {w : World} {x : Addr} {v : Value} (h : w.cell? x = some v) : x.spot = none := by
  unfold World.cell? at h
  split at h
  · split at h
    · cases h
    · rename_i hs
      simpa using hs
  · cases h
section
variable {H : Type} {enc : TypeId × Value → H} {W : World}
theorem int_of {fuel : Nat} {t : TypeId} {k : IntKind} {v : Value} {x : Option (DataW H × List MemPlace)} {y : DataW H × List MemPlace} (ht : Tryz.prog.underlying t = some (.int k)) (hf : DataW.trod enc Tryz.prog W 0 (fun _ => true) true fuel t [v] = x) (hx : x = some y) : ∃ n, v = .int k n ∧ (Lit.int k n).wf = true := by
  obtain ⟨n, e, _, hw⟩ := DataW.trod_int ht (hf.trans hx)
  injection e with e
  exact ⟨n, e, hw⟩
theorem bool_of {fuel : Nat} {t : TypeId} {v : Value} {x : Option (DataW H × List MemPlace)} {y : DataW H × List MemPlace} (ht : Tryz.prog.underlying t = some .bool) (hf : DataW.trod enc Tryz.prog W 0 (fun _ => true) true fuel t [v] = x) (hx : x = some y) : ∃ b, v = .bool b := by
  obtain ⟨n, e, _⟩ := DataW.trod_bool ht (hf.trans hx)
  injection e with e
  exact ⟨n, e⟩
theorem ints_any {fuel : Nat} {t e : TypeId} {k : IntKind} {v : Value} {x : DataW H × List MemPlace} (ht : Tryz.prog.underlying t = some (.slice e)) (he : Tryz.prog.underlying e = some (.int k)) (hc : Tryz.prog.cellsOf e = 1) (hf : DataW.trod enc Tryz.prog W 0 (fun _ => true) true fuel t [v] = some x) :
    ∃ a len cap, v = .slice a len cap ∧ len ≤ 9223372036854775807 ∧ ∀ i, i < len → ∃ (b o : Nat) (n : Int), a = some ⟨b, o, none⟩ ∧ b < W.heap.size ∧ W.cell? ⟨b, o + i, none⟩ = some (.int k n) ∧ (Lit.int k n).wf = true := by
  rcases open_ints ht he hc hf with ⟨hcs, _⟩ | ⟨⟨b, o, s⟩, l, c, zs, hcs, _, hl, hm, hz, _, hcell, hwz⟩
  · injection hcs with e
    exact ⟨_, _, _, e, by omega, fun i hi => absurd hi (by omega)⟩
  · injection hcs with e
    refine ⟨_, _, _, e, by unfold maxLen at hm; omega, fun i hi => ?_⟩
    simp only [if_true] at hz
    have h0 := hcell 0 (by omega)
    have hs := addr_plain h0
    have hs' : s = none := by simpa [Addr.add] using hs
    subst hs'
    have hci := hcell i (by omega)
    rw [Addr.add_mid] at hci
    have hli : i < zs.length := by omega
    refine ⟨b, o, zs.getD i 0, rfl, block_lt_of_cell hci, hci, hwz _ ?_⟩
    rw [List.getD_eq_getElem?_getD, List.getElem?_eq_getElem hli]
    exact List.getElem_mem hli
end
end Go.Proofs.YtkfedihaldpgmaaGreat

namespace Go.Proofs.YtkfedihaldpgmaaGreat
open Go.RowKit Go.ChangeShapes Go.WideShapes Go.Deep
set_option linter.unusedVariables false
set_option linter.unusedSimpArgs false
/-- a slice of bytes that came in, and its beginnings -/
def InBy (W : World) (A : Option Addr) (len cap : Nat) : Prop := ∃ f : Nat → Int, len ≤ cap ∧ len ≤ 9223372036854775807 ∧ ∀ m, m ≤ len → ByAt (fun k => k < W.heap.size) W (.slice A m cap) m f
section
variable {H : Type} {enc : TypeId × Value → H} {W : World}
theorem by_of {fuel : Nat} {a : Option Addr} {len cap : Nat} {x : DataW H × List MemPlace} (hf : DataW.trod enc Tryz.prog W 0 (fun _ => true) true fuel 24 [.slice a len cap] = some x) : InBy W a len cap := by
  rcases open_ints Tryz.underlying24 Tryz.underlying5 (by kernel_rfl) hf with ⟨hcs, _⟩ | ⟨⟨b, o, s⟩, l, c, zs, hcs, _, hl, hm, hz, _, hcell, hwz⟩
  · injection hcs with e
    injection e with e1 e2 e3
    subst e1 e2
    exact ⟨fun _ => 0, by omega, by omega, fun m hm => by
      obtain rfl : m = 0 := by omega
      exact .inl ⟨_, rfl, rfl⟩⟩
  · injection hcs with e
    injection e with e1 e2 e3
    subst e1 e2 e3
    refine ⟨fun i => zs.getD i 0, hl, by unfold maxLen at hm; omega, fun m hml => .inr ⟨⟨b, o, s⟩, _, rfl, by omega, fun hp => ?_, fun i hi => ?_⟩⟩
    · simp only [if_true] at hz
      have h0 := hcell 0 (by omega)
      have hs := addr_plain h0
      have hb := block_lt_of_cell h0
      rw [add_block] at hb
      exact ⟨by simpa [Addr.add] using hs, hb⟩
    · simp only [if_true] at hz
      have hci := hcell i (by omega)
      have hli : i < zs.length := by omega
      have hw := hwz (zs.getD i 0) (by
        rw [List.getD_eq_getElem?_getD, List.getElem?_eq_getElem hli]
        exact List.getElem_mem hli)
      have hb := bounds_u8 hw
      exact ⟨hci, (by show 0 ≤ zs.getD i 0; omega), (by show zs.getD i 0 ≤ 255; omega)⟩
end
theorem asks_below {w w' : World} {a : Option Addr} {len : Nat} (h : Asks w w.heap.size a len) (hb : Below w.heap.size w w') : Asks w' w'.heap.size a len := by
  intro i hi
  obtain ⟨b, o, kd, kk, dv, x, y, by_, bb, e, hbl, c0, c1, c2, c3, c4, c5, c6, r⟩ := h i hi
  exact ⟨b, o, kd, kk, dv, x, y, by_, bb, e, Nat.lt_of_lt_of_le hbl hb.size, (hb.cell (p := ⟨b, o + i * 7, none⟩) hbl).trans c0, (hb.cell (p := ⟨b, o + i * 7 + 1, none⟩) hbl).trans c1, (hb.cell (p := ⟨b, o + i * 7 + 2, none⟩) hbl).trans c2, (hb.cell (p := ⟨b, o + i * 7 + 3, none⟩) hbl).trans c3, (hb.cell (p := ⟨b, o + i * 7 + 4, none⟩) hbl).trans c4, (hb.cell (p := ⟨b, o + i * 7 + 5, none⟩) hbl).trans c5, (hb.cell (p := ⟨b, o + i * 7 + 6, none⟩) hbl).trans c6, r⟩
set_option maxRecDepth 100000 in
set_option maxHeartbeats 1000000 in
theorem plays_walk (A : Option Addr) (n c : Nat) (A2 : Option Addr) (n2 c2 : Nat) (a : Option Addr) (len cap : Nat) (w : World) (hI : InBy w A n c) (hI2 : InBy w A2 n2 c2) (hA : Asks w w.heap.size a len) (hl : len ≤ 9223372036854775807) :
    Calls Tryz.prog 4 #[.slice A n c, .slice A2 n2 c2, .slice a len cap] w (RetB (.bool true) w) := by
  have HA := Lib.hid hA
  obtain ⟨f, hnc, hn, hB⟩ := hI
  obtain ⟨f2, hnc2, hn2, hB2⟩ := hI2
  have HB := Lib.hid hB
  have HB2 := Lib.hid hB2
  clear hA hB hB2
  go_enter Tryz.func4, Tryz.ntmps4
  go_upto_if 9 with fail
  go_cut [0] (fun s wc => ∃ (m cc : Nat), s = .slice A m cc ∧ m ≤ 2100 ∧ w = wc ∧ Hid (ByAt (fun k => k < w.heap.size) w (.slice A m cc) m f))
  case first =>
    by_cases hk : n ≤ 2100
    · go_wp2_with fail
      go_meet
      exact ⟨n, c, rfl, hk, rfl, HB.out n (Nat.le_refl _)⟩
    · have hk2 : 2100 < (n : Int) := by omega
      go_wp2_with fail
      go_meet
      exact ⟨2100, c, rfl, by omega, rfl, HB.out 2100 (by omega)⟩
  case rest =>
    obtain ⟨m, cc, rfl, hm, rfl, HV⟩ := hcut
    go_upto_if 14 with fail
    go_cut [1] (fun s wc => ∃ (m cc : Nat), s = .slice A2 m cc ∧ m ≤ 300 ∧ w = wc ∧ Hid (ByAt (fun k => k < w.heap.size) w (.slice A2 m cc) m f2))
    case first =>
      by_cases hk : n2 ≤ 300
      · go_wp2_with fail
        go_meet
        exact ⟨n2, c2, rfl, hk, rfl, HB2.out n2 (Nat.le_refl _)⟩
      · have hk2 : 300 < (n2 : Int) := by omega
        go_wp2_with fail
        go_meet
        exact ⟨300, c2, rfl, by omega, rfl, HB2.out 300 (by omega)⟩
    case rest =>
      obtain ⟨m2, cc2, rfl, hm2, rfl, HV2⟩ := hcut
      have HP := Lib.hid (play_any (.slice A m cc) (.slice A2 m2 cc2) m m2 f f2 a len cap false w HV HV2 (by omega) (by omega) HA hl)
      go_wp2_with fail
      with_reducible refine HP.out.mono ?_
      rintro e w2 ⟨rfl, hb2⟩
      have HA2 := Lib.hid (asks_below HA.out hb2)
      have HVa : Hid (ByAt (fun k => k < w.heap.size) w2 (.slice A m cc) m f) := Lib.hid (HV.out.fr (S := fun _ => False) (Fr.of_below hb2) (fun _ _ _ => id))
      have HVb : Hid (ByAt (fun k => k < w.heap.size) w2 (.slice A2 m2 cc2) m2 f2) := Lib.hid (HV2.out.fr (S := fun _ => False) (Fr.of_below hb2) (fun _ _ _ => id))
      have HP2 := Lib.hid (play_any (.slice A m cc) (.slice A2 m2 cc2) m m2 f f2 a len cap true w2 HVa HVb (by omega) (by omega) HA2 hl)
      go_wp2_with fail
      with_reducible refine HP2.out.mono ?_
      rintro e w3 ⟨rfl, hb3⟩
      have hb23 := hb2.trans (hb3.mono hb2.size)
      have HK := Lib.hid (known_any w3)
      go_wp2_with fail
      with_reducible refine HK.out.mono ?_
      rintro e w5 ⟨rfl, hb5⟩
      go_wp2
      go_ret
      exact ⟨rfl, hb23.trans (hb5.mono hb23.size)⟩
section
variable {H : Type} {enc : TypeId × Value → H} {W : World}
set_option maxRecDepth 100000 in
theorem asks_of {fuel : Nat} {a : Option Addr} {len cap : Nat} {x : DataW H × List MemPlace} (hf : DataW.trod enc Tryz.prog W 0 (fun _ => true) true fuel 36 [.slice a len cap] = some x) : Asks W W.heap.size a len ∧ len ≤ 9223372036854775807 := by
  rcases open_slice Tryz.underlying36 hf with ⟨hcs, _⟩ | ⟨ad, l, c, m, n, D, Pl, hcs, _, hl, hc, hm, _, hi⟩
  · injection hcs with e
    injection e with e1 e2 e3
    subst e2
    exact ⟨fun i h => absurd h (by omega), by omega⟩
  · injection hcs with e
    injection e with e1 e2 e3
    subst e1 e2 e3
    simp only [if_true] at hm
    subst hm
    refine ⟨fun i hil => ?_, by unfold maxLen at hc; omega⟩
    have c7 : Tryz.prog.cellsOf 97 = 7 := by kernel_rfl
    obtain ⟨b, o, s⟩ := ad
    have hs : s = none := by
      obtain ⟨cs0, hcc0, _⟩ := hi 0 (by omega)
      rw [c7] at hcc0
      obtain ⟨_, hcl0, hat0⟩ := World.cells?_some hcc0
      have h0 := hat0 0 (by omega)
      rw [List.getElem?_eq_getElem (by omega)] at h0
      have := addr_plain h0
      simpa [Addr.add] using this
    subst hs
    obtain ⟨cs, hcc, htr⟩ := hi i (by omega)
    rw [c7] at hcc
    obtain ⟨_, hcl, hat⟩ := World.cells?_some hcc
    obtain ⟨ys, n', _, _, _, hyl, hfld⟩ := DataW.trod_struct Tryz.underlying97 htr
    match cs, hcl with
    | [u0, u1, u2, u3, u4, u5, u6], _ =>
      have hy : ∀ j, j < 7 → ∃ y, ys[j]? = some y := fun j hj => ⟨ys[j]'(by rw [hyl]; exact hj), List.getElem?_eq_getElem _⟩
      obtain ⟨y0, z0⟩ := hy 0 (by omega)
      obtain ⟨y1, z1⟩ := hy 1 (by omega)
      obtain ⟨y2, z2⟩ := hy 2 (by omega)
      obtain ⟨y3, z3⟩ := hy 3 (by omega)
      obtain ⟨y4, z4⟩ := hy 4 (by omega)
      obtain ⟨y5, z5⟩ := hy 5 (by omega)
      obtain ⟨y6, z6⟩ := hy 6 (by omega)
      obtain ⟨kd, rfl, wk⟩ := int_of Tryz.underlying3 (show DataW.trod enc Tryz.prog W 0 (fun _ => true) true n' 3 [u0] = ys[0]? from hfld 0 _ rfl) z0
      obtain ⟨kk, rfl, wd⟩ := int_of Tryz.underlying3 (show DataW.trod enc Tryz.prog W 0 (fun _ => true) true n' 3 [u1] = ys[1]? from hfld 1 _ rfl) z1
      obtain ⟨dv, rfl, wv⟩ := int_of Tryz.underlying3 (show DataW.trod enc Tryz.prog W 0 (fun _ => true) true n' 3 [u2] = ys[2]? from hfld 2 _ rfl) z2
      obtain ⟨x3, rfl, wp⟩ := int_of Tryz.underlying27 (show DataW.trod enc Tryz.prog W 0 (fun _ => true) true n' 27 [u3] = ys[3]? from hfld 3 _ rfl) z3
      obtain ⟨x4, rfl, wq⟩ := int_of Tryz.underlying27 (show DataW.trod enc Tryz.prog W 0 (fun _ => true) true n' 27 [u4] = ys[4]? from hfld 4 _ rfl) z4
      obtain ⟨by_, rfl, wt⟩ := int_of Tryz.underlying2 (show DataW.trod enc Tryz.prog W 0 (fun _ => true) true n' 2 [u5] = ys[5]? from hfld 5 _ rfl) z5
      obtain ⟨bb, rfl, wb⟩ := int_of Tryz.underlying5 (show DataW.trod enc Tryz.prog W 0 (fun _ => true) true n' 5 [u6] = ys[6]? from hfld 6 _ rfl) z6
      have hcell : ∀ j (hj : j < 7), W.cell? ⟨b, o + i * 7 + j, none⟩ = [Value.int .i64 kd, .int .i64 kk, .int .i64 dv, .int .u32 x3, .int .u32 x4, .int .i64 by_, .int .u8 bb][j]? := fun j hj => by
        rw [← Addr.add_mid, ← Addr.add_mid, hat j hj]
      have q0 := hcell 0 (by omega)
      have r9 := bounds_u8 wb
      exact ⟨b, o, kd, kk, dv, x3, x4, by_, bb, rfl, block_lt_of_cell q0, q0, hcell 1 (by omega), hcell 2 (by omega), hcell 3 (by omega), hcell 4 (by omega), hcell 5 (by omega), hcell 6 (by omega), rngi wd, rngi wv, rngw wp, rngw wq, rngi wt, by omega, by omega⟩
end
end Go.Proofs.YtkfedihaldpgmaaGreat

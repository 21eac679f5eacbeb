/-
  Chapter 15: the program's bus: read, write.
-/
import Derived.Test.YtkfedihaldpgmaaGreatPh15
namespace Go.Proofs.YtkfedihaldpgmaaGreat
open Go.RowKit
set_option linter.unusedVariables false
set_option linter.unusedSimpArgs false
/-- the device of an address, its word -/
def dvN (a : Int) : Nat := (plD a).toNat
def kN (a : Int) : Nat := (plK a / 4).toNat
theorem plD_N (a : Int) : plD a = (dvN a : Int) := by unfold dvN plD; omega
theorem plK_N {a : Int} (h : a % 4 = 0) : plK a = (kN a : Int) * 4 := by unfold kN plK; omega
theorem kN_le (a : Int) : kN a ≤ 15 := by unfold kN plK; omega
section
variable {w w' : World} {G : PG} {V : PV} {S : BS} {N : Int}
set_option maxRecDepth 100000 in
set_option maxHeartbeats 2000000 in
theorem bread_dk (d k : Nat) (a now : Int) (h : Px w G V S) (hG : Gk N S) (h0 : 0 ≤ a) (h1 : a < 4294967296) (hd : plD a = (d : Int)) (hkk : plK a = (k : Int) * 4) (hk : k ≤ 15) (n0 : 0 ≤ now) (n1 : now ≤ 4611686018427387000) :
    Calls Tryz.prog 24 #[.pointer (some ⟨G.b, 0, none⟩), .int .u32 a, .int .i64 now] w (RetPx (.tuple #[.int .u32 (wordX d k now S), .bool (decide (k < wordsN d))]) w G V (readX d k S)) := by
  have HPl := Lib.hid (place_any a w h0 h1)
  rw [hd, hkk] at HPl
  clear hd hkk
  have hdd : d = 0 ∨ d = 1 ∨ d = 2 ∨ d = 3 ∨ d = 4 ∨ d = 5 ∨ 6 ≤ d := by omega
  rcases hdd with rfl | rfl | rfl | rfl | rfl | rfl | h6
  · have HR := Lib.hid (lnread_any ((k : Int) * 4) now h.ln (by omega) (by omega))
    have c2 : w.cell? ⟨G.b, 2, none⟩ = some (.pointer (some ⟨G.l, 0, none⟩)) := h.bb.cell (i := 2) (by omega)
    have HW : Hid (decide (isWord ((k : Int) * 4)) = decide (k < wordsN 0)) := Lib.hid (by rw [decide_eq_decide]; show isWord _ ↔ k < 4; unfold isWord; omega)
    clear n0 n1
    go_enter Tryz.func24, Tryz.ntmps24
    go_wp2_with fail
    with_reducible refine HPl.out.mono ?_
    rintro e w1 ⟨rfl, rfl⟩
    go_wp2_with fail
    with_reducible refine HR.out.mono ?_
    rintro e w1 ⟨rfl, rfl⟩
    go_wp2
    go_ret2
    exact ⟨by rw [← HW.out]; rfl, V, h, CP.refl _ _ _⟩
  · have HR := Lib.hid (pread1 k now h hk)
    have HF := Lib.hid (bfind_any 1 h)
    have hne : ((1 : Int) == 0) = false := rfl
    have HV : Hid (findV G 1 = Value.iface 109 (.pointer (some ⟨G.t0, 0, none⟩))) := Lib.hid (by simp [findV, pt10])
    have HD : Hid (isDv 1 = true) := Lib.hid rfl
    go_enter Tryz.func24, Tryz.ntmps24
    go_wp2_with fail
    with_reducible refine HPl.out.mono ?_
    rintro e w1 ⟨rfl, rfl⟩
    go_wp2_with fail
    with_reducible refine HF.out.mono ?_
    rintro e w1 ⟨rfl, hB⟩
    rw [HV.out, HD.out]
    have h1 := h.below hB
    have HR1 := Lib.hid (pread1 k now h1 hk)
    go_wp2_with fail
    with_reducible refine HR1.out.mono ?_
    rintro e w2 ⟨rfl, V2, h2, hc2⟩
    go_wp2
    go_ret2
    exact ⟨rfl, V2, h2, (CP.of_below hB).trans hc2⟩
  · have HR := Lib.hid (pread2 k now h hk)
    have HF := Lib.hid (bfind_any 2 h)
    have hne : ((2 : Int) == 0) = false := rfl
    have HV : Hid (findV G 2 = Value.iface 109 (.pointer (some ⟨G.t1, 0, none⟩))) := Lib.hid (by simp [findV, pt10])
    have HD : Hid (isDv 2 = true) := Lib.hid rfl
    go_enter Tryz.func24, Tryz.ntmps24
    go_wp2_with fail
    with_reducible refine HPl.out.mono ?_
    rintro e w1 ⟨rfl, rfl⟩
    go_wp2_with fail
    with_reducible refine HF.out.mono ?_
    rintro e w1 ⟨rfl, hB⟩
    rw [HV.out, HD.out]
    have h1 := h.below hB
    have HR1 := Lib.hid (pread2 k now h1 hk)
    go_wp2_with fail
    with_reducible refine HR1.out.mono ?_
    rintro e w2 ⟨rfl, V2, h2, hc2⟩
    go_wp2
    go_ret2
    exact ⟨rfl, V2, h2, (CP.of_below hB).trans hc2⟩
  · have HR := Lib.hid (pread3 k now h hG hk)
    have HF := Lib.hid (bfind_any 3 h)
    have hne : ((3 : Int) == 0) = false := rfl
    have HV : Hid (findV G 3 = Value.iface 66 (.pointer (some ⟨G.u, 0, none⟩))) := Lib.hid (by simp [findV, pt10])
    have HD : Hid (isDv 3 = true) := Lib.hid rfl
    go_enter Tryz.func24, Tryz.ntmps24
    go_wp2_with fail
    with_reducible refine HPl.out.mono ?_
    rintro e w1 ⟨rfl, rfl⟩
    go_wp2_with fail
    with_reducible refine HF.out.mono ?_
    rintro e w1 ⟨rfl, hB⟩
    rw [HV.out, HD.out]
    have h1 := h.below hB
    have HR1 := Lib.hid (pread3 k now h1 hG hk)
    go_wp2_with fail
    with_reducible refine HR1.out.mono ?_
    rintro e w2 ⟨rfl, V2, h2, hc2⟩
    go_wp2
    go_ret2
    exact ⟨rfl, V2, h2, (CP.of_below hB).trans hc2⟩
  · have HR := Lib.hid (pread4 k now h hk)
    have HF := Lib.hid (bfind_any 4 h)
    have hne : ((4 : Int) == 0) = false := rfl
    have HV : Hid (findV G 4 = Value.iface 111 (.pointer (some ⟨G.d, 0, none⟩))) := Lib.hid (by simp [findV, pt10])
    have HD : Hid (isDv 4 = true) := Lib.hid rfl
    go_enter Tryz.func24, Tryz.ntmps24
    go_wp2_with fail
    with_reducible refine HPl.out.mono ?_
    rintro e w1 ⟨rfl, rfl⟩
    go_wp2_with fail
    with_reducible refine HF.out.mono ?_
    rintro e w1 ⟨rfl, hB⟩
    rw [HV.out, HD.out]
    have h1 := h.below hB
    have HR1 := Lib.hid (pread4 k now h1 hk)
    go_wp2_with fail
    with_reducible refine HR1.out.mono ?_
    rintro e w2 ⟨rfl, V2, h2, hc2⟩
    go_wp2
    go_ret2
    exact ⟨rfl, V2, h2, (CP.of_below hB).trans hc2⟩
  · have HR := Lib.hid (pread5 k now h hk)
    have HF := Lib.hid (bfind_any 5 h)
    have hne : ((5 : Int) == 0) = false := rfl
    have HV : Hid (findV G 5 = Value.iface 67 (.pointer (some ⟨G.k, 0, none⟩))) := Lib.hid (by simp [findV, pt10])
    have HD : Hid (isDv 5 = true) := Lib.hid rfl
    go_enter Tryz.func24, Tryz.ntmps24
    go_wp2_with fail
    with_reducible refine HPl.out.mono ?_
    rintro e w1 ⟨rfl, rfl⟩
    go_wp2_with fail
    with_reducible refine HF.out.mono ?_
    rintro e w1 ⟨rfl, hB⟩
    rw [HV.out, HD.out]
    have h1 := h.below hB
    have HR1 := Lib.hid (pread5 k now h1 hk)
    go_wp2_with fail
    with_reducible refine HR1.out.mono ?_
    rintro e w2 ⟨rfl, V2, h2, hc2⟩
    go_wp2
    go_ret2
    exact ⟨rfl, V2, h2, (CP.of_below hB).trans hc2⟩
  · have HF := Lib.hid (bfind_any (d : Int) h)
    have hne : ((d : Int) == 0) = false := beq_false_of_ne (by omega)
    have HV : Hid (findV G (d : Int) = .nilIface) := by
      show _ = _
      unfold findV
      rw [if_neg (by omega), if_neg (by omega), if_neg (by omega), if_neg (by omega), if_neg (by omega)]
    have HD : Hid (isDv (d : Int) = false) := Lib.hid (decide_eq_false (by omega))
    have HX : Hid (wordX d k now S = 0) := by obtain ⟨j, rfl⟩ : ∃ j, d = j + 6 := ⟨d - 6, by omega⟩; exact Lib.hid rfl
    have HY : Hid (readX d k S = S) := by obtain ⟨j, rfl⟩ : ∃ j, d = j + 6 := ⟨d - 6, by omega⟩; exact Lib.hid rfl
    have HZ : Hid (decide (k < wordsN d) = false) := by obtain ⟨j, rfl⟩ : ∃ j, d = j + 6 := ⟨d - 6, by omega⟩; exact Lib.hid (decide_eq_false (by show ¬ k < 0; omega))
    clear n0 n1
    go_enter Tryz.func24, Tryz.ntmps24
    go_wp2_with fail
    with_reducible refine HPl.out.mono ?_
    rintro e w1 ⟨rfl, rfl⟩
    go_wp2_with fail
    with_reducible refine HF.out.mono ?_
    rintro e w1 ⟨rfl, hB⟩
    rw [HV.out, HD.out]
    go_wp2
    go_ret2
    exact ⟨by rw [HX.out, HZ.out]; rfl, V, by rw [HY.out]; exact h.below hB, CP.of_below hB⟩
set_option maxRecDepth 100000 in
set_option maxHeartbeats 2000000 in
theorem bwrite_dk (d k : Nat) (a x now : Int) (h : Px w G V S) (hG : Gk N S) (hN : N ≤ 60000) (h0 : 0 ≤ a) (h1 : a < 4294967296) (hd : plD a = (d : Int)) (hkk : plK a = (k : Int) * 4) (hk : k ≤ 15) (hx : Wd x) (n0 : 0 ≤ now) (n1 : now ≤ 4611686018427387000) :
    Calls Tryz.prog 31 #[.pointer (some ⟨G.b, 0, none⟩), .int .u32 a, .int .u32 x, .int .i64 now] w (RetPx (.bool (decide (k < wordsN d))) w G V (setB d k x now S)) := by
  have HPl := Lib.hid (place_any a w h0 h1)
  rw [hd, hkk] at HPl
  clear hd hkk
  have hdd : d = 0 ∨ d = 1 ∨ d = 2 ∨ d = 3 ∨ d = 4 ∨ d = 5 ∨ 6 ≤ d := by omega
  rcases hdd with rfl | rfl | rfl | rfl | rfl | rfl | h6
  · have HR := Lib.hid (lnwrite_any ((k : Int) * 4) x h.ln)
    have c2 : w.cell? ⟨G.b, 2, none⟩ = some (.pointer (some ⟨G.l, 0, none⟩)) := h.bb.cell (i := 2) (by omega)
    have HW : Hid (decide (isWord ((k : Int) * 4)) = decide (k < wordsN 0)) := Lib.hid (by rw [decide_eq_decide]; show isWord _ ↔ k < 4; unfold isWord; omega)
    have HE : Hid (setB 0 k x now S = { S with up := S.up, ask := enF ((k : Int) * 4) x S.ask }) := by
      show (if k = 1 then { S with ask := bits .and .u32 x 62 } else S) = _
      unfold enF
      by_cases hk1 : k = 1
      · rw [if_pos hk1, if_pos (by omega)]
      · rw [if_neg hk1, if_neg (by omega)]
    clear n0 n1
    go_enter Tryz.func31, Tryz.ntmps31
    go_wp2_with fail
    with_reducible refine HPl.out.mono ?_
    rintro e w1 ⟨rfl, rfl⟩
    go_wp2_with fail
    with_reducible refine HR.out.mono ?_
    rintro e w1 ⟨rfl, hl, hf⟩
    have h2 := h.outL hl hf
    go_wp2
    go_ret
    exact ⟨by rw [← HW.out]; rfl, V, by rw [HE.out]; exact h2.1, h2.2⟩
  · have HF := Lib.hid (bfind_any 1 h)
    have hne : ((1 : Int) == 0) = false := rfl
    have HV : Hid (findV G 1 = Value.iface 109 (.pointer (some ⟨G.t0, 0, none⟩))) := Lib.hid (by simp [findV, pt10])
    have HD : Hid (isDv 1 = true) := Lib.hid rfl
    go_enter Tryz.func31, Tryz.ntmps31
    go_wp2_with fail
    with_reducible refine HPl.out.mono ?_
    rintro e w1 ⟨rfl, rfl⟩
    go_wp2_with fail
    with_reducible refine HF.out.mono ?_
    rintro e w1 ⟨rfl, hB⟩
    rw [HV.out, HD.out]
    have h1 := h.below hB
    have HR1 := Lib.hid (pwrite1 hG hN k x now h1 hk hx n0 n1)
    go_wp2_with fail
    with_reducible refine HR1.out.mono ?_
    rintro e w2 ⟨rfl, V2, h2, hc2⟩
    go_wp2
    go_ret
    exact ⟨rfl, V2, h2, (CP.of_below hB).trans hc2⟩
  · have HF := Lib.hid (bfind_any 2 h)
    have hne : ((2 : Int) == 0) = false := rfl
    have HV : Hid (findV G 2 = Value.iface 109 (.pointer (some ⟨G.t1, 0, none⟩))) := Lib.hid (by simp [findV, pt10])
    have HD : Hid (isDv 2 = true) := Lib.hid rfl
    go_enter Tryz.func31, Tryz.ntmps31
    go_wp2_with fail
    with_reducible refine HPl.out.mono ?_
    rintro e w1 ⟨rfl, rfl⟩
    go_wp2_with fail
    with_reducible refine HF.out.mono ?_
    rintro e w1 ⟨rfl, hB⟩
    rw [HV.out, HD.out]
    have h1 := h.below hB
    have HR1 := Lib.hid (pwrite2 hG hN k x now h1 hk hx n0 n1)
    go_wp2_with fail
    with_reducible refine HR1.out.mono ?_
    rintro e w2 ⟨rfl, V2, h2, hc2⟩
    go_wp2
    go_ret
    exact ⟨rfl, V2, h2, (CP.of_below hB).trans hc2⟩
  · have HF := Lib.hid (bfind_any 3 h)
    have hne : ((3 : Int) == 0) = false := rfl
    have HV : Hid (findV G 3 = Value.iface 66 (.pointer (some ⟨G.u, 0, none⟩))) := Lib.hid (by simp [findV, pt10])
    have HD : Hid (isDv 3 = true) := Lib.hid rfl
    go_enter Tryz.func31, Tryz.ntmps31
    go_wp2_with fail
    with_reducible refine HPl.out.mono ?_
    rintro e w1 ⟨rfl, rfl⟩
    go_wp2_with fail
    with_reducible refine HF.out.mono ?_
    rintro e w1 ⟨rfl, hB⟩
    rw [HV.out, HD.out]
    have h1 := h.below hB
    have HR1 := Lib.hid (pwrite3 hG hN k x now h1 hk hx n0 n1)
    go_wp2_with fail
    with_reducible refine HR1.out.mono ?_
    rintro e w2 ⟨rfl, V2, h2, hc2⟩
    go_wp2
    go_ret
    exact ⟨rfl, V2, h2, (CP.of_below hB).trans hc2⟩
  · have HF := Lib.hid (bfind_any 4 h)
    have hne : ((4 : Int) == 0) = false := rfl
    have HV : Hid (findV G 4 = Value.iface 111 (.pointer (some ⟨G.d, 0, none⟩))) := Lib.hid (by simp [findV, pt10])
    have HD : Hid (isDv 4 = true) := Lib.hid rfl
    go_enter Tryz.func31, Tryz.ntmps31
    go_wp2_with fail
    with_reducible refine HPl.out.mono ?_
    rintro e w1 ⟨rfl, rfl⟩
    go_wp2_with fail
    with_reducible refine HF.out.mono ?_
    rintro e w1 ⟨rfl, hB⟩
    rw [HV.out, HD.out]
    have h1 := h.below hB
    have HR1 := Lib.hid (pwrite4 hG hN k x now h1 hk hx n0 n1)
    go_wp2_with fail
    with_reducible refine HR1.out.mono ?_
    rintro e w2 ⟨rfl, V2, h2, hc2⟩
    go_wp2
    go_ret
    exact ⟨rfl, V2, h2, (CP.of_below hB).trans hc2⟩
  · have HF := Lib.hid (bfind_any 5 h)
    have hne : ((5 : Int) == 0) = false := rfl
    have HV : Hid (findV G 5 = Value.iface 67 (.pointer (some ⟨G.k, 0, none⟩))) := Lib.hid (by simp [findV, pt10])
    have HD : Hid (isDv 5 = true) := Lib.hid rfl
    go_enter Tryz.func31, Tryz.ntmps31
    go_wp2_with fail
    with_reducible refine HPl.out.mono ?_
    rintro e w1 ⟨rfl, rfl⟩
    go_wp2_with fail
    with_reducible refine HF.out.mono ?_
    rintro e w1 ⟨rfl, hB⟩
    rw [HV.out, HD.out]
    have h1 := h.below hB
    have HR1 := Lib.hid (pwrite5 hG hN k x now h1 hk hx n0 n1)
    go_wp2_with fail
    with_reducible refine HR1.out.mono ?_
    rintro e w2 ⟨rfl, V2, h2, hc2⟩
    go_wp2
    go_ret
    exact ⟨rfl, V2, h2, (CP.of_below hB).trans hc2⟩
  · have HF := Lib.hid (bfind_any (d : Int) h)
    have hne : ((d : Int) == 0) = false := beq_false_of_ne (by omega)
    have HV : Hid (findV G (d : Int) = .nilIface) := by
      show _ = _
      unfold findV
      rw [if_neg (by omega), if_neg (by omega), if_neg (by omega), if_neg (by omega), if_neg (by omega)]
    have HD : Hid (isDv (d : Int) = false) := Lib.hid (decide_eq_false (by omega))
    have HY : Hid (setB d k x now S = S) := by obtain ⟨j, rfl⟩ : ∃ j, d = j + 6 := ⟨d - 6, by omega⟩; exact Lib.hid rfl
    have HZ : Hid (decide (k < wordsN d) = false) := by obtain ⟨j, rfl⟩ : ∃ j, d = j + 6 := ⟨d - 6, by omega⟩; exact Lib.hid (decide_eq_false (by show ¬ k < 0; omega))
    clear n0 n1
    go_enter Tryz.func31, Tryz.ntmps31
    go_wp2_with fail
    with_reducible refine HPl.out.mono ?_
    rintro e w1 ⟨rfl, rfl⟩
    go_wp2_with fail
    with_reducible refine HF.out.mono ?_
    rintro e w1 ⟨rfl, hB⟩
    rw [HV.out, HD.out]
    go_wp2
    go_ret
    exact ⟨by rw [HZ.out]; rfl, V, by rw [HY.out]; exact h.below hB, CP.of_below hB⟩
end
end Go.Proofs.YtkfedihaldpgmaaGreat

/-
  Chapter 15: the program's bus: isMemory, isWord, place, find, gather.
-/
import Derived.Test.YtkfedihaldpgmaaWx15
/-
  Chapter 15: the program's bus: each device's methods, in the one state.
-/
namespace Go.Proofs.Ytkfedihaldpgmaa
open Go.RowKit
set_option linter.unusedVariables false
set_option linter.unusedSimpArgs false
section
variable {w w' : World} {G : PG} {V : PV} {S : BS} {N : Int}
theorem RetPx.of {v : Value} {V2 : PV} {S2 : BS} (h : Px w' G V2 S2 ∧ CP G V V2 w w') : RetPx v w G V S2 (.returned v) w' := ⟨rfl, V2, h.1, h.2⟩
theorem pline1 (h : Px w G V S) : Calls Try.prog 86 #[.pointer (some ⟨G.t0, 0, none⟩)] w fun e w' => e = .returned (.bool (lineB 1 S)) ∧ w = w' := tline_any h.ti0
theorem pline2 (h : Px w G V S) : Calls Try.prog 86 #[.pointer (some ⟨G.t1, 0, none⟩)] w fun e w' => e = .returned (.bool (lineB 2 S)) ∧ w = w' := tline_any h.ti1
theorem pline3 (h : Px w G V S) (hG : Gk N S) : Calls Try.prog 59 #[.pointer (some ⟨G.u, 0, none⟩)] w fun e w' => e = .returned (.bool (lineB 3 S)) ∧ w = w' := uline_S h.ua hG.wo.uc
theorem pline4 (h : Px w G V S) : Calls Try.prog 92 #[.pointer (some ⟨G.d, 0, none⟩)] w fun e w' => e = .returned (.bool (lineB 4 S)) ∧ w = w' := mline_any h.mv
theorem pline5 (h : Px w G V S) : Calls Try.prog 78 #[.pointer (some ⟨G.k, 0, none⟩)] w fun e w' => e = .returned (.bool (lineB 5 S)) ∧ w = w' := zline_any h.di
theorem pread1 (k : Nat) (now : Int) (h : Px w G V S) (hk : k ≤ 15) : Calls Try.prog 87 #[.pointer (some ⟨G.t0, 0, none⟩), .int .u32 ((k : Int) * 4)] w (RetPx (.tuple #[.int .u32 (wordX 1 k now S), .bool (decide (k < wordsN 1))]) w G V (readX 1 k S)) :=
  (tread_any k _ h.ti0 hk rfl).mono fun e w' ⟨he, hw⟩ => ⟨he, V, hw ▸ h, hw ▸ CP.refl _ _ _⟩
theorem pread2 (k : Nat) (now : Int) (h : Px w G V S) (hk : k ≤ 15) : Calls Try.prog 87 #[.pointer (some ⟨G.t1, 0, none⟩), .int .u32 ((k : Int) * 4)] w (RetPx (.tuple #[.int .u32 (wordX 2 k now S), .bool (decide (k < wordsN 2))]) w G V (readX 2 k S)) :=
  (tread_any k _ h.ti1 hk rfl).mono fun e w' ⟨he, hw⟩ => ⟨he, V, hw ▸ h, hw ▸ CP.refl _ _ _⟩
theorem pread3 (k : Nat) (now : Int) (h : Px w G V S) (hG : Gk N S) (hk : k ≤ 15) : Calls Try.prog 60 #[.pointer (some ⟨G.u, 0, none⟩), .int .u32 ((k : Int) * 4)] w (RetPx (.tuple #[.int .u32 (wordX 3 k now S), .bool (decide (k < wordsN 3))]) w G V (readX 3 k S)) :=
  (uread_any k _ h.ua hk rfl hG.bt.c).mono fun e w' ⟨he, v2, o2, hu⟩ => ⟨he, _, h.outU hu (outU_r k S)⟩
theorem pread4 (k : Nat) (now : Int) (h : Px w G V S) (hk : k ≤ 15) : Calls Try.prog 93 #[.pointer (some ⟨G.d, 0, none⟩), .int .u32 ((k : Int) * 4)] w (RetPx (.tuple #[.int .u32 (wordX 4 k now S), .bool (decide (k < wordsN 4))]) w G V (readX 4 k S)) :=
  (mread_any k _ h.mv hk rfl).mono fun e w' ⟨he, hw⟩ => ⟨he, V, hw ▸ h, hw ▸ CP.refl _ _ _⟩
theorem pread5 (k : Nat) (now : Int) (h : Px w G V S) (hk : k ≤ 15) : Calls Try.prog 79 #[.pointer (some ⟨G.k, 0, none⟩), .int .u32 ((k : Int) * 4)] w (RetPx (.tuple #[.int .u32 (wordX 5 k now S), .bool (decide (k < wordsN 5))]) w G V (readX 5 k S)) :=
  (zread_any k _ h.di hk rfl).mono fun e w' ⟨he, hw⟩ => ⟨he, V, hw ▸ h, hw ▸ CP.refl _ _ _⟩
theorem Gk.a6 (h : Gk N S) (hN : N ≤ 60000) : 0 ≤ S.a ∧ S.a ≤ 1000000 := ⟨h.a0, by have := h.a1; omega⟩
theorem Gk.l6 (h : Gk N S) (hN : N ≤ 60000) : S.L.length ≤ 990000 := by have := h.a1; have := h.l1; omega
variable (hG : Gk N S) (hN : N ≤ 60000)
include hG hN
theorem pwrite1 (k : Nat) (x now : Int) (h : Px w G V S) (hk : k ≤ 15) (hx : Wd x) (n0 : 0 ≤ now) (n1 : now ≤ 4611686018427387000) :
    Calls Try.prog 88 #[.pointer (some ⟨G.t0, 0, none⟩), .int .u32 ((k : Int) * 4), .int .u32 x, .int .i64 now] w (RetPx (.bool (decide (k < wordsN 1))) w G V (setB 1 k x now S)) :=
  (twrite_any k _ x now h.ti0 hk rfl hx.1 hx.2 (hG.l6 hN) (hG.a6 hN) (by omega) (by omega) n0 (by omega) hG.wo.p0.1 hG.wo.p0.2).mono fun e w' ⟨he, v2, hd, hc⟩ => ⟨he, _, by have := h.outT0 hd hc; rw [put_w0] at this; exact this⟩
theorem pwrite2 (k : Nat) (x now : Int) (h : Px w G V S) (hk : k ≤ 15) (hx : Wd x) (n0 : 0 ≤ now) (n1 : now ≤ 4611686018427387000) :
    Calls Try.prog 88 #[.pointer (some ⟨G.t1, 0, none⟩), .int .u32 ((k : Int) * 4), .int .u32 x, .int .i64 now] w (RetPx (.bool (decide (k < wordsN 2))) w G V (setB 2 k x now S)) :=
  (twrite_any k _ x now h.ti1 hk rfl hx.1 hx.2 (hG.l6 hN) (hG.a6 hN) (by omega) (by omega) n0 (by omega) hG.wo.p1.1 hG.wo.p1.2).mono fun e w' ⟨he, v2, hd, hc⟩ => ⟨he, _, by have := h.outT1 hd hc; rw [put_w1] at this; exact this⟩
theorem pwrite3 (k : Nat) (x now : Int) (h : Px w G V S) (hk : k ≤ 15) (hx : Wd x) (n0 : 0 ≤ now) (n1 : now ≤ 4611686018427387000) :
    Calls Try.prog 61 #[.pointer (some ⟨G.u, 0, none⟩), .int .u32 ((k : Int) * 4), .int .u32 x, .int .i64 now] w (RetPx (.bool (decide (k < wordsN 3))) w G V (setB 3 k x now S)) :=
  (uwrite_any k _ x now h.ua hk rfl hx.1 hx.2 (hG.l6 hN) (hG.a6 hN) n0 n1).mono fun e w' ⟨he, v2, o2, hd⟩ => ⟨he, _, h.outU hd (outU_w k x now S)⟩
theorem pwrite4 (k : Nat) (x now : Int) (h : Px w G V S) (hk : k ≤ 15) (hx : Wd x) (n0 : 0 ≤ now) (n1 : now ≤ 4611686018427387000) :
    Calls Try.prog 94 #[.pointer (some ⟨G.d, 0, none⟩), .int .u32 ((k : Int) * 4), .int .u32 x, .int .i64 now] w (RetPx (.bool (decide (k < wordsN 4))) w G V (setB 4 k x now S)) :=
  (mwrite_any k _ x now h.mv hk rfl hx.1 hx.2 (hG.l6 hN) (hG.a6 hN) hG.wo.n.1 hG.wo.n.2 n0 (by omega)).mono fun e w' ⟨he, v2, hd, hc⟩ => ⟨he, _, h.outM hd hc (outM_w k x now S)⟩
theorem pwrite5 (k : Nat) (x now : Int) (h : Px w G V S) (hk : k ≤ 15) (hx : Wd x) (n0 : 0 ≤ now) (n1 : now ≤ 4611686018427387000) :
    Calls Try.prog 80 #[.pointer (some ⟨G.k, 0, none⟩), .int .u32 ((k : Int) * 4), .int .u32 x, .int .i64 now] w (RetPx (.bool (decide (k < wordsN 5))) w G V (setB 5 k x now S)) :=
  (zwrite_any k _ x now h.di hk rfl hx.1 hx.2 (hG.l6 hN) (hG.a6 hN) n0 n1).mono fun e w' ⟨he, v2, hd, hc⟩ => ⟨he, _, h.outK hd hc (outK_w k x now S)⟩
theorem pfire1 (t : Int) (h : Px w G V S) (n0 : 0 ≤ t) (n1 : t ≤ 4611686018427387000) :
    Calls Try.prog 85 #[.pointer (some ⟨G.t0, 0, none⟩), .int .i64 t] w (RetPx (.tuple #[]) w G V (fireX G.p G.n 1 t S)) :=
  (tfire_any t h.ti0 (hG.l6 hN) (hG.a6 hN) (by omega) (by omega) n0 (by omega) hG.wo.p0.1 hG.wo.p0.2).mono fun e w' ⟨he, v2, hd, hc⟩ => ⟨he, _, by have := h.outT0 hd hc; rw [put_f0] at this; exact this⟩
theorem pfire2 (t : Int) (h : Px w G V S) (n0 : 0 ≤ t) (n1 : t ≤ 4611686018427387000) :
    Calls Try.prog 85 #[.pointer (some ⟨G.t1, 0, none⟩), .int .i64 t] w (RetPx (.tuple #[]) w G V (fireX G.p G.n 2 t S)) :=
  (tfire_any t h.ti1 (hG.l6 hN) (hG.a6 hN) (by omega) (by omega) n0 (by omega) hG.wo.p1.1 hG.wo.p1.2).mono fun e w' ⟨he, v2, hd, hc⟩ => ⟨he, _, by have := h.outT1 hd hc; rw [put_f1] at this; exact this⟩
theorem pfire3 (t : Int) (h : Px w G V S) (n0 : 0 ≤ t) (n1 : t ≤ 4611686018427387000) :
    Calls Try.prog 58 #[.pointer (some ⟨G.u, 0, none⟩), .int .i64 t] w (RetPx (.tuple #[]) w G V (fireX G.p G.n 3 t S)) :=
  (ufire_any t h.ua (by have := hG.o1; omega) (hG.l6 hN) (hG.a6 hN) n0 n1).mono fun e w' ⟨he, v2, o2, hd⟩ => ⟨he, _, h.outU hd (outU_f t S)⟩
theorem pfire4 (t : Int) (h : Px w G V S) (n0 : 0 ≤ t) (n1 : t ≤ 4611686018427387000) :
    Calls Try.prog 91 #[.pointer (some ⟨G.d, 0, none⟩), .int .i64 t] w (RetPx (.tuple #[]) w G V (fireX G.p G.n 4 t S)) := by
  have := hN
  exact (mfire_any t h.mv hG.wo.f.1 hG.wo.f.2 hG.wo.t.1 hG.wo.t.2 hG.wo.n.1 hG.wo.n.2).mono fun e w' ⟨he, v2, hd, hc⟩ => ⟨he, _, h.outM hd hc (outM_f G.p S)⟩
theorem pfire5 (t : Int) (h : Px w G V S) (hn : G.n ≤ 64) (n0 : 0 ≤ t) (n1 : t ≤ 4611686018427387000) :
    Calls Try.prog 77 #[.pointer (some ⟨G.k, 0, none⟩), .int .i64 t] w (RetPx (.tuple #[]) w G V (fireX G.p G.n 5 t S)) := by
  have := hN
  exact (zfire_any t h.di hn hG.wo.z.1 hG.wo.z.2 hG.wo.kt.1 hG.wo.kt.2).mono fun e w' ⟨he, v2, hd, hc⟩ => ⟨he, _, h.outK hd hc (outK_f G.p G.n S)⟩
end
end Go.Proofs.Ytkfedihaldpgmaa

namespace Go.Proofs.Ytkfedihaldpgmaa
open Go.RowKit
set_option linter.unusedVariables false
set_option linter.unusedSimpArgs false
/-- the window of an address, and where in it that is -/
def plD (at_ : Int) : Int := (at_ - 520093696) % 4294967296 / 64
def plK (at_ : Int) : Int := (at_ - 520093696) % 4294967296 % 64
section
variable {w w' : World} {G : PG} {V : PV} {S : BS} {N : Int}
theorem ismem_any (a : Int) (h : Px w G V S) (h0 : 0 ≤ a) (h1 : a < 4294967296) :
    Calls Try.prog 14 #[.pointer (some ⟨G.b, 0, none⟩), .int .u32 a] w fun e w' => e = .returned (.bool (decide (a < 1024 * G.p))) ∧ w = w' := by
  obtain ⟨M, hM, _⟩ := h.mm.mem
  obtain ⟨b, m, t, _, hmem⟩ := hM
  have HS := Lib.hid (size_any hmem)
  have p2 := hmem.p2
  have c0 : w.cell? ⟨G.b, 0, none⟩ = some (.pointer (some ⟨G.r, 0, none⟩)) := h.bb.cell (i := 0) (by omega)
  clear hmem
  go_enter Try.func14, Try.ntmps14
  go_wp2_with fail
  with_reducible refine HS.out.mono ?_
  rintro e w1 ⟨rfl, rfl⟩
  go_wp2
  go_ret
  first | exact ⟨rfl, rfl⟩ | exact ⟨ret_bool (by rw [decide_eq_decide]; omega), rfl⟩ | exact ⟨ret_bool (by simp), rfl⟩
/-- n bytes at a could be a device's word -/
def wdB (n a : Int) : Bool := decide (n = 4 ∧ a % 4 = 0)
theorem isword_any (a n : Int) (w : World) (h0 : 0 ≤ a) (h1 : a < 4294967296) :
    Calls Try.prog 16 #[.int .u32 a, .int .i64 n] w fun e w' => e = .returned (.bool (wdB n a)) ∧ w = w' := by
  by_cases hn : n = 4
  · subst hn
    have HB : Hid (wdB 4 a = (a % 4 == 0)) := by
      show decide ((4 : Int) = 4 ∧ a % 4 = 0) = _
      by_cases h : a % 4 = 0
      · rw [decide_eq_true ⟨rfl, h⟩, beq_iff_eq.2 h]
      · rw [decide_eq_false (fun e => h e.2), beq_false_of_ne h]
    go_enter Try.func16, Try.ntmps16
    go_wp2
    go_ret
    exact ⟨by rw [HB.out]; rfl, rfl⟩
  · have hb : (n == 4) = false := beq_false_of_ne hn
    have HB : Hid (wdB n a = false) := Lib.hid (decide_eq_false (fun e => hn e.1))
    go_enter Try.func16, Try.ntmps16
    go_wp2
    go_ret
    exact ⟨by rw [HB.out]; rfl, rfl⟩
theorem place_any (a : Int) (w : World) (h0 : 0 ≤ a) (h1 : a < 4294967296) :
    Calls Try.prog 33 #[.int .u32 a] w fun e w' => e = .returned (.tuple #[.int .i64 (plD a), .int .u32 (plK a)]) ∧ w = w' := by
  have HD : Hid (IntKind.u32.wrap (a - 520093696) = (a - 520093696) % 4294967296) := Lib.hid (by rw [IntKind.wrap_u32])
  go_enter Try.func33, Try.ntmps33
  go_wp2
  go_ret2
  refine ⟨?_, rfl⟩
  congr 2
/-- what find tells: the device of that number -/
def findV (G : PG) (z : Int) : Value := if z = 1 then pt10 G 1 else if z = 2 then pt10 G 3 else if z = 3 then pt10 G 5 else if z = 4 then pt10 G 7 else if z = 5 then pt10 G 9 else .nilIface
def isDv (z : Int) : Bool := decide (1 ≤ z ∧ z ≤ 5)
set_option maxRecDepth 100000 in
set_option maxHeartbeats 1000000 in
theorem bfind_any (z : Int) (h : Px w G V S) :
    Calls Try.prog 35 #[.pointer (some ⟨G.b, 0, none⟩), .int .i64 z] w (RetB (.tuple #[findV G z, .bool (isDv z)]) w) := by
  have c5 : w.cell? ⟨G.b, 5, none⟩ = some (.slice (some ⟨G.P, 0, none⟩) 5 5) := h.bb.cell (i := 5) (by omega)
  go_enter Try.func35, Try.ntmps35
  go_wp2
  go_loopw [13] (fun i wr => ∃ k : Nat, k ≤ 5 ∧ i = .int .i64 k ∧ Below w.heap.size w wr ∧ Hid (∀ j : Nat, j < k → z ≠ (j : Int) + 1)) (fun i _ => 5 - (intOf i).toNat)
  case atStart => exact ⟨0, by omega, rfl, Below.refl _ _, fun j hj => by omega⟩
  case round =>
    obtain ⟨k, hk, rfl, hB, HN⟩ := hrel
    have hw := h.below hB
    by_cases hlt : k < 5
    · have q0 : wr.cell? ⟨G.P, 2 * k, none⟩ = some (pt10 G (2 * k)) := hw.pp.cell (i := 2 * k) (by omega)
      have q1 : wr.cell? ⟨G.P, 2 * k + 1, none⟩ = some (pt10 G (2 * k + 1)) := hw.pp.cell (i := 2 * k + 1) (by omega)
      by_cases hz : z = (k : Int) + 1
      · subst hz
        have : k = 0 ∨ k = 1 ∨ k = 2 ∨ k = 3 ∨ k = 4 := by omega
        rcases this with rfl | rfl | rfl | rfl | rfl
        all_goals
          simp only [pt10, Nat.mul_zero, Nat.zero_add, Nat.reduceMul, Nat.reduceAdd] at q0 q1
          go_wp2
          go_ret2
          first | exact ⟨rfl, hB.alloc hB.size _⟩ | exact ⟨by simp [findV, isDv, pt10], hB.alloc hB.size _⟩
      · have HZ := Lib.hid hz
        have : k = 0 ∨ k = 1 ∨ k = 2 ∨ k = 3 ∨ k = 4 := by omega
        rcases this with rfl | rfl | rfl | rfl | rfl
        all_goals
          simp only [pt10, Nat.mul_zero, Nat.zero_add, Nat.reduceMul, Nat.reduceAdd] at q0 q1
        · have hb : ((1 : Int) == z) = false := beq_false_of_ne (by have := HZ.out; omega)
          clear hz
          go_wp2
          go_roundw
          case rel =>
            refine ⟨1, by omega, by go_num, hB.alloc hB.size _, fun j hj => ?_⟩
            by_cases e : j = 0
            · rw [e]; exact HZ.out
            · exact HN.out j (by omega)
          case measure => simp [intOf]
        · have hb : ((2 : Int) == z) = false := beq_false_of_ne (by have := HZ.out; omega)
          clear hz
          go_wp2
          go_roundw
          case rel =>
            refine ⟨2, by omega, by go_num, hB.alloc hB.size _, fun j hj => ?_⟩
            by_cases e : j = 1
            · rw [e]; exact HZ.out
            · exact HN.out j (by omega)
          case measure => simp [intOf]
        · have hb : ((3 : Int) == z) = false := beq_false_of_ne (by have := HZ.out; omega)
          clear hz
          go_wp2
          go_roundw
          case rel =>
            refine ⟨3, by omega, by go_num, hB.alloc hB.size _, fun j hj => ?_⟩
            by_cases e : j = 2
            · rw [e]; exact HZ.out
            · exact HN.out j (by omega)
          case measure => simp [intOf]
        · have hb : ((4 : Int) == z) = false := beq_false_of_ne (by have := HZ.out; omega)
          clear hz
          go_wp2
          go_roundw
          case rel =>
            refine ⟨4, by omega, by go_num, hB.alloc hB.size _, fun j hj => ?_⟩
            by_cases e : j = 3
            · rw [e]; exact HZ.out
            · exact HN.out j (by omega)
          case measure => simp [intOf]
        · have hb : ((5 : Int) == z) = false := beq_false_of_ne (by have := HZ.out; omega)
          clear hz
          go_wp2
          go_roundw
          case rel =>
            refine ⟨5, by omega, by go_num, hB.alloc hB.size _, fun j hj => ?_⟩
            by_cases e : j = 4
            · rw [e]; exact HZ.out
            · exact HN.out j (by omega)
          case measure => simp [intOf]
    · obtain rfl : k = 5 := by omega
      have HV : Hid (findV G z = .nilIface) := by
        show _ = _
        have e0 := HN.out 0 (by omega)
        have e1 := HN.out 1 (by omega)
        have e2 := HN.out 2 (by omega)
        have e3 := HN.out 3 (by omega)
        have e4 := HN.out 4 (by omega)
        unfold findV
        rw [if_neg (by omega), if_neg (by omega), if_neg (by omega), if_neg (by omega), if_neg (by omega)]
      have HD : Hid (isDv z = false) := by
        show _ = _
        have e0 := HN.out 0 (by omega)
        have e1 := HN.out 1 (by omega)
        have e2 := HN.out 2 (by omega)
        have e3 := HN.out 3 (by omega)
        have e4 := HN.out 4 (by omega)
        unfold isDv
        exact decide_eq_false (by omega)
      go_wp2
      go_ret2
      exact ⟨by rw [HV.out, HD.out]; rfl, hB⟩
end
end Go.Proofs.Ytkfedihaldpgmaa

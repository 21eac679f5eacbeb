/-
  Chapter 10: lines of package lines beside two words of the law's own, by any calls (LinesPlays).
-/
import Derived.Test.YtgkomijcfkjmnaaMa10
import Derived.Deep.DeepCutAuto
import Derived.Deep.CutBlock
import Derived.Deep.RegionHeld3
import Derived.Deep.RegionWith
namespace Go.Proofs.Ytgkomijcfkjmnaa
open Go.RowKit
set_option linter.unusedVariables false
set_option linter.unusedSimpArgs false

/-- the cells of a slice of calls, as the walk asks for them -/
def Asks (w : World) (B : Nat) (a : Option Addr) (len : Nat) : Prop :=
  ∀ i, i < len → ∃ (b o : Nat) (kd d : Int) (up : Bool) (p v t : Int), a = some ⟨b, o, none⟩ ∧ b < B ∧
    w.cell? ⟨b, o + i * 6, none⟩ = some (.int .i64 kd) ∧ w.cell? ⟨b, o + i * 6 + 1, none⟩ = some (.int .i64 d) ∧ w.cell? ⟨b, o + i * 6 + 2, none⟩ = some (.bool up) ∧
    w.cell? ⟨b, o + i * 6 + 3, none⟩ = some (.int .u32 p) ∧ w.cell? ⟨b, o + i * 6 + 4, none⟩ = some (.int .u32 v) ∧ w.cell? ⟨b, o + i * 6 + 5, none⟩ = some (.int .i64 t) ∧
    -9223372036854775808 ≤ d ∧ d ≤ 9223372036854775807 ∧ 0 ≤ p ∧ p < 4294967296 ∧ 0 ≤ v ∧ v < 4294967296 ∧ -9223372036854775808 ≤ t ∧ t ≤ 9223372036854775807
def ask6 (kd d : Int) (up : Bool) (p v t : Int) : Nat → Value
  | 0 => .int .i64 kd
  | 1 => .int .i64 d
  | 2 => .bool up
  | 3 => .int .u32 p
  | 4 => .int .u32 v
  | _ => .int .i64 t
/-- a call lies in block X, which is not block g -/
structure Ab (w : World) (X g : Nat) (kd d : Int) (up : Bool) (p v t : Int) : Prop where
  row : w.rowIs X 26 6 (ask6 kd d up p v t)
  ne : X ≠ g
section
variable {W0 w w' : World} {X g : Nat} {kd d : Int} {up : Bool} {p v t a e a2 e2 : Int}
theorem Ab.new (hg : g < w.heap.size) : Ab (w.alloc (.cells #[.int .i64 kd, .int .i64 d, .bool up, .int .u32 p, .int .u32 v, .int .i64 t] 26)) w.heap.size g kd d up p v t :=
  ⟨World.rowIs_alloc w _ _ _ fun i hi => by
    have : i = 0 ∨ i = 1 ∨ i = 2 ∨ i = 3 ∨ i = 4 ∨ i = 5 := by have : i < 6 := hi; omega
    rcases this with rfl | rfl | rfl | rfl | rfl | rfl <;> rfl, by omega⟩
theorem Ab.fr (h : Ab w X g kd d up p v t) (f : Fr (fun k => k = g) w w') : Ab w' X g kd d up p v t := ⟨h.row.of_block (f.block _ h.row.lt h.ne), h.ne⟩
theorem Ab.drewN (h : Ab w X g kd d up p v t) (n : Nat) : Ab (w.drewN n) X g kd d up p v t := ⟨h.row, h.ne⟩
theorem Ab.c0 (h : Ab w X g kd d up p v t) : w.cell? ⟨X, 0, none⟩ = some (.int .i64 kd) := h.row.cell (i := 0) (by omega)
theorem Ab.c1 (h : Ab w X g kd d up p v t) : w.cell? ⟨X, 1, none⟩ = some (.int .i64 d) := h.row.cell (i := 1) (by omega)
theorem Ab.c2 (h : Ab w X g kd d up p v t) : w.cell? ⟨X, 2, none⟩ = some (.bool up) := h.row.cell (i := 2) (by omega)
theorem Ab.c3 (h : Ab w X g kd d up p v t) : w.cell? ⟨X, 3, none⟩ = some (.int .u32 p) := h.row.cell (i := 3) (by omega)
theorem Ab.c4 (h : Ab w X g kd d up p v t) : w.cell? ⟨X, 4, none⟩ = some (.int .u32 v) := h.row.cell (i := 4) (by omega)
theorem Ab.c5 (h : Ab w X g kd d up p v t) : w.cell? ⟨X, 5, none⟩ = some (.int .i64 t) := h.row.cell (i := 5) (by omega)
/-- lines and a call beside them -/
def Both (W0 w : World) (g X : Nat) (a e kd d : Int) (up : Bool) (p v t : Int) : Prop := One W0 w g a e ∧ Ab w X g kd d up p v t
theorem Both.drewN (h : Both W0 w g X a e kd d up p v t) (n : Nat) : Both W0 (w.drewN n) g X a e kd d up p v t := ⟨h.1.drewN n, h.2.drewN n⟩
theorem set_b (h : Both W0 w g X a e kd d up p v t) (d' : Int) (up' : Bool) (hu : upF d' up' a = a2) :
    Calls Try.prog 8 #[.pointer (some ⟨g, 0, none⟩), .int .i64 d', .bool up'] w fun en w' => en = .returned (.tuple #[]) ∧ Both W0 w' g X a2 e kd d up p v t :=
  (set_any d' up' h.1.ln).mono fun en w' ⟨he, hl, hf⟩ => ⟨he, h.1.step (hu ▸ hl) hf, h.2.fr hf⟩
theorem raised_b (h : Both W0 w g X a e kd d up p v t) :
    Calls Try.prog 11 #[.pointer (some ⟨g, 0, none⟩)] w fun en w' => en = .returned (.bool (bits .and .u32 a e != 0)) ∧ Both W0 w' g X a e kd d up p v t :=
  (raised_any h.1.ln).mono fun en w' ⟨he, n, hw⟩ => ⟨he, hw ▸ h.drewN n⟩
theorem write_b (h : Both W0 w g X a e kd d up p v t) (p' v' : Int) {b : Bool} (hb : decide (isWord p') = b) (hu : enF p' v' e = e2) :
    Calls Try.prog 9 #[.pointer (some ⟨g, 0, none⟩), .int .u32 p', .int .u32 v'] w fun en w' => en = .returned (.bool b) ∧ Both W0 w' g X a e2 kd d up p v t :=
  (write_any p' v' h.1.ln).mono fun en w' ⟨he, hl, hf⟩ => ⟨hb ▸ he, h.1.step (hu ▸ hl) hf, h.2.fr hf⟩
end
theorem read_b {W0 w : World} {X g : Nat} {kd d : Int} {up : Bool} {p v t a e : Int} (h : Both W0 w g X a e kd d up p v t) (j now : Int) {x : Int} {b : Bool} (n0 : -9223372036854775808 ≤ now) (n1 : now ≤ 9223372036854775807) (hx : wordF j now a e = x) (hb : decide (isWord j) = b) :
    Calls Try.prog 10 #[.pointer (some ⟨g, 0, none⟩), .int .u32 j, .int .i64 now] w fun en w' => en = .returned (.tuple #[.int .u32 x, .bool b]) ∧ w = w' :=
  (read_any j now h.1.ln n0 n1).mono fun en w' ⟨he, hw⟩ => ⟨by rw [he, hx, hb], hw⟩
theorem wrap_u64m (t : Int) : IntKind.u64.wrap t = t % 18446744073709551616 := rfl
theorem word8 (t a e : Int) : wordF 8 t a e = t % 18446744073709551616 % 4294967296 := by
  have : wordF 8 t a e = t % 4294967296 := rfl
  omega
theorem word12 (t a e : Int) : wordF 12 t a e = t % 18446744073709551616 / 4294967296 % 4294967296 := by
  have : wordF 12 t a e = t / 4294967296 % 4294967296 := rfl
  omega
theorem cut_at (p : Int) (h0 : 0 ≤ p) : bits .andNot .u32 (p % 16) 3 = 0 ∨ bits .andNot .u32 (p % 16) 3 = 4 ∨ bits .andNot .u32 (p % 16) 3 = 8 ∨ bits .andNot .u32 (p % 16) 3 = 12 := by
  have h : ∃ n : Nat, n < 16 ∧ p % 16 = (n : Int) := ⟨(p % 16).toNat, by omega, by omega⟩
  obtain ⟨n, hn, e⟩ := h
  rw [e]
  have : ∀ m : Nat, m < 16 → (bits .andNot .u32 (m : Int) 3 = 0 ∨ bits .andNot .u32 (m : Int) 3 = 4 ∨ bits .andNot .u32 (m : Int) 3 = 8 ∨ bits .andNot .u32 (m : Int) 3 = 12) := by decide
  exact this n hn
theorem bit_up (d : Int) (up : Bool) (a : Int) (h : isDev d) : upF d up a = match up with | true => bits .or .u32 (bits .andNot .u32 a (2 ^ d.toNat % 4294967296)) (2 ^ d.toNat % 4294967296) | false => bits .andNot .u32 a (2 ^ d.toNat % 4294967296) := by
  have hb : (2 : Int) ^ d.toNat % 4294967296 = lbit d := by rcases dev_any h with rfl | rfl | rfl | rfl | rfl <;> rfl
  rw [hb]
  unfold upF
  rw [if_pos h]
  cases up
  · rfl
  · exact (lb_set _ _).symm
set_option maxRecDepth 100000 in
set_option maxHeartbeats 8000000 in
theorem plays_walk (A : Option Addr) (len cap : Nat) (w : World) (hA : Asks w w.heap.size A len) (hl : len ≤ 9223372036854775807) :
    Calls Try.prog 4 #[.slice A len cap] w (RetB (.bool true) w) := by
  have HA := Lib.hid hA
  clear hA
  go_enter Try.func4, Try.ntmps4
  go_wp2_with fail
  refine (lnew_any w).mono ?_
  rintro e w1 ⟨g, hg, rfl, hl1, hb⟩
  have o1 : One w w1 g 0 0 := ⟨hl1, hg, hb⟩
  clear hl1 hb hg
  go_wp2_with fail
  go_loopw [4, 5, 6] (fun u s i wr => ∃ (k : Nat) (a e : Int), k ≤ 60 ∧ u = .int .u32 a ∧ s = .int .u32 e ∧ i = .int .i64 k ∧ One w wr g a e) (fun _ _ i _ => 60 - (intOf i).toNat)
  case atStart => exact ⟨0, _, _, by omega, rfl, rfl, rfl, o1⟩
  case round =>
    clear o1
    obtain ⟨k, a, e, hk, rfl, rfl, rfl, hO⟩ := hrel
    by_cases hlt : k < 60 ∧ k < len
    · obtain ⟨x0, x1⟩ := hlt
      obtain ⟨ab, ao, kd, d, up, p, v, t, rfl, hab, q0, q1, q2, q3, q4, q5, d0, d1, p0, p1, v0, v1, t0, t1⟩ := HA.out k x1
      have e0 := (hO.bl.cell (p := ⟨ab, ao + k * 6, none⟩) hab).trans q0
      have e1 := (hO.bl.cell (p := ⟨ab, ao + k * 6 + 1, none⟩) hab).trans q1
      have e2 := (hO.bl.cell (p := ⟨ab, ao + k * 6 + 2, none⟩) hab).trans q2
      have e3 := (hO.bl.cell (p := ⟨ab, ao + k * 6 + 3, none⟩) hab).trans q3
      have e4 := (hO.bl.cell (p := ⟨ab, ao + k * 6 + 4, none⟩) hab).trans q4
      have e5 := (hO.bl.cell (p := ⟨ab, ao + k * 6 + 5, none⟩) hab).trans q5
      clear q0 q1 q2 q3 q4 q5
      have z60 : (k : Int) < 60 := by omega
      have hB : Both w (wr.alloc (.cells #[.int .i64 kd, .int .i64 d, .bool up, .int .u32 p, .int .u32 v, .int .i64 t] 26)) g wr.heap.size a e kd d up p v t := ⟨hO.alloc _, Ab.new hO.ln.lt⟩
      go_upto_if 33 with fail
      generalize wr.alloc (.cells #[.int .i64 kd, .int .i64 d, .bool up, .int .u32 p, .int .u32 v, .int .i64 t] 26) = W2 at hB ⊢
      generalize wr.heap.size = X at hB ⊢
      clear hO e0 e1 e2 e3 e4 e5 HA hab
      go_cut [4, 5] (fun y z wc => ∃ a' e', y = .int .u32 a' ∧ z = .int .u32 e' ∧ Both w wc g X a' e' kd d up p v t)
      case first =>
        have c1 := hB.2.c1
        have c2 := hB.2.c2
        have c3 := hB.2.c3
        have c4 := hB.2.c4
        have c0 := hB.2.c0
        have hBd := hB.drewN 1
        by_cases hk2 : kd < 2
        · by_cases hd : isDev d
          · have HU := Lib.hid (bit_up d up a hd)
            go_wp2_with fail
            refine (set_b hB d up rfl).mono ?_
            rintro e w4 ⟨rfl, hB4⟩
            have k1 := hB4.2.c1
            have k2 := hB4.2.c2
            rw [HU.out] at hB4
            obtain ⟨h1, h5⟩ := hd
            cases up
            all_goals
              go_wp2_with fail
              go_meet
              exact ⟨_, _, rfl, rfl, hB4⟩
          · have HU := Lib.hid (show upF d up a = a by unfold upF; rw [if_neg hd])
            go_wp2_with fail
            refine (set_b hB d up HU.out).mono ?_
            rintro e w4 ⟨rfl, hB4⟩
            have k1 := hB4.2.c1
            have k2 := hB4.2.c2
            by_cases h1 : 1 ≤ d
            · have h5 : 5 < d := by unfold isDev at hd; omega
              clear hd
              go_wp2_with fail
              go_meet
              exact ⟨_, _, rfl, rfl, hB4⟩
            · clear hd
              go_wp2_with fail
              go_meet
              exact ⟨_, _, rfl, rfl, hB4⟩
        · go_upto_if 66 with fail
          go_cut [8] (fun y wc => ∃ P, y = .int .u32 P ∧ 0 ≤ P ∧ P < 4294967296 ∧ Both w wc g X a e kd d up p v t)
          case first =>
            by_cases k2 : kd = 2
            · subst k2
              have hP := cut_at p p0
              go_wp2_with fail
              go_meet
              exact ⟨_, rfl, by omega, by omega, hB⟩
            · have k2' : (kd == 2) = false := beq_false_of_ne k2
              go_wp2_with fail
              go_meet
              exact ⟨_, rfl, p0, p1, hB⟩
          case rest =>
            clear hB c0 c1 c2 c3 c4 hBd
            obtain ⟨P, rfl, hP0, hP1, hB⟩ := hcut
            have c4 := hB.2.c4
            by_cases hw : isWord P
            · rcases hw with rfl | rfl | rfl | rfl
              · go_wp2_with fail
                refine (write_b hB 0 v (b := true) rfl rfl).mono ?_
                rintro e' w4 ⟨rfl, hB4⟩
                have k4 := hB4.2.c4
                go_wp2_with fail
                go_meet
                exact ⟨_, _, rfl, rfl, hB4⟩
              · go_wp2_with fail
                refine (write_b hB 4 v (b := true) rfl rfl).mono ?_
                rintro e' w4 ⟨rfl, hB4⟩
                have k4 := hB4.2.c4
                go_wp2_with fail
                go_meet
                exact ⟨_, _, rfl, rfl, hB4⟩
              · go_wp2_with fail
                refine (write_b hB 8 v (b := true) rfl rfl).mono ?_
                rintro e' w4 ⟨rfl, hB4⟩
                have k4 := hB4.2.c4
                go_wp2_with fail
                go_meet
                exact ⟨_, _, rfl, rfl, hB4⟩
              · go_wp2_with fail
                refine (write_b hB 12 v (b := true) rfl rfl).mono ?_
                rintro e' w4 ⟨rfl, hB4⟩
                have k4 := hB4.2.c4
                go_wp2_with fail
                go_meet
                exact ⟨_, _, rfl, rfl, hB4⟩
            · have hw' := hw
              unfold isWord at hw'
              have q0 : (P == 0) = false := beq_false_of_ne (by omega)
              have q4 : (P == 4) = false := beq_false_of_ne (by omega)
              have q8 : (P == 8) = false := beq_false_of_ne (by omega)
              have q12 : (P == 12) = false := beq_false_of_ne (by omega)
              have HE := Lib.hid (show enF P v e = e by unfold enF; rw [if_neg (by omega)])
              have HD := Lib.hid (decide_eq_false hw)
              clear hw hw'
              go_wp2_with fail
              refine (write_b hB P v HD.out HE.out).mono ?_
              rintro e' w4 ⟨rfl, hB4⟩
              have k4 := hB4.2.c4
              go_wp2_with fail
              go_meet
              exact ⟨_, _, rfl, rfl, hB4⟩
      case rest =>
        obtain ⟨a', e', rfl, rfl, hB'⟩ := hcut
        clear hB
        go_upto_block 2 with fail
        go_cut [] (fun wc => Both w wc g X a' e' kd d up p v t)
        case first =>
          go_wp2_with fail
          go_loopw [10] (fun i wr => ∃ j : Int, 0 ≤ j ∧ j ≤ 20 ∧ i = .int .u32 j ∧ Both w wr g X a' e' kd d up p v t) (fun i _ => 20 - (intOf i).toNat)
          case atStart => exact ⟨0, by omega, by omega, rfl, hB'⟩
          case round =>
            clear hB'
            obtain ⟨j, j0, j1, rfl, hC⟩ := hrel
            have c5 := hC.2.c5
            by_cases hj : j < 20
            · by_cases hw : isWord j
              · rcases hw with rfl | rfl | rfl | rfl
                · go_wp2_with fail
                  refine (read_b hC 0 t (x := a') (b := true) t0 t1 rfl rfl).mono ?_
                  rintro e2 w5 ⟨rfl, rfl⟩
                  go_wp2_with fail
                  go_roundw
                  case rel => exact ⟨1, by omega, by omega, rfl, hC⟩
                  case measure => simp [intOf]
                · go_wp2_with fail
                  refine (read_b hC 4 t (x := e') (b := true) t0 t1 rfl rfl).mono ?_
                  rintro e2 w5 ⟨rfl, rfl⟩
                  go_wp2_with fail
                  go_roundw
                  case rel => exact ⟨5, by omega, by omega, rfl, hC⟩
                  case measure => simp [intOf]
                · go_wp2_with fail
                  refine (read_b hC 8 t (x := IntKind.u64.wrap t % 4294967296) (b := true) t0 t1 (by rw [wrap_u64m]; exact word8 t a' e') rfl).mono ?_
                  rintro e2 w5 ⟨rfl, rfl⟩
                  go_wp2_with fail
                  go_roundw
                  case rel => exact ⟨9, by omega, by omega, rfl, hC⟩
                  case measure => simp [intOf]
                · go_wp2_with fail
                  refine (read_b hC 12 t (x := IntKind.u64.wrap t / 4294967296 % 4294967296) (b := true) t0 t1 (by rw [wrap_u64m]; exact word12 t a' e') rfl).mono ?_
                  rintro e2 w5 ⟨rfl, rfl⟩
                  go_wp2_with fail
                  go_roundw
                  case rel => exact ⟨13, by omega, by omega, rfl, hC⟩
                  case measure => simp [intOf]
              · have hw' := hw
                unfold isWord at hw'
                have q0 : (j == 0) = false := beq_false_of_ne (by omega)
                have q4 : (j == 4) = false := beq_false_of_ne (by omega)
                have q8 : (j == 8) = false := beq_false_of_ne (by omega)
                have q12 : (j == 12) = false := beq_false_of_ne (by omega)
                have HE := Lib.hid (show wordF j t a' e' = 0 by unfold wordF; rw [if_neg (by omega), if_neg (by omega), if_neg (by omega), if_neg (by omega)])
                have HD := Lib.hid (decide_eq_false hw)
                clear hw
                by_cases hm : j % 4 = 0
                · have h16 : 16 ≤ j := by omega
                  have hmb : (j % 4 == 0) = true := by simpa using hm
                  have h16b : decide (j < 16) = false := by simp; omega
                  clear hw' hm
                  go_wp2_with fail
                  refine (read_b hC j t t0 t1 HE.out HD.out).mono ?_
                  rintro e2 w5 ⟨rfl, rfl⟩
                  go_wp2_with fail
                  go_roundw
                  case rel => exact ⟨j + 1, by omega, by omega, rfl, hC⟩
                  case measure => simp [intOf]; omega
                · have hmb : (j % 4 == 0) = false := by simpa using hm
                  clear hw' hm
                  go_wp2_with fail
                  refine (read_b hC j t t0 t1 HE.out HD.out).mono ?_
                  rintro e2 w5 ⟨rfl, rfl⟩
                  go_wp2_with fail
                  go_roundw
                  case rel => exact ⟨j + 1, by omega, by omega, rfl, hC⟩
                  case measure => simp [intOf]; omega
            · go_wp2_with fail
              go_meet
              exact hC
        case rest =>
          clear hB'
          go_wp2_with fail
          refine (raised_b hcut).mono ?_
          rintro e2 w5 ⟨rfl, hC⟩
          go_wp2_with fail
          go_roundw
          case rel => exact ⟨k + 1, a', e', by omega, rfl, rfl, by go_num, hC.1⟩
          case measure => simp [intOf]; omega
    · by_cases hx : k < len
      all_goals
        try (have hd : decide ((k : Int) < 60) = false := by simp; omega)
        clear hlt
        go_wp2_with fail
        refine (known_any _).mono ?_
        rintro e w5 ⟨rfl, hb5⟩
        go_wp2
        go_ret
        exact ⟨rfl, (hO.below hb5).bl⟩
end Go.Proofs.Ytgkomijcfkjmnaa

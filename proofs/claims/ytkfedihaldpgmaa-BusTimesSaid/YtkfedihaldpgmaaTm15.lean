/-
  Chapter 15: two timers that go again, by what is due of each.
-/
import Derived.Test.YtkfedihaldpgmaaSm15
/-
  Chapter 15: some runs (function 'known').
-/
namespace Go.Proofs.Ytkfedihaldpgmaa
open Go.RowKit
set_option linter.unusedVariables false
set_option linter.unusedSimpArgs false
/-- a literal list of numbers in a new block, by its place -/
theorem lit_at (ki : IntKind) (W : World) (L : List Int) (cs : Array Value) (t : TypeId) (h : cs.toList = L.map (Value.int ki)) (j : Nat) (hj : j < L.length) : (W.alloc (.cells cs t)).cell? ⟨W.heap.size, j, none⟩ = some (.int ki (L.getD j 0)) := by
  have e : (W.alloc (.cells cs t)).cell? ⟨W.heap.size, j, none⟩ = cs[j]? := by simp
  rw [e, ← Array.getElem?_toList, h, List.getElem?_map, List.getElem?_eq_getElem hj, List.getD_eq_getElem?_getD, List.getElem?_eq_getElem hj]
  rfl
def kL : List Int := [1, 2, 3, 4]
def kF : Nat → Int := fun i => kL.getD i 0
theorem kF_bd (i : Nat) : 0 ≤ kF i ∧ kF i ≤ 255 := by
  have h : ∀ j : Nat, j < 4 → 0 ≤ kF j ∧ kF j ≤ 255 := by decide
  by_cases hi : i < 4
  · exact h i hi
  · unfold kF; rw [List.getD_eq_getElem?_getD, List.getElem?_eq_none (by show 4 ≤ i; omega)]; exact ⟨by decide, by decide⟩
theorem by_nil (Q : Nat → Prop) (w : World) (f : Nat → Int) : ByAt Q w (.slice none 0 0) 0 f := .inl ⟨0, rfl, rfl⟩
section
variable {W0 w : World} {G : PG} {U : PV} {S : BS}
theorem bsize_any (h : Px w G U S) : Calls Try.prog 12 #[.pointer (some ⟨G.r, 0, none⟩)] w fun e w' => e = .returned (.int .u32 (1024 * G.p : Nat)) ∧ w = w' := by
  obtain ⟨M, hM, _⟩ := h.mm.mem
  obtain ⟨bb, mm, tt, hO, hmem⟩ := hM
  exact (size_any hmem).mono fun e w' h => by simpa using h
end
set_option maxHeartbeats 4000000 in
set_option maxRecDepth 100000 in
theorem known_any (w : World) : Calls Try.prog 9 #[] w (RetB (.bool true) w) := by
  have H1 : Hid (∀ D, ldV 1 0 4 0 (S0B (imC 1 4 kF) D) = .tuple #[.int .u32 16909060, .bool true]) := Lib.hid (fun D => rfl)
  have H2 : Hid (∀ D, ldV 1 520093696 4 0 (S0B (imC 1 4 kF) D) = .tuple #[.int .u32 0, .bool true]) := Lib.hid (fun D => rfl)
  have H3 : Hid (∀ S, ldV 1 520093697 1 0 S = .tuple #[.int .u32 0, .bool false]) := Lib.hid (fun S => rfl)
  have H4 : Hid (stV 1 4294967292 4 = false) := Lib.hid rfl
  have E1 : Hid (∀ D, ldS 1 0 4 (S0B (imC 1 4 kF) D) = S0B (imC 1 4 kF) D) := Lib.hid (fun D => rfl)
  have b0 : Below w.heap.size w (w.alloc (.cells #[.int .u8 1, .int .u8 2, .int .u8 3, .int .u8 4] 5)) := (Below.refl _ _).alloc (Nat.le_refl _) _
  have hv : ByAt (fun _ => True) (w.alloc (.cells #[.int .u8 1, .int .u8 2, .int .u8 3, .int .u8 4] 5)) (.slice (some ⟨w.heap.size, 0, none⟩) 4 4) 4 kF := .inr ⟨_, _, rfl, Nat.le_refl _, fun _ => ⟨rfl, trivial⟩, fun i hi => ⟨by
    rw [add_none, Nat.zero_add]
    exact lit_at .u8 w kL #[.int .u8 1, .int .u8 2, .int .u8 3, .int .u8 4] 5 rfl i hi, kF_bd i⟩⟩
  have HN := Lib.hid (bnewp_any 1 1 rfl _ _ 4 0 kF Z0 _ hv (by_nil (fun _ => True) _ Z0) (by omega) (by omega) (by omega))
  clear hv
  go_enter Try.func9, Try.ntmps9
  go_wp2_with fail
  with_reducible refine HN.out.mono ?_
  rintro e w1 ⟨G, U, rfl, hp, hn, hP, ho, b1⟩
  obtain ⟨D, hD⟩ : ∃ D, imD 0 Z0 = D := ⟨_, rfl⟩
  rw [hD] at hP
  have hO : One w G w1 U (S0B (imC 1 4 kF) D) := ⟨hP, fun k hk => by have := ho k hk; have := b0.size; omega, b0.trans (b1.mono b0.size)⟩
  have hG : Ok 0 (S0B (imC 1 4 kF) D) := Ok.zero _ _
  have HL := Lib.hid (load1 0 4 0 hO hG.g (by omega) (by omega) (by omega) (by omega) (by omega) (by omega))
  rw [hp, H1.out, E1.out] at HL
  clear b0 b1 ho hP hD hO
  go_wp2_with fail
  with_reducible refine HL.out.mono ?_
  rintro e w2 ⟨rfl, U2, hO2⟩
  have HL2 := Lib.hid (load1 520093696 4 0 hO2 hG.g (by omega) (by omega) (by omega) (by omega) (by omega) (by omega))
  have hG3 : Ok 0 (ldS G.p 520093696 4 (S0B (imC 1 4 kF) D)) := hG.ld _ _
  rw [hp, H2.out] at HL2
  rw [hp] at hG3
  clear hO2
  generalize ldS 1 520093696 4 (S0B (imC 1 4 kF) D) = S3 at HL2 hG3
  go_wp2_with fail
  with_reducible refine HL2.out.mono ?_
  rintro e w3 ⟨rfl, U3, hO3⟩
  have HL3 := Lib.hid (load1 520093697 1 0 hO3 hG3.g (by omega) (by omega) (by omega) (by omega) (by omega) (by omega))
  have hG4 : Ok 0 (ldS G.p 520093697 1 S3) := hG3.ld _ _
  rw [hp, H3.out] at HL3
  rw [hp] at hG4
  clear hO3 hG3
  generalize ldS 1 520093697 1 S3 = S4 at HL3 hG4
  go_wp2_with fail
  with_reducible refine HL3.out.mono ?_
  rintro e w4 ⟨rfl, U4, hO4⟩
  have HS := Lib.hid (store1 4294967292 4 1 0 hO4 hG4.g (by omega) (by omega) (by omega) (by omega) (by omega) ⟨by omega, by omega⟩ (by omega) (by omega))
  rw [hp, H4.out] at HS
  clear hO4 hG4
  go_wp2_with fail
  with_reducible refine HS.out.mono ?_
  rintro e w5 ⟨rfl, U5, hO5⟩
  have HR := Lib.hid (bram_any hO5.px)
  have HZ := Lib.hid (bsize_any hO5.px)
  rw [hp] at HZ
  have hbl := hO5.bl
  clear hO5
  go_wp2_with fail
  with_reducible refine HR.out.mono ?_
  rintro e w6 ⟨rfl, rfl⟩
  go_wp2_with fail
  with_reducible refine HR.out.mono ?_
  rintro e w6 ⟨rfl, rfl⟩
  go_wp2_with fail
  with_reducible refine HZ.out.mono ?_
  rintro e w6 ⟨rfl, rfl⟩
  go_wp2
  go_ret
  exact ⟨rfl, hbl⟩
end Go.Proofs.Ytkfedihaldpgmaa

namespace Go.Proofs.Ytkfedihaldpgmaa
open Go.RowKit
set_option linter.unusedVariables false
set_option linter.unusedSimpArgs false
/-- from time T each x: so many of them are due at now -/
def chain (now x : Int) : Nat → Int → Prop
  | 0, T => now < T
  | c + 1, T => T ≤ now ∧ chain now x c (T + x)
/-- the time behind c of them -/
def finT (x : Int) : Nat → Int → Int
  | 0, T => T
  | c + 1, T => finT x c (T + x)
theorem next_mul (x q : Int) : (q + 1) * x + x = (q + 1 + 1) * x := by rw [Int.add_mul (q + 1) 1 x, Int.one_mul]
theorem finT_mul (x : Int) : ∀ (c : Nat) (q : Int), finT x c ((q + 1) * x) = (q + c + 1) * x
  | 0, q => by show (q + 1) * x = _; rw [show q + ((0 : Nat) : Int) + 1 = q + 1 by omega]
  | c + 1, q => by
    show finT x c ((q + 1) * x + x) = _
    rw [next_mul, finT_mul x c (q + 1), show q + 1 + (c : Int) + 1 = q + ((c + 1 : Nat) : Int) + 1 by omega]
theorem chain_div (now x : Int) (hx : 0 < x) : ∀ (c : Nat) (q : Int), now / x = q + c → chain now x c ((q + 1) * x)
  | 0, q, h => by
    show now < (q + 1) * x
    have := Int.lt_ediv_add_one_mul_self now hx
    rw [h, show q + ((0 : Nat) : Int) + 1 = q + 1 by omega] at this
    exact this
  | c + 1, q, h => by
    refine ⟨?_, ?_⟩
    · have h1 := Int.ediv_mul_le now (show x ≠ 0 by omega)
      have h2 : (q + 1) * x ≤ now / x * x := Int.mul_le_mul_of_nonneg_right (by omega) (by omega)
      omega
    · rw [next_mul]
      exact chain_div now x hx c (q + 1) (by omega)
/-- a bus with two timers under way -/
def tS (x y : Int) (C D : Nat → Int) (b0 b1 : Bool) (up : Int) (L : List Ev) (a : Int) : BS := ⟨true, true, x, b0, true, true, y, b1, [], [], [], false, 0, 0, 0, 0, false, false, false, 0, 0, 0, false, false, false, up, 6, L, a, C, D⟩
/-- both are due, at T0 and T1 -/
def Inv2 (T0 T1 : Int) (L : List Ev) : Prop := ∃ a0 a1, (T0 ≤ T1 ∧ L = [⟨T0, 1, a0⟩, ⟨T1, 2, a1⟩]) ∨ (T1 ≤ T0 ∧ L = [⟨T1, 2, a1⟩, ⟨T0, 1, a0⟩])
theorem arm_0 (T a T1 a1 : Int) : Inv2 T T1 (armF 1 T a [⟨T1, 2, a1⟩]) := by
  have e1 : delF 1 [(⟨T1, 2, a1⟩ : Ev)] = [⟨T1, 2, a1⟩] := rfl
  unfold armF
  rw [e1]
  by_cases h : T < T1
  · have e2 : ixA T [(⟨T1, 2, a1⟩ : Ev)] = 0 := by simp [ixA, List.findIdx_cons, h]
    rw [e2]
    exact ⟨a, a1, .inl ⟨by omega, rfl⟩⟩
  · have e2 : ixA T [(⟨T1, 2, a1⟩ : Ev)] = 1 := by simp [ixA, List.findIdx_cons, h]
    rw [e2]
    exact ⟨a, a1, .inr ⟨by omega, rfl⟩⟩
theorem arm_1 (T a T0 a0 : Int) : Inv2 T0 T (armF 2 T a [⟨T0, 1, a0⟩]) := by
  have e1 : delF 2 [(⟨T0, 1, a0⟩ : Ev)] = [⟨T0, 1, a0⟩] := rfl
  unfold armF
  rw [e1]
  by_cases h : T < T0
  · have e2 : ixA T [(⟨T0, 1, a0⟩ : Ev)] = 0 := by simp [ixA, List.findIdx_cons, h]
    rw [e2]
    exact ⟨a0, a, .inr ⟨by omega, rfl⟩⟩
  · have e2 : ixA T [(⟨T0, 1, a0⟩ : Ev)] = 1 := by simp [ixA, List.findIdx_cons, h]
    rw [e2]
    exact ⟨a0, a, .inl ⟨by omega, rfl⟩⟩
section
variable {p n : Nat} {x y now up a : Int} {C D : Nat → Int}
theorem take_hd {e : Ev} {R : List Ev} (h : e.t ≤ now) : takeL now (e :: R) = R := by
  unfold takeL
  rw [if_pos (show dueB now (e :: R) = true from decide_eq_true h)]
  rfl
theorem step_0 {T0 a0 : Int} {b0 b1 : Bool} {R : List Ev} (hx : 20 ≤ x) (h : T0 ≤ now) : stepF p n now (tS x y C D b0 b1 up (⟨T0, 1, a0⟩ :: R) a) = tS x y C D true b1 up (armF 1 (T0 + x) a R) (a + 1) := by
  have e : takeL now ((⟨T0, 1, a0⟩ : Ev) :: R) = R := take_hd h
  have ed : due T0 x = T0 + x := by unfold due; rw [if_neg (by omega)]
  show fireX p n 1 T0 { tS x y C D b0 b1 up (⟨T0, 1, a0⟩ :: R) a with L := takeL now ((⟨T0, 1, a0⟩ : Ev) :: R) } = _
  rw [e]
  show armS 1 (due T0 x) (tS x y C D true b1 up R a) = _
  rw [ed]
  rfl
theorem step_1 {T1 a1 : Int} {b0 b1 : Bool} {R : List Ev} (hy : 20 ≤ y) (h : T1 ≤ now) : stepF p n now (tS x y C D b0 b1 up (⟨T1, 2, a1⟩ :: R) a) = tS x y C D b0 true up (armF 2 (T1 + y) a R) (a + 1) := by
  have e : takeL now ((⟨T1, 2, a1⟩ : Ev) :: R) = R := take_hd h
  have ed : due T1 y = T1 + y := by unfold due; rw [if_neg (by omega)]
  show fireX p n 2 T1 { tS x y C D b0 b1 up (⟨T1, 2, a1⟩ :: R) a with L := takeL now ((⟨T1, 2, a1⟩ : Ev) :: R) } = _
  rw [e]
  show armS 2 (due T1 y) (tS x y C D b0 true up R a) = _
  rw [ed]
  rfl
theorem runS_yes {k : Nat} {S : BS} (h : dueB now S.L = true) : runS p n now (k + 1) S = runS p n now k (stepF p n now S) ∧ runC p n now (k + 1) S = 1 + runC p n now k (stepF p n now S) :=
  ⟨by show (match dueB now S.L with | true => _ | false => _) = _; rw [h], by show (match dueB now S.L with | true => _ | false => _) = _; rw [h]⟩
theorem runS_no {S : BS} (h : dueB now S.L = false) : ∀ k, runS p n now k S = S ∧ runC p n now k S = 0
  | 0 => ⟨rfl, rfl⟩
  | k + 1 => ⟨by show (match dueB now S.L with | true => _ | false => _) = _; rw [h], by show (match dueB now S.L with | true => _ | false => _) = _; rw [h]⟩
theorem run_two (hx : 20 ≤ x) (hy : 20 ≤ y) : ∀ (k c0 c1 : Nat) (T0 T1 : Int) (b0 b1 : Bool) (L : List Ev) (a : Int), c0 + c1 ≤ k → chain now x c0 T0 → chain now y c1 T1 → Inv2 T0 T1 L →
    ∃ L2 a2, runC p n now k (tS x y C D b0 b1 up L a) = c0 + c1 ∧ runS p n now k (tS x y C D b0 b1 up L a) = tS x y C D (b0 || decide (0 < c0)) (b1 || decide (0 < c1)) up L2 a2 ∧ Inv2 (finT x c0 T0) (finT y c1 T1) L2
  | k, 0, 0, T0, T1, b0, b1, L, a, hk, h0, h1, hI => by
    have h0' : now < T0 := h0
    have h1' : now < T1 := h1
    have hd : dueB now (tS x y C D b0 b1 up L a).L = false := by
      show dueB now L = false
      obtain ⟨a0, a1, ⟨ht, rfl⟩ | ⟨ht, rfl⟩⟩ := hI
      · exact decide_eq_false (show ¬ T0 ≤ now by omega)
      · exact decide_eq_false (show ¬ T1 ≤ now by omega)
    obtain ⟨e1, e2⟩ := runS_no (p := p) (n := n) hd k
    exact ⟨L, a, e2, by rw [e1]; simp, hI⟩
  | 0, c0 + 1, c1, _, _, _, _, _, _, hk, _, _, _ => by omega
  | 0, 0, c1 + 1, _, _, _, _, _, _, hk, _, _, _ => by omega
  | k + 1, c0, c1, T0, T1, b0, b1, L, a, hk, h0, h1, hI => by
    obtain ⟨a0, a1, ⟨ht, rfl⟩ | ⟨ht, rfl⟩⟩ := hI
    · match c0, h0, hk with
      | 0, h0, hk =>
        have h0' : now < T0 := h0
        match c1, h1, hk with
        | 0, h1, hk =>
          have hd : dueB now (tS x y C D b0 b1 up [⟨T0, 1, a0⟩, ⟨T1, 2, a1⟩] a).L = false := decide_eq_false (show ¬ T0 ≤ now by omega)
          obtain ⟨e1, e2⟩ := runS_no (p := p) (n := n) hd (k + 1)
          exact ⟨[⟨T0, 1, a0⟩, ⟨T1, 2, a1⟩], a, e2, by rw [e1]; simp, ⟨a0, a1, .inl ⟨ht, rfl⟩⟩⟩
        | c1 + 1, h1, hk =>
          have := h1.1
          omega
      | c0 + 1, h0, hk =>
        have hd : dueB now (tS x y C D b0 b1 up [⟨T0, 1, a0⟩, ⟨T1, 2, a1⟩] a).L = true := decide_eq_true h0.1
        obtain ⟨e1, e2⟩ := runS_yes (p := p) (n := n) (k := k) hd
        rw [step_0 hx h0.1] at e1 e2
        obtain ⟨L2, a2, r1, r2, r3⟩ := run_two hx hy k c0 c1 (T0 + x) T1 true b1 (armF 1 (T0 + x) a [⟨T1, 2, a1⟩]) (a + 1) (by omega) h0.2 h1 (arm_0 _ _ _ _)
        exact ⟨L2, a2, by rw [e2, r1]; omega, by rw [e1, r2]; simp, r3⟩
    · match c1, h1, hk with
      | 0, h1, hk =>
        have h1' : now < T1 := h1
        match c0, h0, hk with
        | 0, h0, hk =>
          have hd : dueB now (tS x y C D b0 b1 up [⟨T1, 2, a1⟩, ⟨T0, 1, a0⟩] a).L = false := decide_eq_false (show ¬ T1 ≤ now by omega)
          obtain ⟨e1, e2⟩ := runS_no (p := p) (n := n) hd (k + 1)
          exact ⟨[⟨T1, 2, a1⟩, ⟨T0, 1, a0⟩], a, e2, by rw [e1]; simp, ⟨a0, a1, .inr ⟨ht, rfl⟩⟩⟩
        | c0 + 1, h0, hk =>
          have := h0.1
          omega
      | c1 + 1, h1, hk =>
        have hd : dueB now (tS x y C D b0 b1 up [⟨T1, 2, a1⟩, ⟨T0, 1, a0⟩] a).L = true := decide_eq_true h1.1
        obtain ⟨e1, e2⟩ := runS_yes (p := p) (n := n) (k := k) hd
        rw [step_1 hy h1.1] at e1 e2
        obtain ⟨L2, a2, r1, r2, r3⟩ := run_two hx hy k c0 c1 T0 (T1 + y) b0 true (armF 2 (T1 + y) a [⟨T0, 1, a0⟩]) (a + 1) (by omega) h0 h1.2 (arm_1 _ _ _ _)
        exact ⟨L2, a2, by rw [e2, r1]; omega, by rw [e1, r2]; simp, r3⟩
theorem next_two {T0 T1 : Int} {L : List Ev} (h : Inv2 T0 T1 L) : nextV L = min T0 T1 ∧ 0 < L.length := by
  obtain ⟨a0, a1, ⟨ht, rfl⟩ | ⟨ht, rfl⟩⟩ := h
  · exact ⟨(show T0 = min T0 T1 by omega), by show 0 < 2; omega⟩
  · exact ⟨(show T1 = min T0 T1 by omega), by show 0 < 2; omega⟩
/-- the lines behind a gathering -/
theorem gat_two (b0 b1 : Bool) (L : List Ev) : gat (tS x y C D b0 b1 up L a) = tS x y C D b0 b1 (upW b0 b1 false false false) L a := by
  have e : lineU (tS x y C D b0 b1 up L a) = false := by
    show (((bits .and .u32 0 1 != 0) && decide (0 < ([] : List Int).length)) || ((bits .and .u32 0 2 != 0) && decide (([] : List Int).length = 0))) = false
    rw [show bits .and .u32 0 2 = 0 from rfl, show bits .and .u32 0 1 = 0 from rfl]
    rfl
  show { tS x y C D b0 b1 up L a with up := upW b0 b1 (lineU (tS x y C D b0 b1 up L a)) false false } = _
  rw [e]
  rfl
theorem raised_two (b0 b1 : Bool) : raisB (upW b0 b1 false false false) 6 = (b0 || b1) := by cases b0 <;> cases b1 <;> rfl
end
/-- a bus while its timers are being set -/
def gS (r0 r1 : Bool) (x y ask : Int) (L : List Ev) (a : Int) (C D : Nat → Int) : BS := ⟨r0, r0, x, false, r1, r1, y, false, [], [], [], false, 0, 0, 0, 0, false, false, false, 0, 0, 0, false, false, false, 0, ask, L, a, C, D⟩
theorem gat_g (r0 r1 : Bool) (x y ask : Int) (L : List Ev) (a : Int) (C D : Nat → Int) : gat (gS r0 r1 x y ask L a C D) = gS r0 r1 x y ask L a C D := by
  have e : lineU (gS r0 r1 x y ask L a C D) = false := by
    show (((bits .and .u32 0 1 != 0) && decide (0 < ([] : List Int).length)) || ((bits .and .u32 0 2 != 0) && decide (([] : List Int).length = 0))) = false
    rw [show bits .and .u32 0 2 = 0 from rfl, show bits .and .u32 0 1 = 0 from rfl]
    rfl
  show { gS r0 r1 x y ask L a C D with up := upW false false (lineU (gS r0 r1 x y ask L a C D)) false false } = _
  rw [e]
  rfl
section
variable {x y : Int} {C D : Nat → Int}
theorem set_1 : stS 1 520093764 4 x 0 (S0B C D) = gS false false x 0 0 [] 0 C D := (show stS 1 520093764 4 x 0 (S0B C D) = gat (gS false false x 0 0 [] 0 C D) from rfl).trans (gat_g ..)
theorem set_2 : stS 1 520093828 4 y 0 (gS false false x 0 0 [] 0 C D) = gS false false x y 0 [] 0 C D := (show _ = gat (gS false false x y 0 [] 0 C D) from rfl).trans (gat_g ..)
theorem set_3 (hx : 20 ≤ x) : stS 1 520093760 4 3 0 (gS false false x y 0 [] 0 C D) = gS true false x y 0 [⟨x, 1, 0⟩] 1 C D := by
  have e : due 0 x = x := by unfold due; rw [if_neg (by omega)]; omega
  refine (show _ = gat (gS true false x y 0 [⟨due 0 x, 1, 0⟩] 1 C D) from rfl).trans ?_
  rw [gat_g, e]
theorem set_4 (hy : 20 ≤ y) : stS 1 520093824 4 3 0 (gS true false x y 0 [⟨x, 1, 0⟩] 1 C D) = gS true true x y 0 (armF 2 y 1 [⟨x, 1, 0⟩]) 2 C D := by
  have e : due 0 y = y := by unfold due; rw [if_neg (by omega)]; omega
  refine (show _ = gat (gS true true x y 0 (armF 2 (due 0 y) 1 [⟨x, 1, 0⟩]) 2 C D) from rfl).trans ?_
  rw [gat_g, e]
theorem set_5 {L : List Ev} : stS 1 520093700 4 6 0 (gS true true x y 0 L 2 C D) = tS x y C D false false (upW false false false false false) L 2 := (show _ = gat (gS true true x y 6 L 2 C D) from rfl).trans (gat_g ..)
end
end Go.Proofs.Ytkfedihaldpgmaa

/-
  Chapter 3: the document's own answer: function find: the row of a Kind.
-/
import Derived.Test.YtmjlbffphaklgaaRef
import Derived.WalkMore
import Derived.Deep.LoopGhost
namespace Go.Proofs.Ytmjlbffphaklgaa
open Go.RowKit
set_option linter.unusedVariables false

/-- the three tables by number -/
def LK : Nat → Nat → Nat
  | 0 => D.spK
  | 1 => D.plK
  | _ => D.otK
def LN : Nat → Nat
  | 0 => 35
  | 1 => 27
  | _ => 15
theorem lk_rng : ∀ T, T < 3 → ∀ i, i < LN T → 1 ≤ LK T i ∧ LK T i ≤ 77 := by decide +kernel
theorem lk_all : ∀ k, k < 78 → 1 ≤ k → ∃ T, T < 3 ∧ ∃ i, i < LN T ∧ LK T i = k := by
  have h : ∀ k, k < 78 → 1 ≤ k → ((List.range 3).any fun T => (List.range (LN T)).any fun i => LK T i == k) = true := by decide +kernel
  intro k hk h1
  have := h k hk h1
  simp only [List.any_eq_true, List.mem_range, beq_iff_eq] at this
  obtain ⟨T, hT, i, hi, e⟩ := this
  exact ⟨T, hT, i, hi, e⟩
/-- no row of the tables ahead of T is of this Kind -/
def Not1 (T : Nat) (kind : Int) : Prop := ∀ U, U < T → ∀ i, i < LN U → (LK U i : Int) ≠ kind
def Not2 (T k : Nat) (kind : Int) : Prop := ∀ i, i < k → (LK T i : Int) ≠ kind
theorem not1_next {T : Nat} {kind : Int} (h : Not1 T kind) (h2 : Not2 T (LN T) kind) : Not1 (T + 1) kind := fun U hU => by
  by_cases e : U = T
  · subst e; exact h2
  · exact h U (by omega)
theorem not2_next {T k : Nat} {kind : Int} (h : Not2 T k kind) (hn : (LK T k : Int) ≠ kind) : Not2 T (k + 1) kind := fun i hi => by
  by_cases e : i = k
  · subst e; exact hn
  · exact h i (by omega)
theorem tb_cells {w : World} {b n : Nat} {K : Nat → Nat} (h : Tb w b n K) (i : Nat) (hi : i < n) : w.cell? ⟨b, i * 4, none⟩ = some (.int .i64 (D.op (K i) : Int)) ∧ w.cell? ⟨b, i * 4 + 1, none⟩ = some (.int .i64 (D.sb (K i) : Int)) ∧ w.cell? ⟨b, i * 4 + 2, none⟩ = some (.int .i64 (K i : Int)) ∧ w.cell? ⟨b, i * 4 + 3, none⟩ = some (.string (D.fld (K i))) :=
  ⟨h.c i 0 hi (by omega), h.c i 1 hi (by omega), h.c i 2 hi (by omega), h.c i 3 hi (by omega)⟩
set_option maxHeartbeats 4000000 in
theorem find_k (kd : Nat) (kind : Int) (w : World) (HKD : Hid (kind = (kd : Int))) (h1 : 1 ≤ kd) (h2 : kd ≤ 77) : Calls Try.prog 27 #[.int .i64 kind] w fun e w' => e = .returned (.tuple #[.agg #[.int .i64 (D.op kd : Int), .int .i64 (D.sb kd : Int), .int .i64 (kd : Int), .string (D.fld kd)], .bool true]) ∧ Below w.heap.size w w' := by
  go_enter Try.func27, Try.ntmps27
  go_wp2
  go_loopg [4] 3 (fun gh t wr => ∃ T : Nat, T + gh = 3 ∧ t = .int .i64 T ∧ Hid (Not1 T kind) ∧ Below (w.alloc (.cells #[.int .i64 0, .int .i64 0, .int .i64 0, .string ⟨#[]⟩] 52)).heap.size (w.alloc (.cells #[.int .i64 0, .int .i64 0, .int .i64 0, .string ⟨#[]⟩] 52)) wr)
  case atStart => exact ⟨0, by omega, rfl, fun U hU => absurd hU (by omega), Below.refl _ _⟩
  case round =>
    obtain ⟨T, hT, rfl, H1, hb⟩ := hrel
    cases gk with
    | succ g =>
      have hT3 : T = 0 ∨ T = 1 ∨ T = 2 := by omega
      rcases hT3 with rfl | rfl | rfl
      · go_wp2_with fail
        refine (special_any _).mono ?_
        rintro e w0 ⟨b0, rfl, hl0, ht0, hw0⟩
        have hp0 := below_then hb hw0 (Nat.le_refl _)
        have HT : Hid (Tb w0 b0 35 (LK 0)) := ht0
        have HBQ := Lib.hid hp0
        clear ht0
        go_wp2_with fail
        have hbq : Below (w.alloc (.cells #[.int .i64 0, .int .i64 0, .int .i64 0, .string ⟨#[]⟩] 52)).heap.size (w.alloc (.cells #[.int .i64 0, .int .i64 0, .int .i64 0, .string ⟨#[]⟩] 52)) w0 := HBQ.out
        go_loopg [6] 35 (fun ig i wx => ∃ k : Nat, k + ig = 35 ∧ i = .int .i64 k ∧ Hid (Not2 0 k kind) ∧ w0 = wx)
        case atStart => exact ⟨0, by omega, rfl, fun i hi => absurd hi (by omega), rfl⟩
        case round =>
          obtain ⟨k, hk, rfl, HK, rfl⟩ := hrel
          obtain ⟨hc, hf⟩ := bcell hbq
          have hz : w.heap.size < w0.heap.size := by have := hbq.size; simp at this; omega
          cases gk with
          | succ ig =>
            obtain ⟨q0, q1, q2, q3⟩ := tb_cells HT.out k (by omega)
            cases hke : ((LK 0 k : Int) == kind)
            · have HE := Lib.hid hke
              go_wp2
              go_roundg ig
              case measure => omega
              case rel => exact ⟨k + 1, by omega, by go_num, not2_next HK.out (by have := HE.out; simpa using this), rfl⟩
            · have HE := Lib.hid hke
              go_wp2
              have hkk : LK 0 k = kd := by have := HE.out; have h9 := HKD.out; simp only [beq_iff_eq] at this; omega
              refine bodyPost_ret (v := .tuple #[.agg #[.int .i64 (D.op (LK 0 k) : Int), .int .i64 (D.sb (LK 0 k) : Int), .int .i64 (LK 0 k : Int), .string (D.fld (LK 0 k))], .bool true]) (by simp [results, Try.results27, go_sem, hc]) rfl ⟨by rw [hkk], ?_⟩
              have hb9 := below_then (below_new (w := w)) (hbq.mono (by simp)) (Nat.le_refl _)
              (repeat' (first | (with_reducible exact hb9) | (with_reducible apply bel_set) | (with_reducible apply bel_alloc) | (simp; done) | (simp; omega) | omega | (simp [World.setCell]; done) | (simp [World.setCell]; omega)))
          | zero =>
            obtain rfl : k = 35 := by omega
            clear hc hf
            go_wp2
            go_roundg g
            case measure => omega
            case rel => exact ⟨1, by omega, rfl, not1_next H1.out HK.out, hbq⟩
      · go_wp2_with fail
        refine (special_any _).mono ?_
        rintro e w0 ⟨b0, rfl, hl0, ht0, hw0⟩
        have hp0 := below_then hb hw0 (Nat.le_refl _)
        go_wp2_with fail
        refine (plain_any _).mono ?_
        rintro e w1 ⟨b1, rfl, hl1, ht1, hw1⟩
        have hp1 := below_then hp0 hw1 (Nat.le_refl _)
        have HT : Hid (Tb w1 b1 27 (LK 1)) := ht1
        have HBQ := Lib.hid hp1
        clear ht1
        go_wp2_with fail
        have hbq : Below (w.alloc (.cells #[.int .i64 0, .int .i64 0, .int .i64 0, .string ⟨#[]⟩] 52)).heap.size (w.alloc (.cells #[.int .i64 0, .int .i64 0, .int .i64 0, .string ⟨#[]⟩] 52)) w1 := HBQ.out
        go_loopg [6] 27 (fun ig i wx => ∃ k : Nat, k + ig = 27 ∧ i = .int .i64 k ∧ Hid (Not2 1 k kind) ∧ w1 = wx)
        case atStart => exact ⟨0, by omega, rfl, fun i hi => absurd hi (by omega), rfl⟩
        case round =>
          obtain ⟨k, hk, rfl, HK, rfl⟩ := hrel
          obtain ⟨hc, hf⟩ := bcell hbq
          have hz : w.heap.size < w1.heap.size := by have := hbq.size; simp at this; omega
          cases gk with
          | succ ig =>
            obtain ⟨q0, q1, q2, q3⟩ := tb_cells HT.out k (by omega)
            cases hke : ((LK 1 k : Int) == kind)
            · have HE := Lib.hid hke
              go_wp2
              go_roundg ig
              case measure => omega
              case rel => exact ⟨k + 1, by omega, by go_num, not2_next HK.out (by have := HE.out; simpa using this), rfl⟩
            · have HE := Lib.hid hke
              go_wp2
              have hkk : LK 1 k = kd := by have := HE.out; have h9 := HKD.out; simp only [beq_iff_eq] at this; omega
              refine bodyPost_ret (v := .tuple #[.agg #[.int .i64 (D.op (LK 1 k) : Int), .int .i64 (D.sb (LK 1 k) : Int), .int .i64 (LK 1 k : Int), .string (D.fld (LK 1 k))], .bool true]) (by simp [results, Try.results27, go_sem, hc]) rfl ⟨by rw [hkk], ?_⟩
              have hb9 := below_then (below_new (w := w)) (hbq.mono (by simp)) (Nat.le_refl _)
              (repeat' (first | (with_reducible exact hb9) | (with_reducible apply bel_set) | (with_reducible apply bel_alloc) | (simp; done) | (simp; omega) | omega | (simp [World.setCell]; done) | (simp [World.setCell]; omega)))
          | zero =>
            obtain rfl : k = 27 := by omega
            clear hc hf
            go_wp2
            go_roundg g
            case measure => omega
            case rel => exact ⟨2, by omega, rfl, not1_next H1.out HK.out, hbq⟩
      · go_wp2_with fail
        refine (special_any _).mono ?_
        rintro e w0 ⟨b0, rfl, hl0, ht0, hw0⟩
        have hp0 := below_then hb hw0 (Nat.le_refl _)
        go_wp2_with fail
        refine (others_any _).mono ?_
        rintro e w1 ⟨b1, rfl, hl1, ht1, hw1⟩
        have hp1 := below_then hp0 hw1 (Nat.le_refl _)
        have HT : Hid (Tb w1 b1 15 (LK 2)) := ht1
        have HBQ := Lib.hid hp1
        clear ht1
        go_wp2_with fail
        have hbq : Below (w.alloc (.cells #[.int .i64 0, .int .i64 0, .int .i64 0, .string ⟨#[]⟩] 52)).heap.size (w.alloc (.cells #[.int .i64 0, .int .i64 0, .int .i64 0, .string ⟨#[]⟩] 52)) w1 := HBQ.out
        go_loopg [6] 15 (fun ig i wx => ∃ k : Nat, k + ig = 15 ∧ i = .int .i64 k ∧ Hid (Not2 2 k kind) ∧ w1 = wx)
        case atStart => exact ⟨0, by omega, rfl, fun i hi => absurd hi (by omega), rfl⟩
        case round =>
          obtain ⟨k, hk, rfl, HK, rfl⟩ := hrel
          obtain ⟨hc, hf⟩ := bcell hbq
          have hz : w.heap.size < w1.heap.size := by have := hbq.size; simp at this; omega
          cases gk with
          | succ ig =>
            obtain ⟨q0, q1, q2, q3⟩ := tb_cells HT.out k (by omega)
            cases hke : ((LK 2 k : Int) == kind)
            · have HE := Lib.hid hke
              go_wp2
              go_roundg ig
              case measure => omega
              case rel => exact ⟨k + 1, by omega, by go_num, not2_next HK.out (by have := HE.out; simpa using this), rfl⟩
            · have HE := Lib.hid hke
              go_wp2
              have hkk : LK 2 k = kd := by have := HE.out; have h9 := HKD.out; simp only [beq_iff_eq] at this; omega
              refine bodyPost_ret (v := .tuple #[.agg #[.int .i64 (D.op (LK 2 k) : Int), .int .i64 (D.sb (LK 2 k) : Int), .int .i64 (LK 2 k : Int), .string (D.fld (LK 2 k))], .bool true]) (by simp [results, Try.results27, go_sem, hc]) rfl ⟨by rw [hkk], ?_⟩
              have hb9 := below_then (below_new (w := w)) (hbq.mono (by simp)) (Nat.le_refl _)
              (repeat' (first | (with_reducible exact hb9) | (with_reducible apply bel_set) | (with_reducible apply bel_alloc) | (simp; done) | (simp; omega) | omega | (simp [World.setCell]; done) | (simp [World.setCell]; omega)))
          | zero =>
            obtain rfl : k = 15 := by omega
            clear hc hf
            go_wp2
            go_roundg g
            case measure => omega
            case rel => exact ⟨3, by omega, rfl, not1_next H1.out HK.out, hbq⟩
    | zero =>
      exfalso
      obtain rfl : T = 3 := by omega
      obtain ⟨U, hU, i, hi, e⟩ := lk_all kd (by omega) h1
      exact H1.out U hU i hi (by rw [e]; exact HKD.out.symm)
set_option maxHeartbeats 4000000 in
theorem find_no (kind : Int) (w : World) (hN : Hid (isK kind = false)) : Calls Try.prog 27 #[.int .i64 kind] w fun e w' => e = .returned (.tuple #[.agg #[.int .i64 0, .int .i64 0, .int .i64 0, .string ⟨#[]⟩], .bool false]) ∧ Below w.heap.size w w' := by
  go_enter Try.func27, Try.ntmps27
  go_wp2
  go_loopg [4] 3 (fun gh t wr => ∃ T : Nat, T + gh = 3 ∧ t = .int .i64 T ∧ Hid (Not1 T kind) ∧ Below (w.alloc (.cells #[.int .i64 0, .int .i64 0, .int .i64 0, .string ⟨#[]⟩] 52)).heap.size (w.alloc (.cells #[.int .i64 0, .int .i64 0, .int .i64 0, .string ⟨#[]⟩] 52)) wr)
  case atStart => exact ⟨0, by omega, rfl, fun U hU => absurd hU (by omega), Below.refl _ _⟩
  case round =>
    obtain ⟨T, hT, rfl, H1, hb⟩ := hrel
    cases gk with
    | succ g =>
      have hT3 : T = 0 ∨ T = 1 ∨ T = 2 := by omega
      rcases hT3 with rfl | rfl | rfl
      · go_wp2_with fail
        refine (special_any _).mono ?_
        rintro e w0 ⟨b0, rfl, hl0, ht0, hw0⟩
        have hp0 := below_then hb hw0 (Nat.le_refl _)
        have HT : Hid (Tb w0 b0 35 (LK 0)) := ht0
        have HBQ := Lib.hid hp0
        clear ht0
        go_wp2_with fail
        have hbq : Below (w.alloc (.cells #[.int .i64 0, .int .i64 0, .int .i64 0, .string ⟨#[]⟩] 52)).heap.size (w.alloc (.cells #[.int .i64 0, .int .i64 0, .int .i64 0, .string ⟨#[]⟩] 52)) w0 := HBQ.out
        go_loopg [6] 35 (fun ig i wx => ∃ k : Nat, k + ig = 35 ∧ i = .int .i64 k ∧ Hid (Not2 0 k kind) ∧ w0 = wx)
        case atStart => exact ⟨0, by omega, rfl, fun i hi => absurd hi (by omega), rfl⟩
        case round =>
          obtain ⟨k, hk, rfl, HK, rfl⟩ := hrel
          obtain ⟨hc, hf⟩ := bcell hbq
          have hz : w.heap.size < w0.heap.size := by have := hbq.size; simp at this; omega
          cases gk with
          | succ ig =>
            obtain ⟨q0, q1, q2, q3⟩ := tb_cells HT.out k (by omega)
            cases hke : ((LK 0 k : Int) == kind)
            · have HE := Lib.hid hke
              go_wp2
              go_roundg ig
              case measure => omega
              case rel => exact ⟨k + 1, by omega, by go_num, not2_next HK.out (by have := HE.out; simpa using this), rfl⟩
            · exfalso
              have := lk_rng 0 (by omega) k (by show k < 35; omega)
              have hq := hN.out
              simp only [beq_iff_eq, isK, decide_eq_false_iff_not] at hke hq
              omega
          | zero =>
            obtain rfl : k = 35 := by omega
            clear hc hf
            go_wp2
            go_roundg g
            case measure => omega
            case rel => exact ⟨1, by omega, rfl, not1_next H1.out HK.out, hbq⟩
      · go_wp2_with fail
        refine (special_any _).mono ?_
        rintro e w0 ⟨b0, rfl, hl0, ht0, hw0⟩
        have hp0 := below_then hb hw0 (Nat.le_refl _)
        go_wp2_with fail
        refine (plain_any _).mono ?_
        rintro e w1 ⟨b1, rfl, hl1, ht1, hw1⟩
        have hp1 := below_then hp0 hw1 (Nat.le_refl _)
        have HT : Hid (Tb w1 b1 27 (LK 1)) := ht1
        have HBQ := Lib.hid hp1
        clear ht1
        go_wp2_with fail
        have hbq : Below (w.alloc (.cells #[.int .i64 0, .int .i64 0, .int .i64 0, .string ⟨#[]⟩] 52)).heap.size (w.alloc (.cells #[.int .i64 0, .int .i64 0, .int .i64 0, .string ⟨#[]⟩] 52)) w1 := HBQ.out
        go_loopg [6] 27 (fun ig i wx => ∃ k : Nat, k + ig = 27 ∧ i = .int .i64 k ∧ Hid (Not2 1 k kind) ∧ w1 = wx)
        case atStart => exact ⟨0, by omega, rfl, fun i hi => absurd hi (by omega), rfl⟩
        case round =>
          obtain ⟨k, hk, rfl, HK, rfl⟩ := hrel
          obtain ⟨hc, hf⟩ := bcell hbq
          have hz : w.heap.size < w1.heap.size := by have := hbq.size; simp at this; omega
          cases gk with
          | succ ig =>
            obtain ⟨q0, q1, q2, q3⟩ := tb_cells HT.out k (by omega)
            cases hke : ((LK 1 k : Int) == kind)
            · have HE := Lib.hid hke
              go_wp2
              go_roundg ig
              case measure => omega
              case rel => exact ⟨k + 1, by omega, by go_num, not2_next HK.out (by have := HE.out; simpa using this), rfl⟩
            · exfalso
              have := lk_rng 1 (by omega) k (by show k < 27; omega)
              have hq := hN.out
              simp only [beq_iff_eq, isK, decide_eq_false_iff_not] at hke hq
              omega
          | zero =>
            obtain rfl : k = 27 := by omega
            clear hc hf
            go_wp2
            go_roundg g
            case measure => omega
            case rel => exact ⟨2, by omega, rfl, not1_next H1.out HK.out, hbq⟩
      · go_wp2_with fail
        refine (special_any _).mono ?_
        rintro e w0 ⟨b0, rfl, hl0, ht0, hw0⟩
        have hp0 := below_then hb hw0 (Nat.le_refl _)
        go_wp2_with fail
        refine (others_any _).mono ?_
        rintro e w1 ⟨b1, rfl, hl1, ht1, hw1⟩
        have hp1 := below_then hp0 hw1 (Nat.le_refl _)
        have HT : Hid (Tb w1 b1 15 (LK 2)) := ht1
        have HBQ := Lib.hid hp1
        clear ht1
        go_wp2_with fail
        have hbq : Below (w.alloc (.cells #[.int .i64 0, .int .i64 0, .int .i64 0, .string ⟨#[]⟩] 52)).heap.size (w.alloc (.cells #[.int .i64 0, .int .i64 0, .int .i64 0, .string ⟨#[]⟩] 52)) w1 := HBQ.out
        go_loopg [6] 15 (fun ig i wx => ∃ k : Nat, k + ig = 15 ∧ i = .int .i64 k ∧ Hid (Not2 2 k kind) ∧ w1 = wx)
        case atStart => exact ⟨0, by omega, rfl, fun i hi => absurd hi (by omega), rfl⟩
        case round =>
          obtain ⟨k, hk, rfl, HK, rfl⟩ := hrel
          obtain ⟨hc, hf⟩ := bcell hbq
          have hz : w.heap.size < w1.heap.size := by have := hbq.size; simp at this; omega
          cases gk with
          | succ ig =>
            obtain ⟨q0, q1, q2, q3⟩ := tb_cells HT.out k (by omega)
            cases hke : ((LK 2 k : Int) == kind)
            · have HE := Lib.hid hke
              go_wp2
              go_roundg ig
              case measure => omega
              case rel => exact ⟨k + 1, by omega, by go_num, not2_next HK.out (by have := HE.out; simpa using this), rfl⟩
            · exfalso
              have := lk_rng 2 (by omega) k (by show k < 15; omega)
              have hq := hN.out
              simp only [beq_iff_eq, isK, decide_eq_false_iff_not] at hke hq
              omega
          | zero =>
            obtain rfl : k = 15 := by omega
            clear hc hf
            go_wp2
            go_roundg g
            case measure => omega
            case rel => exact ⟨3, by omega, rfl, not1_next H1.out HK.out, hbq⟩
    | zero =>
      obtain rfl : T = 3 := by omega
      obtain ⟨hc, hf⟩ := bcell hb
      have hz : w.heap.size < wr.heap.size := by have := hb.size; simp at this; omega
      go_wp2
      refine bodyPost_ret (v := .tuple #[.agg #[.int .i64 0, .int .i64 0, .int .i64 0, .string ⟨#[]⟩], .bool false]) (by simp [results, Try.results27, go_sem, hc]) rfl ⟨rfl, ?_⟩
      have hb9 := below_then (below_new (w := w)) (hb.mono (by simp)) (Nat.le_refl _)
      (repeat' (first | (with_reducible exact hb9) | (with_reducible apply bel_set) | (with_reducible apply bel_alloc) | (simp; done) | (simp; omega) | omega | (simp [World.setCell]; done) | (simp [World.setCell]; omega)))
theorem find_yes (kd : Nat) (w : World) (h1 : 1 ≤ kd) (h2 : kd ≤ 77) : Calls Try.prog 27 #[.int .i64 (kd : Int)] w fun e w' => e = .returned (.tuple #[.agg #[.int .i64 (D.op kd : Int), .int .i64 (D.sb kd : Int), .int .i64 (kd : Int), .string (D.fld kd)], .bool true]) ∧ Below w.heap.size w w' := find_k kd _ w rfl h1 h2
end Go.Proofs.Ytmjlbffphaklgaa

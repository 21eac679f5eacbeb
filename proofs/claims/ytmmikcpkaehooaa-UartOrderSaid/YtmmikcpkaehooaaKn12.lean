/-
  Chapter 12: what is due is taken; some runs (function 'known').
-/
import Derived.Test.YtmmikcpkaehooaaMg12
namespace Go.Proofs.Ytmmikcpkaehooaa
open Go.RowKit
set_option linter.unusedVariables false
set_option linter.unusedSimpArgs false
section
variable {W0 w w' : World} {t g c1 c2 : Nat} {d : Int} {v v2 o o2 : Value} {S S2 : US}
theorem write_to (h : One W0 w t g c1 c2 d v o S) (x now : Int) (hS : sendT x now S = S2) (hl : S.goes.length < 16) (ha : 0 ≤ S.a ∧ S.a ≤ 1000000) (d0 : 0 ≤ d) (d1 : d < 16) (n0 : 0 ≤ now) (n1 : now ≤ 4611686018427387904) (x0 : 0 ≤ x) (x1 : x < 256) :
    Calls Try.prog 7 #[.pointer (some ⟨t, 0, none⟩), .int .u32 0, .int .u32 x, .int .i64 now] w (RetO (.bool true) W0 t g c1 c2 d S2) := hS ▸ write0_any x now h hl ha d0 d1 n0 n1 x0 x1
theorem type_to (h : One W0 w t g c1 c2 d v o S) (b : Int) (hS : typeT b S = S2) :
    Calls Try.prog 11 #[.pointer (some ⟨t, 0, none⟩), .int .u8 b] w (RetO (.tuple #[]) W0 t g c1 c2 d S2) := hS ▸ type_any b h
theorem read_to (h : One W0 w t g c1 c2 d v o S) (b : Int) {L : List Int} (hq : S.came = b :: L) (hS : { S with came := L } = S2) (b0 : 0 ≤ b) (b1 : b < 256) :
    Calls Try.prog 12 #[.pointer (some ⟨t, 0, none⟩), .int .u32 0] w (RetO (.tuple #[.int .u32 b, .bool true]) W0 t g c1 c2 d S2) := hS ▸ read0_byte b h hq b0 b1
theorem last_to (h : One W0 w t g c1 c2 d v o S) (b at_ : Int) (hq : S.goes = [b]) (hS : { S with goes := [], out := S.out ++ [b] } = S2) (hl : S.out.length ≤ 1000) :
    Calls Try.prog 9 #[.pointer (some ⟨t, 0, none⟩), .int .i64 at_] w (RetO (.tuple #[]) W0 t g c1 c2 d S2) := hS ▸ fire_last b at_ h hq hl
theorem more_to (h : One W0 w t g c1 c2 d v o S) (b x at_ : Int) {L : List Int} (hq : S.goes = b :: x :: L) (hS : { S with goes := x :: L, out := S.out ++ [b], q := some (at_ + 8, S.a), a := S.a + 1 } = S2) (hl : S.out.length ≤ 1000) (ha : 0 ≤ S.a ∧ S.a ≤ 1000000) (d0 : 0 ≤ d) (d1 : d < 16) (n0 : 0 ≤ at_) (n1 : at_ ≤ 4611686018427387904) :
    Calls Try.prog 9 #[.pointer (some ⟨t, 0, none⟩), .int .i64 at_] w (RetO (.tuple #[]) W0 t g c1 c2 d S2) := hS ▸ fire_more b x at_ h hq hl ha d0 d1 n0 n1
/-- Take of what is due -/
theorem take_yes (h : One W0 w t g c1 c2 d v o S) {x s : Int} (now : Int) (hq : S.q = some (x, s)) (hx : x ≤ now) (hS : { S with q := none } = S2) :
    Calls Try.prog 8 #[.pointer (some ⟨g, 0, none⟩), .int .i64 now] w (RetO (.tuple #[.agg #[.int .i64 x, .int .i64 d, .int .i64 s], .bool true]) W0 t g c1 c2 d S2) := by
  subst hS
  have hl := qL_len d S.q
  have hL : qL d S.q = [⟨x, d, s⟩] := by rw [hq]; rfl
  refine (take_any now h.wh (by omega)).mono ?_
  rintro e w1 ⟨rfl, v2, hw2, hc⟩
  rw [hL] at hw2 ⊢
  have hB : dueB now [⟨x, d, s⟩] = true := decide_eq_true hx
  unfold takeV takeE
  unfold takeL at hw2
  rw [hB] at hw2 ⊢
  exact ⟨rfl, v2, o, h.wheel (q := none) (a := S.a) hw2 hc⟩
theorem take_no (h : One W0 w t g c1 c2 d v o S) (now : Int) (hd : ∀ x s, S.q = some (x, s) → now < x) :
    Calls Try.prog 8 #[.pointer (some ⟨g, 0, none⟩), .int .i64 now] w (RetO (.tuple #[.agg #[.int .i64 0, .int .i64 0, .int .i64 0], .bool false]) W0 t g c1 c2 d S) := by
  have hl := qL_len d S.q
  have hB : dueB now (qL d S.q) = false := by
    cases hq : S.q with
    | none => rfl
    | some p =>
      obtain ⟨x, s⟩ := p
      have := hd x s hq
      exact decide_eq_false (show ¬ x ≤ now by omega)
  refine (take_any now h.wh (by omega)).mono ?_
  rintro e w1 ⟨rfl, v2, hw2, hc⟩
  unfold takeV takeE
  unfold takeL at hw2
  rw [hB] at hw2 ⊢
  exact ⟨rfl, v2, o, h.wheel (q := S.q) (a := S.a) hw2 hc⟩
end
theorem str_a : strL [65] = { data := #[65] } := by rfl

set_option maxHeartbeats 4000000 in
set_option maxRecDepth 100000 in
theorem known_any (w : World) : Calls Try.prog 13 #[] w (RetB (.bool true) w) := by
  have H1 : Hid (sendT 65 0 ⟨[], [], [], false, 0, none, 0⟩ = ⟨[], [65], [], false, 0, some (8, 0), 1⟩) := Lib.hid rfl
  have H2 : Hid ((⟨[], [], [] ++ [65], false, 0, none, 1⟩ : US) = ⟨[], [], [65], false, 0, none, 1⟩) := Lib.hid rfl
  have H3 : Hid (typeT 98 ⟨[], [], [65], false, 0, none, 1⟩ = ⟨[98], [], [65], false, 0, none, 1⟩) := Lib.hid rfl
  go_enter Try.func13, Try.ntmps13
  go_wp2_with fail
  refine (wnew_any w).mono ?_
  rintro e w1 ⟨g, hg, rfl, hw, hb⟩
  go_wp2_with fail
  with_reducible refine (unew_any 3 hg hb hw).mono ?_
  rintro e w2 ⟨t, c1, c2, rfl, o2⟩
  clear hg hw hb
  go_wp2_with fail
  with_reducible refine (write_to o2 65 0 H1.out (by decide) (by decide) (by omega) (by omega) (by omega) (by omega) (by omega) (by omega)).mono ?_
  rintro e w3 ⟨rfl, v3, u3, o3⟩
  clear o2
  go_wp2_with fail
  with_reducible refine (take_yes o3 8 rfl (by omega) rfl).mono ?_
  rintro e w4 ⟨rfl, v4, u4, o4⟩
  have o5 := o4.alloc (.cells #[.int .i64 8, .int .i64 3, .int .i64 0] 30)
  clear o3 o4
  go_wp2_with fail
  with_reducible refine (last_to o5 65 8 rfl H2.out (by decide)).mono ?_
  rintro e w6 ⟨rfl, v6, u6, o6⟩
  clear o5
  go_wp2_with fail
  with_reducible refine (type_to o6 98 H3.out).mono ?_
  rintro e w7 ⟨rfl, v7, u7, o7⟩
  clear o6
  go_wp2_with fail
  with_reducible refine (read_to o7 98 rfl rfl (by omega) (by omega)).mono ?_
  rintro e w8 ⟨rfl, v8, u8, o8⟩
  clear o7
  go_wp2_with fail
  with_reducible refine (read0_none o8 rfl).mono ?_
  rintro e w9 ⟨rfl, rfl⟩
  go_wp2_with fail
  with_reducible refine (out_any o8 (by decide)).mono ?_
  rintro e w10 ⟨u, rfl, hO, hb10⟩
  have o10 := o8.below hb10
  have hcv : (convert 22 9 u).run Try.prog w10 = .ok (.string { data := #[65] }) w10 := conv_own hO
  have hbl := o10.bl
  clear hO o8 o10
  go_wp2
  go_ret
  exact ⟨rfl, hbl⟩
end Go.Proofs.Ytmmikcpkaehooaa

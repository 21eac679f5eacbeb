/-
  Chapter 14: Bytes, do, Fire of package disk.
-/
import Derived.Test.YtifhnidcdfpabaaDn14
namespace Go.Proofs.Ytifhnidcdfpabaa
open Go.RowKit
set_option linter.unusedVariables false
set_option linter.unusedSimpArgs false
section
variable {w : World} {x g r y : Nat} {O : Nat → Prop} {p n : Nat} {d : Int} {v : Value} {S : DS}
/-- what Bytes leaves: the disk's bytes in new memory -/
def BytesD (w : World) (n : Nat) (D : Nat → Int) (e : Ending) (w' : World) : Prop :=
  ∃ v, e = .returned v ∧ ByAt (fun k => w.heap.size ≤ k) w' v (64 * n) D ∧ Fr (fun _ => False) w w'
theorem ByAt.one {Q : Nat → Prop} {w : World} {v : Value} {n : Nat} {f : Nat → Int} (h : ByAt Q w v n f) : ∃ sp c, v = .slice sp n c ∧ (0 < n → ∃ ad, sp = some ad ∧ ∀ j, j < n → w.cell? (ad.add j) = some (.int .u8 (f j))) := by
  rcases h with ⟨c, rfl, rfl⟩ | ⟨ad, c, rfl, _, _, hi⟩
  · exact ⟨none, c, rfl, fun h => absurd h (by omega)⟩
  · exact ⟨some ad, c, rfl, fun _ => ⟨ad, rfl, fun j hj => (hi j hj).1⟩⟩
theorem fr_new0 {w w' : World} (h : w.grownBy w' none) : Fr (fun _ => False) w w' := ⟨h.os, h.tape, h.output, h.size, fun k hk _ => h.block k hk (by simp)⟩
set_option maxRecDepth 100000 in
set_option maxHeartbeats 1000000 in
theorem dbytes_any (h : Dk w x g r y O p n d v S) (hn : n ≤ 64) :
    Calls Try.prog 18 #[.pointer (some ⟨x, 0, none⟩)] w (BytesD w n S.D) := by
  have k3 := h.k3
  obtain ⟨i0, hi, hi3⟩ := Option.map_eq_some_iff.1 info_u8
  simp only [Prod.mk.injEq] at hi3
  obtain ⟨hz0, hz1, hz2⟩ := hi3
  have HII := Lib.hid hi
  have HZ0 := Lib.hid hz0
  have HZ1 := Lib.hid hz1
  have HZ2 := Lib.hid hz2
  clear hi hz0 hz1 hz2
  have hown : w.ownsRow w.heap.size 5 1 (.slice none 0 0) 0 [] := World.ownsRow_nil _ _ _ _
  go_enter Try.func18, Try.ntmps18
  go_wp2_with (at_builtin; refine wpList_append_own_at _ rfl _ (.tmp 6) 28 rfl w.heap.size 5 i0 (.int .u8 0) 1 1 Try.underlying28 HII.out HZ0.out HZ1.out HZ2.out rfl (by decide) _ _ _ rfl hown ⟨y, 0, none⟩ (64 * n) (64 * n) ((List.range (64 * n)).map fun i => Value.int .u8 (S.D i)) rfl (by simp) ?hnews (by intro u hu; simp at hu; obtain ⟨j, _, rfl⟩ := hu; rfl) (by unfold maxLen; omega) (by omega) (Nat.le_refl _) ?_)
  case hnews =>
    intro j u hj
    have hjn : j < 64 * n := by
      rcases Nat.lt_or_ge j (64 * n) with q | q
      · exact q
      · rw [List.getElem?_eq_none (by simpa using q)] at hj; cases hj
    rw [List.getElem?_map, List.getElem?_range hjn] at hj
    have e : Value.int .u8 (S.D j) = u := by simpa using hj
    rw [← e, show (⟨y, 0, none⟩ : Addr).add j = ⟨y, 0 + j, none⟩ by unfold Addr.add; split <;> simp_all, Nat.zero_add]
    exact h.mm.row.cell (i := j) hjn
  intro v1 w1 hown1 hgrow1 _ _
  go_wp2
  go_ret
  refine ⟨_, rfl, ?_, fr_new0 hgrow1⟩
  exact byAt_own (by simpa using hown1) h.mm.bD
theorem elem_u8 : Try.prog.elem 28 = 5 := by kernel_rfl
theorem und_u8 : Try.prog.underlying 28 = some (.slice (Try.prog.elem 28)) := by kernel_rfl
theorem size1_u8 (w : World) : (sizeOf (Try.prog.elem 28)).run Try.prog w = .ok 1 w := by
  obtain ⟨i0, hi, hi3⟩ := Option.map_eq_some_iff.1 info_u8
  simp only [Prod.mk.injEq] at hi3
  obtain ⟨hz0, hz1, hz2⟩ := hi3
  rw [elem_u8]
  simp [sizeOf, typeInfo, hi, hz1]
theorem slice_a (y Z n : Nat) (h : Z < n) (hn : n ≤ 64) : ∀ w, (Instr.slice 28 (.slice (some ⟨y, 0, none⟩) (64 * n) (64 * n)) (some (.int .u32 (IntKind.u32.wrap ((Z : Int) * 64)))) none none).run Try.prog w = .ok (.slice (some ⟨y, Z * 64, none⟩) (64 * n - Z * 64) (64 * n - Z * 64)) w := by
  intro w
  have e : IntKind.u32.wrap ((Z : Int) * 64) = (Z * 64 : Nat) := by rw [IntKind.wrap_u32]; omega
  rw [e, run_slice_l (ht := und_u8) (h0 := by omega) (h1 := by omega), size1_u8]
  show Result.ok (sliced (some ⟨y, 0, none⟩) (((Z * 64 : Nat) : Int).toNat) (64 * n) (64 * n) 1) w = _
  unfold sliced
  rw [if_neg (by omega), Int.toNat_natCast]
  show Result.ok (Value.slice (some ((⟨y, 0, none⟩ : Addr).add (Z * 64 * 1))) (64 * n - Z * 64) (64 * n - Z * 64)) w = _
  rw [add_none, Nat.mul_one, Nat.zero_add]
theorem slice_b (y Z n : Nat) (h : Z < n) : ∀ w, (Instr.slice 28 (.slice (some ⟨y, Z * 64, none⟩) (64 * n - Z * 64) (64 * n - Z * 64)) none (some (.int .i64 64)) none).run Try.prog w = .ok (.slice (some ⟨y, Z * 64, none⟩) 64 (64 * n - Z * 64)) w := by
  intro w
  rw [run_slice_h (ht := und_u8) (h0 := by omega) (h2 := by omega), size1_u8]
  show Result.ok (sliced (some ⟨y, Z * 64, none⟩) 0 64 (64 * n - Z * 64) 1) w = _
  unfold sliced
  rw [if_neg (by omega)]
  show Result.ok (Value.slice (some ((⟨y, Z * 64, none⟩ : Addr).add (0 * 1))) (64 - 0) (64 * n - Z * 64 - 0)) w = _
  rw [add_none]
  rfl
set_option maxRecDepth 100000 in
set_option maxHeartbeats 1000000 in
theorem ddo_any (h : Dk w x g r y O p n d v S) (hn : n ≤ 64) (z0 : 0 ≤ S.z) (z1 : S.z < 4294967296) (t0 : 0 ≤ S.t) (t1 : S.t < 4294967296) :
    Calls Try.prog 37 #[.pointer (some ⟨x, 0, none⟩)] w (RetD (.bool (okK p n S)) w x g r y O p n d v (doN p n S)) := by
  have hd : Dk w.drew x g r y O p n d v S := h.drewN 1
  obtain ⟨Z, hZ⟩ : ∃ Z : Nat, S.z = Z := ⟨S.z.toNat, by omega⟩
  obtain ⟨T, hT⟩ : ∃ T, S.t = T := ⟨_, rfl⟩
  obtain ⟨c, hC⟩ : ∃ c, S.c = c := ⟨_, rfl⟩
  have q4 : ∀ {w1 : World} {v1 : Value} {S1 : DS}, Dk w1 x g r y O p n d v1 S1 → S1.z = S.z → w1.cell? ⟨x, 4, none⟩ = some (.int .u32 Z) := fun h1 e1 => by rw [← hZ, ← e1]; exact h1.k4
  have q5 : ∀ {w1 : World} {v1 : Value} {S1 : DS}, Dk w1 x g r y O p n d v1 S1 → S1.t = S.t → w1.cell? ⟨x, 5, none⟩ = some (.int .u32 T) := fun h1 e1 => by rw [← hT, ← e1]; exact h1.k5
  have q6 : ∀ {w1 : World} {v1 : Value} {S1 : DS}, Dk w1 x g r y O p n d v1 S1 → S1.c = S.c → w1.cell? ⟨x, 6, none⟩ = some (.int .u32 c) := fun h1 e1 => by rw [← hC, ← e1]; exact h1.k6
  have x4 : w.drew.cell? ⟨x, 4, none⟩ = some (.int .u32 Z) := q4 hd rfl
  have HWn : Hid (IntKind.u32.wrap (n : Int) = n) := by show _ = _; rw [IntKind.wrap_u32]; omega
  by_cases hzn : Z < n
  · have hzI : decide ((n : Int) ≤ (Z : Int)) = false := decide_eq_false (by omega)
    have HM64 : Hid (IntKind.u32.wrap ((Z : Int) * 64) = (64 * Z : Nat)) := by show _ = _; rw [IntKind.wrap_u32]; omega
    go_enter Try.func37, Try.ntmps37
    go_wp2_with fail
    go_region_held3 (fun w' => w'.cell? ⟨x, 4, none⟩ = some (.int .u32 Z)) (first | with_reducible exact x4)
      (first
        | (go_at_call 11; (with_reducible refine (dsect_any hd hn).mono ?_); rintro e w4 ⟨rfl, rfl⟩))
    rw [HWn.out]
    have C2 : CD x g O v v w w.drew := CD.drewN x g O v w 1
    clear x4
    generalize w.drew = w2 at hd C2 ⊢
    have hd2 : Dk w2.drew x g r y O p n d v S := hd.drewN 1
    have u4 : w2.cell? ⟨x, 4, none⟩ = some (.int .u32 Z) := q4 hd rfl
    have u3 := hd.k3
    have hs1 := slice_a y Z n hzn hn
    have hs2 := slice_b y Z n hzn
    go_wp2_with fail
    go_region
    clear hs1 hs2
    have hd3 : Dk w2.drew x g r y O p n d v S := hd2
    have C3 : CD x g O v v w w2.drew := C2.trans (CD.drewN x g O v w2 1)
    have hn64 : 64 * n ≤ 4096 := by omega
    clear u3 u4 hd hd2
    generalize w2.drew = w3 at hd3 C3 ⊢
    have u6 := q6 hd3 rfl
    have HZN := Lib.hid hzn
    have HP : ∀ {w1 : World}, Mk 85 w1 r y O p n S.C S.D → ByAt (fun k => k = y) w1 (.slice (some ⟨y, Z * 64, none⟩) 64 (64 * n - Z * 64)) 64 (fun i => S.D (Z * 64 + i)) := fun hm => hm.part (Z * 64) 64 (64 * n - Z * 64) (by omega) (by omega)
    by_cases hc1 : c = 1
    · subst hc1
      have HN : Hid (okK p n S = inB p T 64) := by show _ = _; unfold okK; rw [hZ, hC, hT, decide_eq_true (by omega)]; rfl
      have HU : Hid (doN p n S = { S with C := uC p S.C T 64 (fun i => S.D (Z * 64 + i)) }) := by
        show _ = _
        unfold doN uC
        rw [HN.out]
        cases inB p T 64
        · rfl
        · show doD S = _
          rw [do_read hC]
          unfold rdC
          rw [hT, hZ]
          rfl
      have hm4 : Mk 85 w3.drew r y O p n S.C S.D := (hd3.drewN 1).mm
      have hd4 : Dk w3.drew x g r y O p n d v S := hd3.drewN 1
      have hB4 := HP hm4
      have x2 : w3.drew.cell? ⟨x, 2, none⟩ = some (.pointer (some ⟨r, 0, none⟩)) := hd4.k2
      have x5 : w3.drew.cell? ⟨x, 5, none⟩ = some (.int .u32 T) := q5 hd4 rfl
      rw [hT] at t0 t1
      clear hZ hT hC z0 z1 hzI hzn
      go_wp2_with fail
      go_region_held3 (fun w' => w'.cell? ⟨x, 2, none⟩ = some (.pointer (some ⟨r, 0, none⟩)) ∧ w'.cell? ⟨x, 5, none⟩ = some (.int .u32 T)) (first | with_reducible exact ⟨x2, x5⟩ | with_reducible exact ⟨y2, y5⟩)
        (first
          | (go_at_call 13; (with_reducible refine (kput_any (w := w3.drew) T _ 64 (fun i => S.D (Z * 64 + i)) hm4 hB4 t0 t1 (by omega)).mono ?_); rintro e w6 ⟨rfl, hm6, hF6⟩; have h6 := hd4.mem hm6 hF6; have y2 := h6.k2; have y5 : w6.cell? ⟨x, 5, none⟩ = some (.int .u32 T) := q5 h6 rfl))
      go_wp2
      go_ret
      exact ⟨by rw [HN.out]; rfl, v, by rw [HU.out]; exact h6, (C3.trans (CD.drewN x g O v w3 1)).trans (CD.of_mem hF6)⟩
    · by_cases hc2 : c = 2
      · subst hc2
        have HN : Hid (okK p n S = inB p T 64) := by show _ = _; unfold okK; rw [hZ, hC, hT, decide_eq_true (by omega)]; rfl
        have HU : Hid (doN p n S = match inB p T 64 with | true => { S with D := putC S.D (Z * 64) 64 (fun i => S.C (T.toNat + i)) } | false => S) := by
          show _ = _
          unfold doN
          rw [HN.out]
          cases inB p T 64
          · rfl
          · show doD S = _
            rw [do_write (by rw [hC]; omega)]
            unfold wtD
            rw [hT, hZ]
            rfl
        have hm4 : Mk 85 w3.drew r y O p n S.C S.D := (hd3.drewN 1).mm
        have hd4 : Dk w3.drew x g r y O p n d v S := hd3.drewN 1
        have x2 : w3.drew.cell? ⟨x, 2, none⟩ = some (.pointer (some ⟨r, 0, none⟩)) := hd4.k2
        have x5 : w3.drew.cell? ⟨x, 5, none⟩ = some (.int .u32 T) := q5 hd4 rfl
        rw [hT] at t0 t1
        clear hZ hT hC z0 z1 hzI hzn
        go_wp2_with fail
        go_region_held3 (fun w' => w'.cell? ⟨x, 2, none⟩ = some (.pointer (some ⟨r, 0, none⟩)) ∧ w'.cell? ⟨x, 5, none⟩ = some (.int .u32 T)) (first | with_reducible exact ⟨x2, x5⟩ | with_reducible exact ⟨y2, y5⟩)
          (first
            | (go_at_call 17; (with_reducible refine (kbytes_any (w := w3.drew) T 64 hm4 t0 t1 (by omega) (by omega)).mono ?_); rintro e w6 ⟨u, rfl, hB6, hF6⟩; have h6 := hd4.no hF6; have y2 := h6.k2; have y5 : w6.cell? ⟨x, 5, none⟩ = some (.int .u32 T) := q5 h6 rfl))
        have C6 : CD x g O v v w w6 := (C3.trans (CD.drewN x g O v w3 1)).trans (CD.of_no hF6)
        have hr6 := h6.mm.row
        cases hi : inB p T 64
        · have HI := Lib.hid hi
          have hcn : cnt p T 64 = 0 := by unfold cnt; rw [hi]
          rw [hcn] at hB6
          obtain ⟨sp, cp, rfl, hcell⟩ := hB6.one
          clear hcn hi hB6 y2 y5
          go_wp2_with (with_reducible refine wpList_copy_row rfl (.tmp 55) (.tmp 56) 28 28 rfl 5 Try.underlying28 size_u8 _ _ _ _ _ _ rfl rfl y (Z * 64) (64 * n) 5 _ hr6 0 ?hmin (fun i => .int .u8 0) ?hpos (by have := HZN.out; omega) (fun _ => rfl) ?_)
          case hmin => exact (Nat.min_eq_left (by omega)).symm
          try (case hpos => intro hp; exact absurd hp (by omega))
          intro w7 hr7 hf7
          have hr8 : w7.rowIs y 5 (64 * n) (fun i => .int .u8 (S.D i)) := hr7.congr fun i _ => by rw [if_neg (by omega)]
          have h7 : Dk w7 x g r y O p n d v { S with C := S.C, D := S.D } := h6.same hr8 hf7
          go_wp2
          go_ret
          exact ⟨by rw [HN.out, HI.out]; rfl, v, by rw [HU.out, HI.out]; exact h7, C6.trans (CD.of_mem (h6.mm.fr_row hf7))⟩
        · have HI := Lib.hid hi
          have hcn : cnt p T 64 = 64 := by unfold cnt; rw [hi]; rfl
          rw [hcn] at hB6
          obtain ⟨sp, cp, rfl, hcell⟩ := hB6.one
          have HCB := Lib.hid (fun j (hj : j < 64) => hB6.bounds j hj)
          obtain ⟨ad, rfl, hcell2⟩ := hcell (by omega)
          have HCE := Lib.hid hcell2
          clear hcn hi hB6 y2 y5 hcell hcell2
          go_wp2_with (with_reducible refine wpList_copy_row rfl (.tmp 55) (.tmp 56) 28 28 rfl 5 Try.underlying28 size_u8 _ _ _ _ _ _ rfl rfl y (Z * 64) (64 * n) 5 _ hr6 64 ?hmin2 (fun i => .int .u8 (S.C (T.toNat + i))) ?hpos2 (by have := HZN.out; omega) (fun _ => rfl) ?_)
          case hmin2 => rfl
          case hpos2 => first | (intro _; exact ⟨rfl, _, rfl, HCE.out⟩) | exact fun _ => HCE.out | exact HCE.out
          intro w7 hr7 hf7
          obtain ⟨hk7, hf8⟩ := h6.mm.setRow (f := fun i => S.C (T.toNat + i)) hr7 hf7 HCB.out
          have h7 := h6.mem hk7 hf8
          go_wp2
          go_ret
          exact ⟨by rw [HN.out, HI.out]; rfl, v, by rw [HU.out, HI.out]; exact h7, C6.trans (CD.of_mem hf8)⟩
      · have HN : Hid (okK p n S = false) := by
          show _ = _
          unfold okK
          rw [hC, decide_eq_false hc1, decide_eq_false hc2]
          exact Bool.and_false _
        have hb1 : (c == 1) = false := beq_false_of_ne hc1
        have hb2 : (c == 2) = false := beq_false_of_ne hc2
        go_wp2
        go_ret
        exact ⟨by rw [HN.out]; rfl, v, by unfold doN; rw [HN.out]; exact hd3, C3⟩
  · have HN : Hid (okK p n S = false) := by show _ = _; unfold okK; rw [hZ, decide_eq_false (by omega)]; rfl
    go_enter Try.func37, Try.ntmps37
    go_wp2_with fail
    go_region_held3 (fun w' => w'.cell? ⟨x, 4, none⟩ = some (.int .u32 Z)) (first | with_reducible exact x4)
      (first
        | (go_at_call 11; (with_reducible refine (dsect_any hd hn).mono ?_); rintro e w4 ⟨rfl, rfl⟩))
    rw [HWn.out]
    go_wp2
    go_ret
    exact ⟨by rw [HN.out]; rfl, v, by unfold doN; rw [HN.out]; exact hd, CD.drewN x g O v w 1⟩
set_option maxRecDepth 100000 in
set_option maxHeartbeats 1000000 in
theorem dfire_any (now : Int) (h : Dk w x g r y O p n d v S) (hn : n ≤ 64) (z0 : 0 ≤ S.z) (z1 : S.z < 4294967296) (t0 : 0 ≤ S.t) (t1 : S.t < 4294967296) :
    Calls Try.prog 16 #[.pointer (some ⟨x, 0, none⟩), .int .i64 now] w (RetD (.tuple #[]) w x g r y O p n d v (fiD p n S)) := by
  have k7 := h.k7
  have f7 := h.row.frozen 7
  obtain ⟨s, hs⟩ : ∃ s, sw S.bz S.dn S.er = s := ⟨_, rfl⟩
  rw [hs] at k7
  obtain ⟨s2, hs2⟩ : ∃ s2, Hid (bits .andNot .u32 s 1 = s2) := ⟨_, Lib.hid rfl⟩
  obtain ⟨s3, hs3⟩ : ∃ s3, Hid (bits .or .u32 s2 2 = s3) := ⟨_, Lib.hid rfl⟩
  have e2 : s2 = sw false S.dn S.er := by rw [← hs2.out, ← hs]; exact sw_not1 _ _ _
  have e3 : s3 = sw false true S.er := by rw [← hs3.out, e2]; exact sw_or2 _ _ _
  have h2 := h.setS s2 false S.dn S.er e2
  have H3 : Hid (Dk ((w.setCell ⟨x, 7, none⟩ (.int .u32 s2)).setCell ⟨x, 7, none⟩ (.int .u32 s3)) x g r y O p n d v { S with bz := false, dn := true }) := h2.setS s3 false true S.er e3
  have C3 : CD x g O v v w ((w.setCell ⟨x, 7, none⟩ (.int .u32 s2)).setCell ⟨x, 7, none⟩ (.int .u32 s3)) := (CD.set x g O v w 7 _).trans (CD.set x g O v _ 7 _)
  clear hs e2 e3 h2
  cases hb : okK p n S
  · have HM : Hid (okK p n { S with bz := false, dn := true } = false) := hb
    have HF : Hid (fiD p n S = { S with bz := false, dn := true, er := true }) := by show _ = _; unfold fiD; rw [hb]
    have HC : Hid (doN p n { S with bz := false, dn := true } = { S with bz := false, dn := true }) := by show _ = _; unfold doN; rw [HM.out]
    clear hb
    go_enter Try.func16, Try.ntmps16
    go_wp2_with fail
    rw [hs2.out, hs3.out]
    generalize (w.setCell ⟨x, 7, none⟩ (.int .u32 s2)).setCell ⟨x, 7, none⟩ (.int .u32 s3) = w3 at H3 C3 ⊢
    with_reducible refine (ddo_any H3.out hn z0 z1 t0 t1).mono ?_
    rintro e w4 ⟨rfl, v4, h4, hc4⟩
    rw [HC.out] at h4
    rw [HM.out]
    have k7' := h4.k7
    have f7' := h4.row.frozen 7
    obtain ⟨s4, hs4⟩ : ∃ s4, sw false true S.er = s4 := ⟨_, rfl⟩
    obtain ⟨s5, hs5⟩ : ∃ s5, Hid (bits .or .u32 s4 4 = s5) := ⟨_, Lib.hid rfl⟩
    have H5 : Hid (Dk (w4.setCell ⟨x, 7, none⟩ (.int .u32 s5)) x g r y O p n d v4 { S with bz := false, dn := true, er := true }) := h4.setS s5 false true true (by rw [← hs5.out, ← hs4]; exact sw_or4 _ _ _)
    have k8 : w4.cell? ⟨x, 7, none⟩ = some (.int .u32 s4) := by rw [← hs4]; exact k7'
    clear hs4 k7'
    go_wp2
    rw [hs5.out]
    go_end0
    exact ⟨rfl, v4, by rw [HF.out]; exact H5.out, (C3.trans hc4).trans (CD.set x g O v4 w4 7 _)⟩
  · have HM : Hid (okK p n { S with bz := false, dn := true } = true) := hb
    have HF : Hid (fiD p n S = doD { S with bz := false, dn := true }) := by show _ = _; unfold fiD; rw [hb]; rfl
    have HC : Hid (doN p n { S with bz := false, dn := true } = doD { S with bz := false, dn := true }) := by show _ = _; unfold doN; rw [HM.out]
    clear hb
    go_enter Try.func16, Try.ntmps16
    go_wp2_with fail
    rw [hs2.out, hs3.out]
    generalize (w.setCell ⟨x, 7, none⟩ (.int .u32 s2)).setCell ⟨x, 7, none⟩ (.int .u32 s3) = w3 at H3 C3 ⊢
    with_reducible refine (ddo_any H3.out hn z0 z1 t0 t1).mono ?_
    rintro e w4 ⟨rfl, v4, h4, hc4⟩
    rw [HC.out] at h4
    rw [HM.out]
    go_wp2
    go_end0
    exact ⟨rfl, v4, by rw [HF.out]; exact h4, C3.trans hc4⟩
end
end Go.Proofs.Ytifhnidcdfpabaa

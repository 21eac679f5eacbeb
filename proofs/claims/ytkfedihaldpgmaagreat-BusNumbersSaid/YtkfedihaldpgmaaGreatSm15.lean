/-
  Chapter 15: function 'same': both tell the same of Next, Raised, Events, Out and Disk.
-/
import Derived.Test.YtkfedihaldpgmaaGreatTw15
import Derived.Deep.RegionHeld3
import Derived.Deep.RegionWith
import Derived.Deep.DeepCutAuto
import Derived.Deep.CutBlock
namespace Go.Proofs.YtkfedihaldpgmaaGreat
open Go.RowKit
set_option linter.unusedVariables false
set_option linter.unusedSimpArgs false
theorem row_by {w : World} {X N : Nat} {f : Nat → Int} (h : w.rowIs X 5 N (fun i => .int .u8 (f i))) (hb : ∀ i, 0 ≤ f i ∧ f i ≤ 255) : ByAt (fun _ => True) w (.slice (some ⟨X, 0, none⟩) N N) N f :=
  .inr ⟨⟨X, 0, none⟩, N, rfl, Nat.le_refl _, fun _ => ⟨rfl, trivial⟩, fun i hi => ⟨by rw [add_none, Nat.zero_add]; exact h.cell hi, hb i⟩⟩
/-- the disk's bytes as a text -/
theorem Mk.dtext {T : TypeId} {w : World} {r y : Nat} {O : Nat → Prop} {p n : Nat} {C D : Nat → Int} (h : Mk T w r y O p n C D) : (convert 24 9 (.slice (some ⟨y, 0, none⟩) (64 * n) (64 * n))).run Tryz.prog w = .ok (.string (strN (64 * n) D)) w := conv_any (row_by h.row h.bD)
/-- 'take first', the slot named -/
theorem take_d {PP : Program} {md : Region.Mode} {ops : Array Oper} {QQ : Exit → Act → World → Prop} {SS : World → Prop} {i : Nat} (d : Option Tmp) {oi : Oper} {v : Value} {fuel : Nat} {listed : Array Bool} {a : Act} {w : World} (hi : ops[i]? = some oi) (hd : oi.dst = d)
    (hs : Region.noSelect ops = true) (hf : Region.free md ops listed i = true) (hr : (Region.ready md ops listed).contains i = true) (hQ : ∀ c a w, QQ (.panic c) (a.put d v) w → QQ (.panic c) a w) (hy : YieldsIf PP ops SS oi v a) (hS : SS w)
    (h : wpAnyH PP md ops QQ SS fuel (listed.setIfInBounds i true) (a.put d v) w) : wpAnyH PP md ops QQ SS (fuel + 1) listed a w := by
  subst hd
  exact wpAnyH_take hi hs hf hr hQ hy hS h
section
variable {W0 w : World} {G : PG} {m r y : Nat} {O : Nat → Prop} {U : PV} {V : SV} {S : BS}
set_option maxRecDepth 100000 in
set_option maxHeartbeats 8000000 in
theorem bsame_any (h : Two W0 G m r y O w U V S S) (hl : S.L.length ≤ 990000) (hlo : S.out.length ≤ 1000000) (hn : G.n ≤ 64) :
    Calls Tryz.prog 11 #[.pointer (some ⟨G.b, 0, none⟩), .pointer (some ⟨m, 0, none⟩)] w fun e w' => e = .returned (.bool true) ∧ Two W0 G m r y O w' U V S S ∧ Fr (fun _ => False) w w' := by
  obtain ⟨vu, vc, vg, vo⟩ := V
  obtain ⟨B1, c1, rfl, _⟩ : ∃ A c, vu = .slice A S.L.length c ∧ S.L.length ≤ c := let ⟨A, c, e, hc, _⟩ := (Wb.ev h.tb.wb).form; ⟨A, c, e, hc⟩
  obtain ⟨B2, c2, rfl, _⟩ : ∃ A c, vo = .slice A S.out.length c ∧ S.out.length ≤ c := let ⟨A, c, e, hc, _⟩ := own_form h.tb.oo.1; ⟨A, c, e, hc⟩
  have HN := Lib.hid (bnext_any h.ta)
  have HM := Lib.hid (rnext_any h.tb)
  have hT0 : Two W0 G m r y O w.drew U ⟨.slice B1 S.L.length c1, vc, vg, .slice B2 S.out.length c2⟩ S S := h.drewN 1
  obtain ⟨so, hso⟩ : ∃ so, strL S.out = so := ⟨_, rfl⟩
  obtain ⟨sd, hsd⟩ : ∃ sd, strN (64 * G.n) S.D = sd := ⟨_, rfl⟩
  obtain ⟨rb, hrb⟩ : ∃ rb, raisB S.up S.ask = rb := ⟨_, rfl⟩
  have HSO := Lib.hid hso
  have HSD := Lib.hid hsd
  have HRB := Lib.hid hrb
  clear hso hsd hrb
  have a0 : w.drew.cell? ⟨m, 1, none⟩ = some (.slice B1 S.L.length c1) := Wb.c0 hT0.tb.wb
  have b0 : w.drew.cell? ⟨m, 13, none⟩ = some (.slice B2 S.out.length c2) := hT0.tb.b13
  have d0 := hT0.tb.b22
  have o0 : (convert 24 9 (.slice B2 S.out.length c2)).run Tryz.prog w.drew = .ok (.string so) w.drew := HSO.out ▸ conv_own hT0.tb.oo.1
  have y0 : (convert 24 9 (.slice (some ⟨y, 0, none⟩) (64 * G.n) (64 * G.n))).run Tryz.prog w.drew = .ok (.string sd) w.drew := HSD.out ▸ hT0.tb.mm.dtext
  have hF0 : Fr (fun _ => False) w w.drew := (Fr.refl (fun _ => False) w).drewN 1
  clear h
  go_enter Tryz.func11, Tryz.ntmps11
  go_wp2_with fail
  with_reducible refine HN.out.mono ?_
  rintro e w1 ⟨rfl, rfl⟩
  go_wp2_with fail
  with_reducible refine HM.out.mono ?_
  rintro e w1 ⟨rfl, rfl⟩
  go_wp2_with fail
  refine wp_region_noPanic ?_
  refine wp_region_held_drew (S := fun w' => w'.cell? ⟨m, 1, none⟩ = some (.slice B1 S.L.length c1) ∧ w'.cell? ⟨m, 13, none⟩ = some (.slice B2 S.out.length c2) ∧ w'.cell? ⟨m, 22, none⟩ = some (.slice (some ⟨y, 0, none⟩) (64 * G.n) (64 * G.n)) ∧ (convert 24 9 (.slice B2 S.out.length c2)).run Tryz.prog w' = .ok (.string so) w' ∧ (convert 24 9 (.slice (some ⟨y, 0, none⟩) (64 * G.n) (64 * G.n))).run Tryz.prog w' = .ok (.string sd) w') (by kernel_rfl) ⟨a0, b0, d0, o0, y0⟩ (fun hH0 => ?_)
  refine take_d (i := 0) (some 19) (v := ?_) rfl rfl (by kernel_rfl) (by kernel_rfl) (by kernel_rfl) (fun _ _ _ h => h) (Or.inl ⟨by rfl, ?_⟩) hH0 ?_
  rotate_left
  · (intro w hSw; (try dsimp only at hSw); go_simp; try with_reducible rfl)
  try simp only [Act.put, List.setIfInBounds_toArray, List.set_cons_zero, List.set_cons_succ]
  refine take_d (i := 2) (some 21) (v := ?_) rfl rfl (by kernel_rfl) (by kernel_rfl) (by kernel_rfl) (fun _ _ _ h => h) (Or.inl ⟨by rfl, ?_⟩) hH0 ?_
  rotate_left
  · (intro w hSw; (try dsimp only at hSw); go_simp; try with_reducible rfl)
  try simp only [Act.put, List.setIfInBounds_toArray, List.set_cons_zero, List.set_cons_succ]
  refine wpAnyH_ready (rs := [1]) (by kernel_rfl) (by simp) ?_
  refine AllReadyH.cons rfl (fun K hK => ?_) AllReadyH.nil
  go_simp
  go_at_call 36
  with_reducible refine (braised_any hT0.ta).mono ?_
  rintro e w1 ⟨rfl, n1, rfl⟩
  have hT1 := hT0.drewN n1
  have hF1 : Fr (fun _ => False) w (w.drew.drewN n1) := hF0.drewN n1
  have a1 : (w.drew.drewN n1).cell? ⟨m, 1, none⟩ = some (.slice B1 S.L.length c1) := Wb.c0 hT1.tb.wb
  have b1 : (w.drew.drewN n1).cell? ⟨m, 13, none⟩ = some (.slice B2 S.out.length c2) := hT1.tb.b13
  have d1 := hT1.tb.b22
  have o1 : (convert 24 9 (.slice B2 S.out.length c2)).run Tryz.prog (w.drew.drewN n1) = .ok (.string so) (w.drew.drewN n1) := HSO.out ▸ conv_own hT1.tb.oo.1
  have y1 : (convert 24 9 (.slice (some ⟨y, 0, none⟩) (64 * G.n) (64 * G.n))).run Tryz.prog (w.drew.drewN n1) = .ok (.string sd) (w.drew.drewN n1) := HSD.out ▸ hT1.tb.mm.dtext
  clear hT0 a0 b0 d0 o0 y0
  rw [HRB.out]
  generalize w.drew.drewN n1 = w1 at hF1 hT1 a1 b1 d1 o1 y1 ⊢
  go_wp2_with fail
  refine hK.out _ _ (⟨a1, b1, d1, o1, y1⟩) (fun hH1 => ?_)
  clear hK K hH0
  try simp only [Act.put, List.setIfInBounds_toArray, List.set_cons_zero, List.set_cons_succ]
  refine wpAnyH_ready (rs := [3]) (by kernel_rfl) (by simp) ?_
  refine AllReadyH.cons rfl (fun K hK => ?_) AllReadyH.nil
  go_simp
  go_at_call 37
  with_reducible refine (rraised_any hT1.tb).mono ?_
  rintro e w2 ⟨rfl, n2, rfl⟩
  have hT2 := hT1.drewN n2
  have hF2 : Fr (fun _ => False) w (w1.drewN n2) := hF1.drewN n2
  have a2 : (w1.drewN n2).cell? ⟨m, 1, none⟩ = some (.slice B1 S.L.length c1) := Wb.c0 hT2.tb.wb
  have b2 : (w1.drewN n2).cell? ⟨m, 13, none⟩ = some (.slice B2 S.out.length c2) := hT2.tb.b13
  have d2 := hT2.tb.b22
  have o2 : (convert 24 9 (.slice B2 S.out.length c2)).run Tryz.prog (w1.drewN n2) = .ok (.string so) (w1.drewN n2) := HSO.out ▸ conv_own hT2.tb.oo.1
  have y2 : (convert 24 9 (.slice (some ⟨y, 0, none⟩) (64 * G.n) (64 * G.n))).run Tryz.prog (w1.drewN n2) = .ok (.string sd) (w1.drewN n2) := HSD.out ▸ hT2.tb.mm.dtext
  clear hT1 a1 b1 d1 o1 y1
  rw [HRB.out]
  generalize w1.drewN n2 = w2 at hF2 hT2 a2 b2 d2 o2 y2 ⊢
  go_wp2_with fail
  refine hK.out _ _ (⟨a2, b2, d2, o2, y2⟩) (fun hH2 => ?_)
  clear hK K hH1
  try simp only [Act.put, List.setIfInBounds_toArray, List.set_cons_zero, List.set_cons_succ]
  refine take_d (i := 4) (some 23) (v := ?_) rfl rfl (by kernel_rfl) (by kernel_rfl) (by kernel_rfl) (fun _ _ _ h => h) (Or.inl ⟨by rfl, ?_⟩) hH2 ?_
  rotate_left
  · (intro w hSw; (try dsimp only at hSw); go_simp; try with_reducible rfl)
  try simp only [Act.put, List.setIfInBounds_toArray, List.set_cons_zero, List.set_cons_succ]
  refine take_d (i := 5) (some 24) (v := ?_) rfl rfl (by kernel_rfl) (by kernel_rfl) (by kernel_rfl) (fun _ _ _ h => h) (Or.inl ⟨by rfl, ?_⟩) hH2 ?_
  rotate_left
  · (intro w hSw; (try dsimp only at hSw); go_simp; try with_reducible rfl)
  try simp only [Act.put, List.setIfInBounds_toArray, List.set_cons_zero, List.set_cons_succ]
  refine take_d (i := 6) (some 25) (v := ?_) rfl rfl (by kernel_rfl) (by kernel_rfl) (by kernel_rfl) (fun _ _ _ h => h) (Or.inl ⟨by rfl, ?_⟩) hH2 ?_
  rotate_left
  · (intro w hSw; (try dsimp only at hSw); go_simp; try with_reducible rfl)
  try simp only [Act.put, List.setIfInBounds_toArray, List.set_cons_zero, List.set_cons_succ]
  refine take_d (i := 7) (some 26) (v := ?_) rfl rfl (by kernel_rfl) (by kernel_rfl) (by kernel_rfl) (fun _ _ _ h => h) (Or.inl ⟨by rfl, ?_⟩) hH2 ?_
  rotate_left
  · (intro w hSw; (try dsimp only at hSw); go_simp; try with_reducible rfl)
  try simp only [Act.put, List.setIfInBounds_toArray, List.set_cons_zero, List.set_cons_succ]
  refine take_d (i := 8) (some 27) (v := ?_) rfl rfl (by kernel_rfl) (by kernel_rfl) (by kernel_rfl) (fun _ _ _ h => h) (Or.inl ⟨by rfl, ?_⟩) hH2 ?_
  rotate_left
  · (intro w hSw; (try dsimp only at hSw); go_simp; try with_reducible rfl)
  try simp only [Act.put, List.setIfInBounds_toArray, List.set_cons_zero, List.set_cons_succ]
  refine take_d (i := 9) (some 28) (v := ?_) rfl rfl (by kernel_rfl) (by kernel_rfl) (by kernel_rfl) (fun _ _ _ h => h) (Or.inl ⟨by rfl, ?_⟩) hH2 ?_
  rotate_left
  · (intro w hSw; (try dsimp only at hSw); go_simp; try with_reducible rfl)
  try simp only [Act.put, List.setIfInBounds_toArray, List.set_cons_zero, List.set_cons_succ]
  refine take_d (i := 10) (some 29) (v := ?_) rfl rfl (by kernel_rfl) (by kernel_rfl) (by kernel_rfl) (fun _ _ _ h => h) (Or.inl ⟨by rfl, ?_⟩) hH2 ?_
  rotate_left
  · (intro w hSw; (try dsimp only at hSw); go_simp; try with_reducible rfl)
  try simp only [Act.put, List.setIfInBounds_toArray, List.set_cons_zero, List.set_cons_succ]
  refine take_d (i := 11) (some 30) (v := ?_) rfl rfl (by kernel_rfl) (by kernel_rfl) (by kernel_rfl) (fun _ _ _ h => h) (Or.inl ⟨by rfl, ?_⟩) hH2 ?_
  rotate_left
  · (intro w hSw; (try dsimp only at hSw); go_simp; try with_reducible rfl)
  try simp only [Act.put, List.setIfInBounds_toArray, List.set_cons_zero, List.set_cons_succ]
  refine take_d (i := 12) (some 31) (v := ?_) rfl rfl (by kernel_rfl) (by kernel_rfl) (by kernel_rfl) (fun _ _ _ h => h) (Or.inl ⟨by rfl, ?_⟩) hH2 ?_
  rotate_left
  · (intro w hSw; (try dsimp only at hSw); go_simp; try with_reducible rfl)
  try simp only [Act.put, List.setIfInBounds_toArray, List.set_cons_zero, List.set_cons_succ]
  refine take_d (i := 13) (some 32) (v := ?_) rfl rfl (by kernel_rfl) (by kernel_rfl) (by kernel_rfl) (fun _ _ _ h => h) (Or.inl ⟨by rfl, ?_⟩) hH2 ?_
  rotate_left
  · (intro w hSw; (try dsimp only at hSw); go_simp; try with_reducible rfl)
  try simp only [Act.put, List.setIfInBounds_toArray, List.set_cons_zero, List.set_cons_succ]
  refine take_d (i := 14) (some 33) (v := ?_) rfl rfl (by kernel_rfl) (by kernel_rfl) (by kernel_rfl) (fun _ _ _ h => h) (Or.inl ⟨by rfl, ?_⟩) hH2 ?_
  rotate_left
  · (intro w hSw; (try dsimp only at hSw); go_simp; try with_reducible rfl)
  try simp only [Act.put, List.setIfInBounds_toArray, List.set_cons_zero, List.set_cons_succ]
  refine take_d (i := 15) (some 34) (v := ?_) rfl rfl (by kernel_rfl) (by kernel_rfl) (by kernel_rfl) (fun _ _ _ h => h) (Or.inl ⟨by rfl, ?_⟩) hH2 ?_
  rotate_left
  · (intro w hSw; (try dsimp only at hSw); go_simp; try with_reducible rfl)
  try simp only [Act.put, List.setIfInBounds_toArray, List.set_cons_zero, List.set_cons_succ]
  refine take_d (i := 16) (some 35) (v := ?_) rfl rfl (by kernel_rfl) (by kernel_rfl) (by kernel_rfl) (fun _ _ _ h => h) (Or.inl ⟨by rfl, ?_⟩) hH2 ?_
  rotate_left
  · (intro w hSw; (try dsimp only at hSw); go_simp; try with_reducible rfl)
  try simp only [Act.put, List.setIfInBounds_toArray, List.set_cons_zero, List.set_cons_succ]
  refine take_d (i := 18) (some 37) (v := ?_) rfl rfl (by kernel_rfl) (by kernel_rfl) (by kernel_rfl) (fun _ _ _ h => h) (Or.inl ⟨by rfl, ?_⟩) hH2 ?_
  rotate_left
  · (intro w hSw; (try dsimp only at hSw); go_simp; try with_reducible rfl)
  try simp only [Act.put, List.setIfInBounds_toArray, List.set_cons_zero, List.set_cons_succ]
  refine take_d (i := 19) (some 38) (v := ?_) rfl rfl (by kernel_rfl) (by kernel_rfl) (by kernel_rfl) (fun _ _ _ h => h) (Or.inl ⟨by rfl, ?_⟩) hH2 ?_
  rotate_left
  · (intro w hSw; (try dsimp only at hSw); go_simp; try with_reducible rfl)
  try simp only [Act.put, List.setIfInBounds_toArray, List.set_cons_zero, List.set_cons_succ]
  refine take_d (i := 20) (some 39) (v := ?_) rfl rfl (by kernel_rfl) (by kernel_rfl) (by kernel_rfl) (fun _ _ _ h => h) (Or.inl ⟨by rfl, ?_⟩) hH2 ?_
  rotate_left
  · (intro w hSw; (try dsimp only at hSw); go_simp; try with_reducible rfl)
  try simp only [Act.put, List.setIfInBounds_toArray, List.set_cons_zero, List.set_cons_succ]
  refine take_d (i := 21) (some 40) (v := ?_) rfl rfl (by kernel_rfl) (by kernel_rfl) (by kernel_rfl) (fun _ _ _ h => h) (Or.inl ⟨by rfl, ?_⟩) hH2 ?_
  rotate_left
  · (intro w hSw; (try dsimp only at hSw); go_simp; try with_reducible rfl)
  try simp only [Act.put, List.setIfInBounds_toArray, List.set_cons_zero, List.set_cons_succ]
  refine take_d (i := 22) (some 41) (v := ?_) rfl rfl (by kernel_rfl) (by kernel_rfl) (by kernel_rfl) (fun _ _ _ h => h) (Or.inl ⟨by rfl, ?_⟩) hH2 ?_
  rotate_left
  · (intro w hSw; (try dsimp only at hSw); go_simp; try with_reducible rfl)
  try simp only [Act.put, List.setIfInBounds_toArray, List.set_cons_zero, List.set_cons_succ]
  refine wpAnyH_ready (rs := [17]) (by kernel_rfl) (by simp) ?_
  refine AllReadyH.cons rfl (fun K hK => ?_) AllReadyH.nil
  go_simp
  go_at_call 39
  with_reducible refine (bevents_any hT2.ta hl).mono ?_
  rintro e w3 ⟨x3, rfl, hO3, hb3⟩
  have hT3 := hT2.below hb3
  have hF3 : Fr (fun _ => False) w w3 := hF2.trans (Fr.of_below hb3)
  have a3 : (w3).cell? ⟨m, 1, none⟩ = some (.slice B1 S.L.length c1) := Wb.c0 hT3.tb.wb
  have b3 : (w3).cell? ⟨m, 13, none⟩ = some (.slice B2 S.out.length c2) := hT3.tb.b13
  have d3 := hT3.tb.b22
  have o3 : (convert 24 9 (.slice B2 S.out.length c2)).run Tryz.prog (w3) = .ok (.string so) (w3) := HSO.out ▸ conv_own hT3.tb.oo.1
  have y3 : (convert 24 9 (.slice (some ⟨y, 0, none⟩) (64 * G.n) (64 * G.n))).run Tryz.prog (w3) = .ok (.string sd) (w3) := HSD.out ▸ hT3.tb.mm.dtext
  clear hT2 a2 b2 d2 o2 y2 hb3
  go_wp2_with fail
  refine hK.out _ _ (⟨a3, b3, d3, o3, y3⟩) (fun hH3 => ?_)
  clear hK K hH2
  try simp only [Act.put, List.setIfInBounds_toArray, List.set_cons_zero, List.set_cons_succ]
  refine wpAnyH_ready (rs := [23]) (by kernel_rfl) (by simp) ?_
  refine AllReadyH.cons rfl (fun K hK => ?_) AllReadyH.nil
  go_simp
  go_at_call 38
  with_reducible refine (same_any hO3 (Wb.ev hT3.tb.wb) (by omega)).mono ?_
  rintro e w4 ⟨rfl, n4, rfl⟩
  have hT4 := hT3.drewN n4
  have hF4 : Fr (fun _ => False) w (w3.drewN n4) := hF3.drewN n4
  have a4 : (w3.drewN n4).cell? ⟨m, 1, none⟩ = some (.slice B1 S.L.length c1) := Wb.c0 hT4.tb.wb
  have b4 : (w3.drewN n4).cell? ⟨m, 13, none⟩ = some (.slice B2 S.out.length c2) := hT4.tb.b13
  have d4 := hT4.tb.b22
  have o4 : (convert 24 9 (.slice B2 S.out.length c2)).run Tryz.prog (w3.drewN n4) = .ok (.string so) (w3.drewN n4) := HSO.out ▸ conv_own hT4.tb.oo.1
  have y4 : (convert 24 9 (.slice (some ⟨y, 0, none⟩) (64 * G.n) (64 * G.n))).run Tryz.prog (w3.drewN n4) = .ok (.string sd) (w3.drewN n4) := HSD.out ▸ hT4.tb.mm.dtext
  clear hT3 a3 b3 d3 o3 y3 hO3
  generalize w3.drewN n4 = w4 at hF4 hT4 a4 b4 d4 o4 y4 ⊢
  go_wp2_with fail
  refine hK.out _ _ (⟨a4, b4, d4, o4, y4⟩) (fun hH4 => ?_)
  clear hK K hH3
  try simp only [Act.put, List.setIfInBounds_toArray, List.set_cons_zero, List.set_cons_succ]
  refine take_d (i := 24) (some 43) (v := ?_) rfl rfl (by kernel_rfl) (by kernel_rfl) (by kernel_rfl) (fun _ _ _ h => h) (Or.inl ⟨by rfl, ?_⟩) hH4 ?_
  rotate_left
  · (intro w hSw; (try dsimp only at hSw); go_simp; try with_reducible rfl)
  try simp only [Act.put, List.setIfInBounds_toArray, List.set_cons_zero, List.set_cons_succ]
  refine take_d (i := 25) (some 44) (v := ?_) rfl rfl (by kernel_rfl) (by kernel_rfl) (by kernel_rfl) (fun _ _ _ h => h) (Or.inl ⟨by rfl, ?_⟩) hH4 ?_
  rotate_left
  · (intro w hSw; (try dsimp only at hSw); go_simp; try with_reducible rfl)
  try simp only [Act.put, List.setIfInBounds_toArray, List.set_cons_zero, List.set_cons_succ]
  refine take_d (i := 26) (some 45) (v := ?_) rfl rfl (by kernel_rfl) (by kernel_rfl) (by kernel_rfl) (fun _ _ _ h => h) (Or.inl ⟨by rfl, ?_⟩) hH4 ?_
  rotate_left
  · (intro w hSw; (try dsimp only at hSw); go_simp; try with_reducible rfl)
  try simp only [Act.put, List.setIfInBounds_toArray, List.set_cons_zero, List.set_cons_succ]
  refine take_d (i := 29) (some 48) (v := ?_) rfl rfl (by kernel_rfl) (by kernel_rfl) (by kernel_rfl) (fun _ _ _ h => h) (Or.inl ⟨by rfl, ?_⟩) hH4 ?_
  rotate_left
  · (intro w hSw; (try dsimp only at hSw); go_simp; try with_reducible rfl)
  try simp only [Act.put, List.setIfInBounds_toArray, List.set_cons_zero, List.set_cons_succ]
  refine take_d (i := 30) (some 49) (v := ?_) rfl rfl (by kernel_rfl) (by kernel_rfl) (by kernel_rfl) (fun _ _ _ h => h) (Or.inl ⟨by rfl, ?_⟩) hH4 ?_
  rotate_left
  · (intro w hSw; (try dsimp only at hSw); go_simp; try with_reducible rfl)
  try simp only [Act.put, List.setIfInBounds_toArray, List.set_cons_zero, List.set_cons_succ]
  refine take_d (i := 31) (some 50) (v := ?_) rfl rfl (by kernel_rfl) (by kernel_rfl) (by kernel_rfl) (fun _ _ _ h => h) (Or.inl ⟨by rfl, ?_⟩) hH4 ?_
  rotate_left
  · (intro w hSw; (try dsimp only at hSw); go_simp; try with_reducible rfl)
  try simp only [Act.put, List.setIfInBounds_toArray, List.set_cons_zero, List.set_cons_succ]
  refine take_d (i := 32) (some 51) (v := ?_) rfl rfl (by kernel_rfl) (by kernel_rfl) (by kernel_rfl) (fun _ _ _ h => h) (Or.inl ⟨by rfl, ?_⟩) hH4 ?_
  rotate_left
  · (intro w hSw; (try dsimp only at hSw); go_simp; try with_reducible rfl)
  try simp only [Act.put, List.setIfInBounds_toArray, List.set_cons_zero, List.set_cons_succ]
  refine take_d (i := 33) (some 52) (v := ?_) rfl rfl (by kernel_rfl) (by kernel_rfl) (by kernel_rfl) (fun _ _ _ h => h) (Or.inl ⟨by rfl, ?_⟩) hH4 ?_
  rotate_left
  · (intro w hSw; (try dsimp only at hSw); go_simp; try with_reducible rfl)
  try simp only [Act.put, List.setIfInBounds_toArray, List.set_cons_zero, List.set_cons_succ]
  refine take_d (i := 34) (some 53) (v := ?_) rfl rfl (by kernel_rfl) (by kernel_rfl) (by kernel_rfl) (fun _ _ _ h => h) (Or.inl ⟨by rfl, ?_⟩) hH4 ?_
  rotate_left
  · (intro w hSw; (try dsimp only at hSw); go_simp; try with_reducible rfl)
  try simp only [Act.put, List.setIfInBounds_toArray, List.set_cons_zero, List.set_cons_succ]
  refine wpAnyH_ready (rs := [27]) (by kernel_rfl) (by simp) ?_
  refine AllReadyH.cons rfl (fun K hK => ?_) AllReadyH.nil
  go_simp
  go_at_call 40
  with_reducible refine (bout_any hT4.ta hlo).mono ?_
  rintro e w5 ⟨x5, rfl, hO5, hb5⟩
  have hT5 := hT4.below hb5
  have hF5 : Fr (fun _ => False) w w5 := hF4.trans (Fr.of_below hb5)
  have a5 : (w5).cell? ⟨m, 1, none⟩ = some (.slice B1 S.L.length c1) := Wb.c0 hT5.tb.wb
  have b5 : (w5).cell? ⟨m, 13, none⟩ = some (.slice B2 S.out.length c2) := hT5.tb.b13
  have d5 := hT5.tb.b22
  have o5 : (convert 24 9 (.slice B2 S.out.length c2)).run Tryz.prog (w5) = .ok (.string so) (w5) := HSO.out ▸ conv_own hT5.tb.oo.1
  have y5 : (convert 24 9 (.slice (some ⟨y, 0, none⟩) (64 * G.n) (64 * G.n))).run Tryz.prog (w5) = .ok (.string sd) (w5) := HSD.out ▸ hT5.tb.mm.dtext
  have r5 : (convert 24 9 x5).run Tryz.prog w5 = .ok (.string so) w5 := HSO.out ▸ conv_own hO5
  clear hT4 a4 b4 d4 o4 y4 hb5 hO5
  go_wp2_with fail
  refine hK.out _ _ (⟨a5, b5, d5, o5, y5⟩) (fun hH5 => ?_)
  clear hK K hH4
  try simp only [Act.put, List.setIfInBounds_toArray, List.set_cons_zero, List.set_cons_succ]
  refine wpAnyH_ready (rs := [28]) (by kernel_rfl) (by simp) ?_
  refine AllReadyH.cons rfl (fun K hK => ?_) AllReadyH.nil
  go_simp
  refine hK.out _ _ (⟨a5, b5, d5, o5, y5⟩) (fun hH6 => ?_)
  clear hK K hH5
  try simp only [Act.put, List.setIfInBounds_toArray, List.set_cons_zero, List.set_cons_succ]
  clear r5
  refine take_d (i := 35) (some 54) (v := ?_) rfl rfl (by kernel_rfl) (by kernel_rfl) (by kernel_rfl) (fun _ _ _ h => h) (Or.inl ⟨by rfl, ?_⟩) hH6 ?_
  rotate_left
  · (intro w hSw; (try dsimp only at hSw); go_simp; try with_reducible rfl)
  try simp only [Act.put, List.setIfInBounds_toArray, List.set_cons_zero, List.set_cons_succ]
  refine take_d (i := 36) (some 55) (v := ?_) rfl rfl (by kernel_rfl) (by kernel_rfl) (by kernel_rfl) (fun _ _ _ h => h) (Or.inl ⟨by rfl, ?_⟩) hH6 ?_
  rotate_left
  · (intro w hSw; (try dsimp only at hSw); go_simp; try with_reducible rfl)
  try simp only [Act.put, List.setIfInBounds_toArray, List.set_cons_zero, List.set_cons_succ]
  refine take_d (i := 37) (some 56) (v := ?_) rfl rfl (by kernel_rfl) (by kernel_rfl) (by kernel_rfl) (fun _ _ _ h => h) (Or.inl ⟨by rfl, ?_⟩) hH6 ?_
  rotate_left
  · (intro w hSw; (try dsimp only at hSw); go_simp; try with_reducible rfl)
  try simp only [Act.put, List.setIfInBounds_toArray, List.set_cons_zero, List.set_cons_succ]
  refine take_d (i := 38) (some 57) (v := ?_) rfl rfl (by kernel_rfl) (by kernel_rfl) (by kernel_rfl) (fun _ _ _ h => h) (Or.inl ⟨by rfl, ?_⟩) hH6 ?_
  rotate_left
  · (intro w hSw; (try dsimp only at hSw); go_simp; try with_reducible rfl)
  try simp only [Act.put, List.setIfInBounds_toArray, List.set_cons_zero, List.set_cons_succ]
  refine take_d (i := 41) (some 60) (v := ?_) rfl rfl (by kernel_rfl) (by kernel_rfl) (by kernel_rfl) (fun _ _ _ h => h) (Or.inl ⟨by rfl, ?_⟩) hH6 ?_
  rotate_left
  · (intro w hSw; (try dsimp only at hSw); go_simp; try with_reducible rfl)
  try simp only [Act.put, List.setIfInBounds_toArray, List.set_cons_zero, List.set_cons_succ]
  refine take_d (i := 42) (some 61) (v := ?_) rfl rfl (by kernel_rfl) (by kernel_rfl) (by kernel_rfl) (fun _ _ _ h => h) (Or.inl ⟨by rfl, ?_⟩) hH6 ?_
  rotate_left
  · (intro w hSw; (try dsimp only at hSw); go_simp; try with_reducible rfl)
  try simp only [Act.put, List.setIfInBounds_toArray, List.set_cons_zero, List.set_cons_succ]
  refine take_d (i := 43) (some 62) (v := ?_) rfl rfl (by kernel_rfl) (by kernel_rfl) (by kernel_rfl) (fun _ _ _ h => h) (Or.inl ⟨by rfl, ?_⟩) hH6 ?_
  rotate_left
  · (intro w hSw; (try dsimp only at hSw); go_simp; try with_reducible rfl)
  try simp only [Act.put, List.setIfInBounds_toArray, List.set_cons_zero, List.set_cons_succ]
  refine take_d (i := 44) (some 63) (v := ?_) rfl rfl (by kernel_rfl) (by kernel_rfl) (by kernel_rfl) (fun _ _ _ h => h) (Or.inl ⟨by rfl, ?_⟩) hH6 ?_
  rotate_left
  · (intro w hSw; (try dsimp only at hSw); go_simp; try with_reducible rfl)
  try simp only [Act.put, List.setIfInBounds_toArray, List.set_cons_zero, List.set_cons_succ]
  refine take_d (i := 45) (some 64) (v := ?_) rfl rfl (by kernel_rfl) (by kernel_rfl) (by kernel_rfl) (fun _ _ _ h => h) (Or.inl ⟨by rfl, ?_⟩) hH6 ?_
  rotate_left
  · (intro w hSw; (try dsimp only at hSw); go_simp; try with_reducible rfl)
  try simp only [Act.put, List.setIfInBounds_toArray, List.set_cons_zero, List.set_cons_succ]
  refine take_d (i := 46) (some 65) (v := ?_) rfl rfl (by kernel_rfl) (by kernel_rfl) (by kernel_rfl) (fun _ _ _ h => h) (Or.inl ⟨by rfl, ?_⟩) hH6 ?_
  rotate_left
  · (intro w hSw; (try dsimp only at hSw); go_simp; try with_reducible rfl)
  try simp only [Act.put, List.setIfInBounds_toArray, List.set_cons_zero, List.set_cons_succ]
  refine wpAnyH_ready (rs := [39]) (by kernel_rfl) (by simp) ?_
  refine AllReadyH.cons rfl (fun K hK => ?_) AllReadyH.nil
  go_simp
  go_at_call 41
  with_reducible refine (bdiskb_any hT5.ta hn).mono ?_
  rintro e w6 ⟨x6, rfl, hB6, hf6⟩
  have hT6 := hT5.no hf6
  have hF6 : Fr (fun _ => False) w w6 := hF5.trans hf6
  have a6 : (w6).cell? ⟨m, 1, none⟩ = some (.slice B1 S.L.length c1) := Wb.c0 hT6.tb.wb
  have b6 : (w6).cell? ⟨m, 13, none⟩ = some (.slice B2 S.out.length c2) := hT6.tb.b13
  have d6 := hT6.tb.b22
  have o6 : (convert 24 9 (.slice B2 S.out.length c2)).run Tryz.prog (w6) = .ok (.string so) (w6) := HSO.out ▸ conv_own hT6.tb.oo.1
  have y6 : (convert 24 9 (.slice (some ⟨y, 0, none⟩) (64 * G.n) (64 * G.n))).run Tryz.prog (w6) = .ok (.string sd) (w6) := HSD.out ▸ hT6.tb.mm.dtext
  have r6 : (convert 24 9 x6).run Tryz.prog w6 = .ok (.string sd) w6 := HSD.out ▸ conv_any hB6
  clear hT5 a5 b5 d5 o5 y5 hf6 hB6
  go_wp2_with fail
  refine hK.out _ _ (⟨a6, b6, d6, o6, y6⟩) (fun hH7 => ?_)
  clear hK K hH6
  try simp only [Act.put, List.setIfInBounds_toArray, List.set_cons_zero, List.set_cons_succ]
  refine wpAnyH_ready (rs := [40]) (by kernel_rfl) (by simp) ?_
  refine AllReadyH.cons rfl (fun K hK => ?_) AllReadyH.nil
  go_simp
  refine hK.out _ _ (⟨a6, b6, d6, o6, y6⟩) (fun hH8 => ?_)
  clear hK K hH7
  try simp only [Act.put, List.setIfInBounds_toArray, List.set_cons_zero, List.set_cons_succ]
  refine take_d (i := 47) (some 66) (v := ?_) rfl rfl (by kernel_rfl) (by kernel_rfl) (by kernel_rfl) (fun _ _ _ h => h) (Or.inl ⟨by rfl, ?_⟩) hH8 ?_
  rotate_left
  · (intro w hSw; (try dsimp only at hSw); go_simp; try with_reducible rfl)
  try simp only [Act.put, List.setIfInBounds_toArray, List.set_cons_zero, List.set_cons_succ]
  refine take_d (i := 48) (some 67) (v := ?_) rfl rfl (by kernel_rfl) (by kernel_rfl) (by kernel_rfl) (fun _ _ _ h => h) (Or.inl ⟨by rfl, ?_⟩) hH8 ?_
  rotate_left
  · (intro w hSw; (try dsimp only at hSw); go_simp; try with_reducible rfl)
  try simp only [Act.put, List.setIfInBounds_toArray, List.set_cons_zero, List.set_cons_succ]
  refine take_d (i := 49) (some 4) (v := ?_) rfl rfl (by kernel_rfl) (by kernel_rfl) (by kernel_rfl) (fun _ _ _ h => h) (Or.inl ⟨by rfl, ?_⟩) hH8 ?_
  rotate_left
  · (intro w hSw; (try dsimp only at hSw); go_simp; try with_reducible rfl)
  try simp only [Act.put, List.setIfInBounds_toArray, List.set_cons_zero, List.set_cons_succ]
  refine wpAnyH_done (by kernel_rfl) ?_ _
  refine NoPanic.normal ?_
  go_wp2
  go_ret
  exact ⟨rfl, hT6, hF6⟩
end
end Go.Proofs.YtkfedihaldpgmaaGreat

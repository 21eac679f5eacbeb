/-
  Chapter 15: two lists made, two buses over them, in any order: from each point on (BusNumbers' first region).
-/
import Derived.Test.YtkfedihaldpgmaaGreatNs15
import Derived.Deep.RegionHeld3
namespace Go.Proofs.YtkfedihaldpgmaaGreat
open Go.RowKit
set_option linter.unusedVariables false
set_option linter.unusedSimpArgs false
/-- the region's operations -/
def ops1 : Array Oper :=
  #[{ dst := some 17,
        op :=
          Op.makeSlice 24 (Operand.const (Value.int IntKind.i64 2000))
            (Operand.const (Value.int IntKind.i64 2000)),
        type := 24, pos := "law.go:86", after := #[], guard := none },
      { dst := some 18, op := Op.buildSlice 24 1 #[(0, Operand.const (Value.int IntKind.u8 120))],
        type := 24, pos := "law.go:86", after := #[], guard := none },
      { dst := some 19, op := Op.convert 24 24 (Operand.tmp 18), type := 24, pos := "law.go:86",
        after := #[{ on := 1, ground := Ground.data }], guard := none },
      { dst := some 20,
        op :=
          Op.call
            { callee := Callee.value (Operand.func 5),
              args := #[Operand.const (Value.int IntKind.i64 1), Operand.tmp 17, Operand.tmp 19],
              argTypes := #[3, 24, 24] },
        type := 22, pos := "law.go:86",
        after := #[{ on := 0, ground := Ground.data }, { on := 2, ground := Ground.data }],
        guard := none },
      { dst := some 21,
        op :=
          Op.makeSlice 24 (Operand.const (Value.int IntKind.i64 2000))
            (Operand.const (Value.int IntKind.i64 2000)),
        type := 24, pos := "law.go:86", after := #[], guard := none },
      { dst := some 22, op := Op.buildSlice 24 1 #[(0, Operand.const (Value.int IntKind.u8 120))],
        type := 24, pos := "law.go:86", after := #[], guard := none },
      { dst := some 23, op := Op.convert 24 24 (Operand.tmp 22), type := 24, pos := "law.go:86",
        after := #[{ on := 5, ground := Ground.data }], guard := none },
      { dst := some 24,
        op :=
          Op.call
            { callee := Callee.value (Operand.func 6),
              args := #[Operand.const (Value.int IntKind.i64 1), Operand.tmp 21, Operand.tmp 23],
              argTypes := #[3, 24, 24] },
        type := 25, pos := "law.go:86",
        after :=
          #[{ on := 4, ground := Ground.data }, { on := 6, ground := Ground.data },
            { on := 3, ground := Ground.chain }],
        guard := none },
      { dst := some 1, op := Op.assign (Operand.tmp 20), type := 22, pos := "law.go:86",
        after :=
          #[{ on := 3, ground := Ground.data }, { on := 7, ground := Ground.chain },
            { on := 0, ground := Ground.phase }, { on := 1, ground := Ground.phase },
            { on := 2, ground := Ground.phase }, { on := 3, ground := Ground.phase },
            { on := 4, ground := Ground.textOnly Departure.lateStoresUnsure },
            { on := 5, ground := Ground.textOnly Departure.lateStores },
            { on := 6, ground := Ground.textOnly Departure.lateStores },
            { on := 7, ground := Ground.textOnly Departure.lateStoresUnsure }],
        guard := none },
      { dst := some 2, op := Op.assign (Operand.tmp 24), type := 25, pos := "law.go:86",
        after :=
          #[{ on := 7, ground := Ground.data }, { on := 8, ground := Ground.chain },
            { on := 0, ground := Ground.phase }, { on := 1, ground := Ground.phase },
            { on := 2, ground := Ground.phase }, { on := 3, ground := Ground.phase },
            { on := 4, ground := Ground.phase }, { on := 5, ground := Ground.phase },
            { on := 6, ground := Ground.phase }, { on := 7, ground := Ground.phase },
            { on := 8, ground := Ground.phase }],
        guard := none }]
/-- what follows once both buses are made -/
def Fin1 (Q : Exit → Act → World → Prop) (W : World) (C D : Nat → Int) : Prop := ∀ (w : World) (X0 X1 X4 X5 : Nat) (G : PG) (U : PV) (m r y : Nat) (O : Nat → Prop), G.p = 1 → G.n = nS 1 → Two W G m r y O w U V00 (S0B C D) (S0B C D) → Q .normal ⟨#[Value.bool false, Value.pointer (some ⟨G.b, 0, none⟩), Value.pointer (some ⟨m, 0, none⟩), undef, undef, undef, undef, undef, undef, undef, undef, undef, undef, undef, undef, undef, undef, Value.slice (some ⟨X0, 0, none⟩) 2000 2000, Value.slice (some ⟨X1, 0, none⟩) 1 1, Value.slice (some ⟨X1, 0, none⟩) 1 1, Value.pointer (some ⟨G.b, 0, none⟩), Value.slice (some ⟨X4, 0, none⟩) 2000 2000, Value.slice (some ⟨X5, 0, none⟩) 1 1, Value.slice (some ⟨X5, 0, none⟩) 1 1, Value.pointer (some ⟨m, 0, none⟩), undef, undef, undef, undef, undef, undef, undef, undef, undef, undef, undef, undef, undef, undef, undef, undef, undef, undef, undef, undef, undef, undef, undef, undef, undef, undef, undef, undef, undef, undef, undef, undef, undef, undef, undef, undef, undef, undef, undef, undef, undef, undef, undef, undef, undef, undef, undef, undef, undef, undef, undef, undef, undef, undef, undef, undef, undef, undef, undef, undef, undef, undef, undef, undef, undef, undef, undef, undef, undef, undef, undef, undef, undef, undef, undef, undef, undef, undef, undef, undef, undef, undef, undef, undef, undef, undef, undef, undef, undef, undef, undef, undef, undef, undef, undef, undef, undef, undef, undef, undef, undef, undef, undef, undef, undef, undef, undef, undef, undef, undef, undef, undef, undef, undef, undef], []⟩ w
section
variable {Q : Exit → Act → World → Prop} {W : World} {C D : Nat → Int}
set_option maxRecDepth 100000 in
set_option maxHeartbeats 4000000 in
theorem r1_12121 (HC : Hid (imC 1 2000 zF = C)) (HD : Hid (imD 1 xF = D)) (hQ : Hid (Fin1 Q W C D)) (w : World) (X0 X1 X4 X5 : Nat) (G : PG) (U : PV) (h : Sp W w C D 1 2 X4 X5 G U) : wpAnyH Tryz.prog .any ops1 (NoPanic Q) (fun _ => True) 3 #[true, true, true, true, true, true, true, false, false, false] ⟨#[Value.bool false, undef, undef, undef, undef, undef, undef, undef, undef, undef, undef, undef, undef, undef, undef, undef, undef, Value.slice (some ⟨X0, 0, none⟩) 2000 2000, Value.slice (some ⟨X1, 0, none⟩) 1 1, Value.slice (some ⟨X1, 0, none⟩) 1 1, Value.pointer (some ⟨G.b, 0, none⟩), Value.slice (some ⟨X4, 0, none⟩) 2000 2000, Value.slice (some ⟨X5, 0, none⟩) 1 1, Value.slice (some ⟨X5, 0, none⟩) 1 1, undef, undef, undef, undef, undef, undef, undef, undef, undef, undef, undef, undef, undef, undef, undef, undef, undef, undef, undef, undef, undef, undef, undef, undef, undef, undef, undef, undef, undef, undef, undef, undef, undef, undef, undef, undef, undef, undef, undef, undef, undef, undef, undef, undef, undef, undef, undef, undef, undef, undef, undef, undef, undef, undef, undef, undef, undef, undef, undef, undef, undef, undef, undef, undef, undef, undef, undef, undef, undef, undef, undef, undef, undef, undef, undef, undef, undef, undef, undef, undef, undef, undef, undef, undef, undef, undef, undef, undef, undef, undef, undef, undef, undef, undef, undef, undef, undef, undef, undef, undef, undef, undef, undef, undef, undef, undef, undef, undef, undef, undef, undef, undef, undef, undef, undef, undef], []⟩ w := by
  have HS := Lib.hid h
  clear h
  unfold ops1
  refine wpAnyH_ready (rs := [7]) (by kernel_rfl) (by simp) ?_
  refine AllReadyH.cons rfl (fun K hK => ?_) AllReadyH.nil
  · go_simp
    go_at_call 6
    with_reducible refine (HS.out.newr HC.out HD.out).mono ?_
    rintro e wx ⟨m, r, y, O, rfl, hT⟩
    go_wp2_with fail
    refine hK.out _ _ trivial (fun hH => ?_)
    clear hK K
    try simp only [Act.put, List.setIfInBounds_toArray, List.set_cons_zero, List.set_cons_succ]
    refine take_d (i := 8) (some 1) (v := ?_) rfl rfl (by kernel_rfl) (by kernel_rfl) (by kernel_rfl) (fun _ _ _ h => h) (Or.inl ⟨by rfl, ?_⟩) hH ?_
    rotate_left
    · (intro w hSw; (try dsimp only at hSw); go_simp; try with_reducible rfl)
    try simp only [Act.put, List.setIfInBounds_toArray, List.set_cons_zero, List.set_cons_succ]
    refine take_d (i := 9) (some 2) (v := ?_) rfl rfl (by kernel_rfl) (by kernel_rfl) (by kernel_rfl) (fun _ _ _ h => h) (Or.inl ⟨by rfl, ?_⟩) hH ?_
    rotate_left
    · (intro w hSw; (try dsimp only at hSw); go_simp; try with_reducible rfl)
    try simp only [Act.put, List.setIfInBounds_toArray, List.set_cons_zero, List.set_cons_succ]
    refine wpAnyH_done (by kernel_rfl) ?_ _
    refine NoPanic.normal ?_
    exact hQ.out _ _ _ _ _ G U m r y O HS.out.hp HS.out.hn hT
set_option maxRecDepth 100000 in
set_option maxHeartbeats 4000000 in
theorem r1_12111 (HC : Hid (imC 1 2000 zF = C)) (HD : Hid (imD 1 xF = D)) (hQ : Hid (Fin1 Q W C D)) (w : World) (X0 X1 X4 X5 : Nat) (G : PG) (U : PV) (h : Sp W w C D 1 1 X4 X5 G U) : wpAnyH Tryz.prog .any ops1 (NoPanic Q) (fun _ => True) 4 #[true, true, true, true, true, true, false, false, false, false] ⟨#[Value.bool false, undef, undef, undef, undef, undef, undef, undef, undef, undef, undef, undef, undef, undef, undef, undef, undef, Value.slice (some ⟨X0, 0, none⟩) 2000 2000, Value.slice (some ⟨X1, 0, none⟩) 1 1, Value.slice (some ⟨X1, 0, none⟩) 1 1, Value.pointer (some ⟨G.b, 0, none⟩), Value.slice (some ⟨X4, 0, none⟩) 2000 2000, Value.slice (some ⟨X5, 0, none⟩) 1 1, undef, undef, undef, undef, undef, undef, undef, undef, undef, undef, undef, undef, undef, undef, undef, undef, undef, undef, undef, undef, undef, undef, undef, undef, undef, undef, undef, undef, undef, undef, undef, undef, undef, undef, undef, undef, undef, undef, undef, undef, undef, undef, undef, undef, undef, undef, undef, undef, undef, undef, undef, undef, undef, undef, undef, undef, undef, undef, undef, undef, undef, undef, undef, undef, undef, undef, undef, undef, undef, undef, undef, undef, undef, undef, undef, undef, undef, undef, undef, undef, undef, undef, undef, undef, undef, undef, undef, undef, undef, undef, undef, undef, undef, undef, undef, undef, undef, undef, undef, undef, undef, undef, undef, undef, undef, undef, undef, undef, undef, undef, undef, undef, undef, undef, undef, undef, undef], []⟩ w := by
  have HS := Lib.hid h
  clear h
  unfold ops1
  refine wpAnyH_ready (rs := [6]) (by kernel_rfl) (by simp) ?_
  refine AllReadyH.cons rfl (fun K hK => ?_) AllReadyH.nil
  · obtain ⟨wx, hrun, e1, f1⟩ := conv_x (HS.out.b5 (by omega)).1
    go_simp
    refine hK.out _ _ trivial (fun hH => ?_)
    clear hK K
    try simp only [Act.put, List.setIfInBounds_toArray, List.set_cons_zero, List.set_cons_succ]
    exact r1_12121 HC HD hQ _ _ _ _ _ G U (HS.out.cv5 f1 e1)
set_option maxRecDepth 100000 in
set_option maxHeartbeats 4000000 in
theorem r1_12021 (HC : Hid (imC 1 2000 zF = C)) (HD : Hid (imD 1 xF = D)) (hQ : Hid (Fin1 Q W C D)) (w : World) (X0 X1 X4 X5 : Nat) (G : PG) (U : PV) (h : Sp W w C D 0 2 X4 X5 G U) : wpAnyH Tryz.prog .any ops1 (NoPanic Q) (fun _ => True) 4 #[true, true, true, true, false, true, true, false, false, false] ⟨#[Value.bool false, undef, undef, undef, undef, undef, undef, undef, undef, undef, undef, undef, undef, undef, undef, undef, undef, Value.slice (some ⟨X0, 0, none⟩) 2000 2000, Value.slice (some ⟨X1, 0, none⟩) 1 1, Value.slice (some ⟨X1, 0, none⟩) 1 1, Value.pointer (some ⟨G.b, 0, none⟩), undef, Value.slice (some ⟨X5, 0, none⟩) 1 1, Value.slice (some ⟨X5, 0, none⟩) 1 1, undef, undef, undef, undef, undef, undef, undef, undef, undef, undef, undef, undef, undef, undef, undef, undef, undef, undef, undef, undef, undef, undef, undef, undef, undef, undef, undef, undef, undef, undef, undef, undef, undef, undef, undef, undef, undef, undef, undef, undef, undef, undef, undef, undef, undef, undef, undef, undef, undef, undef, undef, undef, undef, undef, undef, undef, undef, undef, undef, undef, undef, undef, undef, undef, undef, undef, undef, undef, undef, undef, undef, undef, undef, undef, undef, undef, undef, undef, undef, undef, undef, undef, undef, undef, undef, undef, undef, undef, undef, undef, undef, undef, undef, undef, undef, undef, undef, undef, undef, undef, undef, undef, undef, undef, undef, undef, undef, undef, undef, undef, undef, undef, undef, undef, undef, undef], []⟩ w := by
  have hm1 := run_make_row' (P := Tryz.prog) 24 5 (.int .u8 0) 1 Tryz.underlying24 info_u8 rfl .i64 .i64 2000 (by omega) (by omega)
  have HS := Lib.hid h
  clear h
  unfold ops1
  refine wpAnyH_ready (rs := [4]) (by kernel_rfl) (by simp) ?_
  refine AllReadyH.cons rfl (fun K hK => ?_) AllReadyH.nil
  · go_simp
    refine hK.out _ _ trivial (fun hH => ?_)
    clear hK K
    try simp only [Act.put, List.setIfInBounds_toArray, List.set_cons_zero, List.set_cons_succ]
    exact r1_12121 HC HD hQ _ _ _ _ _ G U (HS.out.al4)
set_option maxRecDepth 100000 in
set_option maxHeartbeats 4000000 in
theorem r1_12120 (HC : Hid (imC 1 2000 zF = C)) (HD : Hid (imD 1 xF = D)) (hQ : Hid (Fin1 Q W C D)) (w : World) (X0 X1 X4 X5 : Nat) (h : St W w 1 2 1 2 X0 X1 X4 X5) : wpAnyH Tryz.prog .any ops1 (NoPanic Q) (fun _ => True) 4 #[true, true, true, false, true, true, true, false, false, false] ⟨#[Value.bool false, undef, undef, undef, undef, undef, undef, undef, undef, undef, undef, undef, undef, undef, undef, undef, undef, Value.slice (some ⟨X0, 0, none⟩) 2000 2000, Value.slice (some ⟨X1, 0, none⟩) 1 1, Value.slice (some ⟨X1, 0, none⟩) 1 1, undef, Value.slice (some ⟨X4, 0, none⟩) 2000 2000, Value.slice (some ⟨X5, 0, none⟩) 1 1, Value.slice (some ⟨X5, 0, none⟩) 1 1, undef, undef, undef, undef, undef, undef, undef, undef, undef, undef, undef, undef, undef, undef, undef, undef, undef, undef, undef, undef, undef, undef, undef, undef, undef, undef, undef, undef, undef, undef, undef, undef, undef, undef, undef, undef, undef, undef, undef, undef, undef, undef, undef, undef, undef, undef, undef, undef, undef, undef, undef, undef, undef, undef, undef, undef, undef, undef, undef, undef, undef, undef, undef, undef, undef, undef, undef, undef, undef, undef, undef, undef, undef, undef, undef, undef, undef, undef, undef, undef, undef, undef, undef, undef, undef, undef, undef, undef, undef, undef, undef, undef, undef, undef, undef, undef, undef, undef, undef, undef, undef, undef, undef, undef, undef, undef, undef, undef, undef, undef, undef, undef, undef, undef, undef, undef], []⟩ w := by
  have HS := Lib.hid h
  clear h
  unfold ops1
  refine wpAnyH_ready (rs := [3]) (by kernel_rfl) (by simp) ?_
  refine AllReadyH.cons rfl (fun K hK => ?_) AllReadyH.nil
  · go_simp
    go_at_call 5
    with_reducible refine (HS.out.newp HC.out HD.out).mono ?_
    rintro e wx ⟨G, U, rfl, hS⟩
    go_wp2_with fail
    refine hK.out _ _ trivial (fun hH => ?_)
    clear hK K
    try simp only [Act.put, List.setIfInBounds_toArray, List.set_cons_zero, List.set_cons_succ]
    exact r1_12121 HC HD hQ _ _ _ _ _ G U (hS)
set_option maxRecDepth 100000 in
set_option maxHeartbeats 4000000 in
theorem r1_12101 (HC : Hid (imC 1 2000 zF = C)) (HD : Hid (imD 1 xF = D)) (hQ : Hid (Fin1 Q W C D)) (w : World) (X0 X1 X4 X5 : Nat) (G : PG) (U : PV) (h : Sp W w C D 1 0 X4 X5 G U) : wpAnyH Tryz.prog .any ops1 (NoPanic Q) (fun _ => True) 5 #[true, true, true, true, true, false, false, false, false, false] ⟨#[Value.bool false, undef, undef, undef, undef, undef, undef, undef, undef, undef, undef, undef, undef, undef, undef, undef, undef, Value.slice (some ⟨X0, 0, none⟩) 2000 2000, Value.slice (some ⟨X1, 0, none⟩) 1 1, Value.slice (some ⟨X1, 0, none⟩) 1 1, Value.pointer (some ⟨G.b, 0, none⟩), Value.slice (some ⟨X4, 0, none⟩) 2000 2000, undef, undef, undef, undef, undef, undef, undef, undef, undef, undef, undef, undef, undef, undef, undef, undef, undef, undef, undef, undef, undef, undef, undef, undef, undef, undef, undef, undef, undef, undef, undef, undef, undef, undef, undef, undef, undef, undef, undef, undef, undef, undef, undef, undef, undef, undef, undef, undef, undef, undef, undef, undef, undef, undef, undef, undef, undef, undef, undef, undef, undef, undef, undef, undef, undef, undef, undef, undef, undef, undef, undef, undef, undef, undef, undef, undef, undef, undef, undef, undef, undef, undef, undef, undef, undef, undef, undef, undef, undef, undef, undef, undef, undef, undef, undef, undef, undef, undef, undef, undef, undef, undef, undef, undef, undef, undef, undef, undef, undef, undef, undef, undef, undef, undef, undef, undef, undef, undef], []⟩ w := by
  have HS := Lib.hid h
  clear h
  unfold ops1
  refine wpAnyH_ready (rs := [5]) (by kernel_rfl) (by simp) ?_
  refine AllReadyH.cons rfl (fun K hK => ?_) AllReadyH.nil
  · go_simp
    refine hK.out _ _ trivial (fun hH => ?_)
    clear hK K
    try simp only [Act.put, List.setIfInBounds_toArray, List.set_cons_zero, List.set_cons_succ]
    exact r1_12111 HC HD hQ _ _ _ _ _ G U (HS.out.al5)
set_option maxRecDepth 100000 in
set_option maxHeartbeats 4000000 in
theorem r1_12011 (HC : Hid (imC 1 2000 zF = C)) (HD : Hid (imD 1 xF = D)) (hQ : Hid (Fin1 Q W C D)) (w : World) (X0 X1 X4 X5 : Nat) (G : PG) (U : PV) (h : Sp W w C D 0 1 X4 X5 G U) : wpAnyH Tryz.prog .any ops1 (NoPanic Q) (fun _ => True) 5 #[true, true, true, true, false, true, false, false, false, false] ⟨#[Value.bool false, undef, undef, undef, undef, undef, undef, undef, undef, undef, undef, undef, undef, undef, undef, undef, undef, Value.slice (some ⟨X0, 0, none⟩) 2000 2000, Value.slice (some ⟨X1, 0, none⟩) 1 1, Value.slice (some ⟨X1, 0, none⟩) 1 1, Value.pointer (some ⟨G.b, 0, none⟩), undef, Value.slice (some ⟨X5, 0, none⟩) 1 1, undef, undef, undef, undef, undef, undef, undef, undef, undef, undef, undef, undef, undef, undef, undef, undef, undef, undef, undef, undef, undef, undef, undef, undef, undef, undef, undef, undef, undef, undef, undef, undef, undef, undef, undef, undef, undef, undef, undef, undef, undef, undef, undef, undef, undef, undef, undef, undef, undef, undef, undef, undef, undef, undef, undef, undef, undef, undef, undef, undef, undef, undef, undef, undef, undef, undef, undef, undef, undef, undef, undef, undef, undef, undef, undef, undef, undef, undef, undef, undef, undef, undef, undef, undef, undef, undef, undef, undef, undef, undef, undef, undef, undef, undef, undef, undef, undef, undef, undef, undef, undef, undef, undef, undef, undef, undef, undef, undef, undef, undef, undef, undef, undef, undef, undef, undef, undef], []⟩ w := by
  have hm1 := run_make_row' (P := Tryz.prog) 24 5 (.int .u8 0) 1 Tryz.underlying24 info_u8 rfl .i64 .i64 2000 (by omega) (by omega)
  have HS := Lib.hid h
  clear h
  unfold ops1
  refine wpAnyH_ready (rs := [4, 6]) (by kernel_rfl) (by simp) ?_
  refine AllReadyH.cons rfl (fun K hK => ?_) (AllReadyH.cons rfl (fun K hK => ?_) AllReadyH.nil)
  · go_simp
    refine hK.out _ _ trivial (fun hH => ?_)
    clear hK K
    try simp only [Act.put, List.setIfInBounds_toArray, List.set_cons_zero, List.set_cons_succ]
    exact r1_12111 HC HD hQ _ _ _ _ _ G U (HS.out.al4)
  · obtain ⟨wx, hrun, e1, f1⟩ := conv_x (HS.out.b5 (by omega)).1
    go_simp
    refine hK.out _ _ trivial (fun hH => ?_)
    clear hK K
    try simp only [Act.put, List.setIfInBounds_toArray, List.set_cons_zero, List.set_cons_succ]
    exact r1_12021 HC HD hQ _ _ _ _ _ G U (HS.out.cv5 f1 e1)
set_option maxRecDepth 100000 in
set_option maxHeartbeats 4000000 in
theorem r1_11120 (HC : Hid (imC 1 2000 zF = C)) (HD : Hid (imD 1 xF = D)) (hQ : Hid (Fin1 Q W C D)) (w : World) (X0 X1 X4 X5 : Nat) (h : St W w 1 1 1 2 X0 X1 X4 X5) : wpAnyH Tryz.prog .any ops1 (NoPanic Q) (fun _ => True) 5 #[true, true, false, false, true, true, true, false, false, false] ⟨#[Value.bool false, undef, undef, undef, undef, undef, undef, undef, undef, undef, undef, undef, undef, undef, undef, undef, undef, Value.slice (some ⟨X0, 0, none⟩) 2000 2000, Value.slice (some ⟨X1, 0, none⟩) 1 1, undef, undef, Value.slice (some ⟨X4, 0, none⟩) 2000 2000, Value.slice (some ⟨X5, 0, none⟩) 1 1, Value.slice (some ⟨X5, 0, none⟩) 1 1, undef, undef, undef, undef, undef, undef, undef, undef, undef, undef, undef, undef, undef, undef, undef, undef, undef, undef, undef, undef, undef, undef, undef, undef, undef, undef, undef, undef, undef, undef, undef, undef, undef, undef, undef, undef, undef, undef, undef, undef, undef, undef, undef, undef, undef, undef, undef, undef, undef, undef, undef, undef, undef, undef, undef, undef, undef, undef, undef, undef, undef, undef, undef, undef, undef, undef, undef, undef, undef, undef, undef, undef, undef, undef, undef, undef, undef, undef, undef, undef, undef, undef, undef, undef, undef, undef, undef, undef, undef, undef, undef, undef, undef, undef, undef, undef, undef, undef, undef, undef, undef, undef, undef, undef, undef, undef, undef, undef, undef, undef, undef, undef, undef, undef, undef, undef], []⟩ w := by
  have HS := Lib.hid h
  clear h
  unfold ops1
  refine wpAnyH_ready (rs := [2]) (by kernel_rfl) (by simp) ?_
  refine AllReadyH.cons rfl (fun K hK => ?_) AllReadyH.nil
  · obtain ⟨wx, hrun, e1, f1⟩ := conv_x (HS.out.b1 (by omega)).1
    go_simp
    refine hK.out _ _ trivial (fun hH => ?_)
    clear hK K
    try simp only [Act.put, List.setIfInBounds_toArray, List.set_cons_zero, List.set_cons_succ]
    exact r1_12120 HC HD hQ _ _ _ _ _ (HS.out.cv1 f1 e1)
set_option maxRecDepth 100000 in
set_option maxHeartbeats 4000000 in
theorem r1_02120 (HC : Hid (imC 1 2000 zF = C)) (HD : Hid (imD 1 xF = D)) (hQ : Hid (Fin1 Q W C D)) (w : World) (X0 X1 X4 X5 : Nat) (h : St W w 0 2 1 2 X0 X1 X4 X5) : wpAnyH Tryz.prog .any ops1 (NoPanic Q) (fun _ => True) 5 #[false, true, true, false, true, true, true, false, false, false] ⟨#[Value.bool false, undef, undef, undef, undef, undef, undef, undef, undef, undef, undef, undef, undef, undef, undef, undef, undef, undef, Value.slice (some ⟨X1, 0, none⟩) 1 1, Value.slice (some ⟨X1, 0, none⟩) 1 1, undef, Value.slice (some ⟨X4, 0, none⟩) 2000 2000, Value.slice (some ⟨X5, 0, none⟩) 1 1, Value.slice (some ⟨X5, 0, none⟩) 1 1, undef, undef, undef, undef, undef, undef, undef, undef, undef, undef, undef, undef, undef, undef, undef, undef, undef, undef, undef, undef, undef, undef, undef, undef, undef, undef, undef, undef, undef, undef, undef, undef, undef, undef, undef, undef, undef, undef, undef, undef, undef, undef, undef, undef, undef, undef, undef, undef, undef, undef, undef, undef, undef, undef, undef, undef, undef, undef, undef, undef, undef, undef, undef, undef, undef, undef, undef, undef, undef, undef, undef, undef, undef, undef, undef, undef, undef, undef, undef, undef, undef, undef, undef, undef, undef, undef, undef, undef, undef, undef, undef, undef, undef, undef, undef, undef, undef, undef, undef, undef, undef, undef, undef, undef, undef, undef, undef, undef, undef, undef, undef, undef, undef, undef, undef, undef], []⟩ w := by
  have hm1 := run_make_row' (P := Tryz.prog) 24 5 (.int .u8 0) 1 Tryz.underlying24 info_u8 rfl .i64 .i64 2000 (by omega) (by omega)
  have HS := Lib.hid h
  clear h
  unfold ops1
  refine wpAnyH_ready (rs := [0]) (by kernel_rfl) (by simp) ?_
  refine AllReadyH.cons rfl (fun K hK => ?_) AllReadyH.nil
  · go_simp
    refine hK.out _ _ trivial (fun hH => ?_)
    clear hK K
    try simp only [Act.put, List.setIfInBounds_toArray, List.set_cons_zero, List.set_cons_succ]
    exact r1_12120 HC HD hQ _ _ _ _ _ (HS.out.al0)
set_option maxRecDepth 100000 in
set_option maxHeartbeats 4000000 in
theorem r1_12110 (HC : Hid (imC 1 2000 zF = C)) (HD : Hid (imD 1 xF = D)) (hQ : Hid (Fin1 Q W C D)) (w : World) (X0 X1 X4 X5 : Nat) (h : St W w 1 2 1 1 X0 X1 X4 X5) : wpAnyH Tryz.prog .any ops1 (NoPanic Q) (fun _ => True) 5 #[true, true, true, false, true, true, false, false, false, false] ⟨#[Value.bool false, undef, undef, undef, undef, undef, undef, undef, undef, undef, undef, undef, undef, undef, undef, undef, undef, Value.slice (some ⟨X0, 0, none⟩) 2000 2000, Value.slice (some ⟨X1, 0, none⟩) 1 1, Value.slice (some ⟨X1, 0, none⟩) 1 1, undef, Value.slice (some ⟨X4, 0, none⟩) 2000 2000, Value.slice (some ⟨X5, 0, none⟩) 1 1, undef, undef, undef, undef, undef, undef, undef, undef, undef, undef, undef, undef, undef, undef, undef, undef, undef, undef, undef, undef, undef, undef, undef, undef, undef, undef, undef, undef, undef, undef, undef, undef, undef, undef, undef, undef, undef, undef, undef, undef, undef, undef, undef, undef, undef, undef, undef, undef, undef, undef, undef, undef, undef, undef, undef, undef, undef, undef, undef, undef, undef, undef, undef, undef, undef, undef, undef, undef, undef, undef, undef, undef, undef, undef, undef, undef, undef, undef, undef, undef, undef, undef, undef, undef, undef, undef, undef, undef, undef, undef, undef, undef, undef, undef, undef, undef, undef, undef, undef, undef, undef, undef, undef, undef, undef, undef, undef, undef, undef, undef, undef, undef, undef, undef, undef, undef, undef], []⟩ w := by
  have HS := Lib.hid h
  clear h
  unfold ops1
  refine wpAnyH_ready (rs := [3, 6]) (by kernel_rfl) (by simp) ?_
  refine AllReadyH.cons rfl (fun K hK => ?_) (AllReadyH.cons rfl (fun K hK => ?_) AllReadyH.nil)
  · go_simp
    go_at_call 5
    with_reducible refine (HS.out.newp HC.out HD.out).mono ?_
    rintro e wx ⟨G, U, rfl, hS⟩
    go_wp2_with fail
    refine hK.out _ _ trivial (fun hH => ?_)
    clear hK K
    try simp only [Act.put, List.setIfInBounds_toArray, List.set_cons_zero, List.set_cons_succ]
    exact r1_12111 HC HD hQ _ _ _ _ _ G U (hS)
  · obtain ⟨wx, hrun, e1, f1⟩ := conv_x (HS.out.b5 (by omega)).1
    go_simp
    refine hK.out _ _ trivial (fun hH => ?_)
    clear hK K
    try simp only [Act.put, List.setIfInBounds_toArray, List.set_cons_zero, List.set_cons_succ]
    exact r1_12120 HC HD hQ _ _ _ _ _ (HS.out.cv5 f1 e1)
set_option maxRecDepth 100000 in
set_option maxHeartbeats 4000000 in
theorem r1_12020 (HC : Hid (imC 1 2000 zF = C)) (HD : Hid (imD 1 xF = D)) (hQ : Hid (Fin1 Q W C D)) (w : World) (X0 X1 X4 X5 : Nat) (h : St W w 1 2 0 2 X0 X1 X4 X5) : wpAnyH Tryz.prog .any ops1 (NoPanic Q) (fun _ => True) 5 #[true, true, true, false, false, true, true, false, false, false] ⟨#[Value.bool false, undef, undef, undef, undef, undef, undef, undef, undef, undef, undef, undef, undef, undef, undef, undef, undef, Value.slice (some ⟨X0, 0, none⟩) 2000 2000, Value.slice (some ⟨X1, 0, none⟩) 1 1, Value.slice (some ⟨X1, 0, none⟩) 1 1, undef, undef, Value.slice (some ⟨X5, 0, none⟩) 1 1, Value.slice (some ⟨X5, 0, none⟩) 1 1, undef, undef, undef, undef, undef, undef, undef, undef, undef, undef, undef, undef, undef, undef, undef, undef, undef, undef, undef, undef, undef, undef, undef, undef, undef, undef, undef, undef, undef, undef, undef, undef, undef, undef, undef, undef, undef, undef, undef, undef, undef, undef, undef, undef, undef, undef, undef, undef, undef, undef, undef, undef, undef, undef, undef, undef, undef, undef, undef, undef, undef, undef, undef, undef, undef, undef, undef, undef, undef, undef, undef, undef, undef, undef, undef, undef, undef, undef, undef, undef, undef, undef, undef, undef, undef, undef, undef, undef, undef, undef, undef, undef, undef, undef, undef, undef, undef, undef, undef, undef, undef, undef, undef, undef, undef, undef, undef, undef, undef, undef, undef, undef, undef, undef, undef, undef], []⟩ w := by
  have hm1 := run_make_row' (P := Tryz.prog) 24 5 (.int .u8 0) 1 Tryz.underlying24 info_u8 rfl .i64 .i64 2000 (by omega) (by omega)
  have HS := Lib.hid h
  clear h
  unfold ops1
  refine wpAnyH_ready (rs := [3, 4]) (by kernel_rfl) (by simp) ?_
  refine AllReadyH.cons rfl (fun K hK => ?_) (AllReadyH.cons rfl (fun K hK => ?_) AllReadyH.nil)
  · go_simp
    go_at_call 5
    with_reducible refine (HS.out.newp HC.out HD.out).mono ?_
    rintro e wx ⟨G, U, rfl, hS⟩
    go_wp2_with fail
    refine hK.out _ _ trivial (fun hH => ?_)
    clear hK K
    try simp only [Act.put, List.setIfInBounds_toArray, List.set_cons_zero, List.set_cons_succ]
    exact r1_12021 HC HD hQ _ _ _ _ _ G U (hS)
  · go_simp
    refine hK.out _ _ trivial (fun hH => ?_)
    clear hK K
    try simp only [Act.put, List.setIfInBounds_toArray, List.set_cons_zero, List.set_cons_succ]
    exact r1_12120 HC HD hQ _ _ _ _ _ (HS.out.al4)
set_option maxRecDepth 100000 in
set_option maxHeartbeats 4000000 in
theorem r1_12001 (HC : Hid (imC 1 2000 zF = C)) (HD : Hid (imD 1 xF = D)) (hQ : Hid (Fin1 Q W C D)) (w : World) (X0 X1 X4 X5 : Nat) (G : PG) (U : PV) (h : Sp W w C D 0 0 X4 X5 G U) : wpAnyH Tryz.prog .any ops1 (NoPanic Q) (fun _ => True) 6 #[true, true, true, true, false, false, false, false, false, false] ⟨#[Value.bool false, undef, undef, undef, undef, undef, undef, undef, undef, undef, undef, undef, undef, undef, undef, undef, undef, Value.slice (some ⟨X0, 0, none⟩) 2000 2000, Value.slice (some ⟨X1, 0, none⟩) 1 1, Value.slice (some ⟨X1, 0, none⟩) 1 1, Value.pointer (some ⟨G.b, 0, none⟩), undef, undef, undef, undef, undef, undef, undef, undef, undef, undef, undef, undef, undef, undef, undef, undef, undef, undef, undef, undef, undef, undef, undef, undef, undef, undef, undef, undef, undef, undef, undef, undef, undef, undef, undef, undef, undef, undef, undef, undef, undef, undef, undef, undef, undef, undef, undef, undef, undef, undef, undef, undef, undef, undef, undef, undef, undef, undef, undef, undef, undef, undef, undef, undef, undef, undef, undef, undef, undef, undef, undef, undef, undef, undef, undef, undef, undef, undef, undef, undef, undef, undef, undef, undef, undef, undef, undef, undef, undef, undef, undef, undef, undef, undef, undef, undef, undef, undef, undef, undef, undef, undef, undef, undef, undef, undef, undef, undef, undef, undef, undef, undef, undef, undef, undef, undef, undef, undef, undef], []⟩ w := by
  have hm1 := run_make_row' (P := Tryz.prog) 24 5 (.int .u8 0) 1 Tryz.underlying24 info_u8 rfl .i64 .i64 2000 (by omega) (by omega)
  have HS := Lib.hid h
  clear h
  unfold ops1
  refine wpAnyH_ready (rs := [4, 5]) (by kernel_rfl) (by simp) ?_
  refine AllReadyH.cons rfl (fun K hK => ?_) (AllReadyH.cons rfl (fun K hK => ?_) AllReadyH.nil)
  · go_simp
    refine hK.out _ _ trivial (fun hH => ?_)
    clear hK K
    try simp only [Act.put, List.setIfInBounds_toArray, List.set_cons_zero, List.set_cons_succ]
    exact r1_12101 HC HD hQ _ _ _ _ _ G U (HS.out.al4)
  · go_simp
    refine hK.out _ _ trivial (fun hH => ?_)
    clear hK K
    try simp only [Act.put, List.setIfInBounds_toArray, List.set_cons_zero, List.set_cons_succ]
    exact r1_12011 HC HD hQ _ _ _ _ _ G U (HS.out.al5)
set_option maxRecDepth 100000 in
set_option maxHeartbeats 4000000 in
theorem r1_10120 (HC : Hid (imC 1 2000 zF = C)) (HD : Hid (imD 1 xF = D)) (hQ : Hid (Fin1 Q W C D)) (w : World) (X0 X1 X4 X5 : Nat) (h : St W w 1 0 1 2 X0 X1 X4 X5) : wpAnyH Tryz.prog .any ops1 (NoPanic Q) (fun _ => True) 6 #[true, false, false, false, true, true, true, false, false, false] ⟨#[Value.bool false, undef, undef, undef, undef, undef, undef, undef, undef, undef, undef, undef, undef, undef, undef, undef, undef, Value.slice (some ⟨X0, 0, none⟩) 2000 2000, undef, undef, undef, Value.slice (some ⟨X4, 0, none⟩) 2000 2000, Value.slice (some ⟨X5, 0, none⟩) 1 1, Value.slice (some ⟨X5, 0, none⟩) 1 1, undef, undef, undef, undef, undef, undef, undef, undef, undef, undef, undef, undef, undef, undef, undef, undef, undef, undef, undef, undef, undef, undef, undef, undef, undef, undef, undef, undef, undef, undef, undef, undef, undef, undef, undef, undef, undef, undef, undef, undef, undef, undef, undef, undef, undef, undef, undef, undef, undef, undef, undef, undef, undef, undef, undef, undef, undef, undef, undef, undef, undef, undef, undef, undef, undef, undef, undef, undef, undef, undef, undef, undef, undef, undef, undef, undef, undef, undef, undef, undef, undef, undef, undef, undef, undef, undef, undef, undef, undef, undef, undef, undef, undef, undef, undef, undef, undef, undef, undef, undef, undef, undef, undef, undef, undef, undef, undef, undef, undef, undef, undef, undef, undef, undef, undef, undef], []⟩ w := by
  have HS := Lib.hid h
  clear h
  unfold ops1
  refine wpAnyH_ready (rs := [1]) (by kernel_rfl) (by simp) ?_
  refine AllReadyH.cons rfl (fun K hK => ?_) AllReadyH.nil
  · go_simp
    refine hK.out _ _ trivial (fun hH => ?_)
    clear hK K
    try simp only [Act.put, List.setIfInBounds_toArray, List.set_cons_zero, List.set_cons_succ]
    exact r1_11120 HC HD hQ _ _ _ _ _ (HS.out.al1)
set_option maxRecDepth 100000 in
set_option maxHeartbeats 4000000 in
theorem r1_01120 (HC : Hid (imC 1 2000 zF = C)) (HD : Hid (imD 1 xF = D)) (hQ : Hid (Fin1 Q W C D)) (w : World) (X0 X1 X4 X5 : Nat) (h : St W w 0 1 1 2 X0 X1 X4 X5) : wpAnyH Tryz.prog .any ops1 (NoPanic Q) (fun _ => True) 6 #[false, true, false, false, true, true, true, false, false, false] ⟨#[Value.bool false, undef, undef, undef, undef, undef, undef, undef, undef, undef, undef, undef, undef, undef, undef, undef, undef, undef, Value.slice (some ⟨X1, 0, none⟩) 1 1, undef, undef, Value.slice (some ⟨X4, 0, none⟩) 2000 2000, Value.slice (some ⟨X5, 0, none⟩) 1 1, Value.slice (some ⟨X5, 0, none⟩) 1 1, undef, undef, undef, undef, undef, undef, undef, undef, undef, undef, undef, undef, undef, undef, undef, undef, undef, undef, undef, undef, undef, undef, undef, undef, undef, undef, undef, undef, undef, undef, undef, undef, undef, undef, undef, undef, undef, undef, undef, undef, undef, undef, undef, undef, undef, undef, undef, undef, undef, undef, undef, undef, undef, undef, undef, undef, undef, undef, undef, undef, undef, undef, undef, undef, undef, undef, undef, undef, undef, undef, undef, undef, undef, undef, undef, undef, undef, undef, undef, undef, undef, undef, undef, undef, undef, undef, undef, undef, undef, undef, undef, undef, undef, undef, undef, undef, undef, undef, undef, undef, undef, undef, undef, undef, undef, undef, undef, undef, undef, undef, undef, undef, undef, undef, undef, undef], []⟩ w := by
  have hm1 := run_make_row' (P := Tryz.prog) 24 5 (.int .u8 0) 1 Tryz.underlying24 info_u8 rfl .i64 .i64 2000 (by omega) (by omega)
  have HS := Lib.hid h
  clear h
  unfold ops1
  refine wpAnyH_ready (rs := [0, 2]) (by kernel_rfl) (by simp) ?_
  refine AllReadyH.cons rfl (fun K hK => ?_) (AllReadyH.cons rfl (fun K hK => ?_) AllReadyH.nil)
  · go_simp
    refine hK.out _ _ trivial (fun hH => ?_)
    clear hK K
    try simp only [Act.put, List.setIfInBounds_toArray, List.set_cons_zero, List.set_cons_succ]
    exact r1_11120 HC HD hQ _ _ _ _ _ (HS.out.al0)
  · obtain ⟨wx, hrun, e1, f1⟩ := conv_x (HS.out.b1 (by omega)).1
    go_simp
    refine hK.out _ _ trivial (fun hH => ?_)
    clear hK K
    try simp only [Act.put, List.setIfInBounds_toArray, List.set_cons_zero, List.set_cons_succ]
    exact r1_02120 HC HD hQ _ _ _ _ _ (HS.out.cv1 f1 e1)
set_option maxRecDepth 100000 in
set_option maxHeartbeats 4000000 in
theorem r1_11110 (HC : Hid (imC 1 2000 zF = C)) (HD : Hid (imD 1 xF = D)) (hQ : Hid (Fin1 Q W C D)) (w : World) (X0 X1 X4 X5 : Nat) (h : St W w 1 1 1 1 X0 X1 X4 X5) : wpAnyH Tryz.prog .any ops1 (NoPanic Q) (fun _ => True) 6 #[true, true, false, false, true, true, false, false, false, false] ⟨#[Value.bool false, undef, undef, undef, undef, undef, undef, undef, undef, undef, undef, undef, undef, undef, undef, undef, undef, Value.slice (some ⟨X0, 0, none⟩) 2000 2000, Value.slice (some ⟨X1, 0, none⟩) 1 1, undef, undef, Value.slice (some ⟨X4, 0, none⟩) 2000 2000, Value.slice (some ⟨X5, 0, none⟩) 1 1, undef, undef, undef, undef, undef, undef, undef, undef, undef, undef, undef, undef, undef, undef, undef, undef, undef, undef, undef, undef, undef, undef, undef, undef, undef, undef, undef, undef, undef, undef, undef, undef, undef, undef, undef, undef, undef, undef, undef, undef, undef, undef, undef, undef, undef, undef, undef, undef, undef, undef, undef, undef, undef, undef, undef, undef, undef, undef, undef, undef, undef, undef, undef, undef, undef, undef, undef, undef, undef, undef, undef, undef, undef, undef, undef, undef, undef, undef, undef, undef, undef, undef, undef, undef, undef, undef, undef, undef, undef, undef, undef, undef, undef, undef, undef, undef, undef, undef, undef, undef, undef, undef, undef, undef, undef, undef, undef, undef, undef, undef, undef, undef, undef, undef, undef, undef, undef], []⟩ w := by
  have HS := Lib.hid h
  clear h
  unfold ops1
  refine wpAnyH_ready (rs := [2, 6]) (by kernel_rfl) (by simp) ?_
  refine AllReadyH.cons rfl (fun K hK => ?_) (AllReadyH.cons rfl (fun K hK => ?_) AllReadyH.nil)
  · obtain ⟨wx, hrun, e1, f1⟩ := conv_x (HS.out.b1 (by omega)).1
    go_simp
    refine hK.out _ _ trivial (fun hH => ?_)
    clear hK K
    try simp only [Act.put, List.setIfInBounds_toArray, List.set_cons_zero, List.set_cons_succ]
    exact r1_12110 HC HD hQ _ _ _ _ _ (HS.out.cv1 f1 e1)
  · obtain ⟨wx, hrun, e1, f1⟩ := conv_x (HS.out.b5 (by omega)).1
    go_simp
    refine hK.out _ _ trivial (fun hH => ?_)
    clear hK K
    try simp only [Act.put, List.setIfInBounds_toArray, List.set_cons_zero, List.set_cons_succ]
    exact r1_11120 HC HD hQ _ _ _ _ _ (HS.out.cv5 f1 e1)
set_option maxRecDepth 100000 in
set_option maxHeartbeats 4000000 in
theorem r1_02110 (HC : Hid (imC 1 2000 zF = C)) (HD : Hid (imD 1 xF = D)) (hQ : Hid (Fin1 Q W C D)) (w : World) (X0 X1 X4 X5 : Nat) (h : St W w 0 2 1 1 X0 X1 X4 X5) : wpAnyH Tryz.prog .any ops1 (NoPanic Q) (fun _ => True) 6 #[false, true, true, false, true, true, false, false, false, false] ⟨#[Value.bool false, undef, undef, undef, undef, undef, undef, undef, undef, undef, undef, undef, undef, undef, undef, undef, undef, undef, Value.slice (some ⟨X1, 0, none⟩) 1 1, Value.slice (some ⟨X1, 0, none⟩) 1 1, undef, Value.slice (some ⟨X4, 0, none⟩) 2000 2000, Value.slice (some ⟨X5, 0, none⟩) 1 1, undef, undef, undef, undef, undef, undef, undef, undef, undef, undef, undef, undef, undef, undef, undef, undef, undef, undef, undef, undef, undef, undef, undef, undef, undef, undef, undef, undef, undef, undef, undef, undef, undef, undef, undef, undef, undef, undef, undef, undef, undef, undef, undef, undef, undef, undef, undef, undef, undef, undef, undef, undef, undef, undef, undef, undef, undef, undef, undef, undef, undef, undef, undef, undef, undef, undef, undef, undef, undef, undef, undef, undef, undef, undef, undef, undef, undef, undef, undef, undef, undef, undef, undef, undef, undef, undef, undef, undef, undef, undef, undef, undef, undef, undef, undef, undef, undef, undef, undef, undef, undef, undef, undef, undef, undef, undef, undef, undef, undef, undef, undef, undef, undef, undef, undef, undef, undef], []⟩ w := by
  have hm1 := run_make_row' (P := Tryz.prog) 24 5 (.int .u8 0) 1 Tryz.underlying24 info_u8 rfl .i64 .i64 2000 (by omega) (by omega)
  have HS := Lib.hid h
  clear h
  unfold ops1
  refine wpAnyH_ready (rs := [0, 6]) (by kernel_rfl) (by simp) ?_
  refine AllReadyH.cons rfl (fun K hK => ?_) (AllReadyH.cons rfl (fun K hK => ?_) AllReadyH.nil)
  · go_simp
    refine hK.out _ _ trivial (fun hH => ?_)
    clear hK K
    try simp only [Act.put, List.setIfInBounds_toArray, List.set_cons_zero, List.set_cons_succ]
    exact r1_12110 HC HD hQ _ _ _ _ _ (HS.out.al0)
  · obtain ⟨wx, hrun, e1, f1⟩ := conv_x (HS.out.b5 (by omega)).1
    go_simp
    refine hK.out _ _ trivial (fun hH => ?_)
    clear hK K
    try simp only [Act.put, List.setIfInBounds_toArray, List.set_cons_zero, List.set_cons_succ]
    exact r1_02120 HC HD hQ _ _ _ _ _ (HS.out.cv5 f1 e1)
set_option maxRecDepth 100000 in
set_option maxHeartbeats 4000000 in
theorem r1_12100 (HC : Hid (imC 1 2000 zF = C)) (HD : Hid (imD 1 xF = D)) (hQ : Hid (Fin1 Q W C D)) (w : World) (X0 X1 X4 X5 : Nat) (h : St W w 1 2 1 0 X0 X1 X4 X5) : wpAnyH Tryz.prog .any ops1 (NoPanic Q) (fun _ => True) 6 #[true, true, true, false, true, false, false, false, false, false] ⟨#[Value.bool false, undef, undef, undef, undef, undef, undef, undef, undef, undef, undef, undef, undef, undef, undef, undef, undef, Value.slice (some ⟨X0, 0, none⟩) 2000 2000, Value.slice (some ⟨X1, 0, none⟩) 1 1, Value.slice (some ⟨X1, 0, none⟩) 1 1, undef, Value.slice (some ⟨X4, 0, none⟩) 2000 2000, undef, undef, undef, undef, undef, undef, undef, undef, undef, undef, undef, undef, undef, undef, undef, undef, undef, undef, undef, undef, undef, undef, undef, undef, undef, undef, undef, undef, undef, undef, undef, undef, undef, undef, undef, undef, undef, undef, undef, undef, undef, undef, undef, undef, undef, undef, undef, undef, undef, undef, undef, undef, undef, undef, undef, undef, undef, undef, undef, undef, undef, undef, undef, undef, undef, undef, undef, undef, undef, undef, undef, undef, undef, undef, undef, undef, undef, undef, undef, undef, undef, undef, undef, undef, undef, undef, undef, undef, undef, undef, undef, undef, undef, undef, undef, undef, undef, undef, undef, undef, undef, undef, undef, undef, undef, undef, undef, undef, undef, undef, undef, undef, undef, undef, undef, undef, undef, undef], []⟩ w := by
  have HS := Lib.hid h
  clear h
  unfold ops1
  refine wpAnyH_ready (rs := [3, 5]) (by kernel_rfl) (by simp) ?_
  refine AllReadyH.cons rfl (fun K hK => ?_) (AllReadyH.cons rfl (fun K hK => ?_) AllReadyH.nil)
  · go_simp
    go_at_call 5
    with_reducible refine (HS.out.newp HC.out HD.out).mono ?_
    rintro e wx ⟨G, U, rfl, hS⟩
    go_wp2_with fail
    refine hK.out _ _ trivial (fun hH => ?_)
    clear hK K
    try simp only [Act.put, List.setIfInBounds_toArray, List.set_cons_zero, List.set_cons_succ]
    exact r1_12101 HC HD hQ _ _ _ _ _ G U (hS)
  · go_simp
    refine hK.out _ _ trivial (fun hH => ?_)
    clear hK K
    try simp only [Act.put, List.setIfInBounds_toArray, List.set_cons_zero, List.set_cons_succ]
    exact r1_12110 HC HD hQ _ _ _ _ _ (HS.out.al5)
set_option maxRecDepth 100000 in
set_option maxHeartbeats 4000000 in
theorem r1_11020 (HC : Hid (imC 1 2000 zF = C)) (HD : Hid (imD 1 xF = D)) (hQ : Hid (Fin1 Q W C D)) (w : World) (X0 X1 X4 X5 : Nat) (h : St W w 1 1 0 2 X0 X1 X4 X5) : wpAnyH Tryz.prog .any ops1 (NoPanic Q) (fun _ => True) 6 #[true, true, false, false, false, true, true, false, false, false] ⟨#[Value.bool false, undef, undef, undef, undef, undef, undef, undef, undef, undef, undef, undef, undef, undef, undef, undef, undef, Value.slice (some ⟨X0, 0, none⟩) 2000 2000, Value.slice (some ⟨X1, 0, none⟩) 1 1, undef, undef, undef, Value.slice (some ⟨X5, 0, none⟩) 1 1, Value.slice (some ⟨X5, 0, none⟩) 1 1, undef, undef, undef, undef, undef, undef, undef, undef, undef, undef, undef, undef, undef, undef, undef, undef, undef, undef, undef, undef, undef, undef, undef, undef, undef, undef, undef, undef, undef, undef, undef, undef, undef, undef, undef, undef, undef, undef, undef, undef, undef, undef, undef, undef, undef, undef, undef, undef, undef, undef, undef, undef, undef, undef, undef, undef, undef, undef, undef, undef, undef, undef, undef, undef, undef, undef, undef, undef, undef, undef, undef, undef, undef, undef, undef, undef, undef, undef, undef, undef, undef, undef, undef, undef, undef, undef, undef, undef, undef, undef, undef, undef, undef, undef, undef, undef, undef, undef, undef, undef, undef, undef, undef, undef, undef, undef, undef, undef, undef, undef, undef, undef, undef, undef, undef, undef], []⟩ w := by
  have hm1 := run_make_row' (P := Tryz.prog) 24 5 (.int .u8 0) 1 Tryz.underlying24 info_u8 rfl .i64 .i64 2000 (by omega) (by omega)
  have HS := Lib.hid h
  clear h
  unfold ops1
  refine wpAnyH_ready (rs := [2, 4]) (by kernel_rfl) (by simp) ?_
  refine AllReadyH.cons rfl (fun K hK => ?_) (AllReadyH.cons rfl (fun K hK => ?_) AllReadyH.nil)
  · obtain ⟨wx, hrun, e1, f1⟩ := conv_x (HS.out.b1 (by omega)).1
    go_simp
    refine hK.out _ _ trivial (fun hH => ?_)
    clear hK K
    try simp only [Act.put, List.setIfInBounds_toArray, List.set_cons_zero, List.set_cons_succ]
    exact r1_12020 HC HD hQ _ _ _ _ _ (HS.out.cv1 f1 e1)
  · go_simp
    refine hK.out _ _ trivial (fun hH => ?_)
    clear hK K
    try simp only [Act.put, List.setIfInBounds_toArray, List.set_cons_zero, List.set_cons_succ]
    exact r1_11120 HC HD hQ _ _ _ _ _ (HS.out.al4)
set_option maxRecDepth 100000 in
set_option maxHeartbeats 4000000 in
theorem r1_02020 (HC : Hid (imC 1 2000 zF = C)) (HD : Hid (imD 1 xF = D)) (hQ : Hid (Fin1 Q W C D)) (w : World) (X0 X1 X4 X5 : Nat) (h : St W w 0 2 0 2 X0 X1 X4 X5) : wpAnyH Tryz.prog .any ops1 (NoPanic Q) (fun _ => True) 6 #[false, true, true, false, false, true, true, false, false, false] ⟨#[Value.bool false, undef, undef, undef, undef, undef, undef, undef, undef, undef, undef, undef, undef, undef, undef, undef, undef, undef, Value.slice (some ⟨X1, 0, none⟩) 1 1, Value.slice (some ⟨X1, 0, none⟩) 1 1, undef, undef, Value.slice (some ⟨X5, 0, none⟩) 1 1, Value.slice (some ⟨X5, 0, none⟩) 1 1, undef, undef, undef, undef, undef, undef, undef, undef, undef, undef, undef, undef, undef, undef, undef, undef, undef, undef, undef, undef, undef, undef, undef, undef, undef, undef, undef, undef, undef, undef, undef, undef, undef, undef, undef, undef, undef, undef, undef, undef, undef, undef, undef, undef, undef, undef, undef, undef, undef, undef, undef, undef, undef, undef, undef, undef, undef, undef, undef, undef, undef, undef, undef, undef, undef, undef, undef, undef, undef, undef, undef, undef, undef, undef, undef, undef, undef, undef, undef, undef, undef, undef, undef, undef, undef, undef, undef, undef, undef, undef, undef, undef, undef, undef, undef, undef, undef, undef, undef, undef, undef, undef, undef, undef, undef, undef, undef, undef, undef, undef, undef, undef, undef, undef, undef, undef], []⟩ w := by
  have hm1 := run_make_row' (P := Tryz.prog) 24 5 (.int .u8 0) 1 Tryz.underlying24 info_u8 rfl .i64 .i64 2000 (by omega) (by omega)
  have HS := Lib.hid h
  clear h
  unfold ops1
  refine wpAnyH_ready (rs := [0, 4]) (by kernel_rfl) (by simp) ?_
  refine AllReadyH.cons rfl (fun K hK => ?_) (AllReadyH.cons rfl (fun K hK => ?_) AllReadyH.nil)
  · go_simp
    refine hK.out _ _ trivial (fun hH => ?_)
    clear hK K
    try simp only [Act.put, List.setIfInBounds_toArray, List.set_cons_zero, List.set_cons_succ]
    exact r1_12020 HC HD hQ _ _ _ _ _ (HS.out.al0)
  · go_simp
    refine hK.out _ _ trivial (fun hH => ?_)
    clear hK K
    try simp only [Act.put, List.setIfInBounds_toArray, List.set_cons_zero, List.set_cons_succ]
    exact r1_02120 HC HD hQ _ _ _ _ _ (HS.out.al4)
set_option maxRecDepth 100000 in
set_option maxHeartbeats 4000000 in
theorem r1_12010 (HC : Hid (imC 1 2000 zF = C)) (HD : Hid (imD 1 xF = D)) (hQ : Hid (Fin1 Q W C D)) (w : World) (X0 X1 X4 X5 : Nat) (h : St W w 1 2 0 1 X0 X1 X4 X5) : wpAnyH Tryz.prog .any ops1 (NoPanic Q) (fun _ => True) 6 #[true, true, true, false, false, true, false, false, false, false] ⟨#[Value.bool false, undef, undef, undef, undef, undef, undef, undef, undef, undef, undef, undef, undef, undef, undef, undef, undef, Value.slice (some ⟨X0, 0, none⟩) 2000 2000, Value.slice (some ⟨X1, 0, none⟩) 1 1, Value.slice (some ⟨X1, 0, none⟩) 1 1, undef, undef, Value.slice (some ⟨X5, 0, none⟩) 1 1, undef, undef, undef, undef, undef, undef, undef, undef, undef, undef, undef, undef, undef, undef, undef, undef, undef, undef, undef, undef, undef, undef, undef, undef, undef, undef, undef, undef, undef, undef, undef, undef, undef, undef, undef, undef, undef, undef, undef, undef, undef, undef, undef, undef, undef, undef, undef, undef, undef, undef, undef, undef, undef, undef, undef, undef, undef, undef, undef, undef, undef, undef, undef, undef, undef, undef, undef, undef, undef, undef, undef, undef, undef, undef, undef, undef, undef, undef, undef, undef, undef, undef, undef, undef, undef, undef, undef, undef, undef, undef, undef, undef, undef, undef, undef, undef, undef, undef, undef, undef, undef, undef, undef, undef, undef, undef, undef, undef, undef, undef, undef, undef, undef, undef, undef, undef, undef], []⟩ w := by
  have hm1 := run_make_row' (P := Tryz.prog) 24 5 (.int .u8 0) 1 Tryz.underlying24 info_u8 rfl .i64 .i64 2000 (by omega) (by omega)
  have HS := Lib.hid h
  clear h
  unfold ops1
  refine wpAnyH_ready (rs := [3, 4, 6]) (by kernel_rfl) (by simp) ?_
  refine AllReadyH.cons rfl (fun K hK => ?_) (AllReadyH.cons rfl (fun K hK => ?_) (AllReadyH.cons rfl (fun K hK => ?_) AllReadyH.nil))
  · go_simp
    go_at_call 5
    with_reducible refine (HS.out.newp HC.out HD.out).mono ?_
    rintro e wx ⟨G, U, rfl, hS⟩
    go_wp2_with fail
    refine hK.out _ _ trivial (fun hH => ?_)
    clear hK K
    try simp only [Act.put, List.setIfInBounds_toArray, List.set_cons_zero, List.set_cons_succ]
    exact r1_12011 HC HD hQ _ _ _ _ _ G U (hS)
  · go_simp
    refine hK.out _ _ trivial (fun hH => ?_)
    clear hK K
    try simp only [Act.put, List.setIfInBounds_toArray, List.set_cons_zero, List.set_cons_succ]
    exact r1_12110 HC HD hQ _ _ _ _ _ (HS.out.al4)
  · obtain ⟨wx, hrun, e1, f1⟩ := conv_x (HS.out.b5 (by omega)).1
    go_simp
    refine hK.out _ _ trivial (fun hH => ?_)
    clear hK K
    try simp only [Act.put, List.setIfInBounds_toArray, List.set_cons_zero, List.set_cons_succ]
    exact r1_12020 HC HD hQ _ _ _ _ _ (HS.out.cv5 f1 e1)
set_option maxRecDepth 100000 in
set_option maxHeartbeats 4000000 in
theorem r1_00120 (HC : Hid (imC 1 2000 zF = C)) (HD : Hid (imD 1 xF = D)) (hQ : Hid (Fin1 Q W C D)) (w : World) (X0 X1 X4 X5 : Nat) (h : St W w 0 0 1 2 X0 X1 X4 X5) : wpAnyH Tryz.prog .any ops1 (NoPanic Q) (fun _ => True) 7 #[false, false, false, false, true, true, true, false, false, false] ⟨#[Value.bool false, undef, undef, undef, undef, undef, undef, undef, undef, undef, undef, undef, undef, undef, undef, undef, undef, undef, undef, undef, undef, Value.slice (some ⟨X4, 0, none⟩) 2000 2000, Value.slice (some ⟨X5, 0, none⟩) 1 1, Value.slice (some ⟨X5, 0, none⟩) 1 1, undef, undef, undef, undef, undef, undef, undef, undef, undef, undef, undef, undef, undef, undef, undef, undef, undef, undef, undef, undef, undef, undef, undef, undef, undef, undef, undef, undef, undef, undef, undef, undef, undef, undef, undef, undef, undef, undef, undef, undef, undef, undef, undef, undef, undef, undef, undef, undef, undef, undef, undef, undef, undef, undef, undef, undef, undef, undef, undef, undef, undef, undef, undef, undef, undef, undef, undef, undef, undef, undef, undef, undef, undef, undef, undef, undef, undef, undef, undef, undef, undef, undef, undef, undef, undef, undef, undef, undef, undef, undef, undef, undef, undef, undef, undef, undef, undef, undef, undef, undef, undef, undef, undef, undef, undef, undef, undef, undef, undef, undef, undef, undef, undef, undef, undef, undef], []⟩ w := by
  have hm1 := run_make_row' (P := Tryz.prog) 24 5 (.int .u8 0) 1 Tryz.underlying24 info_u8 rfl .i64 .i64 2000 (by omega) (by omega)
  have HS := Lib.hid h
  clear h
  unfold ops1
  refine wpAnyH_ready (rs := [0, 1]) (by kernel_rfl) (by simp) ?_
  refine AllReadyH.cons rfl (fun K hK => ?_) (AllReadyH.cons rfl (fun K hK => ?_) AllReadyH.nil)
  · go_simp
    refine hK.out _ _ trivial (fun hH => ?_)
    clear hK K
    try simp only [Act.put, List.setIfInBounds_toArray, List.set_cons_zero, List.set_cons_succ]
    exact r1_10120 HC HD hQ _ _ _ _ _ (HS.out.al0)
  · go_simp
    refine hK.out _ _ trivial (fun hH => ?_)
    clear hK K
    try simp only [Act.put, List.setIfInBounds_toArray, List.set_cons_zero, List.set_cons_succ]
    exact r1_01120 HC HD hQ _ _ _ _ _ (HS.out.al1)
set_option maxRecDepth 100000 in
set_option maxHeartbeats 4000000 in
theorem r1_10110 (HC : Hid (imC 1 2000 zF = C)) (HD : Hid (imD 1 xF = D)) (hQ : Hid (Fin1 Q W C D)) (w : World) (X0 X1 X4 X5 : Nat) (h : St W w 1 0 1 1 X0 X1 X4 X5) : wpAnyH Tryz.prog .any ops1 (NoPanic Q) (fun _ => True) 7 #[true, false, false, false, true, true, false, false, false, false] ⟨#[Value.bool false, undef, undef, undef, undef, undef, undef, undef, undef, undef, undef, undef, undef, undef, undef, undef, undef, Value.slice (some ⟨X0, 0, none⟩) 2000 2000, undef, undef, undef, Value.slice (some ⟨X4, 0, none⟩) 2000 2000, Value.slice (some ⟨X5, 0, none⟩) 1 1, undef, undef, undef, undef, undef, undef, undef, undef, undef, undef, undef, undef, undef, undef, undef, undef, undef, undef, undef, undef, undef, undef, undef, undef, undef, undef, undef, undef, undef, undef, undef, undef, undef, undef, undef, undef, undef, undef, undef, undef, undef, undef, undef, undef, undef, undef, undef, undef, undef, undef, undef, undef, undef, undef, undef, undef, undef, undef, undef, undef, undef, undef, undef, undef, undef, undef, undef, undef, undef, undef, undef, undef, undef, undef, undef, undef, undef, undef, undef, undef, undef, undef, undef, undef, undef, undef, undef, undef, undef, undef, undef, undef, undef, undef, undef, undef, undef, undef, undef, undef, undef, undef, undef, undef, undef, undef, undef, undef, undef, undef, undef, undef, undef, undef, undef, undef, undef], []⟩ w := by
  have HS := Lib.hid h
  clear h
  unfold ops1
  refine wpAnyH_ready (rs := [1, 6]) (by kernel_rfl) (by simp) ?_
  refine AllReadyH.cons rfl (fun K hK => ?_) (AllReadyH.cons rfl (fun K hK => ?_) AllReadyH.nil)
  · go_simp
    refine hK.out _ _ trivial (fun hH => ?_)
    clear hK K
    try simp only [Act.put, List.setIfInBounds_toArray, List.set_cons_zero, List.set_cons_succ]
    exact r1_11110 HC HD hQ _ _ _ _ _ (HS.out.al1)
  · obtain ⟨wx, hrun, e1, f1⟩ := conv_x (HS.out.b5 (by omega)).1
    go_simp
    refine hK.out _ _ trivial (fun hH => ?_)
    clear hK K
    try simp only [Act.put, List.setIfInBounds_toArray, List.set_cons_zero, List.set_cons_succ]
    exact r1_10120 HC HD hQ _ _ _ _ _ (HS.out.cv5 f1 e1)
set_option maxRecDepth 100000 in
set_option maxHeartbeats 4000000 in
theorem r1_01110 (HC : Hid (imC 1 2000 zF = C)) (HD : Hid (imD 1 xF = D)) (hQ : Hid (Fin1 Q W C D)) (w : World) (X0 X1 X4 X5 : Nat) (h : St W w 0 1 1 1 X0 X1 X4 X5) : wpAnyH Tryz.prog .any ops1 (NoPanic Q) (fun _ => True) 7 #[false, true, false, false, true, true, false, false, false, false] ⟨#[Value.bool false, undef, undef, undef, undef, undef, undef, undef, undef, undef, undef, undef, undef, undef, undef, undef, undef, undef, Value.slice (some ⟨X1, 0, none⟩) 1 1, undef, undef, Value.slice (some ⟨X4, 0, none⟩) 2000 2000, Value.slice (some ⟨X5, 0, none⟩) 1 1, undef, undef, undef, undef, undef, undef, undef, undef, undef, undef, undef, undef, undef, undef, undef, undef, undef, undef, undef, undef, undef, undef, undef, undef, undef, undef, undef, undef, undef, undef, undef, undef, undef, undef, undef, undef, undef, undef, undef, undef, undef, undef, undef, undef, undef, undef, undef, undef, undef, undef, undef, undef, undef, undef, undef, undef, undef, undef, undef, undef, undef, undef, undef, undef, undef, undef, undef, undef, undef, undef, undef, undef, undef, undef, undef, undef, undef, undef, undef, undef, undef, undef, undef, undef, undef, undef, undef, undef, undef, undef, undef, undef, undef, undef, undef, undef, undef, undef, undef, undef, undef, undef, undef, undef, undef, undef, undef, undef, undef, undef, undef, undef, undef, undef, undef, undef, undef], []⟩ w := by
  have hm1 := run_make_row' (P := Tryz.prog) 24 5 (.int .u8 0) 1 Tryz.underlying24 info_u8 rfl .i64 .i64 2000 (by omega) (by omega)
  have HS := Lib.hid h
  clear h
  unfold ops1
  refine wpAnyH_ready (rs := [0, 2, 6]) (by kernel_rfl) (by simp) ?_
  refine AllReadyH.cons rfl (fun K hK => ?_) (AllReadyH.cons rfl (fun K hK => ?_) (AllReadyH.cons rfl (fun K hK => ?_) AllReadyH.nil))
  · go_simp
    refine hK.out _ _ trivial (fun hH => ?_)
    clear hK K
    try simp only [Act.put, List.setIfInBounds_toArray, List.set_cons_zero, List.set_cons_succ]
    exact r1_11110 HC HD hQ _ _ _ _ _ (HS.out.al0)
  · obtain ⟨wx, hrun, e1, f1⟩ := conv_x (HS.out.b1 (by omega)).1
    go_simp
    refine hK.out _ _ trivial (fun hH => ?_)
    clear hK K
    try simp only [Act.put, List.setIfInBounds_toArray, List.set_cons_zero, List.set_cons_succ]
    exact r1_02110 HC HD hQ _ _ _ _ _ (HS.out.cv1 f1 e1)
  · obtain ⟨wx, hrun, e1, f1⟩ := conv_x (HS.out.b5 (by omega)).1
    go_simp
    refine hK.out _ _ trivial (fun hH => ?_)
    clear hK K
    try simp only [Act.put, List.setIfInBounds_toArray, List.set_cons_zero, List.set_cons_succ]
    exact r1_01120 HC HD hQ _ _ _ _ _ (HS.out.cv5 f1 e1)
set_option maxRecDepth 100000 in
set_option maxHeartbeats 4000000 in
theorem r1_11100 (HC : Hid (imC 1 2000 zF = C)) (HD : Hid (imD 1 xF = D)) (hQ : Hid (Fin1 Q W C D)) (w : World) (X0 X1 X4 X5 : Nat) (h : St W w 1 1 1 0 X0 X1 X4 X5) : wpAnyH Tryz.prog .any ops1 (NoPanic Q) (fun _ => True) 7 #[true, true, false, false, true, false, false, false, false, false] ⟨#[Value.bool false, undef, undef, undef, undef, undef, undef, undef, undef, undef, undef, undef, undef, undef, undef, undef, undef, Value.slice (some ⟨X0, 0, none⟩) 2000 2000, Value.slice (some ⟨X1, 0, none⟩) 1 1, undef, undef, Value.slice (some ⟨X4, 0, none⟩) 2000 2000, undef, undef, undef, undef, undef, undef, undef, undef, undef, undef, undef, undef, undef, undef, undef, undef, undef, undef, undef, undef, undef, undef, undef, undef, undef, undef, undef, undef, undef, undef, undef, undef, undef, undef, undef, undef, undef, undef, undef, undef, undef, undef, undef, undef, undef, undef, undef, undef, undef, undef, undef, undef, undef, undef, undef, undef, undef, undef, undef, undef, undef, undef, undef, undef, undef, undef, undef, undef, undef, undef, undef, undef, undef, undef, undef, undef, undef, undef, undef, undef, undef, undef, undef, undef, undef, undef, undef, undef, undef, undef, undef, undef, undef, undef, undef, undef, undef, undef, undef, undef, undef, undef, undef, undef, undef, undef, undef, undef, undef, undef, undef, undef, undef, undef, undef, undef, undef, undef], []⟩ w := by
  have HS := Lib.hid h
  clear h
  unfold ops1
  refine wpAnyH_ready (rs := [2, 5]) (by kernel_rfl) (by simp) ?_
  refine AllReadyH.cons rfl (fun K hK => ?_) (AllReadyH.cons rfl (fun K hK => ?_) AllReadyH.nil)
  · obtain ⟨wx, hrun, e1, f1⟩ := conv_x (HS.out.b1 (by omega)).1
    go_simp
    refine hK.out _ _ trivial (fun hH => ?_)
    clear hK K
    try simp only [Act.put, List.setIfInBounds_toArray, List.set_cons_zero, List.set_cons_succ]
    exact r1_12100 HC HD hQ _ _ _ _ _ (HS.out.cv1 f1 e1)
  · go_simp
    refine hK.out _ _ trivial (fun hH => ?_)
    clear hK K
    try simp only [Act.put, List.setIfInBounds_toArray, List.set_cons_zero, List.set_cons_succ]
    exact r1_11110 HC HD hQ _ _ _ _ _ (HS.out.al5)
set_option maxRecDepth 100000 in
set_option maxHeartbeats 4000000 in
theorem r1_02100 (HC : Hid (imC 1 2000 zF = C)) (HD : Hid (imD 1 xF = D)) (hQ : Hid (Fin1 Q W C D)) (w : World) (X0 X1 X4 X5 : Nat) (h : St W w 0 2 1 0 X0 X1 X4 X5) : wpAnyH Tryz.prog .any ops1 (NoPanic Q) (fun _ => True) 7 #[false, true, true, false, true, false, false, false, false, false] ⟨#[Value.bool false, undef, undef, undef, undef, undef, undef, undef, undef, undef, undef, undef, undef, undef, undef, undef, undef, undef, Value.slice (some ⟨X1, 0, none⟩) 1 1, Value.slice (some ⟨X1, 0, none⟩) 1 1, undef, Value.slice (some ⟨X4, 0, none⟩) 2000 2000, undef, undef, undef, undef, undef, undef, undef, undef, undef, undef, undef, undef, undef, undef, undef, undef, undef, undef, undef, undef, undef, undef, undef, undef, undef, undef, undef, undef, undef, undef, undef, undef, undef, undef, undef, undef, undef, undef, undef, undef, undef, undef, undef, undef, undef, undef, undef, undef, undef, undef, undef, undef, undef, undef, undef, undef, undef, undef, undef, undef, undef, undef, undef, undef, undef, undef, undef, undef, undef, undef, undef, undef, undef, undef, undef, undef, undef, undef, undef, undef, undef, undef, undef, undef, undef, undef, undef, undef, undef, undef, undef, undef, undef, undef, undef, undef, undef, undef, undef, undef, undef, undef, undef, undef, undef, undef, undef, undef, undef, undef, undef, undef, undef, undef, undef, undef, undef, undef], []⟩ w := by
  have hm1 := run_make_row' (P := Tryz.prog) 24 5 (.int .u8 0) 1 Tryz.underlying24 info_u8 rfl .i64 .i64 2000 (by omega) (by omega)
  have HS := Lib.hid h
  clear h
  unfold ops1
  refine wpAnyH_ready (rs := [0, 5]) (by kernel_rfl) (by simp) ?_
  refine AllReadyH.cons rfl (fun K hK => ?_) (AllReadyH.cons rfl (fun K hK => ?_) AllReadyH.nil)
  · go_simp
    refine hK.out _ _ trivial (fun hH => ?_)
    clear hK K
    try simp only [Act.put, List.setIfInBounds_toArray, List.set_cons_zero, List.set_cons_succ]
    exact r1_12100 HC HD hQ _ _ _ _ _ (HS.out.al0)
  · go_simp
    refine hK.out _ _ trivial (fun hH => ?_)
    clear hK K
    try simp only [Act.put, List.setIfInBounds_toArray, List.set_cons_zero, List.set_cons_succ]
    exact r1_02110 HC HD hQ _ _ _ _ _ (HS.out.al5)
set_option maxRecDepth 100000 in
set_option maxHeartbeats 4000000 in
theorem r1_10020 (HC : Hid (imC 1 2000 zF = C)) (HD : Hid (imD 1 xF = D)) (hQ : Hid (Fin1 Q W C D)) (w : World) (X0 X1 X4 X5 : Nat) (h : St W w 1 0 0 2 X0 X1 X4 X5) : wpAnyH Tryz.prog .any ops1 (NoPanic Q) (fun _ => True) 7 #[true, false, false, false, false, true, true, false, false, false] ⟨#[Value.bool false, undef, undef, undef, undef, undef, undef, undef, undef, undef, undef, undef, undef, undef, undef, undef, undef, Value.slice (some ⟨X0, 0, none⟩) 2000 2000, undef, undef, undef, undef, Value.slice (some ⟨X5, 0, none⟩) 1 1, Value.slice (some ⟨X5, 0, none⟩) 1 1, undef, undef, undef, undef, undef, undef, undef, undef, undef, undef, undef, undef, undef, undef, undef, undef, undef, undef, undef, undef, undef, undef, undef, undef, undef, undef, undef, undef, undef, undef, undef, undef, undef, undef, undef, undef, undef, undef, undef, undef, undef, undef, undef, undef, undef, undef, undef, undef, undef, undef, undef, undef, undef, undef, undef, undef, undef, undef, undef, undef, undef, undef, undef, undef, undef, undef, undef, undef, undef, undef, undef, undef, undef, undef, undef, undef, undef, undef, undef, undef, undef, undef, undef, undef, undef, undef, undef, undef, undef, undef, undef, undef, undef, undef, undef, undef, undef, undef, undef, undef, undef, undef, undef, undef, undef, undef, undef, undef, undef, undef, undef, undef, undef, undef, undef, undef], []⟩ w := by
  have hm1 := run_make_row' (P := Tryz.prog) 24 5 (.int .u8 0) 1 Tryz.underlying24 info_u8 rfl .i64 .i64 2000 (by omega) (by omega)
  have HS := Lib.hid h
  clear h
  unfold ops1
  refine wpAnyH_ready (rs := [1, 4]) (by kernel_rfl) (by simp) ?_
  refine AllReadyH.cons rfl (fun K hK => ?_) (AllReadyH.cons rfl (fun K hK => ?_) AllReadyH.nil)
  · go_simp
    refine hK.out _ _ trivial (fun hH => ?_)
    clear hK K
    try simp only [Act.put, List.setIfInBounds_toArray, List.set_cons_zero, List.set_cons_succ]
    exact r1_11020 HC HD hQ _ _ _ _ _ (HS.out.al1)
  · go_simp
    refine hK.out _ _ trivial (fun hH => ?_)
    clear hK K
    try simp only [Act.put, List.setIfInBounds_toArray, List.set_cons_zero, List.set_cons_succ]
    exact r1_10120 HC HD hQ _ _ _ _ _ (HS.out.al4)
set_option maxRecDepth 100000 in
set_option maxHeartbeats 4000000 in
theorem r1_01020 (HC : Hid (imC 1 2000 zF = C)) (HD : Hid (imD 1 xF = D)) (hQ : Hid (Fin1 Q W C D)) (w : World) (X0 X1 X4 X5 : Nat) (h : St W w 0 1 0 2 X0 X1 X4 X5) : wpAnyH Tryz.prog .any ops1 (NoPanic Q) (fun _ => True) 7 #[false, true, false, false, false, true, true, false, false, false] ⟨#[Value.bool false, undef, undef, undef, undef, undef, undef, undef, undef, undef, undef, undef, undef, undef, undef, undef, undef, undef, Value.slice (some ⟨X1, 0, none⟩) 1 1, undef, undef, undef, Value.slice (some ⟨X5, 0, none⟩) 1 1, Value.slice (some ⟨X5, 0, none⟩) 1 1, undef, undef, undef, undef, undef, undef, undef, undef, undef, undef, undef, undef, undef, undef, undef, undef, undef, undef, undef, undef, undef, undef, undef, undef, undef, undef, undef, undef, undef, undef, undef, undef, undef, undef, undef, undef, undef, undef, undef, undef, undef, undef, undef, undef, undef, undef, undef, undef, undef, undef, undef, undef, undef, undef, undef, undef, undef, undef, undef, undef, undef, undef, undef, undef, undef, undef, undef, undef, undef, undef, undef, undef, undef, undef, undef, undef, undef, undef, undef, undef, undef, undef, undef, undef, undef, undef, undef, undef, undef, undef, undef, undef, undef, undef, undef, undef, undef, undef, undef, undef, undef, undef, undef, undef, undef, undef, undef, undef, undef, undef, undef, undef, undef, undef, undef, undef], []⟩ w := by
  have hm1 := run_make_row' (P := Tryz.prog) 24 5 (.int .u8 0) 1 Tryz.underlying24 info_u8 rfl .i64 .i64 2000 (by omega) (by omega)
  have HS := Lib.hid h
  clear h
  unfold ops1
  refine wpAnyH_ready (rs := [0, 2, 4]) (by kernel_rfl) (by simp) ?_
  refine AllReadyH.cons rfl (fun K hK => ?_) (AllReadyH.cons rfl (fun K hK => ?_) (AllReadyH.cons rfl (fun K hK => ?_) AllReadyH.nil))
  · go_simp
    refine hK.out _ _ trivial (fun hH => ?_)
    clear hK K
    try simp only [Act.put, List.setIfInBounds_toArray, List.set_cons_zero, List.set_cons_succ]
    exact r1_11020 HC HD hQ _ _ _ _ _ (HS.out.al0)
  · obtain ⟨wx, hrun, e1, f1⟩ := conv_x (HS.out.b1 (by omega)).1
    go_simp
    refine hK.out _ _ trivial (fun hH => ?_)
    clear hK K
    try simp only [Act.put, List.setIfInBounds_toArray, List.set_cons_zero, List.set_cons_succ]
    exact r1_02020 HC HD hQ _ _ _ _ _ (HS.out.cv1 f1 e1)
  · go_simp
    refine hK.out _ _ trivial (fun hH => ?_)
    clear hK K
    try simp only [Act.put, List.setIfInBounds_toArray, List.set_cons_zero, List.set_cons_succ]
    exact r1_01120 HC HD hQ _ _ _ _ _ (HS.out.al4)
set_option maxRecDepth 100000 in
set_option maxHeartbeats 4000000 in
theorem r1_11010 (HC : Hid (imC 1 2000 zF = C)) (HD : Hid (imD 1 xF = D)) (hQ : Hid (Fin1 Q W C D)) (w : World) (X0 X1 X4 X5 : Nat) (h : St W w 1 1 0 1 X0 X1 X4 X5) : wpAnyH Tryz.prog .any ops1 (NoPanic Q) (fun _ => True) 7 #[true, true, false, false, false, true, false, false, false, false] ⟨#[Value.bool false, undef, undef, undef, undef, undef, undef, undef, undef, undef, undef, undef, undef, undef, undef, undef, undef, Value.slice (some ⟨X0, 0, none⟩) 2000 2000, Value.slice (some ⟨X1, 0, none⟩) 1 1, undef, undef, undef, Value.slice (some ⟨X5, 0, none⟩) 1 1, undef, undef, undef, undef, undef, undef, undef, undef, undef, undef, undef, undef, undef, undef, undef, undef, undef, undef, undef, undef, undef, undef, undef, undef, undef, undef, undef, undef, undef, undef, undef, undef, undef, undef, undef, undef, undef, undef, undef, undef, undef, undef, undef, undef, undef, undef, undef, undef, undef, undef, undef, undef, undef, undef, undef, undef, undef, undef, undef, undef, undef, undef, undef, undef, undef, undef, undef, undef, undef, undef, undef, undef, undef, undef, undef, undef, undef, undef, undef, undef, undef, undef, undef, undef, undef, undef, undef, undef, undef, undef, undef, undef, undef, undef, undef, undef, undef, undef, undef, undef, undef, undef, undef, undef, undef, undef, undef, undef, undef, undef, undef, undef, undef, undef, undef, undef, undef], []⟩ w := by
  have hm1 := run_make_row' (P := Tryz.prog) 24 5 (.int .u8 0) 1 Tryz.underlying24 info_u8 rfl .i64 .i64 2000 (by omega) (by omega)
  have HS := Lib.hid h
  clear h
  unfold ops1
  refine wpAnyH_ready (rs := [2, 4, 6]) (by kernel_rfl) (by simp) ?_
  refine AllReadyH.cons rfl (fun K hK => ?_) (AllReadyH.cons rfl (fun K hK => ?_) (AllReadyH.cons rfl (fun K hK => ?_) AllReadyH.nil))
  · obtain ⟨wx, hrun, e1, f1⟩ := conv_x (HS.out.b1 (by omega)).1
    go_simp
    refine hK.out _ _ trivial (fun hH => ?_)
    clear hK K
    try simp only [Act.put, List.setIfInBounds_toArray, List.set_cons_zero, List.set_cons_succ]
    exact r1_12010 HC HD hQ _ _ _ _ _ (HS.out.cv1 f1 e1)
  · go_simp
    refine hK.out _ _ trivial (fun hH => ?_)
    clear hK K
    try simp only [Act.put, List.setIfInBounds_toArray, List.set_cons_zero, List.set_cons_succ]
    exact r1_11110 HC HD hQ _ _ _ _ _ (HS.out.al4)
  · obtain ⟨wx, hrun, e1, f1⟩ := conv_x (HS.out.b5 (by omega)).1
    go_simp
    refine hK.out _ _ trivial (fun hH => ?_)
    clear hK K
    try simp only [Act.put, List.setIfInBounds_toArray, List.set_cons_zero, List.set_cons_succ]
    exact r1_11020 HC HD hQ _ _ _ _ _ (HS.out.cv5 f1 e1)
set_option maxRecDepth 100000 in
set_option maxHeartbeats 4000000 in
theorem r1_02010 (HC : Hid (imC 1 2000 zF = C)) (HD : Hid (imD 1 xF = D)) (hQ : Hid (Fin1 Q W C D)) (w : World) (X0 X1 X4 X5 : Nat) (h : St W w 0 2 0 1 X0 X1 X4 X5) : wpAnyH Tryz.prog .any ops1 (NoPanic Q) (fun _ => True) 7 #[false, true, true, false, false, true, false, false, false, false] ⟨#[Value.bool false, undef, undef, undef, undef, undef, undef, undef, undef, undef, undef, undef, undef, undef, undef, undef, undef, undef, Value.slice (some ⟨X1, 0, none⟩) 1 1, Value.slice (some ⟨X1, 0, none⟩) 1 1, undef, undef, Value.slice (some ⟨X5, 0, none⟩) 1 1, undef, undef, undef, undef, undef, undef, undef, undef, undef, undef, undef, undef, undef, undef, undef, undef, undef, undef, undef, undef, undef, undef, undef, undef, undef, undef, undef, undef, undef, undef, undef, undef, undef, undef, undef, undef, undef, undef, undef, undef, undef, undef, undef, undef, undef, undef, undef, undef, undef, undef, undef, undef, undef, undef, undef, undef, undef, undef, undef, undef, undef, undef, undef, undef, undef, undef, undef, undef, undef, undef, undef, undef, undef, undef, undef, undef, undef, undef, undef, undef, undef, undef, undef, undef, undef, undef, undef, undef, undef, undef, undef, undef, undef, undef, undef, undef, undef, undef, undef, undef, undef, undef, undef, undef, undef, undef, undef, undef, undef, undef, undef, undef, undef, undef, undef, undef, undef], []⟩ w := by
  have hm1 := run_make_row' (P := Tryz.prog) 24 5 (.int .u8 0) 1 Tryz.underlying24 info_u8 rfl .i64 .i64 2000 (by omega) (by omega)
  have HS := Lib.hid h
  clear h
  unfold ops1
  refine wpAnyH_ready (rs := [0, 4, 6]) (by kernel_rfl) (by simp) ?_
  refine AllReadyH.cons rfl (fun K hK => ?_) (AllReadyH.cons rfl (fun K hK => ?_) (AllReadyH.cons rfl (fun K hK => ?_) AllReadyH.nil))
  · go_simp
    refine hK.out _ _ trivial (fun hH => ?_)
    clear hK K
    try simp only [Act.put, List.setIfInBounds_toArray, List.set_cons_zero, List.set_cons_succ]
    exact r1_12010 HC HD hQ _ _ _ _ _ (HS.out.al0)
  · go_simp
    refine hK.out _ _ trivial (fun hH => ?_)
    clear hK K
    try simp only [Act.put, List.setIfInBounds_toArray, List.set_cons_zero, List.set_cons_succ]
    exact r1_02110 HC HD hQ _ _ _ _ _ (HS.out.al4)
  · obtain ⟨wx, hrun, e1, f1⟩ := conv_x (HS.out.b5 (by omega)).1
    go_simp
    refine hK.out _ _ trivial (fun hH => ?_)
    clear hK K
    try simp only [Act.put, List.setIfInBounds_toArray, List.set_cons_zero, List.set_cons_succ]
    exact r1_02020 HC HD hQ _ _ _ _ _ (HS.out.cv5 f1 e1)
set_option maxRecDepth 100000 in
set_option maxHeartbeats 4000000 in
theorem r1_12000 (HC : Hid (imC 1 2000 zF = C)) (HD : Hid (imD 1 xF = D)) (hQ : Hid (Fin1 Q W C D)) (w : World) (X0 X1 X4 X5 : Nat) (h : St W w 1 2 0 0 X0 X1 X4 X5) : wpAnyH Tryz.prog .any ops1 (NoPanic Q) (fun _ => True) 7 #[true, true, true, false, false, false, false, false, false, false] ⟨#[Value.bool false, undef, undef, undef, undef, undef, undef, undef, undef, undef, undef, undef, undef, undef, undef, undef, undef, Value.slice (some ⟨X0, 0, none⟩) 2000 2000, Value.slice (some ⟨X1, 0, none⟩) 1 1, Value.slice (some ⟨X1, 0, none⟩) 1 1, undef, undef, undef, undef, undef, undef, undef, undef, undef, undef, undef, undef, undef, undef, undef, undef, undef, undef, undef, undef, undef, undef, undef, undef, undef, undef, undef, undef, undef, undef, undef, undef, undef, undef, undef, undef, undef, undef, undef, undef, undef, undef, undef, undef, undef, undef, undef, undef, undef, undef, undef, undef, undef, undef, undef, undef, undef, undef, undef, undef, undef, undef, undef, undef, undef, undef, undef, undef, undef, undef, undef, undef, undef, undef, undef, undef, undef, undef, undef, undef, undef, undef, undef, undef, undef, undef, undef, undef, undef, undef, undef, undef, undef, undef, undef, undef, undef, undef, undef, undef, undef, undef, undef, undef, undef, undef, undef, undef, undef, undef, undef, undef, undef, undef, undef, undef, undef, undef, undef, undef], []⟩ w := by
  have hm1 := run_make_row' (P := Tryz.prog) 24 5 (.int .u8 0) 1 Tryz.underlying24 info_u8 rfl .i64 .i64 2000 (by omega) (by omega)
  have HS := Lib.hid h
  clear h
  unfold ops1
  refine wpAnyH_ready (rs := [3, 4, 5]) (by kernel_rfl) (by simp) ?_
  refine AllReadyH.cons rfl (fun K hK => ?_) (AllReadyH.cons rfl (fun K hK => ?_) (AllReadyH.cons rfl (fun K hK => ?_) AllReadyH.nil))
  · go_simp
    go_at_call 5
    with_reducible refine (HS.out.newp HC.out HD.out).mono ?_
    rintro e wx ⟨G, U, rfl, hS⟩
    go_wp2_with fail
    refine hK.out _ _ trivial (fun hH => ?_)
    clear hK K
    try simp only [Act.put, List.setIfInBounds_toArray, List.set_cons_zero, List.set_cons_succ]
    exact r1_12001 HC HD hQ _ _ _ _ _ G U (hS)
  · go_simp
    refine hK.out _ _ trivial (fun hH => ?_)
    clear hK K
    try simp only [Act.put, List.setIfInBounds_toArray, List.set_cons_zero, List.set_cons_succ]
    exact r1_12100 HC HD hQ _ _ _ _ _ (HS.out.al4)
  · go_simp
    refine hK.out _ _ trivial (fun hH => ?_)
    clear hK K
    try simp only [Act.put, List.setIfInBounds_toArray, List.set_cons_zero, List.set_cons_succ]
    exact r1_12010 HC HD hQ _ _ _ _ _ (HS.out.al5)
set_option maxRecDepth 100000 in
set_option maxHeartbeats 4000000 in
theorem r1_00110 (HC : Hid (imC 1 2000 zF = C)) (HD : Hid (imD 1 xF = D)) (hQ : Hid (Fin1 Q W C D)) (w : World) (X0 X1 X4 X5 : Nat) (h : St W w 0 0 1 1 X0 X1 X4 X5) : wpAnyH Tryz.prog .any ops1 (NoPanic Q) (fun _ => True) 8 #[false, false, false, false, true, true, false, false, false, false] ⟨#[Value.bool false, undef, undef, undef, undef, undef, undef, undef, undef, undef, undef, undef, undef, undef, undef, undef, undef, undef, undef, undef, undef, Value.slice (some ⟨X4, 0, none⟩) 2000 2000, Value.slice (some ⟨X5, 0, none⟩) 1 1, undef, undef, undef, undef, undef, undef, undef, undef, undef, undef, undef, undef, undef, undef, undef, undef, undef, undef, undef, undef, undef, undef, undef, undef, undef, undef, undef, undef, undef, undef, undef, undef, undef, undef, undef, undef, undef, undef, undef, undef, undef, undef, undef, undef, undef, undef, undef, undef, undef, undef, undef, undef, undef, undef, undef, undef, undef, undef, undef, undef, undef, undef, undef, undef, undef, undef, undef, undef, undef, undef, undef, undef, undef, undef, undef, undef, undef, undef, undef, undef, undef, undef, undef, undef, undef, undef, undef, undef, undef, undef, undef, undef, undef, undef, undef, undef, undef, undef, undef, undef, undef, undef, undef, undef, undef, undef, undef, undef, undef, undef, undef, undef, undef, undef, undef, undef, undef], []⟩ w := by
  have hm1 := run_make_row' (P := Tryz.prog) 24 5 (.int .u8 0) 1 Tryz.underlying24 info_u8 rfl .i64 .i64 2000 (by omega) (by omega)
  have HS := Lib.hid h
  clear h
  unfold ops1
  refine wpAnyH_ready (rs := [0, 1, 6]) (by kernel_rfl) (by simp) ?_
  refine AllReadyH.cons rfl (fun K hK => ?_) (AllReadyH.cons rfl (fun K hK => ?_) (AllReadyH.cons rfl (fun K hK => ?_) AllReadyH.nil))
  · go_simp
    refine hK.out _ _ trivial (fun hH => ?_)
    clear hK K
    try simp only [Act.put, List.setIfInBounds_toArray, List.set_cons_zero, List.set_cons_succ]
    exact r1_10110 HC HD hQ _ _ _ _ _ (HS.out.al0)
  · go_simp
    refine hK.out _ _ trivial (fun hH => ?_)
    clear hK K
    try simp only [Act.put, List.setIfInBounds_toArray, List.set_cons_zero, List.set_cons_succ]
    exact r1_01110 HC HD hQ _ _ _ _ _ (HS.out.al1)
  · obtain ⟨wx, hrun, e1, f1⟩ := conv_x (HS.out.b5 (by omega)).1
    go_simp
    refine hK.out _ _ trivial (fun hH => ?_)
    clear hK K
    try simp only [Act.put, List.setIfInBounds_toArray, List.set_cons_zero, List.set_cons_succ]
    exact r1_00120 HC HD hQ _ _ _ _ _ (HS.out.cv5 f1 e1)
set_option maxRecDepth 100000 in
set_option maxHeartbeats 4000000 in
theorem r1_10100 (HC : Hid (imC 1 2000 zF = C)) (HD : Hid (imD 1 xF = D)) (hQ : Hid (Fin1 Q W C D)) (w : World) (X0 X1 X4 X5 : Nat) (h : St W w 1 0 1 0 X0 X1 X4 X5) : wpAnyH Tryz.prog .any ops1 (NoPanic Q) (fun _ => True) 8 #[true, false, false, false, true, false, false, false, false, false] ⟨#[Value.bool false, undef, undef, undef, undef, undef, undef, undef, undef, undef, undef, undef, undef, undef, undef, undef, undef, Value.slice (some ⟨X0, 0, none⟩) 2000 2000, undef, undef, undef, Value.slice (some ⟨X4, 0, none⟩) 2000 2000, undef, undef, undef, undef, undef, undef, undef, undef, undef, undef, undef, undef, undef, undef, undef, undef, undef, undef, undef, undef, undef, undef, undef, undef, undef, undef, undef, undef, undef, undef, undef, undef, undef, undef, undef, undef, undef, undef, undef, undef, undef, undef, undef, undef, undef, undef, undef, undef, undef, undef, undef, undef, undef, undef, undef, undef, undef, undef, undef, undef, undef, undef, undef, undef, undef, undef, undef, undef, undef, undef, undef, undef, undef, undef, undef, undef, undef, undef, undef, undef, undef, undef, undef, undef, undef, undef, undef, undef, undef, undef, undef, undef, undef, undef, undef, undef, undef, undef, undef, undef, undef, undef, undef, undef, undef, undef, undef, undef, undef, undef, undef, undef, undef, undef, undef, undef, undef, undef], []⟩ w := by
  have HS := Lib.hid h
  clear h
  unfold ops1
  refine wpAnyH_ready (rs := [1, 5]) (by kernel_rfl) (by simp) ?_
  refine AllReadyH.cons rfl (fun K hK => ?_) (AllReadyH.cons rfl (fun K hK => ?_) AllReadyH.nil)
  · go_simp
    refine hK.out _ _ trivial (fun hH => ?_)
    clear hK K
    try simp only [Act.put, List.setIfInBounds_toArray, List.set_cons_zero, List.set_cons_succ]
    exact r1_11100 HC HD hQ _ _ _ _ _ (HS.out.al1)
  · go_simp
    refine hK.out _ _ trivial (fun hH => ?_)
    clear hK K
    try simp only [Act.put, List.setIfInBounds_toArray, List.set_cons_zero, List.set_cons_succ]
    exact r1_10110 HC HD hQ _ _ _ _ _ (HS.out.al5)
set_option maxRecDepth 100000 in
set_option maxHeartbeats 4000000 in
theorem r1_01100 (HC : Hid (imC 1 2000 zF = C)) (HD : Hid (imD 1 xF = D)) (hQ : Hid (Fin1 Q W C D)) (w : World) (X0 X1 X4 X5 : Nat) (h : St W w 0 1 1 0 X0 X1 X4 X5) : wpAnyH Tryz.prog .any ops1 (NoPanic Q) (fun _ => True) 8 #[false, true, false, false, true, false, false, false, false, false] ⟨#[Value.bool false, undef, undef, undef, undef, undef, undef, undef, undef, undef, undef, undef, undef, undef, undef, undef, undef, undef, Value.slice (some ⟨X1, 0, none⟩) 1 1, undef, undef, Value.slice (some ⟨X4, 0, none⟩) 2000 2000, undef, undef, undef, undef, undef, undef, undef, undef, undef, undef, undef, undef, undef, undef, undef, undef, undef, undef, undef, undef, undef, undef, undef, undef, undef, undef, undef, undef, undef, undef, undef, undef, undef, undef, undef, undef, undef, undef, undef, undef, undef, undef, undef, undef, undef, undef, undef, undef, undef, undef, undef, undef, undef, undef, undef, undef, undef, undef, undef, undef, undef, undef, undef, undef, undef, undef, undef, undef, undef, undef, undef, undef, undef, undef, undef, undef, undef, undef, undef, undef, undef, undef, undef, undef, undef, undef, undef, undef, undef, undef, undef, undef, undef, undef, undef, undef, undef, undef, undef, undef, undef, undef, undef, undef, undef, undef, undef, undef, undef, undef, undef, undef, undef, undef, undef, undef, undef, undef], []⟩ w := by
  have hm1 := run_make_row' (P := Tryz.prog) 24 5 (.int .u8 0) 1 Tryz.underlying24 info_u8 rfl .i64 .i64 2000 (by omega) (by omega)
  have HS := Lib.hid h
  clear h
  unfold ops1
  refine wpAnyH_ready (rs := [0, 2, 5]) (by kernel_rfl) (by simp) ?_
  refine AllReadyH.cons rfl (fun K hK => ?_) (AllReadyH.cons rfl (fun K hK => ?_) (AllReadyH.cons rfl (fun K hK => ?_) AllReadyH.nil))
  · go_simp
    refine hK.out _ _ trivial (fun hH => ?_)
    clear hK K
    try simp only [Act.put, List.setIfInBounds_toArray, List.set_cons_zero, List.set_cons_succ]
    exact r1_11100 HC HD hQ _ _ _ _ _ (HS.out.al0)
  · obtain ⟨wx, hrun, e1, f1⟩ := conv_x (HS.out.b1 (by omega)).1
    go_simp
    refine hK.out _ _ trivial (fun hH => ?_)
    clear hK K
    try simp only [Act.put, List.setIfInBounds_toArray, List.set_cons_zero, List.set_cons_succ]
    exact r1_02100 HC HD hQ _ _ _ _ _ (HS.out.cv1 f1 e1)
  · go_simp
    refine hK.out _ _ trivial (fun hH => ?_)
    clear hK K
    try simp only [Act.put, List.setIfInBounds_toArray, List.set_cons_zero, List.set_cons_succ]
    exact r1_01110 HC HD hQ _ _ _ _ _ (HS.out.al5)
set_option maxRecDepth 100000 in
set_option maxHeartbeats 4000000 in
theorem r1_00020 (HC : Hid (imC 1 2000 zF = C)) (HD : Hid (imD 1 xF = D)) (hQ : Hid (Fin1 Q W C D)) (w : World) (X0 X1 X4 X5 : Nat) (h : St W w 0 0 0 2 X0 X1 X4 X5) : wpAnyH Tryz.prog .any ops1 (NoPanic Q) (fun _ => True) 8 #[false, false, false, false, false, true, true, false, false, false] ⟨#[Value.bool false, undef, undef, undef, undef, undef, undef, undef, undef, undef, undef, undef, undef, undef, undef, undef, undef, undef, undef, undef, undef, undef, Value.slice (some ⟨X5, 0, none⟩) 1 1, Value.slice (some ⟨X5, 0, none⟩) 1 1, undef, undef, undef, undef, undef, undef, undef, undef, undef, undef, undef, undef, undef, undef, undef, undef, undef, undef, undef, undef, undef, undef, undef, undef, undef, undef, undef, undef, undef, undef, undef, undef, undef, undef, undef, undef, undef, undef, undef, undef, undef, undef, undef, undef, undef, undef, undef, undef, undef, undef, undef, undef, undef, undef, undef, undef, undef, undef, undef, undef, undef, undef, undef, undef, undef, undef, undef, undef, undef, undef, undef, undef, undef, undef, undef, undef, undef, undef, undef, undef, undef, undef, undef, undef, undef, undef, undef, undef, undef, undef, undef, undef, undef, undef, undef, undef, undef, undef, undef, undef, undef, undef, undef, undef, undef, undef, undef, undef, undef, undef, undef, undef, undef, undef, undef, undef], []⟩ w := by
  have hm1 := run_make_row' (P := Tryz.prog) 24 5 (.int .u8 0) 1 Tryz.underlying24 info_u8 rfl .i64 .i64 2000 (by omega) (by omega)
  have HS := Lib.hid h
  clear h
  unfold ops1
  refine wpAnyH_ready (rs := [0, 1, 4]) (by kernel_rfl) (by simp) ?_
  refine AllReadyH.cons rfl (fun K hK => ?_) (AllReadyH.cons rfl (fun K hK => ?_) (AllReadyH.cons rfl (fun K hK => ?_) AllReadyH.nil))
  · go_simp
    refine hK.out _ _ trivial (fun hH => ?_)
    clear hK K
    try simp only [Act.put, List.setIfInBounds_toArray, List.set_cons_zero, List.set_cons_succ]
    exact r1_10020 HC HD hQ _ _ _ _ _ (HS.out.al0)
  · go_simp
    refine hK.out _ _ trivial (fun hH => ?_)
    clear hK K
    try simp only [Act.put, List.setIfInBounds_toArray, List.set_cons_zero, List.set_cons_succ]
    exact r1_01020 HC HD hQ _ _ _ _ _ (HS.out.al1)
  · go_simp
    refine hK.out _ _ trivial (fun hH => ?_)
    clear hK K
    try simp only [Act.put, List.setIfInBounds_toArray, List.set_cons_zero, List.set_cons_succ]
    exact r1_00120 HC HD hQ _ _ _ _ _ (HS.out.al4)
set_option maxRecDepth 100000 in
set_option maxHeartbeats 4000000 in
theorem r1_10010 (HC : Hid (imC 1 2000 zF = C)) (HD : Hid (imD 1 xF = D)) (hQ : Hid (Fin1 Q W C D)) (w : World) (X0 X1 X4 X5 : Nat) (h : St W w 1 0 0 1 X0 X1 X4 X5) : wpAnyH Tryz.prog .any ops1 (NoPanic Q) (fun _ => True) 8 #[true, false, false, false, false, true, false, false, false, false] ⟨#[Value.bool false, undef, undef, undef, undef, undef, undef, undef, undef, undef, undef, undef, undef, undef, undef, undef, undef, Value.slice (some ⟨X0, 0, none⟩) 2000 2000, undef, undef, undef, undef, Value.slice (some ⟨X5, 0, none⟩) 1 1, undef, undef, undef, undef, undef, undef, undef, undef, undef, undef, undef, undef, undef, undef, undef, undef, undef, undef, undef, undef, undef, undef, undef, undef, undef, undef, undef, undef, undef, undef, undef, undef, undef, undef, undef, undef, undef, undef, undef, undef, undef, undef, undef, undef, undef, undef, undef, undef, undef, undef, undef, undef, undef, undef, undef, undef, undef, undef, undef, undef, undef, undef, undef, undef, undef, undef, undef, undef, undef, undef, undef, undef, undef, undef, undef, undef, undef, undef, undef, undef, undef, undef, undef, undef, undef, undef, undef, undef, undef, undef, undef, undef, undef, undef, undef, undef, undef, undef, undef, undef, undef, undef, undef, undef, undef, undef, undef, undef, undef, undef, undef, undef, undef, undef, undef, undef, undef], []⟩ w := by
  have hm1 := run_make_row' (P := Tryz.prog) 24 5 (.int .u8 0) 1 Tryz.underlying24 info_u8 rfl .i64 .i64 2000 (by omega) (by omega)
  have HS := Lib.hid h
  clear h
  unfold ops1
  refine wpAnyH_ready (rs := [1, 4, 6]) (by kernel_rfl) (by simp) ?_
  refine AllReadyH.cons rfl (fun K hK => ?_) (AllReadyH.cons rfl (fun K hK => ?_) (AllReadyH.cons rfl (fun K hK => ?_) AllReadyH.nil))
  · go_simp
    refine hK.out _ _ trivial (fun hH => ?_)
    clear hK K
    try simp only [Act.put, List.setIfInBounds_toArray, List.set_cons_zero, List.set_cons_succ]
    exact r1_11010 HC HD hQ _ _ _ _ _ (HS.out.al1)
  · go_simp
    refine hK.out _ _ trivial (fun hH => ?_)
    clear hK K
    try simp only [Act.put, List.setIfInBounds_toArray, List.set_cons_zero, List.set_cons_succ]
    exact r1_10110 HC HD hQ _ _ _ _ _ (HS.out.al4)
  · obtain ⟨wx, hrun, e1, f1⟩ := conv_x (HS.out.b5 (by omega)).1
    go_simp
    refine hK.out _ _ trivial (fun hH => ?_)
    clear hK K
    try simp only [Act.put, List.setIfInBounds_toArray, List.set_cons_zero, List.set_cons_succ]
    exact r1_10020 HC HD hQ _ _ _ _ _ (HS.out.cv5 f1 e1)
set_option maxRecDepth 100000 in
set_option maxHeartbeats 4000000 in
theorem r1_01010 (HC : Hid (imC 1 2000 zF = C)) (HD : Hid (imD 1 xF = D)) (hQ : Hid (Fin1 Q W C D)) (w : World) (X0 X1 X4 X5 : Nat) (h : St W w 0 1 0 1 X0 X1 X4 X5) : wpAnyH Tryz.prog .any ops1 (NoPanic Q) (fun _ => True) 8 #[false, true, false, false, false, true, false, false, false, false] ⟨#[Value.bool false, undef, undef, undef, undef, undef, undef, undef, undef, undef, undef, undef, undef, undef, undef, undef, undef, undef, Value.slice (some ⟨X1, 0, none⟩) 1 1, undef, undef, undef, Value.slice (some ⟨X5, 0, none⟩) 1 1, undef, undef, undef, undef, undef, undef, undef, undef, undef, undef, undef, undef, undef, undef, undef, undef, undef, undef, undef, undef, undef, undef, undef, undef, undef, undef, undef, undef, undef, undef, undef, undef, undef, undef, undef, undef, undef, undef, undef, undef, undef, undef, undef, undef, undef, undef, undef, undef, undef, undef, undef, undef, undef, undef, undef, undef, undef, undef, undef, undef, undef, undef, undef, undef, undef, undef, undef, undef, undef, undef, undef, undef, undef, undef, undef, undef, undef, undef, undef, undef, undef, undef, undef, undef, undef, undef, undef, undef, undef, undef, undef, undef, undef, undef, undef, undef, undef, undef, undef, undef, undef, undef, undef, undef, undef, undef, undef, undef, undef, undef, undef, undef, undef, undef, undef, undef, undef], []⟩ w := by
  have hm1 := run_make_row' (P := Tryz.prog) 24 5 (.int .u8 0) 1 Tryz.underlying24 info_u8 rfl .i64 .i64 2000 (by omega) (by omega)
  have HS := Lib.hid h
  clear h
  unfold ops1
  refine wpAnyH_ready (rs := [0, 2, 4, 6]) (by kernel_rfl) (by simp) ?_
  refine AllReadyH.cons rfl (fun K hK => ?_) (AllReadyH.cons rfl (fun K hK => ?_) (AllReadyH.cons rfl (fun K hK => ?_) (AllReadyH.cons rfl (fun K hK => ?_) AllReadyH.nil)))
  · go_simp
    refine hK.out _ _ trivial (fun hH => ?_)
    clear hK K
    try simp only [Act.put, List.setIfInBounds_toArray, List.set_cons_zero, List.set_cons_succ]
    exact r1_11010 HC HD hQ _ _ _ _ _ (HS.out.al0)
  · obtain ⟨wx, hrun, e1, f1⟩ := conv_x (HS.out.b1 (by omega)).1
    go_simp
    refine hK.out _ _ trivial (fun hH => ?_)
    clear hK K
    try simp only [Act.put, List.setIfInBounds_toArray, List.set_cons_zero, List.set_cons_succ]
    exact r1_02010 HC HD hQ _ _ _ _ _ (HS.out.cv1 f1 e1)
  · go_simp
    refine hK.out _ _ trivial (fun hH => ?_)
    clear hK K
    try simp only [Act.put, List.setIfInBounds_toArray, List.set_cons_zero, List.set_cons_succ]
    exact r1_01110 HC HD hQ _ _ _ _ _ (HS.out.al4)
  · obtain ⟨wx, hrun, e1, f1⟩ := conv_x (HS.out.b5 (by omega)).1
    go_simp
    refine hK.out _ _ trivial (fun hH => ?_)
    clear hK K
    try simp only [Act.put, List.setIfInBounds_toArray, List.set_cons_zero, List.set_cons_succ]
    exact r1_01020 HC HD hQ _ _ _ _ _ (HS.out.cv5 f1 e1)
set_option maxRecDepth 100000 in
set_option maxHeartbeats 4000000 in
theorem r1_11000 (HC : Hid (imC 1 2000 zF = C)) (HD : Hid (imD 1 xF = D)) (hQ : Hid (Fin1 Q W C D)) (w : World) (X0 X1 X4 X5 : Nat) (h : St W w 1 1 0 0 X0 X1 X4 X5) : wpAnyH Tryz.prog .any ops1 (NoPanic Q) (fun _ => True) 8 #[true, true, false, false, false, false, false, false, false, false] ⟨#[Value.bool false, undef, undef, undef, undef, undef, undef, undef, undef, undef, undef, undef, undef, undef, undef, undef, undef, Value.slice (some ⟨X0, 0, none⟩) 2000 2000, Value.slice (some ⟨X1, 0, none⟩) 1 1, undef, undef, undef, undef, undef, undef, undef, undef, undef, undef, undef, undef, undef, undef, undef, undef, undef, undef, undef, undef, undef, undef, undef, undef, undef, undef, undef, undef, undef, undef, undef, undef, undef, undef, undef, undef, undef, undef, undef, undef, undef, undef, undef, undef, undef, undef, undef, undef, undef, undef, undef, undef, undef, undef, undef, undef, undef, undef, undef, undef, undef, undef, undef, undef, undef, undef, undef, undef, undef, undef, undef, undef, undef, undef, undef, undef, undef, undef, undef, undef, undef, undef, undef, undef, undef, undef, undef, undef, undef, undef, undef, undef, undef, undef, undef, undef, undef, undef, undef, undef, undef, undef, undef, undef, undef, undef, undef, undef, undef, undef, undef, undef, undef, undef, undef, undef, undef, undef, undef, undef, undef], []⟩ w := by
  have hm1 := run_make_row' (P := Tryz.prog) 24 5 (.int .u8 0) 1 Tryz.underlying24 info_u8 rfl .i64 .i64 2000 (by omega) (by omega)
  have HS := Lib.hid h
  clear h
  unfold ops1
  refine wpAnyH_ready (rs := [2, 4, 5]) (by kernel_rfl) (by simp) ?_
  refine AllReadyH.cons rfl (fun K hK => ?_) (AllReadyH.cons rfl (fun K hK => ?_) (AllReadyH.cons rfl (fun K hK => ?_) AllReadyH.nil))
  · obtain ⟨wx, hrun, e1, f1⟩ := conv_x (HS.out.b1 (by omega)).1
    go_simp
    refine hK.out _ _ trivial (fun hH => ?_)
    clear hK K
    try simp only [Act.put, List.setIfInBounds_toArray, List.set_cons_zero, List.set_cons_succ]
    exact r1_12000 HC HD hQ _ _ _ _ _ (HS.out.cv1 f1 e1)
  · go_simp
    refine hK.out _ _ trivial (fun hH => ?_)
    clear hK K
    try simp only [Act.put, List.setIfInBounds_toArray, List.set_cons_zero, List.set_cons_succ]
    exact r1_11100 HC HD hQ _ _ _ _ _ (HS.out.al4)
  · go_simp
    refine hK.out _ _ trivial (fun hH => ?_)
    clear hK K
    try simp only [Act.put, List.setIfInBounds_toArray, List.set_cons_zero, List.set_cons_succ]
    exact r1_11010 HC HD hQ _ _ _ _ _ (HS.out.al5)
set_option maxRecDepth 100000 in
set_option maxHeartbeats 4000000 in
theorem r1_02000 (HC : Hid (imC 1 2000 zF = C)) (HD : Hid (imD 1 xF = D)) (hQ : Hid (Fin1 Q W C D)) (w : World) (X0 X1 X4 X5 : Nat) (h : St W w 0 2 0 0 X0 X1 X4 X5) : wpAnyH Tryz.prog .any ops1 (NoPanic Q) (fun _ => True) 8 #[false, true, true, false, false, false, false, false, false, false] ⟨#[Value.bool false, undef, undef, undef, undef, undef, undef, undef, undef, undef, undef, undef, undef, undef, undef, undef, undef, undef, Value.slice (some ⟨X1, 0, none⟩) 1 1, Value.slice (some ⟨X1, 0, none⟩) 1 1, undef, undef, undef, undef, undef, undef, undef, undef, undef, undef, undef, undef, undef, undef, undef, undef, undef, undef, undef, undef, undef, undef, undef, undef, undef, undef, undef, undef, undef, undef, undef, undef, undef, undef, undef, undef, undef, undef, undef, undef, undef, undef, undef, undef, undef, undef, undef, undef, undef, undef, undef, undef, undef, undef, undef, undef, undef, undef, undef, undef, undef, undef, undef, undef, undef, undef, undef, undef, undef, undef, undef, undef, undef, undef, undef, undef, undef, undef, undef, undef, undef, undef, undef, undef, undef, undef, undef, undef, undef, undef, undef, undef, undef, undef, undef, undef, undef, undef, undef, undef, undef, undef, undef, undef, undef, undef, undef, undef, undef, undef, undef, undef, undef, undef, undef, undef, undef, undef, undef, undef], []⟩ w := by
  have hm1 := run_make_row' (P := Tryz.prog) 24 5 (.int .u8 0) 1 Tryz.underlying24 info_u8 rfl .i64 .i64 2000 (by omega) (by omega)
  have HS := Lib.hid h
  clear h
  unfold ops1
  refine wpAnyH_ready (rs := [0, 4, 5]) (by kernel_rfl) (by simp) ?_
  refine AllReadyH.cons rfl (fun K hK => ?_) (AllReadyH.cons rfl (fun K hK => ?_) (AllReadyH.cons rfl (fun K hK => ?_) AllReadyH.nil))
  · go_simp
    refine hK.out _ _ trivial (fun hH => ?_)
    clear hK K
    try simp only [Act.put, List.setIfInBounds_toArray, List.set_cons_zero, List.set_cons_succ]
    exact r1_12000 HC HD hQ _ _ _ _ _ (HS.out.al0)
  · go_simp
    refine hK.out _ _ trivial (fun hH => ?_)
    clear hK K
    try simp only [Act.put, List.setIfInBounds_toArray, List.set_cons_zero, List.set_cons_succ]
    exact r1_02100 HC HD hQ _ _ _ _ _ (HS.out.al4)
  · go_simp
    refine hK.out _ _ trivial (fun hH => ?_)
    clear hK K
    try simp only [Act.put, List.setIfInBounds_toArray, List.set_cons_zero, List.set_cons_succ]
    exact r1_02010 HC HD hQ _ _ _ _ _ (HS.out.al5)
set_option maxRecDepth 100000 in
set_option maxHeartbeats 4000000 in
theorem r1_00100 (HC : Hid (imC 1 2000 zF = C)) (HD : Hid (imD 1 xF = D)) (hQ : Hid (Fin1 Q W C D)) (w : World) (X0 X1 X4 X5 : Nat) (h : St W w 0 0 1 0 X0 X1 X4 X5) : wpAnyH Tryz.prog .any ops1 (NoPanic Q) (fun _ => True) 9 #[false, false, false, false, true, false, false, false, false, false] ⟨#[Value.bool false, undef, undef, undef, undef, undef, undef, undef, undef, undef, undef, undef, undef, undef, undef, undef, undef, undef, undef, undef, undef, Value.slice (some ⟨X4, 0, none⟩) 2000 2000, undef, undef, undef, undef, undef, undef, undef, undef, undef, undef, undef, undef, undef, undef, undef, undef, undef, undef, undef, undef, undef, undef, undef, undef, undef, undef, undef, undef, undef, undef, undef, undef, undef, undef, undef, undef, undef, undef, undef, undef, undef, undef, undef, undef, undef, undef, undef, undef, undef, undef, undef, undef, undef, undef, undef, undef, undef, undef, undef, undef, undef, undef, undef, undef, undef, undef, undef, undef, undef, undef, undef, undef, undef, undef, undef, undef, undef, undef, undef, undef, undef, undef, undef, undef, undef, undef, undef, undef, undef, undef, undef, undef, undef, undef, undef, undef, undef, undef, undef, undef, undef, undef, undef, undef, undef, undef, undef, undef, undef, undef, undef, undef, undef, undef, undef, undef, undef, undef], []⟩ w := by
  have hm1 := run_make_row' (P := Tryz.prog) 24 5 (.int .u8 0) 1 Tryz.underlying24 info_u8 rfl .i64 .i64 2000 (by omega) (by omega)
  have HS := Lib.hid h
  clear h
  unfold ops1
  refine wpAnyH_ready (rs := [0, 1, 5]) (by kernel_rfl) (by simp) ?_
  refine AllReadyH.cons rfl (fun K hK => ?_) (AllReadyH.cons rfl (fun K hK => ?_) (AllReadyH.cons rfl (fun K hK => ?_) AllReadyH.nil))
  · go_simp
    refine hK.out _ _ trivial (fun hH => ?_)
    clear hK K
    try simp only [Act.put, List.setIfInBounds_toArray, List.set_cons_zero, List.set_cons_succ]
    exact r1_10100 HC HD hQ _ _ _ _ _ (HS.out.al0)
  · go_simp
    refine hK.out _ _ trivial (fun hH => ?_)
    clear hK K
    try simp only [Act.put, List.setIfInBounds_toArray, List.set_cons_zero, List.set_cons_succ]
    exact r1_01100 HC HD hQ _ _ _ _ _ (HS.out.al1)
  · go_simp
    refine hK.out _ _ trivial (fun hH => ?_)
    clear hK K
    try simp only [Act.put, List.setIfInBounds_toArray, List.set_cons_zero, List.set_cons_succ]
    exact r1_00110 HC HD hQ _ _ _ _ _ (HS.out.al5)
set_option maxRecDepth 100000 in
set_option maxHeartbeats 4000000 in
theorem r1_00010 (HC : Hid (imC 1 2000 zF = C)) (HD : Hid (imD 1 xF = D)) (hQ : Hid (Fin1 Q W C D)) (w : World) (X0 X1 X4 X5 : Nat) (h : St W w 0 0 0 1 X0 X1 X4 X5) : wpAnyH Tryz.prog .any ops1 (NoPanic Q) (fun _ => True) 9 #[false, false, false, false, false, true, false, false, false, false] ⟨#[Value.bool false, undef, undef, undef, undef, undef, undef, undef, undef, undef, undef, undef, undef, undef, undef, undef, undef, undef, undef, undef, undef, undef, Value.slice (some ⟨X5, 0, none⟩) 1 1, undef, undef, undef, undef, undef, undef, undef, undef, undef, undef, undef, undef, undef, undef, undef, undef, undef, undef, undef, undef, undef, undef, undef, undef, undef, undef, undef, undef, undef, undef, undef, undef, undef, undef, undef, undef, undef, undef, undef, undef, undef, undef, undef, undef, undef, undef, undef, undef, undef, undef, undef, undef, undef, undef, undef, undef, undef, undef, undef, undef, undef, undef, undef, undef, undef, undef, undef, undef, undef, undef, undef, undef, undef, undef, undef, undef, undef, undef, undef, undef, undef, undef, undef, undef, undef, undef, undef, undef, undef, undef, undef, undef, undef, undef, undef, undef, undef, undef, undef, undef, undef, undef, undef, undef, undef, undef, undef, undef, undef, undef, undef, undef, undef, undef, undef, undef, undef], []⟩ w := by
  have hm1 := run_make_row' (P := Tryz.prog) 24 5 (.int .u8 0) 1 Tryz.underlying24 info_u8 rfl .i64 .i64 2000 (by omega) (by omega)
  have HS := Lib.hid h
  clear h
  unfold ops1
  refine wpAnyH_ready (rs := [0, 1, 4, 6]) (by kernel_rfl) (by simp) ?_
  refine AllReadyH.cons rfl (fun K hK => ?_) (AllReadyH.cons rfl (fun K hK => ?_) (AllReadyH.cons rfl (fun K hK => ?_) (AllReadyH.cons rfl (fun K hK => ?_) AllReadyH.nil)))
  · go_simp
    refine hK.out _ _ trivial (fun hH => ?_)
    clear hK K
    try simp only [Act.put, List.setIfInBounds_toArray, List.set_cons_zero, List.set_cons_succ]
    exact r1_10010 HC HD hQ _ _ _ _ _ (HS.out.al0)
  · go_simp
    refine hK.out _ _ trivial (fun hH => ?_)
    clear hK K
    try simp only [Act.put, List.setIfInBounds_toArray, List.set_cons_zero, List.set_cons_succ]
    exact r1_01010 HC HD hQ _ _ _ _ _ (HS.out.al1)
  · go_simp
    refine hK.out _ _ trivial (fun hH => ?_)
    clear hK K
    try simp only [Act.put, List.setIfInBounds_toArray, List.set_cons_zero, List.set_cons_succ]
    exact r1_00110 HC HD hQ _ _ _ _ _ (HS.out.al4)
  · obtain ⟨wx, hrun, e1, f1⟩ := conv_x (HS.out.b5 (by omega)).1
    go_simp
    refine hK.out _ _ trivial (fun hH => ?_)
    clear hK K
    try simp only [Act.put, List.setIfInBounds_toArray, List.set_cons_zero, List.set_cons_succ]
    exact r1_00020 HC HD hQ _ _ _ _ _ (HS.out.cv5 f1 e1)
set_option maxRecDepth 100000 in
set_option maxHeartbeats 4000000 in
theorem r1_10000 (HC : Hid (imC 1 2000 zF = C)) (HD : Hid (imD 1 xF = D)) (hQ : Hid (Fin1 Q W C D)) (w : World) (X0 X1 X4 X5 : Nat) (h : St W w 1 0 0 0 X0 X1 X4 X5) : wpAnyH Tryz.prog .any ops1 (NoPanic Q) (fun _ => True) 9 #[true, false, false, false, false, false, false, false, false, false] ⟨#[Value.bool false, undef, undef, undef, undef, undef, undef, undef, undef, undef, undef, undef, undef, undef, undef, undef, undef, Value.slice (some ⟨X0, 0, none⟩) 2000 2000, undef, undef, undef, undef, undef, undef, undef, undef, undef, undef, undef, undef, undef, undef, undef, undef, undef, undef, undef, undef, undef, undef, undef, undef, undef, undef, undef, undef, undef, undef, undef, undef, undef, undef, undef, undef, undef, undef, undef, undef, undef, undef, undef, undef, undef, undef, undef, undef, undef, undef, undef, undef, undef, undef, undef, undef, undef, undef, undef, undef, undef, undef, undef, undef, undef, undef, undef, undef, undef, undef, undef, undef, undef, undef, undef, undef, undef, undef, undef, undef, undef, undef, undef, undef, undef, undef, undef, undef, undef, undef, undef, undef, undef, undef, undef, undef, undef, undef, undef, undef, undef, undef, undef, undef, undef, undef, undef, undef, undef, undef, undef, undef, undef, undef, undef, undef, undef, undef, undef, undef, undef, undef], []⟩ w := by
  have hm1 := run_make_row' (P := Tryz.prog) 24 5 (.int .u8 0) 1 Tryz.underlying24 info_u8 rfl .i64 .i64 2000 (by omega) (by omega)
  have HS := Lib.hid h
  clear h
  unfold ops1
  refine wpAnyH_ready (rs := [1, 4, 5]) (by kernel_rfl) (by simp) ?_
  refine AllReadyH.cons rfl (fun K hK => ?_) (AllReadyH.cons rfl (fun K hK => ?_) (AllReadyH.cons rfl (fun K hK => ?_) AllReadyH.nil))
  · go_simp
    refine hK.out _ _ trivial (fun hH => ?_)
    clear hK K
    try simp only [Act.put, List.setIfInBounds_toArray, List.set_cons_zero, List.set_cons_succ]
    exact r1_11000 HC HD hQ _ _ _ _ _ (HS.out.al1)
  · go_simp
    refine hK.out _ _ trivial (fun hH => ?_)
    clear hK K
    try simp only [Act.put, List.setIfInBounds_toArray, List.set_cons_zero, List.set_cons_succ]
    exact r1_10100 HC HD hQ _ _ _ _ _ (HS.out.al4)
  · go_simp
    refine hK.out _ _ trivial (fun hH => ?_)
    clear hK K
    try simp only [Act.put, List.setIfInBounds_toArray, List.set_cons_zero, List.set_cons_succ]
    exact r1_10010 HC HD hQ _ _ _ _ _ (HS.out.al5)
set_option maxRecDepth 100000 in
set_option maxHeartbeats 4000000 in
theorem r1_01000 (HC : Hid (imC 1 2000 zF = C)) (HD : Hid (imD 1 xF = D)) (hQ : Hid (Fin1 Q W C D)) (w : World) (X0 X1 X4 X5 : Nat) (h : St W w 0 1 0 0 X0 X1 X4 X5) : wpAnyH Tryz.prog .any ops1 (NoPanic Q) (fun _ => True) 9 #[false, true, false, false, false, false, false, false, false, false] ⟨#[Value.bool false, undef, undef, undef, undef, undef, undef, undef, undef, undef, undef, undef, undef, undef, undef, undef, undef, undef, Value.slice (some ⟨X1, 0, none⟩) 1 1, undef, undef, undef, undef, undef, undef, undef, undef, undef, undef, undef, undef, undef, undef, undef, undef, undef, undef, undef, undef, undef, undef, undef, undef, undef, undef, undef, undef, undef, undef, undef, undef, undef, undef, undef, undef, undef, undef, undef, undef, undef, undef, undef, undef, undef, undef, undef, undef, undef, undef, undef, undef, undef, undef, undef, undef, undef, undef, undef, undef, undef, undef, undef, undef, undef, undef, undef, undef, undef, undef, undef, undef, undef, undef, undef, undef, undef, undef, undef, undef, undef, undef, undef, undef, undef, undef, undef, undef, undef, undef, undef, undef, undef, undef, undef, undef, undef, undef, undef, undef, undef, undef, undef, undef, undef, undef, undef, undef, undef, undef, undef, undef, undef, undef, undef, undef, undef, undef, undef, undef, undef], []⟩ w := by
  have hm1 := run_make_row' (P := Tryz.prog) 24 5 (.int .u8 0) 1 Tryz.underlying24 info_u8 rfl .i64 .i64 2000 (by omega) (by omega)
  have HS := Lib.hid h
  clear h
  unfold ops1
  refine wpAnyH_ready (rs := [0, 2, 4, 5]) (by kernel_rfl) (by simp) ?_
  refine AllReadyH.cons rfl (fun K hK => ?_) (AllReadyH.cons rfl (fun K hK => ?_) (AllReadyH.cons rfl (fun K hK => ?_) (AllReadyH.cons rfl (fun K hK => ?_) AllReadyH.nil)))
  · go_simp
    refine hK.out _ _ trivial (fun hH => ?_)
    clear hK K
    try simp only [Act.put, List.setIfInBounds_toArray, List.set_cons_zero, List.set_cons_succ]
    exact r1_11000 HC HD hQ _ _ _ _ _ (HS.out.al0)
  · obtain ⟨wx, hrun, e1, f1⟩ := conv_x (HS.out.b1 (by omega)).1
    go_simp
    refine hK.out _ _ trivial (fun hH => ?_)
    clear hK K
    try simp only [Act.put, List.setIfInBounds_toArray, List.set_cons_zero, List.set_cons_succ]
    exact r1_02000 HC HD hQ _ _ _ _ _ (HS.out.cv1 f1 e1)
  · go_simp
    refine hK.out _ _ trivial (fun hH => ?_)
    clear hK K
    try simp only [Act.put, List.setIfInBounds_toArray, List.set_cons_zero, List.set_cons_succ]
    exact r1_01100 HC HD hQ _ _ _ _ _ (HS.out.al4)
  · go_simp
    refine hK.out _ _ trivial (fun hH => ?_)
    clear hK K
    try simp only [Act.put, List.setIfInBounds_toArray, List.set_cons_zero, List.set_cons_succ]
    exact r1_01010 HC HD hQ _ _ _ _ _ (HS.out.al5)
set_option maxRecDepth 100000 in
set_option maxHeartbeats 4000000 in
theorem r1_00000 (HC : Hid (imC 1 2000 zF = C)) (HD : Hid (imD 1 xF = D)) (hQ : Hid (Fin1 Q W C D)) (w : World) (X0 X1 X4 X5 : Nat) (h : St W w 0 0 0 0 X0 X1 X4 X5) : wpAnyH Tryz.prog .any ops1 (NoPanic Q) (fun _ => True) 10 #[false, false, false, false, false, false, false, false, false, false] ⟨#[Value.bool false, undef, undef, undef, undef, undef, undef, undef, undef, undef, undef, undef, undef, undef, undef, undef, undef, undef, undef, undef, undef, undef, undef, undef, undef, undef, undef, undef, undef, undef, undef, undef, undef, undef, undef, undef, undef, undef, undef, undef, undef, undef, undef, undef, undef, undef, undef, undef, undef, undef, undef, undef, undef, undef, undef, undef, undef, undef, undef, undef, undef, undef, undef, undef, undef, undef, undef, undef, undef, undef, undef, undef, undef, undef, undef, undef, undef, undef, undef, undef, undef, undef, undef, undef, undef, undef, undef, undef, undef, undef, undef, undef, undef, undef, undef, undef, undef, undef, undef, undef, undef, undef, undef, undef, undef, undef, undef, undef, undef, undef, undef, undef, undef, undef, undef, undef, undef, undef, undef, undef, undef, undef, undef, undef, undef, undef, undef, undef, undef, undef, undef, undef, undef, undef, undef, undef, undef, undef, undef, undef], []⟩ w := by
  have hm1 := run_make_row' (P := Tryz.prog) 24 5 (.int .u8 0) 1 Tryz.underlying24 info_u8 rfl .i64 .i64 2000 (by omega) (by omega)
  have HS := Lib.hid h
  clear h
  unfold ops1
  refine wpAnyH_ready (rs := [0, 1, 4, 5]) (by kernel_rfl) (by simp) ?_
  refine AllReadyH.cons rfl (fun K hK => ?_) (AllReadyH.cons rfl (fun K hK => ?_) (AllReadyH.cons rfl (fun K hK => ?_) (AllReadyH.cons rfl (fun K hK => ?_) AllReadyH.nil)))
  · go_simp
    refine hK.out _ _ trivial (fun hH => ?_)
    clear hK K
    try simp only [Act.put, List.setIfInBounds_toArray, List.set_cons_zero, List.set_cons_succ]
    exact r1_10000 HC HD hQ _ _ _ _ _ (HS.out.al0)
  · go_simp
    refine hK.out _ _ trivial (fun hH => ?_)
    clear hK K
    try simp only [Act.put, List.setIfInBounds_toArray, List.set_cons_zero, List.set_cons_succ]
    exact r1_01000 HC HD hQ _ _ _ _ _ (HS.out.al1)
  · go_simp
    refine hK.out _ _ trivial (fun hH => ?_)
    clear hK K
    try simp only [Act.put, List.setIfInBounds_toArray, List.set_cons_zero, List.set_cons_succ]
    exact r1_00100 HC HD hQ _ _ _ _ _ (HS.out.al4)
  · go_simp
    refine hK.out _ _ trivial (fun hH => ?_)
    clear hK K
    try simp only [Act.put, List.setIfInBounds_toArray, List.set_cons_zero, List.set_cons_succ]
    exact r1_00010 HC HD hQ _ _ _ _ _ (HS.out.al5)
end
end Go.Proofs.YtkfedihaldpgmaaGreat

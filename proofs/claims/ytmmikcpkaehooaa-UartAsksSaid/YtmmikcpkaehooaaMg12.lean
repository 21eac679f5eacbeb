/-
  Chapter 12: Line, Fire, Out and New of package uart.
-/
import Derived.Test.YtmmikcpkaehooaaMf12
import Derived.Laws.CopyOwn
import Derived.Laws.BytesArg
namespace Go.Proofs.Ytmmikcpkaehooaa
open Go.RowKit
set_option linter.unusedVariables false
set_option linter.unusedSimpArgs false
/-- the word control: the line is asked to tell that one is there, that nothing is to go -/
def cw (i e : Bool) : Int := match i, e with
  | false, false => 0
  | true, false => 1
  | false, true => 2
  | true, true => 3
def bi (b : Bool) (k : Int) : Int := match b with
  | true => k
  | false => 0
def lnB (i e c z : Bool) : Bool := (i && c) || (e && z)
theorem st_1 (c f l e : Bool) : bits .and .u32 (stB c f l e) 1 = bi c 1 := by cases c <;> cases f <;> cases l <;> cases e <;> rfl
theorem st_8 (c f l e : Bool) : bits .and .u32 (stB c f l e) 8 = bi e 8 := by cases c <;> cases f <;> cases l <;> cases e <;> rfl
theorem st_4 (c f l e : Bool) : bits .and .u32 (stB c f l e) 4 = bi l 4 := by cases c <;> cases f <;> cases l <;> cases e <;> rfl
theorem info_u8 : (Try.prog.info? 5).map (fun i => (i.zero, i.size, i.bytes)) = some (some (.int .u8 0), 1, 1) := by kernel_rfl
theorem own_form {w : World} {base : Nat} {e : TypeId} {size n : Nat} {v : Value} {xs : List Value} (h : w.ownsRow base e size v n xs) : ∃ A c, v = .slice A n c ∧ n ≤ c ∧ (0 < n → ∃ b, A = some ⟨b, 0, none⟩) := by
  rcases h.2 with ⟨rfl, hn⟩ | ⟨g, cap, cur, rfl, _, _, hc, hm, _⟩
  · exact ⟨none, 0, by rw [hn], by omega, fun h => by omega⟩
  · exact ⟨_, _, rfl, hc, fun _ => ⟨_, rfl⟩⟩
section
variable {W0 w w' : World} {t g c1 c2 : Nat} {d : Int} {v v2 o o2 : Value} {S : US}
set_option maxRecDepth 100000 in
set_option maxHeartbeats 4000000 in
theorem line_any (i e : Bool) (h : One W0 w t g c1 c2 d v o S) (hct : S.ct = cw i e) :
    Calls Try.prog 15 #[.pointer (some ⟨t, 0, none⟩)] w fun r w' => r = .returned (.bool (lnB i e (decide (0 < S.came.length)) (decide (S.goes.length = 0)))) ∧ w = w' := by
  have k6 := h.k6
  have a1 := st_1 (decide (0 < S.came.length)) (decide (S.goes.length = 16)) S.lost (decide (S.goes.length = 0))
  have a8 := st_8 (decide (0 < S.came.length)) (decide (S.goes.length = 16)) S.lost (decide (S.goes.length = 0))
  obtain ⟨x, HX⟩ : ∃ x, Hid (stW S = x) := ⟨_, rfl⟩
  rw [show stB (decide (0 < S.came.length)) (decide (S.goes.length = 16)) S.lost (decide (S.goes.length = 0)) = x from HX.out] at a1 a8
  generalize decide (0 < S.came.length) = c at a1 ⊢
  generalize decide (S.goes.length = 0) = z at a8 ⊢
  rw [hct] at k6
  have b1 : bits .and .u32 (cw i e) 1 = bi i 1 := by cases i <;> cases e <;> rfl
  have b2 : bits .and .u32 (cw i e) 2 = bi e 2 := by cases i <;> cases e <;> rfl
  clear hct
  generalize cw i e = y at k6 b1 b2
  cases i <;> cases e <;> cases c <;> cases z
  all_goals
    simp only [bi] at a1 a8 b1 b2
    go_enter Try.func15, Try.ntmps15
    go_wp2_with fail
    with_reducible refine (status_any h).mono ?_
    rintro r w1 ⟨rfl, rfl⟩
    rw [HX.out]
    go_wp2
    go_ret
    exact ⟨rfl, rfl⟩
set_option maxRecDepth 100000 in
set_option maxHeartbeats 4000000 in
/-- Fire of a byte that is the last one -/
theorem fire_last (b at_ : Int) (h : One W0 w t g c1 c2 d v o S) (hq : S.goes = [b]) (hl : S.out.length ≤ 1000) :
    Calls Try.prog 9 #[.pointer (some ⟨t, 0, none⟩), .int .i64 at_] w (RetO (.tuple #[]) W0 t g c1 c2 d { S with goes := [], out := S.out ++ [b] }) := by
  have k3 := h.k3
  have q2 := h.q2
  rw [hq] at q2
  clear hq
  obtain ⟨i0, hi, hi3⟩ := Option.map_eq_some_iff.1 info_u8
  simp only [Prod.mk.injEq] at hi3
  obtain ⟨hz0, hz1, hz2⟩ := hi3
  have HI := Lib.hid hi
  have HZ0 := Lib.hid hz0
  have HZ1 := Lib.hid hz1
  have HZ2 := Lib.hid hz2
  clear hi hz0 hz1 hz2
  go_enter Try.func9, Try.ntmps9
  go_wp2_with fail
  with_reducible refine (take_byte b q2).mono ?_
  rintro e w1 ⟨rfl, hq, hf⟩
  have h1 := h.que2 hq hf
  obtain ⟨A, c, rfl, hc, hA⟩ := own_form h1.ou
  have k4 := h1.k4
  have hnI : (S.out.length : Int) < 65536 := by omega
  have h2 := h1.alloc (.cells #[.int .u8 b] 5)
  have hou := h2.ou
  have hs : W0.heap.size ≤ (w1.alloc (.cells #[.int .u8 b] 5)).heap.size := h2.bl.size
  clear hA hc
  go_wp2_with (at_builtin; refine wpList_append_own_at _ rfl (.tmp 26) (.tmp 28) 22 rfl W0.heap.size 5 i0 (.int .u8 0) 1 1 Try.underlying22 HI.out HZ0.out HZ1.out HZ2.out rfl (by decide) _ _ _ rfl hou ⟨w1.heap.size, 0, none⟩ 1 1 [.int .u8 b] rfl rfl (cell_one_new _ _ _) (by intro u hu; simp at hu; subst hu; rfl) (by unfold maxLen; omega) (by omega) hs ?_)
  intro v1 w2 hown1 hgrow1 _ hblk1
  obtain ⟨h3, h4⟩ := h2.app (b := b) rfl hown1 hgrow1 (by rw [World.size_alloc]; exact hblk1)
  obtain ⟨A1, cc1, rfl, hc1, _⟩ := own_form hown1
  have k4' := h3.cell (i := 4) (by omega)
  have f4' := h3.frozen 4
  have k3' := h3.cell (i := 3) (by omega)
  simp only [ut7] at k3' k4'
  have l2 := h4.l2 (n := 0) rfl
  clear hown1 hgrow1 hblk1 h3
  go_wp2
  go_end0
  exact ⟨rfl, v, _, h4⟩
set_option maxRecDepth 100000 in
set_option maxHeartbeats 4000000 in
/-- Fire of a byte behind which there are more -/
theorem fire_more (b x at_ : Int) {L : List Int} (h : One W0 w t g c1 c2 d v o S) (hq : S.goes = b :: x :: L) (hl : S.out.length ≤ 1000) (ha : 0 ≤ S.a ∧ S.a ≤ 1000000) (d0 : 0 ≤ d) (d1 : d < 16) (n0 : 0 ≤ at_) (n1 : at_ ≤ 4611686018427387904) :
    Calls Try.prog 9 #[.pointer (some ⟨t, 0, none⟩), .int .i64 at_] w (RetO (.tuple #[]) W0 t g c1 c2 d { S with goes := x :: L, out := S.out ++ [b], q := some (at_ + 8, S.a), a := S.a + 1 }) := by
  have k3 := h.k3
  have q2 := h.q2
  rw [hq] at q2
  clear hq
  obtain ⟨i0, hi, hi3⟩ := Option.map_eq_some_iff.1 info_u8
  simp only [Prod.mk.injEq] at hi3
  obtain ⟨hz0, hz1, hz2⟩ := hi3
  have HI := Lib.hid hi
  have HZ0 := Lib.hid hz0
  have HZ1 := Lib.hid hz1
  have HZ2 := Lib.hid hz2
  clear hi hz0 hz1 hz2
  go_enter Try.func9, Try.ntmps9
  go_wp2_with fail
  with_reducible refine (take_byte b q2).mono ?_
  rintro e w1 ⟨rfl, hq, hf⟩
  have h1 := h.que2 hq hf
  obtain ⟨A, c, rfl, hc, hA⟩ := own_form h1.ou
  have k4 := h1.k4
  have hnI : (S.out.length : Int) < 65536 := by omega
  have h2 := h1.alloc (.cells #[.int .u8 b] 5)
  have hou := h2.ou
  have hs : W0.heap.size ≤ (w1.alloc (.cells #[.int .u8 b] 5)).heap.size := h2.bl.size
  clear hA hc
  go_wp2_with (at_builtin; refine wpList_append_own_at _ rfl (.tmp 26) (.tmp 28) 22 rfl W0.heap.size 5 i0 (.int .u8 0) 1 1 Try.underlying22 HI.out HZ0.out HZ1.out HZ2.out rfl (by decide) _ _ _ rfl hou ⟨w1.heap.size, 0, none⟩ 1 1 [.int .u8 b] rfl rfl (cell_one_new _ _ _) (by intro u hu; simp at hu; subst hu; rfl) (by unfold maxLen; omega) (by omega) hs ?_)
  intro v1 w2 hown1 hgrow1 _ hblk1
  obtain ⟨h3, h4⟩ := h2.app (b := b) rfl hown1 hgrow1 (by rw [World.size_alloc]; exact hblk1)
  obtain ⟨A1, cc1, rfl, hc1, _⟩ := own_form hown1
  have k4' := h3.cell (i := 4) (by omega)
  have f4' := h3.frozen 4
  have k3' := h3.cell (i := 3) (by omega)
  simp only [ut7] at k3' k4'
  obtain ⟨n, hN, hn0⟩ : ∃ n : Nat, (x :: L).length = n ∧ 0 < n := ⟨_, rfl, by simp⟩
  have l2 := h4.l2 (n := n) hN
  have hnI0 : (0 : Int) < n := by omega
  clear hN
  clear hown1 hgrow1 hblk1 h3
  go_wp2_with fail
  with_reducible refine (uarm_any at_ h4 ha d0 d1 n0 n1).mono ?_
  rintro e w5 ⟨rfl, v5, o5, h5⟩
  go_wp2
  go_end0
  exact ⟨rfl, v5, o5, h5⟩

theorem run_append_by {B : Nat} (ty : TypeId) {x : Value} {L : List Int} {w : World} (hx : w.ownsRow B 5 1 x L.length (bys L)) (hB : B ≤ w.heap.size) (hl : L.length ≤ 1000000) :
    ∃ v' w', (Builtin.append_ #[22, 22] ty #[.slice none 0 0, x]).run Try.prog w = .ok v' w' ∧ w'.ownsRow B 5 1 v' L.length (bys L) ∧ Below w.heap.size w w' := by
  obtain ⟨i0, hi, hi3⟩ := Option.map_eq_some_iff.1 info_u8
  simp only [Prod.mk.injEq] at hi3
  obtain ⟨hz0, hz1, hz2⟩ := hi3
  rcases hx.2 with ⟨rfl, hn⟩ | ⟨g, cap, cur, rfl, hb, r⟩
  · refine ⟨.slice none 0 0, w, ?_, hx, Below.refl _ _⟩
    simp [Builtin.append_, run_underlying Try.underlying22, sizeOf, typeInfo, hi, Builtin.lenOf, Builtin.firstCells]
  · obtain ⟨v', w', hr, h1, h2, _, h4⟩ := run_append_own_at (P := Try.prog) w B 22 ty 5 i0 _ 1 1 Try.underlying22 hi hz0 hz1 hz2 rfl (by decide) (.slice none 0 0) 0 [] (World.ownsRow_nil _ _ _ _) ⟨g, 0, none⟩ L.length cap (bys L) (by rw [bys_len]; omega)
      (fun j u hu => World.ownsRow.cells hx (g := g) rfl j u hu) (by intro u hu; simp [bys] at hu; obtain ⟨z, _, rfl⟩ := hu; rfl) (by unfold maxLen; omega) (by omega) hB
    refine ⟨v', w', hr, by simpa using h1, ⟨h2.os, h2.tape, h2.output, h2.size, fun k hk => h2.block k hk (by simp [Value.ownBlock])⟩⟩
set_option maxHeartbeats 1000000 in
theorem out_any (h : One W0 w t g c1 c2 d v o S) (hl : S.out.length ≤ 1000000) :
    Calls Try.prog 10 #[.pointer (some ⟨t, 0, none⟩)] w fun e w' => ∃ u, e = .returned u ∧ w'.ownsRow W0.heap.size 5 1 u S.out.length (bys S.out) ∧ Below w.heap.size w w' := by
  have k4 := h.k4
  obtain ⟨u, w1, hr, hO, hB⟩ := run_append_by 22 h.ou h.bl.size hl
  obtain ⟨A, c, rfl, hc, _⟩ := own_form h.ou
  have HO := Lib.hid hO
  clear hO
  go_enter Try.func10, Try.ntmps10
  go_wp2_with (at_builtin; refine wpList_append_go rfl (.const (.slice none 0 0)) (.tmp 6) 22 22 rfl _ _ rfl rfl hr ?_)
  go_ret
  exact ⟨u, rfl, HO.out, hB⟩
/-- bytes as a text -/
def strL (L : List Int) : ByteArray := strOfNums L
theorem conv_own {B : Nat} {u : Value} {L : List Int} (h : w.ownsRow B 5 1 u L.length (bys L)) : (convert 22 9 u).run Try.prog w = .ok (.string (strL L)) w := by
  rcases h.2 with ⟨rfl, hn⟩ | ⟨g, cap, cur, rfl, hb, r⟩
  · have hL : L = [] := List.eq_nil_of_length_eq_zero hn
    subst hL
    exact run_convert_bytes_nil w 22 5 Try.underlying22 Try.underlying5 0 0 9 Try.underlying9
  · have hl : (loadCells ⟨g, 0, none⟩ L.length).run Try.prog w = .ok (bys L).toArray w := by
      have := run_loadCells_list (P := Try.prog) w ⟨g, 0, none⟩ (bys L) (fun j u hu => World.ownsRow.cells h (g := g) rfl j u hu)
      rwa [bys_len] at this
    rw [run_convert_bytes_string w 22 9 5 _ L.length cap Try.underlying22 Try.underlying5 Try.underlying9, run_bytesToString w _ L.length cap _ hl]
    rw [foldl_push_bytes]
    simp [strL, strOfNums, ByteArray.empty, ByteArray.emptyWithCapacity]
    rfl
/-- a line in new memory -/
theorem one_new (hg : W0.heap.size ≤ g) (hb : Below W0.heap.size W0 w) (hw : Wh 44 w g (.slice none 0 0) [] 0) (hc : (c1 = w.heap.size ∧ c2 = w.heap.size + 1) ∨ (c1 = w.heap.size + 1 ∧ c2 = w.heap.size)) :
    One W0 ((((w.alloc (.chan 16 #[] false 0 0 false)).alloc (.chan 16 #[] false 0 0 false)).alloc (.cells #[.int .i64 d, .pointer (some ⟨g, 0, none⟩), .chan (some c1), .chan (some c2), .slice none 0 0, .bool false, .int .u32 0] 47)).drew) (w.heap.size + 1 + 1) g c1 c2 d (.slice none 0 0) (.slice none 0 0) ⟨[], [], [], false, 0, none, 0⟩ := by
  have s1 := hb.size
  have e1 : (w.alloc (.chan 16 #[] false 0 0 false)).heap.size = w.heap.size + 1 := by simp
  have e2 : ((w.alloc (.chan 16 #[] false 0 0 false)).alloc (.chan 16 #[] false 0 0 false)).heap.size = w.heap.size + 1 + 1 := by simp
  have b1 : Below w.heap.size w (w.alloc (.chan 16 #[] false 0 0 false)) := (Below.refl _ _).alloc (Nat.le_refl _) _
  have b2 : Below (w.heap.size + 1) (w.alloc (.chan 16 #[] false 0 0 false)) ((w.alloc (.chan 16 #[] false 0 0 false)).alloc (.chan 16 #[] false 0 0 false)) := (Below.refl _ _).alloc (by rw [e1]; exact Nat.le_refl _) _
  have b3 : Below (w.heap.size + 1 + 1) ((w.alloc (.chan 16 #[] false 0 0 false)).alloc (.chan 16 #[] false 0 0 false)) (((w.alloc (.chan 16 #[] false 0 0 false)).alloc (.chan 16 #[] false 0 0 false)).alloc (.cells #[.int .i64 d, .pointer (some ⟨g, 0, none⟩), .chan (some c1), .chan (some c2), .slice none 0 0, .bool false, .int .u32 0] 47)) := (Below.refl _ _).alloc (by rw [e2]; exact Nat.le_refl _) _
  have qa : Qu (w.alloc (.chan 16 #[] false 0 0 false)) w.heap.size [] := qu_new w
  have qb : Qu ((w.alloc (.chan 16 #[] false 0 0 false)).alloc (.chan 16 #[] false 0 0 false)) (w.heap.size + 1) [] := by have := qu_new (w.alloc (.chan 16 #[] false 0 0 false)); rwa [e1] at this
  have fr2 : Fr (fun _ => False) (w.alloc (.chan 16 #[] false 0 0 false)) ((w.alloc (.chan 16 #[] false 0 0 false)).alloc (.chan 16 #[] false 0 0 false)) := (Fr.refl _ _).alloc _
  have fr3 : Fr (fun _ => False) ((w.alloc (.chan 16 #[] false 0 0 false)).alloc (.chan 16 #[] false 0 0 false)) ((((w.alloc (.chan 16 #[] false 0 0 false)).alloc (.chan 16 #[] false 0 0 false)).alloc (.cells #[.int .i64 d, .pointer (some ⟨g, 0, none⟩), .chan (some c1), .chan (some c2), .slice none 0 0, .bool false, .int .u32 0] 47)).drew) := ((Fr.refl _ _).alloc _).drew
  have q1 := (qa.fr fr2 id).fr fr3 id
  have q2 := qb.fr fr3 id
  have hlt := hw.lt
  have hb3 : Below w.heap.size w ((((w.alloc (.chan 16 #[] false 0 0 false)).alloc (.chan 16 #[] false 0 0 false)).alloc (.cells #[.int .i64 d, .pointer (some ⟨g, 0, none⟩), .chan (some c1), .chan (some c2), .slice none 0 0, .bool false, .int .u32 0] 47)).drew) := ((b1.trans (b2.mono (by omega))).trans (b3.mono (by omega))).drew
  have hr := World.rowIs_alloc ((w.alloc (.chan 16 #[] false 0 0 false)).alloc (.chan 16 #[] false 0 0 false)) #[.int .i64 d, .pointer (some ⟨g, 0, none⟩), .chan (some c1), .chan (some c2), .slice none 0 0, .bool false, .int .u32 0] 47 (ut7 d g c1 c2 (.slice none 0 0) false 0) (fun i hi => by
    have : i = 0 ∨ i = 1 ∨ i = 2 ∨ i = 3 ∨ i = 4 ∨ i = 5 ∨ i = 6 := by have : i < 7 := hi; omega
    rcases this with rfl | rfl | rfl | rfl | rfl | rfl | rfl <;> rfl)
  rw [e2] at hr
  refine ⟨hr, ?_, ?_, World.ownsRow_nil _ _ _ _, hw.below hb3, by omega, by omega, (fun k hk => by cases hk), (fun k hk => by have := hlt k hk; omega), by omega, ?_, hb.trans (hb3.mono s1)⟩
  · rcases hc with ⟨rfl, rfl⟩ | ⟨rfl, rfl⟩
    · exact q1
    · exact q2
  · rcases hc with ⟨rfl, rfl⟩ | ⟨rfl, rfl⟩
    · exact q2
    · exact q1
  · rintro k (rfl | e)
    · exact hg
    · cases e
/-- it returns a line of device d -/
def NewU (W0 : World) (g : Nat) (d : Int) (e : Ending) (w' : World) : Prop := ∃ t c1 c2, e = .returned (.pointer (some ⟨t, 0, none⟩)) ∧ One W0 w' t g c1 c2 d (.slice none 0 0) (.slice none 0 0) ⟨[], [], [], false, 0, none, 0⟩
set_option maxHeartbeats 1000000 in
theorem unew_any (d : Int) (hg : W0.heap.size ≤ g) (hb : Below W0.heap.size W0 w) (hw : Wh 44 w g (.slice none 0 0) [] 0) :
    Calls Try.prog 6 #[.int .i64 d, .pointer (some ⟨g, 0, none⟩)] w (NewU W0 g d) := by
  have hmc := mk16
  have n1 := one_new (d := d) (c1 := w.heap.size) (c2 := w.heap.size + 1) hg hb hw (.inl ⟨rfl, rfl⟩)
  have n2 := one_new (d := d) (c1 := w.heap.size + 1) (c2 := w.heap.size) hg hb hw (.inr ⟨rfl, rfl⟩)
  have N1 := Lib.hid n1
  have N2 := Lib.hid n2
  clear n1 n2
  go_enter Try.func6, Try.ntmps6
  go_wp2_with fail
  go_region
  · go_wp2
    go_ret
    exact ⟨_, _, _, rfl, N1.out⟩
  · go_wp2
    go_ret
    exact ⟨_, _, _, rfl, N2.out⟩
end
end Go.Proofs.Ytmmikcpkaehooaa

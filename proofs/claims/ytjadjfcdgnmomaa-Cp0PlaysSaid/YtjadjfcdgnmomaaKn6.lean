/-
  Chapter 6: its runs (function 'known').
-/
import Derived.Test.YtjadjfcdgnmomaaR6E
namespace Go.Proofs.Ytjadjfcdgnmomaa
open Go.RowKit
set_option linter.unusedVariables false
theorem kn_user : userB freshF = false := by decide
theorem kn_go : goB (wrF freshF 11 1) 1 = true := by decide
theorem kn_c13 : (goF (wrF freshF 11 1) 1).C 13 = 32768 := by decide
theorem kn_time : (goF (wrF freshF 11 1) 1).Time = 1 := by decide +kernel
theorem kn_r15 : rdF (goF (wrF freshF 11 1) 1) 15 = 98304 := by decide
theorem kn_r1 : rdF (goF (wrF freshF 11 1) 1) 1 = 1 := by decide
set_option maxHeartbeats 1000000 in
theorem known_any (w : World) : Calls Try.prog 15 #[] w (RetB (.bool true) w) := by
  go_enter Try.func15, Try.ntmps15
  go_wp2_with fail
  refine (fresh_any w).mono ?_
  rintro e w1 ⟨rfl, b1⟩
  go_wp2_with (with_reducible refine wpList_allocSt ?_)
  intro g w2 l2 h2 f2
  have ok := St.Ok.of_fresh
  go_wp2_with (refine wpList_storeSt rfl rfl h2 ok ?_)
  intro w3 t3
  have q1 := b1.size
  have cp : w3.cell? ⟨g, 34, none⟩ = some (.int .u32 2147484672) := t3.at_.cPC
  have cn : w3.cell? ⟨g, 35, none⟩ = some (.int .u32 2147484676) := t3.at_.cNext
  go_wp2_with fail
  refine (user_any t3.at_).mono ?_
  rintro e w4 ⟨rfl, rfl⟩
  rw [kn_user]
  go_wp2_with fail
  refine (write_any 11 1 t3.at_ ⟨by omega, by omega⟩).mono ?_
  rintro e w5 ⟨rfl, t5⟩
  go_wp2_with fail
  refine (go_any 1 t5.at_ (by omega) (by omega)).mono ?_
  rintro e w6 ⟨rfl, t6⟩
  rw [kn_go]
  have c13 : w6.cell? ⟨g, 52, none⟩ = some (.int .u32 32768) := by rw [t6.at_.c13, kn_c13]
  have ct : w6.cell? ⟨g, 72, none⟩ = some (.int .i64 1) := by rw [t6.at_.cTime, kn_time]
  go_wp2_with fail
  refine (read_any 15 t6.at_).mono ?_
  rintro e w7 ⟨rfl, rfl⟩
  rw [kn_r15]
  go_wp2_with fail
  refine (read_any 1 t6.at_).mono ?_
  rintro e w7 ⟨rfl, rfl⟩
  rw [kn_r1]
  go_wp2
  go_ret
  refine ⟨rfl, Fr.newB ?_⟩
  exact ((((Fr.of_below (S := New w.heap.size) b1).trans (f2.new (fun _ x => x.elim))).trans (t3.fr.new (by rintro k rfl; omega))).trans (t5.fr.new (by rintro k rfl; omega))).trans (t6.fr.new (by rintro k rfl; omega))
end Go.Proofs.Ytjadjfcdgnmomaa

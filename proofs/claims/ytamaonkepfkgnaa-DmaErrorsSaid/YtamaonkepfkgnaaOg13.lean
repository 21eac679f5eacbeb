/-
  Chapter 13: DmaMoves and DmaErrors over slices of bytes that came in.
-/
import Derived.Test.YtamaonkepfkgnaaOp13
import Derived.Test.YtamaonkepfkgnaaEr13
namespace Go.Proofs.Ytamaonkepfkgnaa
open Go.RowKit Go.ChangeShapes Go.WideShapes Go.Deep
set_option linter.unusedVariables false
set_option linter.unusedSimpArgs false
section
variable {H : Type} {enc : TypeId × Value → H} {W : World}
theorem by_of {fuel : Nat} {a : Option Addr} {len cap : Nat} {x : DataW H × List MemPlace} (hf : DataW.trod enc Try.prog W 0 (fun _ => true) true fuel 32 [.slice a len cap] = some x) : InBy W a len cap := by
  rcases open_ints Try.underlying32 Try.underlying5 (by kernel_rfl) hf with ⟨hcs, _⟩ | ⟨⟨b, o, s⟩, l, c, zs, hcs, _, hl, hm, hz, _, hcell, hwz⟩
  · injection hcs with e
    injection e with e1 e2 e3
    subst e1 e2
    exact ⟨fun _ => 0, by omega, by omega, fun m hm => by
      obtain rfl : m = 0 := by omega
      exact .inl ⟨_, rfl, rfl⟩⟩
  · injection hcs with e
    injection e with e1 e2 e3
    subst e1 e2 e3
    refine ⟨fun i => zs.getD i 0, hl, by unfold maxLen at hm; omega, fun m hml => .inr ⟨⟨b, o, s⟩, _, rfl, by omega, fun hp => ?_, fun i hi => ?_⟩⟩
    · simp only [if_true] at hz
      have h0 := hcell 0 (by omega)
      have hs := addr_plain h0
      have hb := block_lt_of_cell h0
      rw [add_block] at hb
      exact ⟨by simpa [Addr.add] using hs, hb⟩
    · simp only [if_true] at hz
      have hci := hcell i (by omega)
      have hli : i < zs.length := by omega
      have hw := hwz (zs.getD i 0) (by
        rw [List.getD_eq_getElem?_getD, List.getElem?_eq_getElem hli]
        exact List.getElem_mem hli)
      have hb := bounds_u8 hw
      exact ⟨hci, (by show 0 ≤ zs.getD i 0; omega), (by show zs.getD i 0 ≤ 255; omega)⟩
end
theorem moves_go (A : Option Addr) (len cap : Nat) (f0 t0 n : Int) (w : World) (h : InBy w A len cap) (f1 : 0 ≤ f0) (f2 : f0 < 4294967296) (t1 : 0 ≤ t0) (t2 : t0 < 4294967296) (n0 : -9223372036854775808 ≤ n) (n1 : n ≤ 9223372036854775807) :
    Calls Try.prog 5 #[.slice A len cap, .int .u32 f0, .int .u32 t0, .int .i64 n] w (RetB (.bool true) w) := moves_walk A len cap f0 t0 n w (Lib.hid h) f1 f2 t1 t2 n0 n1
theorem errors_go (A : Option Addr) (len cap : Nat) (n y : Int) (w : World) (h : InBy w A len cap) (n0 : -9223372036854775808 ≤ n) (n1 : n ≤ 9223372036854775807) (y0 : 0 ≤ y) (y1 : y < 4294967296) :
    Calls Try.prog 6 #[.slice A len cap, .int .i64 n, .int .u32 y] w (RetB (.bool true) w) := errors_walk A len cap n y w (Lib.hid h) n0 n1 y0 y1
end Go.Proofs.Ytamaonkepfkgnaa

/-
  Chapter 14: DiskBack and DiskErrors over slices of bytes that came in.
-/
import Derived.Test.YtifhnidcdfpabaaBy14
import Derived.Test.YtifhnidcdfpabaaBk14
namespace Go.Proofs.Ytifhnidcdfpabaa
open Go.RowKit
theorem back_go (A : Option Addr) (len cap : Nat) (s t u : Int) (w : World) (h : InBy w A len cap) (s0 : 0 ≤ s) (s1 : s < 4294967296) (t0 : 0 ≤ t) (t1 : t < 4294967296) (u0 : 0 ≤ u) (u1 : u < 4294967296) :
    Calls Try.prog 5 #[.slice A len cap, .int .u32 s, .int .u32 t, .int .u32 u] w (RetB (.bool true) w) := back_walk A len cap s t u w (Lib.hid h) s0 s1 t0 t1 u0 u1
theorem errors_go (A : Option Addr) (len cap : Nat) (n y : Int) (w : World) (h : InBy w A len cap) (n0 : -9223372036854775808 ≤ n) (n1 : n ≤ 9223372036854775807) (y0 : 0 ≤ y) (y1 : y < 4294967296) :
    Calls Try.prog 6 #[.slice A len cap, .int .i64 n, .int .u32 y] w (RetB (.bool true) w) := errors_walk A len cap n y w (Lib.hid h) n0 n1 y0 y1
end Go.Proofs.Ytifhnidcdfpabaa

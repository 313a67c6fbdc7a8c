/-
  CONTRACT of Parse of the reference: it is what the code's own Parse is.
-/
import Derived.Test.YtlbgdoajaplabaaGreatDoorRParse
import Derived.Test.YtlbgdoajaplabaaGreatDoorRToks
namespace Go.Proofs.YtlbgdoajaplabaaGreatDoor
open Go.RowKit

theorem rparse_at (s : ByteArray) (w : World) (hs : s.size ≤ 1000000) (hv : RVars w) (h14 : 12 ≤ w.heap.size) :
    Calls Tryz.prog 4 #[.string s] w (RParsed w (parse2 s)) :=
  rparse_of s w hs hv h14 fun W hv => rtokens_at s W hs hv
end Go.Proofs.YtlbgdoajaplabaaGreatDoor

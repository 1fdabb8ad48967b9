/-
  TreesigRejectsMalformed's walk, all five ways together. Condition: the table of constants as laid.
-/
import Derived.Test.YtfmcgcdppbcfjaaDoorWT40
import Derived.Test.YtfmcgcdppbcfjaaDoorWT41
import Derived.Test.YtfmcgcdppbcfjaaDoorWT42
import Derived.Test.YtfmcgcdppbcfjaaDoorWT43
import Derived.Test.YtfmcgcdppbcfjaaDoorWT44
namespace Go.Proofs.YtfmcgcdppbcfjaaDoor
open Go.RowKit
theorem walkT4 (seed msg : List UInt8) (hs : seed.length = 16) (hm : msg.length = 16) (x y z : Nat) (hx : x ≤ 255) (hy : y ≤ 255) (hz : z ≤ 255) (odd : Int) (o1 : -9223372036854775808 ≤ odd) (o2 : odd ≤ 9223372036854775807) (w : World) (hCo : Consts w) :
    Calls Tryd.prog 6 #[.agg (bvs seed ++ ([Value.int .u8 (x : Int), Value.int .u8 (y : Int)] ++ (bvs msg ++ [Value.int .i64 odd, Value.int .u8 (z : Int)]))).toArray] w (TellsB true w) := by
  rcases (show (z : Int) % 5 = 0 ∨ (z : Int) % 5 = 1 ∨ (z : Int) % 5 = 2 ∨ (z : Int) % 5 = 3 ∨ (z : Int) % 5 = 4 by omega) with h | h | h | h | h
  · exact walkT4_0 seed msg hs hm x y z hx hy hz h odd o1 o2 w hCo
  · exact walkT4_1 seed msg hs hm x y z hx hy hz h odd o1 o2 w hCo
  · exact walkT4_2 seed msg hs hm x y z hx hy hz h odd o1 o2 w hCo
  · exact walkT4_3 seed msg hs hm x y z hx hy hz h odd o1 o2 w hCo
  · exact walkT4_4 seed msg hs hm x y z hx hy hz h odd o1 o2 w hCo
end Go.Proofs.YtfmcgcdppbcfjaaDoor

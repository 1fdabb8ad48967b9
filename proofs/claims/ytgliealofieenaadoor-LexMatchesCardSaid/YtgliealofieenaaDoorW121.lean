/-
  LexMatches returns true: by walks. No condition.
-/
import Derived.Test.YtgliealofieenaaDoorSan12
import Derived.Test.YtgliealofieenaaDoorLxK
import Derived.Test.YtgliealofieenaaDoorLxJ
set_option linter.unusedSimpArgs false
set_option linter.unusedVariables false
namespace Go.Proofs.YtgliealofieenaaDoor
open Go.RowKit

set_option maxRecDepth 100000 in
set_option maxHeartbeats 8000000 in
theorem w121_any (s : ByteArray) (w : World) (hs : s.size ≤ 9223372036854775807) (hK : Sgs w) : Calls Tryd.prog 3 #[.string s] w (TellsB true w) := by
  have HSA := Lib.hid (san12_any w hK)
  have HK := Lib.hid hK
  clear hK
  unfold TellsB at *
  by_cases hbig : 600 < s.size
  · have q : decide ((600 : Int) < (s.size : Int)) = true := decide_eq_true (by omega)
    go_enter Tryd.func3, Tryd.ntmps3
    go_wp2_with fail
    refine HSA.out.mono ?_
    rintro e w1 ⟨rfl, b1⟩
    go_wp2_with fail
    go_ret
    exact ⟨rfl, b1⟩
  · have q : decide ((600 : Int) < (s.size : Int)) = false := decide_eq_false (by omega)
    have HT1 := fun W hW => Lib.hid (tokens_any s W (by omega) hW)
    have HT2 := fun W => Lib.hid (rtokens_any s W (by omega))
    generalize tkL s = T at *
    generalize tkE s = E at *
    have qe : (E == E) = true := by simp
    go_enter Tryd.func3, Tryd.ntmps3
    go_wp2_with fail
    refine HSA.out.mono ?_
    rintro e w1 ⟨rfl, b1⟩
    go_wp2_with fail
    refine (HT1 _ (HK.out.on b1)).out.mono ?_
    rintro e w2 ⟨A, n, c, rfl, r2, hnc, hn, b2⟩
    have B2 := b1.trans (b2.mono b1.size)
    go_wp2_with fail
    refine (HT2 _).out.mono ?_
    rintro e w3 ⟨A3, n3, c3, rfl, r3, hnc3, hn3, b3⟩
    have B3 := B2.trans (b3.mono B2.size)
    have HSM := Lib.hid (rsame_any A A3 n c n3 c3 T w3 (r2.on b3) r3 (by omega))
    go_wp2_with fail
    refine HSM.out.mono ?_
    rintro e w4 ⟨rfl, b4⟩
    have B4 := B3.trans (b4.mono B3.size)
    go_wp2_with fail
    go_ret
    exact ⟨rfl, B4⟩
end Go.Proofs.YtgliealofieenaaDoor

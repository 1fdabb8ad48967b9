/-
  ShaMatchesSpec's walk. Condition: the table of constants as laid.
-/
import Derived.Test.YtoghjdcfbbhjnaaDoorMac
import Derived.Test.YtoghjdcfbbhjnaaDoorEqs
import Derived.Test.YtoghjdcfbbhjnaaDoorSan
import Derived.Test.YtoghjdcfbbhjnaaDoorLaid
namespace Go.Proofs.YtoghjdcfbbhjnaaDoor
open Go.RowKit

set_option maxRecDepth 100000 in
set_option maxHeartbeats 4000000 in
theorem walkMat (Ak Ab : Option Addr) (nk ck nb cb : Nat) (key b : List UInt8) (w : World) (hK : Consts w) (hrk : Reads w w.heap.size 1 Ak nk (bvs key)) (hck : nk ≤ ck) (hnk : nk ≤ 140737488351232) (hrb : Reads w w.heap.size 1 Ab nb (bvs b)) (hcb : nb ≤ cb) (hnb : nb ≤ 140737488351232) :
    Calls Tryd.prog 3 #[.slice Ak nk ck, .slice Ab nb cb] w fun e w' => e = .returned (.bool true) ∧ Below w.heap.size w w' := by
  by_cases h1 : 3000 < nk
  · go_enter Tryd.func3, Tryd.ntmps3
    go_wp2_with fail
    refine (sanity_any _ hK).mono ?_
    rintro e w1 ⟨rfl, hb1⟩
    go_wp2_with fail
    go_ret
    exact ⟨rfl, hb1⟩
  · by_cases h2 : 3000 < nb
    · go_enter Tryd.func3, Tryd.ntmps3
      go_wp2_with fail
      refine (sanity_any _ hK).mono ?_
      rintro e w1 ⟨rfl, hb1⟩
      go_wp2_with fail
      go_ret
      exact ⟨rfl, hb1⟩
    · have HS := Lib.hid (sha_len b)
      have HH := Lib.hid (hmac_len key b)
      have HM := Lib.hid (mac_len key b)
      have hcs := fun W hKW hrW => Lib.hid (sum_any Ab cb b nb W hKW hrW hcb (by omega))
      have hcr := fun W hrW => Lib.hid (refSum_any Ab cb b nb W hrW (by omega))
      have hhs := fun W hKW hrW hrW2 => Lib.hid (hmac_any Ak Ab ck cb key b nk nb W hKW hrW hck (by omega) hrW2 hcb (by omega))
      have hhr := fun W hrW hrW2 => Lib.hid (refHmac_any Ak Ab ck cb key b nk nb W hrW hck (by omega) hrW2 hcb (by omega))
      have hms := fun W hKW hrW hrW2 => Lib.hid (mac_any Ak Ab ck cb key b nk nb W hKW hrW hck (by omega) hrW2 hcb (by omega))
      have hmr := fun W hrW hrW2 => Lib.hid (refMac_any Ak Ab ck cb key b nk nb W hrW hck (by omega) hrW2 hcb (by omega))
      generalize sha b = sb at *
      generalize hmac key b = hb at *
      generalize mac key b = mb at *
      go_enter Tryd.func3, Tryd.ntmps3
      go_wp2_with fail
      refine (sanity_any _ hK).mono ?_
      rintro e w1 ⟨rfl, hb1⟩
      go_wp2_with fail
      refine (hcs _ (hK.on hb1) (hrb.on hb1)).out.mono ?_
      rintro e w2 ⟨rfl, hb2⟩
      have hb2 := hb1.trans (hb2.mono hb1.size)
      go_wp2_with fail
      refine (hcr _ (hrb.on hb2)).out.mono ?_
      rintro e w3 ⟨rfl, hb3⟩
      have hb3 := hb2.trans (hb3.mono hb2.size)
      have q1 := eq32 sb HS.out
      have q2 := eq32 hb HH.out
      have q3 := eq16 mb HM.out
      go_wp2_with fail
      refine (hhs _ (hK.on hb3) (hrk.on hb3) (hrb.on hb3)).out.mono ?_
      rintro e w4 ⟨rfl, hb4⟩
      have hb4 := hb3.trans (hb4.mono hb3.size)
      go_wp2_with fail
      refine (hhr _ (hrk.on hb4) (hrb.on hb4)).out.mono ?_
      rintro e w5 ⟨rfl, hb5⟩
      have hb5 := hb4.trans (hb5.mono hb4.size)
      go_wp2_with fail
      refine (hms _ (hK.on hb5) (hrk.on hb5) (hrb.on hb5)).out.mono ?_
      rintro e w6 ⟨rfl, hb6⟩
      have hb6 := hb5.trans (hb6.mono hb5.size)
      go_wp2_with fail
      refine (hmr _ (hrk.on hb6) (hrb.on hb6)).out.mono ?_
      rintro e w7 ⟨rfl, hb7⟩
      have hb7 := hb6.trans (hb7.mono hb6.size)
      go_wp2_with fail
      go_ret
      exact ⟨rfl, hb7⟩
end Go.Proofs.YtoghjdcfbbhjnaaDoor

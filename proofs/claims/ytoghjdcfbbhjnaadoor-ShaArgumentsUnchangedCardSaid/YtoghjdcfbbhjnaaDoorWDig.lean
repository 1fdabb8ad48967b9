/-
  ShaDigestMatchesSpec's walk. Condition: the table of constants as laid.
-/
import Derived.Test.YtoghjdcfbbhjnaaDoorDer
import Derived.Test.YtoghjdcfbbhjnaaDoorEqs
import Derived.Test.YtoghjdcfbbhjnaaDoorSan
import Derived.Test.YtoghjdcfbbhjnaaDoorLaid
namespace Go.Proofs.YtoghjdcfbbhjnaaDoor
open Go.RowKit

set_option maxRecDepth 100000 in
set_option maxHeartbeats 1000000 in
theorem short_big (A : Option Addr) (c : Nat) (ps : List Part) (n : Nat) (w : World) (hr : ReadsP w w.heap.size A n ps) (hn : n ≤ 9223372036854775807) (hp : ∀ p ∈ ps, p.n ≤ maxLen) :
    Calls Tryd.prog 16 #[.slice A n c] w fun e w' => e = .returned (.bool (shortB ps)) ∧ w = w' := by
  by_cases hlong : 20 < n
  · have HF := Lib.hid (shortB_long (ps := ps) (by rw [hr.len]; exact hlong))
    go_enter Tryd.func16, Tryd.ntmps16
    go_wp2_with fail
    go_ret
    exact ⟨by rw [HF.out]; rfl, rfl⟩
  · exact short_any A c ps n w hr (by omega) hp

set_option maxRecDepth 100000 in
set_option maxHeartbeats 4000000 in
theorem walkDig (t : Int) (Ak : Option Addr) (nk ck : Nat) (key : List UInt8) (s : ByteArray) (A : Option Addr) (n c : Nat) (ps : List Part) (w : World) (hK : Consts w) (hrk : Reads w w.heap.size 1 Ak nk (bvs key)) (hck : nk ≤ ck) (hnk : nk ≤ 9223372036854775807) (hs : s.size ≤ 9223372036854775807) (hr : ReadsP w w.heap.size A n ps) (hn : n ≤ 9223372036854775807) (hp : ∀ p ∈ ps, p.n ≤ maxLen) :
    Calls Tryd.prog 4 #[.agg #[.int .i64 t, .slice Ak nk ck, .string s, .slice A n c]] w fun e w' => e = .returned (.bool true) ∧ Below w.heap.size w w' := by
  have hb0 : Below w.heap.size w (w.alloc (.cells #[.int .i64 t, .slice Ak nk ck, .string s, .slice A n c] 33)) := (Below.refl _ _).alloc (Nat.le_refl _) _
  by_cases h1 : 300 < nk
  · go_enter Tryd.func4, Tryd.ntmps4
    go_wp2_with fail
    refine (sanity_any _ (hK.on hb0)).mono ?_
    rintro e w1 ⟨rfl, hb1⟩
    have hb1 := hb0.trans (hb1.mono (by simp))
    go_wp2_with fail
    go_ret
    exact ⟨rfl, hb1⟩
  by_cases h2 : 300 < s.size
  · go_enter Tryd.func4, Tryd.ntmps4
    go_wp2_with fail
    refine (sanity_any _ (hK.on hb0)).mono ?_
    rintro e w1 ⟨rfl, hb1⟩
    have hb1 := hb0.trans (hb1.mono (by simp))
    go_wp2_with fail
    go_ret
    exact ⟨rfl, hb1⟩
  cases hsh : shortB ps with
  | false =>
    have HSH := Lib.hid hsh
    clear hsh
    go_enter Tryd.func4, Tryd.ntmps4
    go_wp2_with fail
    refine (sanity_any _ (hK.on hb0)).mono ?_
    rintro e w1 ⟨rfl, hb1⟩
    have hb1 := hb0.trans (hb1.mono (by simp))
    go_wp2_with fail
    refine (short_big A c ps n w1 (hr.on hb1) hn hp).mono ?_
    rintro e w2 ⟨rfl, rfl⟩
    rw [HSH.out]
    go_wp2_with fail
    go_ret
    exact ⟨rfl, hb1⟩
  | true =>
    have HSH := Lib.hid hsh
    have HSB := Lib.hid (shortB_of hsh)
    have HRL := Lib.hid hr.len
    clear hsh
    have hds := fun (W : World) hKW hrW => Lib.hid (digest_any t A c ps n W hKW hrW (by have := HSB.out.1; have := HRL.out; omega) HSB.out.2)
    have hdr := fun (W : World) hrW => Lib.hid (refDigest_any t A c ps n W hrW (by have := HSB.out.1; have := HRL.out; omega) HSB.out.2)
    have hvs := fun (W : World) hKW hrk hrW => Lib.hid (derive_any Ak ck key nk s A c ps n W hKW hrk hck (by omega) (by omega) hrW (by have := HSB.out.1; have := HRL.out; omega) HSB.out.2)
    have hvr := fun (W : World) hrk hrW => Lib.hid (refDerive_any Ak ck key nk s A c ps n W hrk hck (by omega) (by omega) hrW (by have := HSB.out.1; have := HRL.out; omega) HSB.out.2)
    have HDL := Lib.hid (dig_len t ps)
    have HVL := Lib.hid (drv_len key s.data.toList ps)
    generalize dig t ps = D at *
    generalize drv key s.data.toList ps = V at *
    have q1 := eq16 D HDL.out
    have q2 := eq16 V HVL.out
    go_enter Tryd.func4, Tryd.ntmps4
    go_wp2_with fail
    refine (sanity_any _ (hK.on hb0)).mono ?_
    rintro e w1 ⟨rfl, hb1⟩
    have hb1 := hb0.trans (hb1.mono (by simp))
    go_wp2_with fail
    refine (short_big A c ps n w1 (hr.on hb1) hn hp).mono ?_
    rintro e w2 ⟨rfl, rfl⟩
    rw [HSH.out]
    go_wp2_with fail
    refine (hds _ (hK.on hb1) (hr.on hb1)).out.mono ?_
    rintro e w3 ⟨rfl, hb3⟩
    have hb3 := hb1.trans (hb3.mono hb1.size)
    go_wp2_with fail
    refine (hdr _ (hr.on hb3)).out.mono ?_
    rintro e w4 ⟨rfl, hb4⟩
    have hb4 := hb3.trans (hb4.mono hb3.size)
    go_wp2_with fail
    refine (hvs _ (hK.on hb4) (hrk.on hb4) (hr.on hb4)).out.mono ?_
    rintro e w5 ⟨rfl, hb5⟩
    have hb5 := hb4.trans (hb5.mono hb4.size)
    go_wp2_with fail
    refine (hvr _ (hrk.on hb5) (hr.on hb5)).out.mono ?_
    rintro e w6 ⟨rfl, hb6⟩
    have hb6 := hb5.trans (hb6.mono hb5.size)
    go_wp2_with fail
    go_ret
    exact ⟨rfl, hb6⟩
end Go.Proofs.YtoghjdcfbbhjnaaDoor

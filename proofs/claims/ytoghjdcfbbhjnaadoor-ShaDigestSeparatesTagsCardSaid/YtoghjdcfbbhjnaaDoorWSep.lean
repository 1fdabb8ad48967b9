/-
  ShaDigestSeparatesTags' walk. Condition: the table of constants as laid.
-/
import Derived.Test.YtoghjdcfbbhjnaaDoorDigA
import Derived.Test.YtoghjdcfbbhjnaaDoorEqs
import Derived.Test.YtoghjdcfbbhjnaaDoorSan
import Derived.Test.YtoghjdcfbbhjnaaDoorLaid
namespace Go.Proofs.YtoghjdcfbbhjnaaDoor
open Go.RowKit

theorem dig_mod {a b : Int} (ps : List Part) (h : a % 256 = b % 256) : dig a ps = dig b ps := by
  unfold dig tagB
  rw [h]

theorem wrap64_mod (x : Int) : wrap64 x % 256 = x % 256 := by
  unfold wrap64
  omega

set_option maxRecDepth 100000 in
set_option maxHeartbeats 4000000 in
theorem walkSep (A : Option Addr) (n c : Nat) (ps : List Part) (t m : Int) (w : World) (hK : Consts w) (hr : ReadsP w w.heap.size A n ps) (hn : n ≤ 140737488351232) (hp : ∀ p ∈ ps, p.n ≤ maxLen) (hm1 : -128 ≤ m) (hm2 : m ≤ 127) :
    Calls Tryd.prog 6 #[.int .i64 t, .int .i8 m, .slice A n c] w fun e w' => e = .returned (.bool true) ∧ Below w.heap.size w w' := by
  cases hsh : shortB ps with
  | false =>
    have HSH := Lib.hid hsh
    clear hsh
    go_enter Tryd.func6, Tryd.ntmps6
    go_wp2_with fail
    refine (sanity_any _ hK).mono ?_
    rintro e w1 ⟨rfl, hb1⟩
    go_wp2_with fail
    refine (short_any A c ps n w1 (hr.on hb1) hn hp).mono ?_
    rintro e w2 ⟨rfl, rfl⟩
    rw [HSH.out]
    go_wp2_with fail
    go_ret
    exact ⟨rfl, hb1⟩
  | true =>
    have HSH := Lib.hid hsh
    have HSB := Lib.hid (shortB_of hsh)
    have HRL := Lib.hid hr.len
    clear hsh
    have hds := fun (t : Int) (W : World) hKW hrW => Lib.hid (digest_any t A c ps n W hKW hrW (by have := HSB.out.1; have := HRL.out; omega) HSB.out.2)
    have HDL := Lib.hid (dig_len t ps)
    have q1 := eq16 (dig t ps) HDL.out
    have HW : Hid (dig (wrap64 (t + 256 * m)) ps = dig t ps) := Lib.hid (dig_mod ps (by rw [wrap64_mod, Int.add_mul_emod_self_left]))
    go_enter Tryd.func6, Tryd.ntmps6
    go_wp2_with fail
    refine (sanity_any _ hK).mono ?_
    rintro e w1 ⟨rfl, hb1⟩
    go_wp2_with fail
    refine (short_any A c ps n w1 (hr.on hb1) hn hp).mono ?_
    rintro e w2 ⟨rfl, rfl⟩
    rw [HSH.out]
    go_wp2_with fail
    refine (hds t _ (hK.on hb1) (hr.on hb1)).out.mono ?_
    rintro e w3 ⟨rfl, hb3⟩
    have hb3 := hb1.trans (hb3.mono hb1.size)
    go_wp2_with fail
    refine (hds (wrap64 (t + 256 * m)) _ (hK.on hb3) (hr.on hb3)).out.mono ?_
    rintro e w4 ⟨rfl, hb4⟩
    rw [HW.out]
    have hb4 := hb3.trans (hb4.mono hb3.size)
    go_wp2_with fail
    go_ret
    exact ⟨rfl, hb4⟩
end Go.Proofs.YtoghjdcfbbhjnaaDoor

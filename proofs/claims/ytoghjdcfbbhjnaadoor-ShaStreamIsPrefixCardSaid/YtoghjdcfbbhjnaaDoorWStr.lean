/-
  ShaStreamIsPrefix's walk. Condition: the table of constants as laid.
-/
import Derived.Test.YtoghjdcfbbhjnaaDoorRStream
import Derived.Test.YtoghjdcfbbhjnaaDoorSan
import Derived.Test.YtoghjdcfbbhjnaaDoorLaid
namespace Go.Proofs.YtoghjdcfbbhjnaaDoor
open Go.RowKit

set_option maxRecDepth 100000 in
set_option maxHeartbeats 4000000 in
theorem walkStr (Ak : Option Addr) (nk ck : Nat) (key : List UInt8) (n m : Int) (w : World) (hK : Consts w) (hrk : Reads w w.heap.size 1 Ak nk (bvs key)) (hck : nk ≤ ck) (hnk : nk ≤ 140737488351232) (hn1 : -9223372036854775808 ≤ n) (hn2 : n ≤ 9223372036854775807) (hm0 : 0 ≤ m) (hm1 : m ≤ 255) :
    Calls Tryd.prog 5 #[.slice Ak nk ck, .int .i64 n, .int .u8 m] w fun e w' => e = .returned (.bool true) ∧ Below w.heap.size w w' := by
  by_cases h1 : 300 < nk
  · go_enter Tryd.func5, Tryd.ntmps5
    go_wp2_with fail
    refine (sanity_any _ hK).mono ?_
    rintro e w1 ⟨rfl, hb1⟩
    go_wp2_with fail
    go_ret
    exact ⟨rfl, hb1⟩
  by_cases h2 : 600 < n
  · go_enter Tryd.func5, Tryd.ntmps5
    go_wp2_with fail
    refine (sanity_any _ hK).mono ?_
    rintro e w1 ⟨rfl, hb1⟩
    go_wp2_with fail
    go_ret
    exact ⟨rfl, hb1⟩
  obtain ⟨mm, rfl⟩ : ∃ mm : Nat, m = (mm : Int) := ⟨m.toNat, by omega⟩
  have hcs := fun (n : Int) (q : Nat) (hq : q = n.toNat) (h1 : -9223372036854775808 ≤ n) (h2 : n ≤ 100000) W hKW hrW => Lib.hid (show Calls Tryd.prog 21 #[.slice Ak nk ck, .int .i64 n] W (Gives (stream key q) W) from hq ▸ stream_any Ak ck key nk n W hKW hrW hck (by omega) h1 h2)
  have hcr := fun (n : Int) (q : Nat) (hq : q = n.toNat) h1 h2 W hrW => Lib.hid (refStream_any Ak ck key nk n q W hq hrW hck (by omega) h1 h2)
  by_cases hneg : n < 0
  · obtain ⟨q, hq⟩ : ∃ q : Nat, q = 0 := ⟨_, rfl⟩
    have HQQ : Hid (q = n.toNat) := by show _ = _; omega
    have HP := Lib.hid (stream_pre key q (q + mm) (by omega))
    have HL1 := Lib.hid (stream_len key q)
    have HL2 := Lib.hid (stream_len key (q + mm))
    have hct := hcs (mm : Int) (q + mm)
    have HQM : Hid (q + mm = (mm : Int).toNat) := by show _ = _; omega
    subst hq
    go_enter Tryd.func5, Tryd.ntmps5
    go_wp2_with fail
    refine (sanity_any _ hK).mono ?_
    rintro e w1 ⟨rfl, hb1⟩
    go_wp2_with fail
    refine (hcs n 0 HQQ.out hn1 (by omega) w1 (hK.on hb1) (hrk.on hb1)).out.mono ?_
    rintro e w2 ⟨v2, rfl, hown2, hb2⟩
    have hown2 := own_len hown2 HL1.out
    obtain ⟨A2, c2, rfl, hc2, _, hr2⟩ := own_form hown2
    have hb2 := hb1.trans (hb2.mono hb1.size)
    clear hown2
    go_wp2_with fail
    refine (hct HQM.out (by omega) (by omega) w2 (hK.on hb2) (hrk.on hb2)).out.mono ?_
    rintro e w3 ⟨v3, rfl, hown3, hb3⟩
    have hown3 := own_len hown3 HL2.out
    obtain ⟨A3, c3, rfl, hc3, _, hr3⟩ := own_form hown3
    have hr2 := hr2.on hb3
    have hb3 := hb2.trans (hb3.mono hb2.size)
    clear hown3
    go_wp2_with fail
    refine (hcr n 0 HQQ.out hn1 (by omega) w3 (hrk.on hb3)).out.mono ?_
    rintro e w4 ⟨A4, c4, rfl, hc4, hr4, hb4⟩
    have hr2 := hr2.on hb4
    have hr3 := hr3.on hb4
    have hb4 := hb3.trans (hb4.mono hb3.size)
    go_wp2_with fail
    refine (same_any _ _ _ _ _ _ _ w4 hr2 hr4).mono ?_
    rintro e w5 ⟨rfl, rfl⟩
    have hr3 := hr3.take (k := 0) (by omega)
    rw [Nat.mul_one, show (bvs (stream key (0 + mm))).take 0 = bvs ((stream key (0 + mm)).take 0) from (List.map_take ..).symm, HP.out] at hr3
    go_wp2_with fail
    refine (same_any _ _ _ _ _ _ _ w4 hr2 hr3).mono ?_
    rintro e w5 ⟨rfl, rfl⟩
    go_wp2_with fail
    go_ret
    exact ⟨rfl, hb4⟩
  · obtain ⟨q, rfl⟩ : ∃ q : Nat, n = (q : Int) := ⟨n.toNat, by omega⟩
    have HQQ : Hid (q = (q : Int).toNat) := by show _ = _; omega
    have HP := Lib.hid (stream_pre key q (q + mm) (by omega))
    have HL1 := Lib.hid (stream_len key q)
    have HL2 := Lib.hid (stream_len key (q + mm))
    have hct := hcs ((q : Int) + (mm : Int)) (q + mm)
    have HQM : Hid (q + mm = ((q : Int) + (mm : Int)).toNat) := by show _ = _; omega
    go_enter Tryd.func5, Tryd.ntmps5
    go_wp2_with fail
    refine (sanity_any _ hK).mono ?_
    rintro e w1 ⟨rfl, hb1⟩
    go_wp2_with fail
    refine (hcs (q : Int) q HQQ.out hn1 (by omega) w1 (hK.on hb1) (hrk.on hb1)).out.mono ?_
    rintro e w2 ⟨v2, rfl, hown2, hb2⟩
    have hown2 := own_len hown2 HL1.out
    obtain ⟨A2, c2, rfl, hc2, _, hr2⟩ := own_form hown2
    have hb2 := hb1.trans (hb2.mono hb1.size)
    clear hown2
    go_wp2_with fail
    refine (hct HQM.out (by omega) (by omega) w2 (hK.on hb2) (hrk.on hb2)).out.mono ?_
    rintro e w3 ⟨v3, rfl, hown3, hb3⟩
    have hown3 := own_len hown3 HL2.out
    obtain ⟨A3, c3, rfl, hc3, _, hr3⟩ := own_form hown3
    have hr2 := hr2.on hb3
    have hb3 := hb2.trans (hb3.mono hb2.size)
    clear hown3
    go_wp2_with fail
    refine (hcr (q : Int) q HQQ.out hn1 (by omega) w3 (hrk.on hb3)).out.mono ?_
    rintro e w4 ⟨A4, c4, rfl, hc4, hr4, hb4⟩
    have hr2 := hr2.on hb4
    have hr3 := hr3.on hb4
    have hb4 := hb3.trans (hb4.mono hb3.size)
    go_wp2_with fail
    refine (same_any _ _ _ _ _ _ _ w4 hr2 hr4).mono ?_
    rintro e w5 ⟨rfl, rfl⟩
    have hr3 := hr3.take (k := q) (by omega)
    rw [Nat.mul_one, show (bvs (stream key (q + mm))).take q = bvs ((stream key (q + mm)).take q) from (List.map_take ..).symm, HP.out] at hr3
    go_wp2_with fail
    refine (same_any _ _ _ _ _ _ _ w4 hr2 hr3).mono ?_
    rintro e w5 ⟨rfl, rfl⟩
    go_wp2_with fail
    go_ret
    exact ⟨rfl, hb4⟩
end Go.Proofs.YtoghjdcfbbhjnaaDoor

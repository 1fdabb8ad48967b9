/-
  What slices.Grow and slices.Concat at []byte return: contracts by walks. Conditions: bounded lengths.
-/
import Derived.Test.YtojdondipkbjhaaDoorPart
import Derived.Test.YtojdondipkbjhaaDoorBase
import Derived.Lib.AppendZeros
namespace Go.Proofs.YtojdondipkbjhaaDoor
open Go.RowKit

set_option maxRecDepth 100000 in
set_option maxHeartbeats 1000000 in
theorem growNil_any (n : Nat) (hn : n ≤ 1000000000) (w : World) :
    Calls Tryd.prog 66 #[.slice none 0 0, .int .i64 (n : Int)] w fun e w' => ∃ v, e = .returned v ∧ w'.ownsRow w.heap.size 5 1 v 0 [] ∧ Below w.heap.size w w' := by
  obtain ⟨i0, hi0, hz0, hz1, hz2⟩ := info_parts info_u8
  by_cases h0 : 0 < n
  · have hrun := Lib.run_append_nil_zeros (P := Tryd.prog) w 41 3 41 5 i0 (.int .u8 0) .i64 .i64 Tryd.underlying41 Tryd.underlying3 hi0 hz0 n h0 (by rw [hz1]; omega) (by omega) (by rw [hz2]; omega)
    have HR := Lib.hid hrun
    clear hrun
    have hgc := grownCap_ge w n 0 5
    have hgm := grownCap_le_maxLen w n 0 5 (by unfold maxLen; omega)
    generalize grownCap w n 0 5 = gc at *
    have hown : (w.drew.alloc (.cells (Builtin.zeroCells (Value.int .u8 0).cells n ++ Builtin.zeroCells (Value.int .u8 0).cells (gc - n)) 5)).ownsRow w.heap.size 5 1 (.slice (some ⟨w.heap.size, 0, none⟩) 0 gc) 0 [] := by
      refine ⟨rfl, .inr ⟨w.heap.size, gc, _, rfl, Nat.le_refl _, Go.heap_alloc_new w.drew _, Nat.zero_le _, hgm, ?_, by simp⟩⟩
      simp [Builtin.zeroCells, Value.cells]
      omega
    have hbel : Below w.heap.size w (w.drew.alloc (.cells (Builtin.zeroCells (Value.int .u8 0).cells n ++ Builtin.zeroCells (Value.int .u8 0).cells (gc - n)) 5)) := ((Below.refl _ _).drew).alloc (Nat.le_refl _) _
    obtain ⟨wz, hwz⟩ : ∃ wz, wz = w.drew.alloc (.cells (Builtin.zeroCells (Value.int .u8 0).cells n ++ Builtin.zeroCells (Value.int .u8 0).cells (gc - n)) 5) := ⟨_, rfl⟩
    rw [← hwz] at hown hbel
    have HWZ := Lib.hid hwz
    clear hwz
    go_enter Tryd.func66, Tryd.ntmps66
    go_wp2_with (at_builtin; refine Lib.wpList_append_run _ rfl (.tmp 20) (.tmp 21) _ _ rfl _ _ rfl rfl _ wz (by rw [HWZ.out]; exact HR.out) ?_)
    go_ret
    exact ⟨_, rfl, hown, hbel⟩
  · obtain rfl : n = 0 := by omega
    go_enter Tryd.func66, Tryd.ntmps66
    go_wp2_with fail
    go_ret
    exact ⟨_, rfl, World.ownsRow_nil _ _ _ _, Below.refl _ _⟩

set_option maxRecDepth 100000 in
set_option maxHeartbeats 2000000 in
theorem concat_any (A : Option Addr) (c : Nat) (ps : List Part) (n : Nat) (w : World) (hr : ReadsP w w.heap.size A n ps) (hn : n ≤ 1000) (hp : ∀ p ∈ ps, p.n ≤ 100000) :
    Calls Tryd.prog 62 #[.slice A n c] w (Gives (allBytes ps) w) := by
  obtain ⟨i0, hi0, hz0, hz1, hz2⟩ := info_parts info_u8
  have HLN := Lib.hid hr.len
  have hbd : ∀ k, k ≤ n → (allBytes (ps.take k)).length ≤ 100000 * k := by
    intro k
    induction k with
    | zero => intro _; simp [allBytes]
    | succ k ih =>
      intro hk
      obtain ⟨ad, p, _, _, hpk, _, hrp, _⟩ := hr.at_ (k := k) (by omega)
      rw [allBytes_succ ps k p hpk, List.length_append]
      have h1 := ih (by omega)
      have h2 := hp p (List.mem_of_getElem? hpk)
      have h3 := hrp.bytes_len
      omega
  have HBD := Lib.hid hbd
  have HPN := Lib.hid hp
  clear hbd hp
  go_enter Tryd.func62, Tryd.ntmps62
  go_wp2_with fail
  go_loopg [3, 5, 11] n (fun g s3 s5 s11 wr => ∃ k : Nat, Hid (k + g = n) ∧ k ≤ n ∧ s11 = .int .i64 (k : Int) ∧ s3 = .int .i64 ((allBytes (ps.take k)).length : Int) ∧ w = wr)
  case atStart => exact ⟨0, by show _ = _; omega, by omega, rfl, rfl, rfl⟩
  case round =>
    obtain ⟨k, HK, hk, rfl, rfl, rfl⟩ := hrel
    have hb := HBD.out k hk
    by_cases hlt : k < n
    · obtain ⟨ad, p, rfl, _, hpk, hc, hrp, _⟩ := hr.at_ hlt
      have HP := Lib.hid (allBytes_succ ps k p hpk)
      have hpn := HPN.out p (List.mem_of_getElem? hpk)
      have HPL := Lib.hid hrp.bytes_len
      clear hpk
      obtain ⟨m, hm⟩ : ∃ m, m = (allBytes (ps.take k)).length := ⟨_, rfl⟩
      rw [← hm] at hb ⊢
      have HM := Lib.hid hm
      clear hm
      go_wp2_with fail
      go_roundg (gk - 1)
      case measure => have := HK.out; omega
      case rel => exact ⟨k + 1, by have := HK.out; show _ = _; omega, by omega, by go_num, by rw [HP.out, List.length_append, HPL.out, ← HM.out]; go_num, rfl⟩
    · have hkn : k = n := by omega
      have HALL : Hid (allBytes (ps.take n) = allBytes ps) := by show _ = _; rw [List.take_of_length_le (by rw [HLN.out]; exact Nat.le_refl _)]
      have hlen0 : (allBytes (ps.take k)).length = (allBytes ps).length := by rw [hkn, HALL.out]
      rw [hlen0] at hb ⊢
      have HKN := Lib.hid hkn
      have htot : (allBytes ps).length ≤ 100000000 := by omega
      clear hkn hlen0 hb HK
      obtain ⟨g0, rfl⟩ : ∃ g0 : Nat, g0 = gk := ⟨_, rfl⟩
      go_wp2_with fail
      refine (growNil_any _ (by omega) _).mono ?_
      rintro e w1 ⟨v1, rfl, hown1, hb1⟩
      have hr1 := hr.below hb1
      go_wp2_with fail
      go_loopg [6, 8, 27] n (fun g s6 s8 s27 wr => ∃ k : Nat, Hid (k + g = n) ∧ k ≤ n ∧ s27 = .int .i64 (k : Int) ∧ wr.ownsRow w.heap.size 5 1 s6 (allBytes (ps.take k)).length (bvs (allBytes (ps.take k))) ∧ Below w.heap.size w wr)
      case atStart => exact ⟨0, by show _ = _; omega, by omega, rfl, hown1, hb1⟩
      case round =>
        obtain ⟨k, HK, hk, rfl, hown, hbel⟩ := hrel
        have hb := HBD.out k hk
        by_cases hlt : k < n
        · obtain ⟨ad, p, rfl, _, hpk, hc, hrp, _⟩ := (hr.below hbel).at_ hlt
          have HP := Lib.hid (allBytes_succ ps k p hpk)
          have hpn := HPN.out p (List.mem_of_getElem? hpk)
          have HPL := Lib.hid hrp.bytes_len
          clear hpk
          go_wp2_with (at_builtin; refine wpList_append_src _ rfl (.tmp 31) (.tmp 32) _ _ rfl w.heap.size 5 i0 _ 1 1 Tryd.underlying41 hi0 hz0 hz1 hz2 rfl _ _ _ rfl hown p.n _ (Src.ofReads _ Tryd.underlying41 hrp (bvs_one _)) (by unfold maxLen; omega) (by omega) hbel.size ?_; intro v3 w3 hown3 hb3)
          go_roundg (gk - 1)
          case measure => have := HK.out; omega
          case rel =>
            refine ⟨k + 1, by have := HK.out; show _ = _; omega, by omega, by go_num, ?_, hbel.trans hb3⟩
            rw [HP.out, bvs_append, List.length_append, HPL.out]
            exact hown3
        · have HKN2 : Hid (k = n) := by show _ = _; omega
          go_wp2_with fail
          go_ret
          refine ⟨_, rfl, ?_, hbel⟩
          rw [HKN2.out, HALL.out] at hown
          exact hown
end Go.Proofs.YtojdondipkbjhaaDoor

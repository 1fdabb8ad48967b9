/-
  What the reference's Bytes, Ints and Digests return: contracts by walks.
-/
import Derived.Test.YtooiedomcdmefaaGDigs
namespace Go.Proofs.Ytooiedomcdmefaa
open Go.RowKit

set_option maxRecDepth 100000 in
set_option maxHeartbeats 1000000 in
theorem refBytes_any (s : ByteArray) (w : World) (hs : s.size ≤ 100000000000) : Calls Try.prog 16 #[.string s] w (Gives (encBytes s.data.toList) w) := by
  obtain ⟨i0, hi0, hz0, hz1, hz2⟩ := info_parts info_u8
  have hl : (encInt (s.size : Int)).length ≤ 10 := leb_le10 _ (zz_lt _ (by omega) (by omega))
  have hsz : s.data.toList.length = s.size := by simp
  have HSZ := Lib.hid hsz
  clear hsz
  go_enter Try.func16, Try.ntmps16
  go_wp2_with fail
  refine (refInt_any (s.size : Int) _ (by omega) (by omega)).mono ?_
  rintro e w1 ⟨v, rfl, hown, hbel⟩
  obtain ⟨A, c, w2, hrun, hc, hr2, hbel2⟩ : ∃ A c w2, (∀ (ρ : Operand → Value) (o : Oper), o.op = .convert 9 26 (.tmp 6) → ρ (.tmp 6) = .string s → (execOp ρ o).run Try.prog w1 = .ok (.value (.slice A s.size c)) w2) ∧ s.size ≤ c ∧ Reads w2 w2.heap.size 1 A s.size (bvs s.data.toList) ∧ Below w1.heap.size w1 w2 := by
    obtain ⟨A, c, w2, h1, h2, h3, h4⟩ := exec_bytes_of (P := Try.prog) (ρ := fun _ => .string s) (o := ⟨none, .convert 9 26 (.tmp 6), 0, "", #[], none⟩) w1 _ _ _ _ rfl Try.underlying9 Try.underlying5 Try.underlying26 (s := s) rfl
    refine ⟨A, c, w2, fun ρ o ho hx => ?_, h2, h3, h4⟩
    unfold execOp at h1 ⊢
    simp only [ho, hx]
    exact h1
  have HRUN := Lib.hid hrun
  clear hrun
  have hb2 : Below w.heap.size w w2 := hbel.trans (hbel2.mono hbel.size)
  have hown2 := own_below hown hbel2
  go_wp2_with (first
    | (refine wpList_valueW (o := ⟨some 7, _, _, _, _, _⟩) rfl _ (by exact HRUN.out _ _ rfl rfl) ?_)
    | (at_builtin; refine wpList_append_src _ rfl (.tmp 5) (.tmp 7) _ _ rfl w.heap.size 5 i0 _ 1 1 Try.underlying26 hi0 hz0 hz1 hz2 rfl _ _ _ rfl hown2 s.size _ (Src.ofReads _ Try.underlying26 hr2 (bvs_one _)) (by unfold maxLen; omega) (by omega) hb2.size ?_; intro v2 w3 hown3 hbel3))
  go_ret
  refine ⟨v2, rfl, ?_, hb2.trans hbel3⟩
  rw [← bvs_append] at hown3
  have e : (encBytes s.data.toList).length = (encInt (s.size : Int)).length + s.size := by unfold encBytes; rw [List.length_append, HSZ.out]
  rw [e]
  unfold encBytes
  rw [HSZ.out]
  exact hown3

set_option maxRecDepth 100000 in
set_option maxHeartbeats 1000000 in
theorem refInts_any (A : Option Addr) (c : Nat) (l : List Int) (n : Nat) (hn : l.length = n) (w : World) (hl : ∀ x ∈ l, I64 x) (hr : Reads w w.heap.size 1 A n (ivs l)) (hs : n ≤ 1000000000) :
    Calls Try.prog 18 #[.slice A n c] w (Gives (encInts l) w) := by
  obtain ⟨i0, hi0, hz0, hz1, hz2⟩ := info_parts info_u8
  have HN := Lib.hid hn
  clear hn
  have HL := Lib.hid hl
  clear hl
  go_enter Try.func18, Try.ntmps18
  go_wp2_with fail
  refine (refInt_any (n : Int) _ (by omega) (by omega)).mono ?_
  rintro e w' ⟨v, rfl, hown, hbel⟩
  go_wp2_with fail
  have hl0 : (encInt (n : Int)).length ≤ 10 := leb_le10 _ (zz_lt _ (by omega) (by omega))
  go_loopg [3, 4] n (fun g v' i wr => ∃ k : Nat, Hid (k + g = n) ∧ k ≤ n ∧ i = .int .i64 k ∧ wr.ownsRow w.heap.size 5 1 v' (encInt (n : Int) ++ encAll (l.take k)).length (bvs (encInt (n : Int) ++ encAll (l.take k))) ∧ Below w.heap.size w wr)
  case atStart => exact ⟨0, by show _ = _; omega, by omega, rfl, by simpa [encAll] using hown, hbel⟩
  case round =>
    obtain ⟨k, HK, hk, rfl, hown1, hbel1⟩ := hrel
    by_cases hlt : k < n
    · obtain ⟨ad, x, rfl, hab, hx, hc⟩ := (hr.below hbel1).int_at hlt
      have hx64 : I64 x := HL.out x (List.mem_of_getElem? hx)
      have hlen : (encAll (l.take k)).length ≤ 10 * k := Nat.le_trans (encAll_len _ fun y hy => HL.out y (List.mem_of_mem_take hy)) (by have := List.length_take_le k l; omega)
      have hxl : (encInt x).length ≤ 10 := leb_le10 _ (zz_lt _ hx64.1 hx64.2)
      have hll : (encInt (n : Int) ++ encAll (l.take k)).length ≤ 10 + 10 * k := by rw [List.length_append]; omega
      have HX := Lib.hid hx
      clear hx
      go_wp2_with fail
      refine (refInt_any x _ hx64.1 hx64.2).mono ?_
      rintro e w2 ⟨v2, rfl, hown2, hbel2⟩
      obtain ⟨A2, c2, rfl, _, _, hr2⟩ := own_form hown2
      have hb2 : Below w.heap.size w w2 := hbel1.trans (hbel2.mono hbel1.size)
      have hown12 := own_below hown1 hbel2
      go_wp2_with (at_builtin; refine wpList_append_src _ rfl (.tmp 14) (.tmp 19) _ _ rfl w.heap.size 5 i0 _ 1 1 Try.underlying26 hi0 hz0 hz1 hz2 rfl _ _ _ rfl hown12 (encInt x).length _ (Src.ofReads _ Try.underlying26 hr2 (bvs_one _)) (by unfold maxLen; omega) (by omega) hb2.size ?_; intro v3 w3 hown3 hbel3)
      go_roundg (gk - 1)
      case measure => have := HK.out; omega
      case rel =>
        have hs := encAll_snoc l k x HX.out
        refine ⟨k + 1, ?_, by omega, by go_num, ?_, hb2.trans hbel3⟩
        · have := HK.out; show _ = _; omega
        · rw [hs, ← List.append_assoc, bvs_append, List.length_append]
          exact hown3
    · have hkn : k = n := by omega
      have HKN := Lib.hid hkn
      clear hkn
      go_wp2_with fail
      go_ret
      refine ⟨_, rfl, ?_, hbel1⟩
      have e : encInts l = encInt (n : Int) ++ encAll (l.take k) := by unfold encInts; rw [HKN.out, List.take_of_length_le (by rw [HN.out]; exact Nat.le_refl _), HN.out]
      rw [e]
      exact hown1

set_option maxRecDepth 100000 in
set_option maxHeartbeats 2000000 in
theorem refDigests_any (A : Option Addr) (c : Nat) (ds : List (List UInt8)) (n : Nat) (hn : ds.length = n) (w : World) (h16 : Len16 ds) (hr : Reads w w.heap.size 16 A n (bvs ds.flatten)) (hs : n ≤ 1000000000) :
    Calls Try.prog 20 #[.slice A n c] w (Gives (encDigs ds) w) := by
  obtain ⟨i0, hi0, hz0, hz1, hz2⟩ := info_parts info_u8
  have HN := Lib.hid hn
  clear hn
  have HL := Lib.hid h16
  clear h16
  go_enter Try.func20, Try.ntmps20
  go_wp2_with fail
  refine (refInt_any (n : Int) _ (by omega) (by omega)).mono ?_
  rintro e w' ⟨v, rfl, hown, hbel⟩
  go_wp2_with fail
  have hl0 : (encInt (n : Int)).length ≤ 10 := leb_le10 _ (zz_lt _ (by omega) (by omega))
  go_loopg [3, 4, 5] n (fun g v' i i5 wr => ∃ k : Nat, Hid (k + g = n) ∧ k ≤ n ∧ i = .int .i64 k ∧ wr.ownsRow w.heap.size 5 1 v' ((encInt (n : Int)).length + k * 16) (bvs (encInt (n : Int) ++ (ds.take k).flatten)) ∧ Below w.heap.size w wr)
  case atStart => exact ⟨0, by show _ = _; omega, by omega, rfl, by simpa using hown, hbel⟩
  case round =>
    obtain ⟨k, HK, hk, rfl, hown1, hbel1⟩ := hrel
    by_cases hlt : k < n
    · obtain ⟨ad, d, hA, hab, hx, hd, hc⟩ := hr.dig_at HL.out hlt
      subst hA
      have HX := Lib.hid hx
      have HC := Lib.hid hc
      have HD := Lib.hid hd
      clear hc hx hd
      obtain ⟨wo, rfl⟩ : ∃ wo : World, wo = wr := ⟨_, rfl⟩
      obtain ⟨g0, rfl⟩ : ∃ g0 : Nat, g0 = gk := ⟨_, rfl⟩
      go_wp2_with fail
      go_loopg [3, 5] 16 (fun g2 v' i5 wi => ∃ j : Nat, Hid (j + g2 = 16) ∧ j ≤ 16 ∧ i5 = .int .i64 j ∧ wi.ownsRow w.heap.size 5 1 v' ((encInt (n : Int)).length + k * 16 + j) (bvs (encInt (n : Int) ++ (ds.take k).flatten ++ d.take j)) ∧ Below w.heap.size w wi)
      case atStart => exact ⟨0, by show _ = _; omega, by omega, rfl, by simpa using hown1, hbel1⟩
      case round =>
        obtain ⟨j, HJ, hj, rfl, hown2, hbel2⟩ := hrel
        by_cases hj16 : j < 16
        · have hjd : j < d.length := by rw [HD.out]; exact hj16
          have hcj : wr.cell? ((ad.add (k * 16)).add j) = some (bv d[j]) := by
            rw [add_of_add, hbel2.cell (by rw [block_of_add]; exact hab)]
            exact HC.out j _ (by unfold bvs; rw [List.getElem?_map, List.getElem?_eq_getElem hjd]; rfl)
          have hsn : d.take (j + 1) = d.take j ++ [d[j]] := by rw [List.take_add_one, List.getElem?_eq_getElem hjd]; rfl
          generalize d[j] = x at *
          unfold bv at hcj
          have HS := Lib.hid hsn
          clear hsn
          have hbs := hbel2.size
          go_wp2_with (at_builtin; refine wpList_append_src _ rfl (.tmp 19) (.tmp 26) _ _ rfl w.heap.size 5 i0 _ 1 1 Try.underlying26 hi0 hz0 hz1 hz2 rfl _ _ _ rfl (hown2.alloc _) 1 _ (Src.box Try.underlying26 _ _ _ rfl _) (by unfold maxLen; omega) (by omega) (by simp; omega) ?_; intro v3 w3 hown3 hbel3)
          go_roundg (gk - 1)
          case measure => have := HJ.out; omega
          case rel =>
            refine ⟨j + 1, by have := HJ.out; show _ = _; omega, by omega, by go_num, ?_, hbel2.trans (((Below.refl _ _).alloc hbs _).trans hbel3)⟩
            rw [HS.out, ← List.append_assoc, bvs_append]
            exact hown3
        · go_wp2_with fail
          go_roundg (g0 - 1)
          case measure => have := HK.out; omega
          case rel =>
            have hs := flatten_snoc ds k d HX.out
            refine ⟨k + 1, by have := HK.out; show _ = _; omega, by omega, by go_num, ?_, hbel2⟩
            have hj2 : j = 16 := by omega
            rw [hs, ← List.append_assoc, show (encInt (n : Int)).length + (k + 1) * 16 = (encInt (n : Int)).length + k * 16 + j from by omega]
            rw [List.take_of_length_le (l := d) (by rw [HD.out]; omega)] at hown2
            exact hown2
    · have hkn : k = n := by omega
      have HKN := Lib.hid hkn
      clear hkn
      go_wp2_with fail
      go_ret
      refine ⟨_, rfl, ?_, hbel1⟩
      have e : encDigs ds = encInt (n : Int) ++ (ds.take k).flatten := by unfold encDigs; rw [HKN.out, List.take_of_length_le (by rw [HN.out]; exact Nat.le_refl _), HN.out]
      have e2 : (encInt (n : Int) ++ (ds.take k).flatten).length = (encInt (n : Int)).length + k * 16 := by rw [List.length_append, flatten_take ds HL.out, List.length_take, flatten_len ds HL.out, HN.out, HKN.out, Nat.min_self]
      rw [e, e2]
      exact hown1
end Go.Proofs.Ytooiedomcdmefaa

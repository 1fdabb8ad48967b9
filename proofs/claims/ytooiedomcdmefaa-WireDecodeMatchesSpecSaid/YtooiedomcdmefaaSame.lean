/-
  What the reference's Same, SameInts and SameDigests return: contracts by walks.
-/
import Derived.Test.YtooiedomcdmefaaDigs
namespace Go.Proofs.Ytooiedomcdmefaa
open Go.RowKit

/-- A bool comes back; the world is as it was but for draws. -/
def Tells (b : Bool) (w : World) (e : Ending) (w' : World) : Prop := e = .returned (.bool b) ∧ ∃ m, w' = w.drewN m

theorem Reads.byte_at {w : World} {B n : Nat} {A : Option Addr} {l : List UInt8} (h : Reads w B 1 A n (bvs l)) {k : Nat} (hk : k < n) :
    ∃ ad x, A = some ad ∧ ad.block < B ∧ l[k]? = some x ∧ w.cell? (ad.add k) = some (.int .u8 (x.toNat : Int)) := by
  obtain ⟨ad, u, hA, hb, hx, hc⟩ := h.at_ hk
  unfold bvs at hx
  rw [List.getElem?_map, Option.map_eq_some_iff] at hx
  obtain ⟨x, hx, rfl⟩ := hx
  exact ⟨ad, x, hA, hb, hx, hc⟩
theorem Reads.bytes_len {w : World} {B n : Nat} {A : Option Addr} {l : List UInt8} (h : Reads w B 1 A n (bvs l)) : l.length = n := by
  have := h.1; rw [bvs_length] at this; omega

/-- Two lists of one length differ at a place, or are one. -/
theorem ne_at {α : Type} {l k : List α} {i : Nat} {x y : α} (hx : l[i]? = some x) (hy : k[i]? = some y) (h : x ≠ y) : l ≠ k := by
  rintro rfl
  rw [hx] at hy
  injection hy with hy
  exact h hy
theorem take_eq_snoc {α : Type} {l k : List α} {i : Nat} {x y : α} (hx : l[i]? = some x) (hy : k[i]? = some y) (h : l.take i = k.take i) (e : x = y) : l.take (i + 1) = k.take (i + 1) := by
  rw [List.take_add_one, List.take_add_one, h, hx, hy, e]

theorem Reads.ints_len {w : World} {B n : Nat} {A : Option Addr} {l : List Int} (h : Reads w B 1 A n (ivs l)) : l.length = n := by
  have := h.1; rw [ivs_length] at this; omega
theorem Reads.digs_len {w : World} {B n : Nat} {A : Option Addr} {l : List (List UInt8)} (h : Reads w B 16 A n (bvs l.flatten)) (h16 : Len16 l) : l.length = n := by
  have := h.1; rw [bvs_length, flatten_len l h16] at this; omega
theorem dig_size {d : List UInt8} (h : d.length = 16) : (Try.prog.info? 51).map (·.size) = some (bvs d).length := by rw [bvs_length, h]; kernel_rfl
theorem size_u8 (w : World) : (sizeOf 5).run Try.prog w = .ok 1 w := by kernel_rfl
theorem dig_guard : Try.prog.eqGuardType Try.prog.depth 51 = false := by kernel_rfl

set_option maxRecDepth 100000 in
set_option maxHeartbeats 400000 in
theorem same_any (A B : Option Addr) (c d : Nat) (l k : List UInt8) (n m : Nat) (w : World) (C D : Nat) (hl : Reads w C 1 A n (bvs l)) (hk : Reads w D 1 B m (bvs k)) (hn : n ≤ 4611686018427387903) (hm : m ≤ 4611686018427387903) :
    Calls Try.prog 12 #[.slice A n c, .slice B m d] w (Tells (l == k) w) := by
  have HL := Lib.hid hl.bytes_len
  have HK := Lib.hid hk.bytes_len
  by_cases hnm : n = m
  · subst hnm
    go_enter Try.func12, Try.ntmps12
    go_wp2_with fail
    go_loopg [5] n (fun g i wr => ∃ j q : Nat, Hid (j + g = n) ∧ j ≤ n ∧ i = .int .i64 j ∧ wr = w.drewN q ∧ Hid (l.take j = k.take j))
    case atStart => exact ⟨0, 0, by show _ = _; omega, by omega, rfl, rfl, rfl⟩
    case round =>
      obtain ⟨j, q, HJ, hj, rfl, rfl, HT⟩ := hrel
      by_cases hlt : j < n
      · obtain ⟨ad, x, rfl, _, hx, hcx⟩ := hl.byte_at hlt
        obtain ⟨bd, y, rfl, _, hy, hcy⟩ := hk.byte_at hlt
        have HX := Lib.hid hx
        have HY := Lib.hid hy
        clear hx hy
        by_cases hxy : x = y
        · have hd : ((x.toNat : Int) != (y.toNat : Int)) = false := by rw [hxy]; simp
          have HXY := Lib.hid hxy
          clear hxy
          go_wp2_with fail
          go_quiet (fail)
          go_wp2_with fail
          go_roundg (gk - 1)
          case measure => have := HJ.out; omega
          case rel =>
            refine ⟨j + 1, q + nq, ?_, by omega, by go_num, by simp, take_eq_snoc HX.out HY.out HT.out HXY.out⟩
            have := HJ.out; show _ = _; omega
        · have hd : ((x.toNat : Int) != (y.toNat : Int)) = true := by
            simp only [bne_iff_ne, ne_eq]
            intro h
            exact hxy (UInt8.toNat_inj.1 (by omega))
          have HXY := Lib.hid hxy
          clear hxy
          go_wp2_with fail
          go_quiet (fail)
          go_wp2_with fail
          go_ret
          refine ⟨?_, q + nq, by simp⟩
          have := ne_at HX.out HY.out HXY.out
          simp [this]
      · have hjn : j = n := by omega
        have HJN := Lib.hid hjn
        clear hjn
        go_wp2_with fail
        go_ret
        refine ⟨?_, q, rfl⟩
        have h := HT.out
        rw [HJN.out, List.take_of_length_le (by rw [HL.out]; exact Nat.le_refl _), List.take_of_length_le (by rw [HK.out]; exact Nat.le_refl _)] at h
        simp [h]
  · have hd : ((n : Int) != (m : Int)) = true := by simp only [bne_iff_ne, ne_eq]; omega
    have HNM := Lib.hid hnm
    clear hnm
    go_enter Try.func12, Try.ntmps12
    go_wp2_with fail
    go_ret
    refine ⟨?_, 0, rfl⟩
    have : l ≠ k := by rintro rfl; exact HNM.out (HL.out.symm.trans HK.out)
    simp [this]
set_option maxRecDepth 100000 in
set_option maxHeartbeats 400000 in
theorem sameInts_any (A B : Option Addr) (c d : Nat) (l k : List Int) (n m : Nat) (w : World) (C D : Nat) (hl : Reads w C 1 A n (ivs l)) (hk : Reads w D 1 B m (ivs k)) (hn : n ≤ 4611686018427387903) (hm : m ≤ 4611686018427387903) :
    Calls Try.prog 27 #[.slice A n c, .slice B m d] w (Tells (l == k) w) := by
  have HL := Lib.hid hl.ints_len
  have HK := Lib.hid hk.ints_len
  by_cases hnm : n = m
  · subst hnm
    go_enter Try.func27, Try.ntmps27
    go_wp2_with fail
    go_loopg [5] n (fun g i wr => ∃ j q : Nat, Hid (j + g = n) ∧ j ≤ n ∧ i = .int .i64 j ∧ wr = w.drewN q ∧ Hid (l.take j = k.take j))
    case atStart => exact ⟨0, 0, by show _ = _; omega, by omega, rfl, rfl, rfl⟩
    case round =>
      obtain ⟨j, q, HJ, hj, rfl, rfl, HT⟩ := hrel
      by_cases hlt : j < n
      · obtain ⟨ad, x, rfl, _, hx, hcx⟩ := hl.int_at hlt
        obtain ⟨bd, y, rfl, _, hy, hcy⟩ := hk.int_at hlt
        have HX := Lib.hid hx
        have HY := Lib.hid hy
        clear hx hy
        by_cases hxy : x = y
        · have hd : (x != y) = false := by rw [hxy]; simp
          have HXY := Lib.hid hxy
          clear hxy
          go_wp2_with fail
          go_quiet (fail)
          go_wp2_with fail
          go_roundg (gk - 1)
          case measure => have := HJ.out; omega
          case rel =>
            refine ⟨j + 1, q + nq, ?_, by omega, by go_num, by simp, take_eq_snoc HX.out HY.out HT.out HXY.out⟩
            have := HJ.out; show _ = _; omega
        · have hd : (x != y) = true := by simp only [bne_iff_ne, ne_eq]; exact hxy
          have HXY := Lib.hid hxy
          clear hxy
          go_wp2_with fail
          go_quiet (fail)
          go_wp2_with fail
          go_ret
          refine ⟨?_, q + nq, by simp⟩
          have := ne_at HX.out HY.out HXY.out
          simp [this]
      · have hjn : j = n := by omega
        have HJN := Lib.hid hjn
        clear hjn
        go_wp2_with fail
        go_ret
        refine ⟨?_, q, rfl⟩
        have h := HT.out
        rw [HJN.out, List.take_of_length_le (by rw [HL.out]; exact Nat.le_refl _), List.take_of_length_le (by rw [HK.out]; exact Nat.le_refl _)] at h
        simp [h]
  · have hd : ((n : Int) != (m : Int)) = true := by simp only [bne_iff_ne, ne_eq]; omega
    have HNM := Lib.hid hnm
    clear hnm
    go_enter Try.func27, Try.ntmps27
    go_wp2_with fail
    go_ret
    refine ⟨?_, 0, rfl⟩
    have : l ≠ k := by rintro rfl; exact HNM.out (HL.out.symm.trans HK.out)
    simp [this]
set_option maxRecDepth 100000 in
set_option maxHeartbeats 400000 in
theorem sameDigests_any (A B : Option Addr) (c d : Nat) (l k : List (List UInt8)) (n m : Nat) (w : World) (C D : Nat) (hl : Reads w C 16 A n (bvs l.flatten)) (hk : Reads w D 16 B m (bvs k.flatten)) (h16l : Len16 l) (h16k : Len16 k) (hn : n ≤ 4611686018427387903) (hm : m ≤ 4611686018427387903) :
    Calls Try.prog 30 #[.slice A n c, .slice B m d] w (Tells (l == k) w) := by
  have HL := Lib.hid (hl.digs_len h16l)
  have HK := Lib.hid (hk.digs_len h16k)
  have L16 := Lib.hid h16l
  have K16 := Lib.hid h16k
  clear h16l h16k
  by_cases hnm : n = m
  · subst hnm
    go_enter Try.func30, Try.ntmps30
    go_wp2_with fail
    go_loopg [5] n (fun g i wr => ∃ j q : Nat, Hid (j + g = n) ∧ j ≤ n ∧ i = .int .i64 j ∧ wr = w.drewN q ∧ Hid (l.take j = k.take j))
    case atStart => exact ⟨0, 0, by show _ = _; omega, by omega, rfl, rfl, rfl⟩
    case round =>
      obtain ⟨j, q, HJ, hj, rfl, rfl, HT⟩ := hrel
      by_cases hlt : j < n
      · obtain ⟨ad, x, rfl, _, hx, hdx, hcx⟩ := hl.dig_at L16.out hlt
        obtain ⟨bd, y, rfl, _, hy, hdy, hcy⟩ := hk.dig_at K16.out hlt
        have HCX := Lib.hid hcx
        have HCY := Lib.hid hcy
        have HDX := Lib.hid hdx
        have HDY := Lib.hid hdy
        clear hcx hcy hdx hdy
        have HX := Lib.hid hx
        have HY := Lib.hid hy
        clear hx hy
        by_cases hxy : x = y
        · have hd : (x == y) = true := by rw [hxy]; simp
          have HXY := Lib.hid hxy
          clear hxy
          go_wp2_with fail
          refine wp_region_quiet_lit (by kernel_rfl) (by kernel_rfl) ?_
          repeat (first
            | (refine wpQuiet_valueK (o := ⟨some 20, _, _, _, _, _⟩) rfl _ (by rintro _ ⟨nn, rfl⟩; exact exec_load _ _ _ rfl _ rfl (bvs x) (fun j u hu => by rw [add_of_add]; exact HCX.out j u hu) _ Try.underlying51 rfl (dig_size HDX.out)) (fun K hK => ?_); go_simp; refine hK _ ?_; clear hK K)
            | (refine wpQuiet_valueK (o := ⟨some 24, _, _, _, _, _⟩) rfl _ (by rintro _ ⟨nn, rfl⟩; exact exec_load _ _ _ rfl _ rfl (bvs y) (fun j u hu => by rw [add_of_add]; exact HCY.out j u hu) _ Try.underlying51 rfl (dig_size HDY.out)) (fun K hK => ?_); go_simp; refine hK _ ?_; clear hK K)
            | (refine wpQuiet_valueK (o := ⟨some 25, _, _, _, _, _⟩) rfl _ (by rintro _ ⟨nn, rfl⟩; exact exec_neq_bytes _ _ _ 5 16 _ _ rfl Try.underlying51 Try.underlying5 size_u8 dig_guard x y HDX.out HDY.out rfl rfl) (fun K hK => ?_); go_simp; refine hK _ ?_; clear hK K)
            | go_big_quiet_step (fail))
          refine wpQuiet_nil ?_
          intro _ hw'
          obtain ⟨nq, hw''⟩ := hw'
          subst hw''
          go_wp2_with fail
          go_roundg (gk - 1)
          case measure => have := HJ.out; omega
          case rel =>
            refine ⟨j + 1, q + nq, ?_, by omega, by go_num, by simp, take_eq_snoc HX.out HY.out HT.out HXY.out⟩
            have := HJ.out; show _ = _; omega
        · have hd : (x == y) = false := by simp only [beq_eq_false_iff_ne, ne_eq]; exact hxy
          have HXY := Lib.hid hxy
          clear hxy
          go_wp2_with fail
          refine wp_region_quiet_lit (by kernel_rfl) (by kernel_rfl) ?_
          repeat (first
            | (refine wpQuiet_valueK (o := ⟨some 20, _, _, _, _, _⟩) rfl _ (by rintro _ ⟨nn, rfl⟩; exact exec_load _ _ _ rfl _ rfl (bvs x) (fun j u hu => by rw [add_of_add]; exact HCX.out j u hu) _ Try.underlying51 rfl (dig_size HDX.out)) (fun K hK => ?_); go_simp; refine hK _ ?_; clear hK K)
            | (refine wpQuiet_valueK (o := ⟨some 24, _, _, _, _, _⟩) rfl _ (by rintro _ ⟨nn, rfl⟩; exact exec_load _ _ _ rfl _ rfl (bvs y) (fun j u hu => by rw [add_of_add]; exact HCY.out j u hu) _ Try.underlying51 rfl (dig_size HDY.out)) (fun K hK => ?_); go_simp; refine hK _ ?_; clear hK K)
            | (refine wpQuiet_valueK (o := ⟨some 25, _, _, _, _, _⟩) rfl _ (by rintro _ ⟨nn, rfl⟩; exact exec_neq_bytes _ _ _ 5 16 _ _ rfl Try.underlying51 Try.underlying5 size_u8 dig_guard x y HDX.out HDY.out rfl rfl) (fun K hK => ?_); go_simp; refine hK _ ?_; clear hK K)
            | go_big_quiet_step (fail))
          refine wpQuiet_nil ?_
          intro _ hw'
          obtain ⟨nq, hw''⟩ := hw'
          subst hw''
          go_wp2_with fail
          go_ret
          refine ⟨?_, q + nq, by simp⟩
          have := ne_at HX.out HY.out HXY.out
          simp [this]
      · have hjn : j = n := by omega
        have HJN := Lib.hid hjn
        clear hjn
        go_wp2_with fail
        go_ret
        refine ⟨?_, q, rfl⟩
        have h := HT.out
        rw [HJN.out, List.take_of_length_le (by rw [HL.out]; exact Nat.le_refl _), List.take_of_length_le (by rw [HK.out]; exact Nat.le_refl _)] at h
        simp [h]
  · have hd : ((n : Int) != (m : Int)) = true := by simp only [bne_iff_ne, ne_eq]; omega
    have HNM := Lib.hid hnm
    clear hnm
    go_enter Try.func30, Try.ntmps30
    go_wp2_with fail
    go_ret
    refine ⟨?_, 0, rfl⟩
    have : l ≠ k := by rintro rfl; exact HNM.out (HL.out.symm.trans HK.out)
    simp [this]
end Go.Proofs.Ytooiedomcdmefaa

/-
  What slices.IndexFunc and slices.ContainsFunc return at fuse's predicates, and fuse.malformed and fuse.Valid: contracts by walks. No condition but bounded lengths.
-/
import Derived.Test.YtliaapgnknbmbaaFuC
namespace Go.Proofs.Ytliaapgnknbmbaa
open Go.RowKit

set_option maxRecDepth 100000 in
set_option maxHeartbeats 1000000 in
theorem fbadCell_any (s : UInt8) (w : World) : Calls Try.prog 40 #[bv s] w (TellsB (decide (3 < s.toNat)) w) := by
  unfold bv
  have HD : Hid (decide (3 < s.toNat) = decide (3 < (s.toNat : Int))) := Lib.hid (by simp; omega)
  have hs := s.toNat_lt
  rw [HD.out]
  generalize s.toNat = v at *
  go_enter Try.func40, Try.ntmps40
  go_wp2_with fail
  go_ret
  exact ⟨rfl, Below.refl _ _⟩

set_option maxRecDepth 100000 in
set_option maxHeartbeats 1000000 in
theorem findexC_any (A : Option Addr) (n c : Nat) (l : List UInt8) (w : World) (hr : Reads w w.heap.size 1 A n (bvs l)) (hn : n ≤ 9223372036854775806) :
    Calls Try.prog 47 #[.slice A n c, .func (.func 40) #[] #[]] w fun e w' => ∃ x : Int, e = .returned (.int .i64 x) ∧ decide (0 ≤ x) = (l.any fun s => decide (3 < s.toNat)) ∧ Below w.heap.size w w' := by
  have HC := fun s W => Lib.hid (fbadCell_any s W)
  have HLN := Lib.hid hr.bytes_len
  go_enter Try.func47, Try.ntmps47
  go_wp2_with fail
  go_loopg [8] n (fun g s8 wr => ∃ i : Nat, Hid (i + g = n) ∧ i ≤ n ∧ s8 = .int .i64 (i : Int) ∧ Hid (((l.take i).any fun s => decide (3 < s.toNat)) = false) ∧ Below w.heap.size w wr)
  case atStart => exact ⟨0, by show _ = _; omega, by omega, rfl, Lib.hid rfl, Below.refl _ _⟩
  case round =>
    obtain ⟨i, HI, hi, rfl, HN, hB⟩ := hrel
    by_cases hlt : i < n
    · obtain ⟨s, hs⟩ : ∃ s, l[i]? = some s := ⟨_, List.getElem?_eq_getElem (by rw [HLN.out]; exact hlt)⟩
      obtain ⟨ad, rfl, hlta, hc⟩ := (hr.below hB).byte_at hs
      have HT : Hid (l.take (i + 1) = l.take i ++ [s]) := Lib.hid (by rw [List.take_add_one, hs]; rfl)
      have HM := Lib.hid (List.mem_of_getElem? hs)
      clear hs
      go_wp2_with fail
      refine (HC s wr).out.mono ?_
      rintro e w2 ⟨rfl, b2⟩
      have B2 := hB.trans (b2.mono hB.size)
      cases hq : decide (3 < s.toNat) with
      | true =>
        have HQ := Lib.hid hq
        clear hq
        go_wp2_with fail
        go_ret
        refine ⟨_, rfl, ?_, B2⟩
        rw [decide_eq_true (by omega)]
        symm
        exact List.any_eq_true.2 ⟨s, HM.out, HQ.out⟩
      | false =>
        have HQ := Lib.hid hq
        clear hq
        go_wp2_with fail
        go_roundg (gk - 1)
        case measure => have := HI.out; omega
        case rel => exact ⟨i + 1, by have := HI.out; show _ = _; omega, by omega, by go_num, by show _ = _; rw [HT.out, List.any_append, HN.out, List.any_cons, HQ.out]; rfl, B2⟩
    · obtain rfl : i = n := by omega
      go_wp2_with fail
      go_ret
      refine ⟨-1, rfl, ?_, hB⟩
      have h := HN.out
      rw [List.take_of_length_le (by rw [HLN.out]; exact Nat.le_refl _)] at h
      rw [h]
      rfl

set_option maxRecDepth 100000 in
set_option maxHeartbeats 1000000 in
theorem fcontainsC_any (A : Option Addr) (n c : Nat) (l : List UInt8) (w : World) (hr : Reads w w.heap.size 1 A n (bvs l)) (hn : n ≤ 9223372036854775806) :
    Calls Try.prog 39 #[.slice A n c, .func (.func 40) #[] #[]] w (TellsB (l.any fun s => decide (3 < s.toNat)) w) := by
  have HX := Lib.hid (findexC_any A n c l w hr hn)
  generalize (l.any fun s => decide (3 < s.toNat)) = E at *
  go_enter Try.func39, Try.ntmps39
  go_wp2_with fail
  refine HX.out.mono ?_
  rintro e w2 ⟨x, rfl, hx, b2⟩
  have HE := Lib.hid hx
  clear hx
  go_wp2_with fail
  go_ret
  exact ⟨by rw [← HE.out]; rfl, b2⟩

set_option maxRecDepth 100000 in
set_option maxHeartbeats 1000000 in
theorem fmalformed_any (p : Part) (w : World) (hr : Reads w w.heap.size 1 p.A p.n (bvs p.l)) : Calls Try.prog 31 #[p.v] w (TellsB (fuBad p.l) w) := by
  have HX := fun hn => Lib.hid (fcontainsC_any p.A p.n p.c p.l w hr hn)
  have hl := hr.bytes_len
  unfold fuBad
  generalize (p.l.any fun s => decide (3 < s.toNat)) = E at *
  rw [hl]
  unfold Part.v
  have HM : Hid ((p.n % 3 != 0) = ((p.n : Int) % 3 != 0)) := Lib.hid (by rw [Bool.eq_iff_iff]; simp; omega)
  obtain ⟨A, n, c, l⟩ := p
  simp only at *
  clear hr hl
  by_cases h3 : n % 3 = 0
  · have e3 : ((n : Int) % 3 != 0) = false := by simp; omega
    rw [HM.out, e3]
    by_cases h48 : 48 < n
    · have HD : Hid (decide (48 < n) = true) := Lib.hid (decide_eq_true h48)
      go_enter Try.func31, Try.ntmps31
      go_wp2_with fail
      go_ret
      exact ⟨by rw [HD.out]; rfl, Below.refl _ _⟩
    · have HD : Hid (decide (48 < n) = false) := Lib.hid (decide_eq_false h48)
      go_enter Try.func31, Try.ntmps31
      go_wp2_with fail
      refine (HX (by omega)).out.mono ?_
      rintro e w2 ⟨rfl, b2⟩
      go_wp2_with fail
      go_ret
      exact ⟨by rw [HD.out]; rfl, b2⟩
  · have e3 : ((n : Int) % 3 != 0) = true := by simp; omega
    rw [HM.out, e3]
    clear HX
    go_enter Try.func31, Try.ntmps31
    go_wp2_with fail
    go_ret
    exact ⟨rfl, Below.refl _ _⟩

set_option maxRecDepth 100000 in
set_option maxHeartbeats 1000000 in
theorem findexB_any (A : Option Addr) (n c : Nat) (ps : List Part) (w : World) (hr : ReadsP w w.heap.size A n ps) (hn : n ≤ 9223372036854775806) :
    Calls Try.prog 38 #[.slice A n c, .func (.func 31) #[] #[]] w fun e w' => ∃ x : Int, e = .returned (.int .i64 x) ∧ decide (0 ≤ x) = (bk ps).any fuBad ∧ Below w.heap.size w w' := by
  have HC := fun (p : Part) (_ : p ∈ ps) W (hp : Reads W w.heap.size 1 p.A p.n (bvs p.l)) (hB : Below w.heap.size w W) => Lib.hid (fmalformed_any p W (hp.more hB.size))
  have HLN := Lib.hid hr.len
  unfold Part.v at HC
  go_enter Try.func38, Try.ntmps38
  go_wp2_with fail
  go_loopg [8] n (fun g s8 wr => ∃ i : Nat, Hid (i + g = n) ∧ i ≤ n ∧ s8 = .int .i64 (i : Int) ∧ Hid ((bk (ps.take i)).any fuBad = false) ∧ Below w.heap.size w wr)
  case atStart => exact ⟨0, by show _ = _; omega, by omega, rfl, Lib.hid rfl, Below.refl _ _⟩
  case round =>
    obtain ⟨i, HI, hi, rfl, HN, hB⟩ := hrel
    by_cases hlt : i < n
    · obtain ⟨ad, p, rfl, hlta, hpi, hc, hp, hpc⟩ := (hr.below hB).at_ hlt
      have HT : Hid (bk (ps.take (i + 1)) = bk (ps.take i) ++ [p.l]) := Lib.hid (by unfold bk; rw [List.take_add_one, hpi, List.map_append]; rfl)
      have HM := Lib.hid (List.mem_of_getElem? hpi)
      clear hpi
      go_wp2_with fail
      refine (HC p HM.out wr hp hB).out.mono ?_
      rintro e w2 ⟨rfl, b2⟩
      have B2 := hB.trans (b2.mono hB.size)
      cases hq : fuBad p.l with
      | true =>
        have HQ := Lib.hid hq
        clear hq
        go_wp2_with fail
        go_ret
        refine ⟨_, rfl, ?_, B2⟩
        rw [decide_eq_true (by omega)]
        symm
        refine List.any_eq_true.2 ⟨p.l, ?_, HQ.out⟩
        unfold bk
        exact List.mem_map_of_mem HM.out
      | false =>
        have HQ := Lib.hid hq
        clear hq
        go_wp2_with fail
        go_roundg (gk - 1)
        case measure => have := HI.out; omega
        case rel => exact ⟨i + 1, by have := HI.out; show _ = _; omega, by omega, by go_num, by show _ = _; rw [HT.out, List.any_append, HN.out]; simp [HQ.out], B2⟩
    · obtain rfl : i = n := by omega
      go_wp2_with fail
      go_ret
      refine ⟨-1, rfl, ?_, hB⟩
      have h := HN.out
      rw [List.take_of_length_le (by rw [HLN.out]; exact Nat.le_refl _)] at h
      rw [h]
      rfl

set_option maxRecDepth 100000 in
set_option maxHeartbeats 1000000 in
theorem fcontainsB_any (A : Option Addr) (n c : Nat) (ps : List Part) (w : World) (hr : ReadsP w w.heap.size A n ps) (hn : n ≤ 9223372036854775806) :
    Calls Try.prog 30 #[.slice A n c, .func (.func 31) #[] #[]] w (TellsB ((bk ps).any fuBad) w) := by
  have HX := Lib.hid (findexB_any A n c ps w hr hn)
  generalize (bk ps).any fuBad = E at *
  go_enter Try.func30, Try.ntmps30
  go_wp2_with fail
  refine HX.out.mono ?_
  rintro e w2 ⟨x, rfl, hx, b2⟩
  have HE := Lib.hid hx
  clear hx
  go_wp2_with fail
  go_ret
  exact ⟨by rw [← HE.out]; rfl, b2⟩

set_option maxRecDepth 100000 in
set_option maxHeartbeats 1000000 in
theorem fvalid_any (A : Option Addr) (n c : Nat) (ps : List Part) (w : World) (hr : ReadsP w w.heap.size A n ps) : Calls Try.prog 11 #[fuv A n c] w (TellsB (fuValid (bk ps)) w) := by
  have HX := fun W hW hn => Lib.hid (fcontainsB_any A n c ps W hW hn)
  have hl : (bk ps).length = n := by rw [bk_len, hr.len]
  unfold fuValid fuv
  rw [hl]
  generalize (bk ps).any fuBad = E at *
  clear hl
  by_cases h4 : n ≤ 4
  · have HD : Hid (decide (n ≤ 4) = true) := Lib.hid (decide_eq_true h4)
    go_enter Try.func11, Try.ntmps11
    go_wp2_with (with_reducible refine wpList_box_row (o := ⟨some 1, _, _, _, _, _⟩) rfl _ _ rfl [.slice A n c] rfl ?_; intro w1 r1 s1 g1; have c1 := r1.cell (j := 0) rfl; have b1 := grown_below g1 (Nat.le_refl _) (by simp))
    refine (HX _ (hr.on b1) (by omega)).out.mono ?_
    rintro e w2 ⟨rfl, b2⟩
    go_wp2_with fail
    go_ret
    exact ⟨by rw [HD.out]; rfl, b1.trans (b2.mono b1.size)⟩
  · rw [decide_eq_false h4]
    clear HX
    go_enter Try.func11, Try.ntmps11
    go_wp2_with (with_reducible refine wpList_box_row (o := ⟨some 1, _, _, _, _, _⟩) rfl _ _ rfl [.slice A n c] rfl ?_; intro w1 r1 s1 g1; have c1 := r1.cell (j := 0) rfl; have b1 := grown_below g1 (Nat.le_refl _) (by simp))
    go_ret
    exact ⟨rfl, b1⟩
end Go.Proofs.Ytliaapgnknbmbaa

/-
  What slices.IndexFunc and slices.ContainsFunc return at fuse.unsound, and fuse.Sound: contracts by walks. Condition: banks of whole bits, bounded lengths.
-/
import Derived.Test.YtliaapgnknbmbaaFuS
namespace Go.Proofs.Ytliaapgnknbmbaa
open Go.RowKit

set_option maxRecDepth 100000 in
set_option maxHeartbeats 1000000 in
theorem findexU_any (A : Option Addr) (n c : Nat) (ps : List Part) (w : World) (hr : ReadsP w w.heap.size A n ps) (hn : n ≤ 9223372036854775806) (h3 : ∀ p ∈ ps, p.l.length % 3 = 0 ∧ p.l.length ≤ 1000) :
    Calls Try.prog 38 #[.slice A n c, .func (.func 37) #[] #[]] w fun e w' => ∃ x : Int, e = .returned (.int .i64 x) ∧ decide (0 ≤ x) = (bk ps).any fuUns ∧ Below w.heap.size w w' := by
  have HC := fun (p : Part) (hm : p ∈ ps) W (hp : Reads W w.heap.size 1 p.A p.n (bvs p.l)) (hB : Below w.heap.size w W) => Lib.hid (funsound_any p W (hp.more hB.size) (hr.2 p hm).2 (h3 p hm).1 (h3 p hm).2)
  have HLN := Lib.hid hr.len
  unfold Part.v at HC
  clear h3
  go_enter Try.func38, Try.ntmps38
  go_wp2_with fail
  go_loopg [8] n (fun g s8 wr => ∃ i : Nat, Hid (i + g = n) ∧ i ≤ n ∧ s8 = .int .i64 (i : Int) ∧ Hid ((bk (ps.take i)).any fuUns = false) ∧ Below w.heap.size w wr)
  case atStart => exact ⟨0, by show _ = _; omega, by omega, rfl, Lib.hid rfl, Below.refl _ _⟩
  case round =>
    obtain ⟨i, HI, hi, rfl, HN, hB⟩ := hrel
    by_cases hlt : i < n
    · obtain ⟨ad, p, rfl, hlta, hpi, hc, hp, hpc⟩ := (hr.below hB).at_ hlt
      have HT : Hid (bk (ps.take (i + 1)) = bk (ps.take i) ++ [p.l]) := Lib.hid (by unfold bk; rw [List.take_add_one, hpi, List.map_append]; rfl)
      have HM := Lib.hid (List.mem_of_getElem? hpi)
      clear hpi
      go_wp2_with fail
      refine (HC p HM.out wr hp hB).out.mono ?_
      rintro e w2 ⟨rfl, b2⟩
      have B2 := hB.trans (b2.mono hB.size)
      cases hq : fuUns p.l with
      | true =>
        have HQ := Lib.hid hq
        clear hq
        go_wp2_with fail
        go_ret
        refine ⟨_, rfl, ?_, B2⟩
        rw [decide_eq_true (by omega)]
        symm
        refine List.any_eq_true.2 ⟨p.l, ?_, HQ.out⟩
        unfold bk
        exact List.mem_map_of_mem HM.out
      | false =>
        have HQ := Lib.hid hq
        clear hq
        go_wp2_with fail
        go_roundg (gk - 1)
        case measure => have := HI.out; omega
        case rel => exact ⟨i + 1, by have := HI.out; show _ = _; omega, by omega, by go_num, by show _ = _; rw [HT.out, List.any_append, HN.out]; simp [HQ.out], B2⟩
    · obtain rfl : i = n := by omega
      go_wp2_with fail
      go_ret
      refine ⟨-1, rfl, ?_, hB⟩
      have h := HN.out
      rw [List.take_of_length_le (by rw [HLN.out]; exact Nat.le_refl _)] at h
      rw [h]
      rfl

set_option maxRecDepth 100000 in
set_option maxHeartbeats 1000000 in
theorem fcontainsU_any (A : Option Addr) (n c : Nat) (ps : List Part) (w : World) (hr : ReadsP w w.heap.size A n ps) (hn : n ≤ 9223372036854775806) (h3 : ∀ p ∈ ps, p.l.length % 3 = 0 ∧ p.l.length ≤ 1000) :
    Calls Try.prog 30 #[.slice A n c, .func (.func 37) #[] #[]] w (TellsB ((bk ps).any fuUns) w) := by
  have HX := Lib.hid (findexU_any A n c ps w hr hn  h3)
  generalize (bk ps).any fuUns = E at *
  clear h3
  go_enter Try.func30, Try.ntmps30
  go_wp2_with fail
  refine HX.out.mono ?_
  rintro e w2 ⟨x, rfl, hx, b2⟩
  have HE := Lib.hid hx
  clear hx
  go_wp2_with fail
  go_ret
  exact ⟨by rw [← HE.out]; rfl, b2⟩

set_option maxRecDepth 100000 in
set_option maxHeartbeats 1000000 in
theorem fsound_any (A : Option Addr) (n c : Nat) (ps : List Part) (w : World) (hr : ReadsP w w.heap.size A n ps) (hn : n ≤ 9223372036854775806) (h3 : ∀ p ∈ ps, p.l.length % 3 = 0 ∧ p.l.length ≤ 1000) : Calls Try.prog 24 #[fuv A n c] w (TellsB (fuSound (bk ps)) w) := by
  have HX := fun W hW => Lib.hid (fcontainsU_any A n c ps W hW hn h3)
  unfold fuSound fuv
  generalize (bk ps).any fuUns = E at *
  clear h3
  go_enter Try.func24, Try.ntmps24
  go_wp2_with (with_reducible refine wpList_box_row (o := ⟨some 1, _, _, _, _, _⟩) rfl _ _ rfl [.slice A n c] rfl ?_; intro w1 r1 s1 g1; have c1 := r1.cell (j := 0) rfl; have b1 := grown_below g1 (Nat.le_refl _) (by simp))
  refine (HX _ (hr.on b1)).out.mono ?_
  rintro e w2 ⟨rfl, b2⟩
  go_wp2_with fail
  go_ret
  exact ⟨rfl, b1.trans (b2.mono b1.size)⟩
end Go.Proofs.Ytliaapgnknbmbaa

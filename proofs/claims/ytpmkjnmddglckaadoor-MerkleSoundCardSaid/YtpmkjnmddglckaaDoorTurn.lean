/-
  The sides of a path, without a program; what merkle.turns returns: a contract by a walk. Condition: at most 1000 leaves.
-/
import Derived.Test.YtpmkjnmddglckaaDoorRev
import Derived.Test.YtpmkjnmddglckaaDoorRComb
namespace Go.Proofs.YtpmkjnmddglckaaDoor
open Go.RowKit

/-- The sides of the path of an index, from the root to the leaf. -/
def turnsR (n i : Nat) : List Bool :=
  if _h : 2 ≤ n then if i < split n then false :: turnsR (split n) i else true :: turnsR (n - split n) (i - split n) else []
termination_by n
decreasing_by
  · exact split_lt ‹_›
  · have := split_pos n; omega
theorem turnsR_less {n : Nat} (h : ¬ 2 ≤ n) (i : Nat) : turnsR n i = [] := by rw [turnsR, dif_neg h]
theorem turnsR_left {n i : Nat} (h : 2 ≤ n) (hi : i < split n) : turnsR n i = false :: turnsR (split n) i := by rw [turnsR, dif_pos h, if_pos hi]
theorem turnsR_right {n i : Nat} (h : 2 ≤ n) (hi : ¬ i < split n) : turnsR n i = true :: turnsR (n - split n) (i - split n) := by rw [turnsR, dif_pos h, if_neg hi]
theorem turnsR_len (m : Nat) : ∀ n i, n ≤ m → (turnsR n i).length = plen n i := by
  induction m with
  | zero => intro n i h; rw [turnsR_less (by omega), plen, dif_neg (by omega)]; rfl
  | succ m ih =>
    intro n i hm
    by_cases h : 2 ≤ n
    · have h1 := split_pos n
      have h2 := split_lt h
      rw [plen, dif_pos h]
      by_cases hi : i < split n
      · rw [turnsR_left h hi, if_pos hi, List.length_cons, ih _ _ (by omega)]
      · rw [turnsR_right h hi, if_neg hi, List.length_cons, ih _ _ (by omega)]
    · rw [turnsR_less h, plen, dif_neg h]; rfl
/-- The sides of the path, from the leaf to the root. -/
def turns (n i : Nat) : List Bool := (turnsR n i).reverse
theorem turns_len (n i : Nat) : (turns n i).length = plen n i := by unfold turns; rw [List.length_reverse, turnsR_len n n i (Nat.le_refl _)]

theorem info_bool : (Tryd.prog.info? 4).map (fun i => (i.zero, i.size, i.bytes)) = some (some (.bool false), 1, 1) := by kernel_rfl

set_option maxRecDepth 100000 in
set_option maxHeartbeats 1000000 in
theorem reverse_nil (c : Nat) (w : World) : Calls Tryd.prog 39 #[.slice none 0 c] w fun e w' => e = .returned (.tuple #[]) ∧ w' = w := by
  go_enter Tryd.func39, Tryd.ntmps39
  go_wp2_with fail
  go_loopg [2, 3] 0 (fun _ s2 s3 wr => s2 = .int .i64 0 ∧ s3 = .int .i64 (-1) ∧ wr = w)
  case atStart => exact ⟨rfl, rfl, rfl⟩
  case round =>
    obtain ⟨rfl, rfl, rfl⟩ := hrel
    go_wp2_with fail
    go_end0
    exact ⟨rfl, rfl⟩
/-- A slice of bools of the call's own, turned round by slices.Reverse. -/
theorem reverse_own (base n : Nat) (v : Value) (l : List Bool) (w : World) (ho : w.ownsRow base 4 1 v n (bls l)) (hb : base ≤ w.heap.size) (hl : l.length = n) (hn : n ≤ 1000) :
    Calls Tryd.prog 39 #[v] w fun e w' => e = .returned (.tuple #[]) ∧ w'.ownsRow base 4 1 v n (bls l.reverse) ∧ Below base w w' := by
  obtain ⟨hlen, ⟨rfl, h0⟩ | ⟨g, cap, cur, rfl, hbg, hg, hnc, hcm, hcs, htk⟩⟩ := ho
  · subst h0
    obtain rfl : l = [] := List.eq_nil_of_length_eq_zero hl
    exact (reverse_nil 0 w).mono fun e w' h => ⟨h.1, by rw [h.2]; exact World.ownsRow_nil w _ _ _, by rw [h.2]; exact Below.refl _ _⟩
  · have hrow : Row w g 4 (bls l ++ cur.toList.drop n) := by
      show w.heap[g]? = _
      rw [hg, ← htk, Nat.mul_one, List.take_append_drop]
    have hlr : (bls l.reverse).length = n := by unfold bls; rw [List.length_map, List.length_reverse, hl]
    refine (reverse_any g n cap l _ w hrow hl hn).mono fun e w' h => ⟨h.1, ⟨by rw [hlr, Nat.mul_one], Or.inr ⟨g, cap, (bls l.reverse ++ cur.toList.drop n).toArray, rfl, hbg, h.2.1, hnc, hcm, ?_, ?_⟩⟩, (Below.refl _ _).grown h.2.2 hb (by rintro k hk; cases hk; exact hbg)⟩
    · simp only [List.size_toArray, List.length_append, hlr, List.length_drop, Array.length_toList]
      omega
    · rw [Nat.mul_one, List.take_append_of_le_length (by omega), List.take_of_length_le (by omega)]

set_option maxRecDepth 100000 in
set_option maxHeartbeats 1000000 in
theorem turns_any (n i : Nat) (hn : n ≤ 1000) (hi : i < n) (w : World) : Calls Tryd.prog 30 #[.int .i64 (n : Int), .int .i64 (i : Int)] w fun e w' =>
    ∃ v, e = .returned v ∧ w'.ownsRow w.heap.size 4 1 v (turns n i).length (bls (turns n i)) ∧ Below w.heap.size w w' := by
  obtain ⟨i0, hi0, hz0, hz1, hz2⟩ := info_parts info_bool
  have HT := Lib.hid (turnsR_len n n i (Nat.le_refl _))
  have hpl : plen n i ≤ 10 := plen_le 10 n i (by omega)
  have HE : Hid (turns n i = (turnsR n i).reverse) := rfl
  generalize turns n i = T at *
  go_enter Tryd.func30, Tryd.ntmps30
  go_wp2_with fail
  go_loopg [0, 1, 5] n (fun g a b v wr => ∃ (x y : Nat) (P : List Bool), x ≤ g ∧ x ≤ 1000 ∧ y < x ∧ a = .int .i64 (x : Int) ∧ b = .int .i64 (y : Int) ∧ Hid (P ++ turnsR x y = turnsR n i) ∧ wr.ownsRow w.heap.size 4 1 v P.length (bls P) ∧ Below w.heap.size w wr)
  case atStart => exact ⟨n, i, [], Nat.le_refl _, hn, hi, rfl, rfl, rfl, World.ownsRow_nil w _ _ _, Below.refl _ _⟩
  case round =>
    obtain ⟨x, y, P, hxg, hx, hyx, rfl, rfl, HP, hown, hb⟩ := hrel
    have hPl : P.length ≤ 10 := by
      have e := congrArg List.length HP.out
      rw [List.length_append, HT.out] at e
      omega
    by_cases h2 : 2 ≤ x
    · have hs1 := split_pos x
      have hs2 := split_lt h2
      have HSP := fun W => Lib.hid (split_any x h2 hx W)
      by_cases hys : y < split x
      · have HQ : Hid ((P ++ [false]) ++ turnsR (split x) y = turnsR n i) := by
          show _ = _
          rw [← HP.out, turnsR_left h2 hys]; simp
        generalize split x = k at *
        go_wp2_with fail
        refine (HSP _).out.mono ?_
        rintro e w2 ⟨rfl, rfl⟩
        go_wp2_with (at_builtin; refine wpList_append_src _ rfl (.tmp 23) (.tmp 25) _ _ rfl w.heap.size 4 i0 _ 1 1 Tryd.underlying47 hi0 hz0 hz1 hz2 rfl _ _ _ rfl (hown.alloc _) 1 _ (Src.box Tryd.underlying47 _ _ _ rfl _) (by unfold maxLen; omega) (by omega) (by have := hb.size; simp; omega) ?_; intro v3 w3 hown3 hb3)
        go_roundg k
        case measure => omega
        case rel =>
          refine ⟨k, y, P ++ [false], Nat.le_refl _, by omega, hys, rfl, rfl, HQ, ?_, (hb.alloc hb.size _).trans hb3⟩
          rw [List.length_append]
          simpa [bls] using hown3
      · have HQ : Hid ((P ++ [true]) ++ turnsR (x - split x) (y - split x) = turnsR n i) := by
          show _ = _
          rw [← HP.out, turnsR_right h2 hys]; simp
        generalize split x = k at *
        go_wp2_with fail
        refine (HSP _).out.mono ?_
        rintro e w2 ⟨rfl, rfl⟩
        go_wp2_with (at_builtin; refine wpList_append_src _ rfl (.tmp 23) (.tmp 25) _ _ rfl w.heap.size 4 i0 _ 1 1 Tryd.underlying47 hi0 hz0 hz1 hz2 rfl _ _ _ rfl (hown.alloc _) 1 _ (Src.box Tryd.underlying47 _ _ _ rfl _) (by unfold maxLen; omega) (by omega) (by have := hb.size; simp; omega) ?_; intro v3 w3 hown3 hb3)
        go_roundg (x - k)
        case measure => omega
        case rel =>
          refine ⟨x - k, y - k, P ++ [true], Nat.le_refl _, by omega, by omega, by go_num, by go_num, HQ, ?_, (hb.alloc hb.size _).trans hb3⟩
          rw [List.length_append]
          simpa [bls] using hown3
    · have HQ : Hid (P = turnsR n i) := by
        have e := HP.out
        rw [turnsR_less h2, List.append_nil] at e
        exact e
      go_wp2_with fail
      refine (reverse_own w.heap.size P.length _ P _ hown hb.size rfl (by omega)).mono ?_
      rintro e w2 ⟨rfl, hown2, hb2⟩
      go_wp2_with fail
      go_ret
      refine ⟨_, rfl, ?_, hb.trans hb2⟩
      rw [HE.out, ← HQ.out, List.length_reverse]
      exact hown2
end Go.Proofs.YtpmkjnmddglckaaDoor

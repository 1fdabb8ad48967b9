/-
  What the reference's Prove returns: a contract by a walk, by induction on the number of leaves. Condition: at most 1000 leaves.
-/
import Derived.Test.YtpmkjnmddglckaaDoorRRoot
import Derived.Test.YtpmkjnmddglckaaDoorAppD
namespace Go.Proofs.YtpmkjnmddglckaaDoor
open Go.RowKit

/-- A new slice of digests and an error come back; nothing that was there has changed. -/
def GivesDE (ds : List (List UInt8)) (err : Int) (w : World) (e : Ending) (w' : World) : Prop :=
  ∃ v, e = .returned (.tuple #[v, .int .i64 err]) ∧ w'.ownsRow w.heap.size 28 16 v ds.length (bvs ds.flatten) ∧ Below w.heap.size w w'
def mProof (l : List (List UInt8)) (i : Nat) : List (List UInt8) := (proveR l i).reverse
theorem mProof_len {l : List (List UInt8)} {i n : Nat} (h : l.length = n) (hn : n ≤ 1000) : (mProof l i).length ≤ 10 := by
  unfold mProof
  rw [List.length_reverse, proveR_len l.length l i (Nat.le_refl _), h]
  exact plen_le 10 n i (by omega)
theorem proveR_16 (m : Nat) : ∀ (l : List (List UInt8)) (i : Nat), l.length ≤ m → Len16 (proveR l i) := by
  induction m with
  | zero => intro l i h; rw [proveR_less (by omega)]; intro d hd; simp at hd
  | succ m ih =>
    intro l i hm
    by_cases h : 2 ≤ l.length
    · have h1 := split_pos l.length
      have h2 := split_lt h
      by_cases hi : i < split l.length
      · rw [proveR_left h hi]
        intro d hd
        rcases List.mem_cons.1 hd with rfl | hd
        · exact root_len _
        · exact ih _ i (by rw [take_len h]; omega) d hd
      · rw [proveR_right h hi]
        intro d hd
        rcases List.mem_cons.1 hd with rfl | hd
        · exact root_len _
        · exact ih _ (i - split l.length) (by rw [List.length_drop]; omega) d hd
    · rw [proveR_less h]; intro d hd; simp at hd
theorem mProof_16 (l : List (List UInt8)) (i : Nat) : Len16 (mProof l i) := fun d hd => proveR_16 l.length l i (Nat.le_refl _) d (List.mem_reverse.1 hd)

set_option maxRecDepth 100000 in
set_option maxHeartbeats 1000000 in
theorem refProve_bad (A : Option Addr) (c n : Nat) (i : Int) (w : World) (hi : i < 0 ∨ (n : Int) ≤ i) :
    Calls Tryd.prog 11 #[.slice A n c, .int .i64 i] w (GivesDE [] 1 w) := by
  by_cases h0 : i < 0
  · go_enter Tryd.func11, Tryd.ntmps11
    go_wp2_with fail
    go_ret2
    exact ⟨_, rfl, World.ownsRow_nil w _ _ _, Below.refl _ _⟩
  · have h1 : (n : Int) ≤ i := by omega
    go_enter Tryd.func11, Tryd.ntmps11
    go_wp2_with fail
    go_ret2
    exact ⟨_, rfl, World.ownsRow_nil w _ _ _, Below.refl _ _⟩

set_option maxRecDepth 100000 in
set_option maxHeartbeats 1000000 in
theorem refProve_any (m : Nat) : ∀ (A : Option Addr) (c n i : Nat) (ds : List (List UInt8)) (w : World), n ≤ m → ReadsD w A n ds → n ≤ c → n ≤ 1000 → i < n →
    Calls Tryd.prog 11 #[.slice A n c, .int .i64 (i : Int)] w (GivesDE (mProof ds i) 0 w) := by
  obtain ⟨i0, hi0, hz0, hz1, hz2⟩ := info_parts info_dig
  induction m with
  | zero => intro A c n i ds w hm hr hc hn hi; omega
  | succ m ih =>
    intro A c n i ds w hm hr hc hn hi
    have HLN := Lib.hid hr.len
    by_cases h2 : 2 ≤ n
    · obtain ⟨ad, rfl⟩ : ∃ ad, A = some ad := by obtain ⟨ad, h, _⟩ := hr.1.2 (by omega); exact ⟨ad, h⟩
      have HS1 := split_pos n
      have HS2 := split_lt h2
      have hr1 := hr.first (k := split n) (by omega)
      have hr2 := hr.last (k := split n) (cap := c) (by omega) hc
      rw [if_neg (by omega)] at hr2
      have HSP := fun W => Lib.hid (refSplit_any n h2 (by omega) W)
      by_cases hik : i < split n
      · have HP := fun W hW => Lib.hid (ih (some ad) c (split n) i (ds.take (split n)) W (by omega) (hr1.on hW) (by omega) (by omega) hik)
        have HR := fun W hW => Lib.hid (refRoot_any 1000 (some (ad.add (split n * 16))) (c - split n) (n - split n) (ds.drop (split n)) W (by omega) (hr2.on hW) (by omega) (by omega))
        have HE : Hid (mProof ds i = mProof (ds.take (split n)) i ++ [root (ds.drop (split n))]) := by
          have e := proveR_left (l := ds) (by rw [HLN.out]; exact h2) (i := i) (by rw [HLN.out]; exact hik)
          rw [HLN.out] at e
          show _ = _
          unfold mProof
          rw [e, List.reverse_cons]
        have HPL := Lib.hid (mProof_len (l := ds.take (split n)) (i := i) hr1.len (by omega))
        have HRL := Lib.hid (root_len (ds.drop (split n)))
        generalize mProof ds i = D at *
        generalize mProof (ds.take (split n)) i = D1 at *
        generalize root (ds.drop (split n)) = D2 at *
        have HBL : Hid ((bvs D2).length = 16) := by show _ = _; rw [bvs_length, HRL.out]
        generalize split n = k at *
        clear hr1 hr2 ih
        go_enter Tryd.func11, Tryd.ntmps11
        go_wp2_with fail
        refine (HSP _).out.mono ?_
        rintro e w2 ⟨rfl, rfl⟩
        clear HSP
        go_wp2_with fail
        refine (HP _ (Below.refl _ _)).out.mono ?_
        rintro e w3 ⟨v3, rfl, hown3, hb3⟩
        go_wp2_with fail
        refine (HR _ hb3).out.mono ?_
        rintro e w4 ⟨rfl, hb4⟩
        have hown4 := own_below hown3 hb4
        have hb4' := hb3.trans (hb4.mono hb3.size)
        have hl1 := HPL.out
        go_wp2_with (first
          | (refine wpList_valueW (o := ⟨some 41, _, _, _, _, _⟩) rfl _ (by exact exec_slice1 _ 22 28 _ rfl Tryd.underlying22 i0 _ hi0 hz0 (bvs D2) (by rw [hz1, HBL.out]) (by rw [HBL.out]; omega) (by rw [HBL.out]; omega) rfl) ?_)
          | (at_builtin
             refine wpList_append_src _ rfl (.tmp 36) (.tmp 41) _ _ rfl w2.heap.size 28 i0 _ 16 16 Tryd.underlying22 hi0 hz0 hz1 hz2 rfl _ _ _ rfl (own_below hown4 ((Below.refl _ _).alloc (Nat.le_refl _) _)) 1 (bvs D2) (Src.boxRow Tryd.underlying22 _ _ _ 16 HBL.out (bvs_one D2) _) (by unfold maxLen; omega) (by omega) (by have := hb4'.size; simp; omega) ?_
             intro v5 w5 hown5 hb5))
        go_ret2
        refine ⟨_, rfl, ?_, (hb4'.alloc hb4'.size _).trans hb5⟩
        rw [HE.out, List.length_append, List.flatten_append, bvs_append]
        simpa using hown5
      · have hik2 : split n ≤ i := by omega
        have HP := fun W hW => Lib.hid (ih (some (ad.add (split n * 16))) (c - split n) (n - split n) (i - split n) (ds.drop (split n)) W (by omega) (hr2.on hW) (by omega) (by omega) (by omega))
        simp only [show ((i - split n : Nat) : Int) = (i : Int) - (split n : Int) from by omega] at HP
        have HR := fun W hW => Lib.hid (refRoot_any 1000 (some ad) c (split n) (ds.take (split n)) W (by omega) (hr1.on hW) (by omega) (by omega))
        have HE : Hid (mProof ds i = mProof (ds.drop (split n)) (i - split n) ++ [root (ds.take (split n))]) := by
          have e := proveR_right (l := ds) (by rw [HLN.out]; exact h2) (i := i) (by rw [HLN.out]; exact hik)
          rw [HLN.out] at e
          show _ = _
          unfold mProof
          rw [e, List.reverse_cons]
        have HPL := Lib.hid (mProof_len (l := ds.drop (split n)) (i := i - split n) hr2.len (by omega))
        have HRL := Lib.hid (root_len (ds.take (split n)))
        generalize mProof ds i = D at *
        generalize mProof (ds.drop (split n)) (i - split n) = D1 at *
        generalize root (ds.take (split n)) = D2 at *
        have HBL : Hid ((bvs D2).length = 16) := by show _ = _; rw [bvs_length, HRL.out]
        generalize split n = k at *
        clear hr1 hr2 ih
        go_enter Tryd.func11, Tryd.ntmps11
        go_wp2_with fail
        refine (HSP _).out.mono ?_
        rintro e w2 ⟨rfl, rfl⟩
        clear HSP
        go_wp2_with fail
        refine (HP _ (Below.refl _ _)).out.mono ?_
        rintro e w3 ⟨v3, rfl, hown3, hb3⟩
        go_wp2_with fail
        refine (HR _ hb3).out.mono ?_
        rintro e w4 ⟨rfl, hb4⟩
        have hown4 := own_below hown3 hb4
        have hb4' := hb3.trans (hb4.mono hb3.size)
        have hl1 := HPL.out
        go_wp2_with (first
          | (refine wpList_valueW (o := ⟨some 58, _, _, _, _, _⟩) rfl _ (by exact exec_slice1 _ 22 28 _ rfl Tryd.underlying22 i0 _ hi0 hz0 (bvs D2) (by rw [hz1, HBL.out]) (by rw [HBL.out]; omega) (by rw [HBL.out]; omega) rfl) ?_)
          | (at_builtin
             refine wpList_append_src _ rfl (.tmp 53) (.tmp 58) _ _ rfl w2.heap.size 28 i0 _ 16 16 Tryd.underlying22 hi0 hz0 hz1 hz2 rfl _ _ _ rfl (own_below hown4 ((Below.refl _ _).alloc (Nat.le_refl _) _)) 1 (bvs D2) (Src.boxRow Tryd.underlying22 _ _ _ 16 HBL.out (bvs_one D2) _) (by unfold maxLen; omega) (by omega) (by have := hb4'.size; simp; omega) ?_
             intro v5 w5 hown5 hb5))
        go_ret2
        refine ⟨_, rfl, ?_, (hb4'.alloc hb4'.size _).trans hb5⟩
        rw [HE.out, List.length_append, List.flatten_append, bvs_append]
        simpa using hown5
    · obtain rfl : n = 1 := by omega
      have HE : Hid (mProof ds i = []) := by show _ = _; unfold mProof; rw [proveR_less (by rw [HLN.out]; omega)]; rfl
      rw [HE.out]
      obtain rfl : i = 0 := by omega
      go_enter Tryd.func11, Tryd.ntmps11
      go_wp2_with fail
      go_ret2
      exact ⟨_, rfl, World.ownsRow_nil w _ _ _, Below.refl _ _⟩
end Go.Proofs.YtpmkjnmddglckaaDoor

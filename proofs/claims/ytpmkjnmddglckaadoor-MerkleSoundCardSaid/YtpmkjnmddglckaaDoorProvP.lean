/-
  What merkle.Prove's closure and Prove return: contracts by walks, by induction on the number of leaves. Conditions: the table of constants as laid; at most 1000 leaves; the captured variable holds the closure.
-/
import Derived.Test.YtpmkjnmddglckaaDoorRootP2
import Derived.Test.YtpmkjnmddglckaaDoorRProve
namespace Go.Proofs.YtpmkjnmddglckaaDoor
open Go.RowKit

/-- A new slice of digests comes back; nothing that was there has changed. -/
def GivesDS (ds : List (List UInt8)) (w : World) (e : Ending) (w' : World) : Prop :=
  ∃ v, e = .returned v ∧ w'.ownsRow w.heap.size 28 16 v ds.length (bvs ds.flatten) ∧ Below w.heap.size w w'
/-- The captured variable holds the closure itself. -/
def sibV (pb : Addr) : Value := .func (.func 21) #[] #[.pointer (some pb)]

set_option maxRecDepth 100000 in
set_option maxHeartbeats 1000000 in
theorem sib_any (pb : Addr) (m : Nat) : ∀ (A : Option Addr) (c n i : Nat) (ds : List (List UInt8)) (w : World), n ≤ m → Consts w → w.cell? pb = some (sibV pb) → ReadsD w A n ds → n ≤ c → n ≤ 1000 → i < n →
    Calls Tryd.prog 21 #[.slice A n c, .int .i64 (i : Int), .pointer (some pb)] w (GivesDS (mProof ds i) w) := by
  obtain ⟨i0, hi0, hz0, hz1, hz2⟩ := info_parts info_dig
  induction m with
  | zero => intro A c n i ds w hm hK hf hr hc hn hi; omega
  | succ m ih =>
    intro A c n i ds w hm hK hf hr hc hn hi
    have HLN := Lib.hid hr.len
    by_cases h2 : 2 ≤ n
    · obtain ⟨ad, rfl⟩ : ∃ ad, A = some ad := by obtain ⟨ad, h, _⟩ := hr.1.2 (by omega); exact ⟨ad, h⟩
      have HS1 := split_pos n
      have HS2 := split_lt h2
      have hr1 := hr.first (k := split n) (by omega)
      have hr2 := hr.last (k := split n) (cap := n) (by omega) (Nat.le_refl _)
      rw [if_neg (by omega)] at hr2
      have hpb : pb.block < w.heap.size := World.block_lt_of_cell? w pb hf
      have HSP := fun W => Lib.hid (subtrees_any ad c n h2 hc hn W)
      by_cases hik : i < split n
      · have HP := fun W (hW : Below w.heap.size w W) => Lib.hid (ih (some ad) (split n) (split n) i (ds.take (split n)) W (by omega) (hK.on hW) ((hW.cell hpb).trans hf) (hr1.on hW) (by omega) (by omega) hik)
        have HR := fun W (hW : Below w.heap.size w W) => Lib.hid (root_any (some (ad.add (split n * 16))) (n - split n) (n - split n) (ds.drop (split n)) W (hK.on hW) (hr2.on hW) (by omega) (by omega))
        have HE : Hid (mProof ds i = mProof (ds.take (split n)) i ++ [root (ds.drop (split n))]) := by
          have e := proveR_left (l := ds) (by rw [HLN.out]; exact h2) (i := i) (by rw [HLN.out]; exact hik)
          rw [HLN.out] at e
          show _ = _
          unfold mProof
          rw [e, List.reverse_cons]
        have HPL := Lib.hid (mProof_len (l := ds.take (split n)) (i := i) hr1.len (by omega))
        have HRL := Lib.hid (root_len (ds.drop (split n)))
        generalize mProof ds i = D at *
        generalize mProof (ds.take (split n)) i = D1 at *
        generalize root (ds.drop (split n)) = D2 at *
        have HBL : Hid ((bvs D2).length = 16) := by show _ = _; rw [bvs_length, HRL.out]
        generalize split n = k at *
        clear hr1 hr2 ih
        go_enter Tryd.func21, Tryd.ntmps21
        go_wp2_with fail
        refine (HSP _).out.mono ?_
        rintro e w2 ⟨rfl, m2, rfl⟩
        have hb2 : Below w.heap.size w (w.drewN m2) := below_drewN (Below.refl _ _) m2
        have hsz : (w.drewN m2).heap.size = w.heap.size := rfl
        clear HSP
        generalize w.drewN m2 = w2 at *
        have hf2 := (hb2.cell hpb).trans hf
        unfold sibV at hf2
        go_wp2_with (refine wpList_valueG (o := ⟨some 20, _, _, _, _, _⟩) rfl _ (by exact exec_load1 _ 41 _ rfl pb rfl _ hf2 _ Tryd.underlying41 rfl) ?_)
        refine (HP _ hb2).out.mono ?_
        rintro e w3 ⟨v3, rfl, hown3, hb3⟩
        have hb3' := hb2.trans (hb3.mono hb2.size)
        rw [hsz] at hown3
        go_wp2_with fail
        refine (HR _ hb3').out.mono ?_
        rintro e w4 ⟨rfl, hb4⟩
        have hown4 := own_below hown3 hb4
        have hb4' := hb3'.trans (hb4.mono hb3'.size)
        have hl1 := HPL.out
        go_wp2_with (first
          | (refine wpList_valueW (o := ⟨some 26, _, _, _, _, _⟩) rfl _ (by exact exec_slice1 _ 22 28 _ rfl Tryd.underlying22 i0 _ hi0 hz0 (bvs D2) (by rw [hz1, HBL.out]) (by rw [HBL.out]; omega) (by rw [HBL.out]; omega) rfl) ?_)
          | (at_builtin
             refine wpList_append_src _ rfl (.tmp 23) (.tmp 26) _ _ rfl w.heap.size 28 i0 _ 16 16 Tryd.underlying22 hi0 hz0 hz1 hz2 rfl _ _ _ rfl (own_below hown4 ((Below.refl _ _).alloc (Nat.le_refl _) _)) 1 (bvs D2) (Src.boxRow Tryd.underlying22 _ _ _ 16 HBL.out (bvs_one D2) _) (by unfold maxLen; omega) (by omega) (by have := hb4'.size; simp; omega) ?_
             intro v5 w5 hown5 hb5))
        go_ret
        refine ⟨_, rfl, ?_, (hb4'.alloc hb4'.size _).trans hb5⟩
        rw [HE.out, List.length_append, List.flatten_append, bvs_append]
        simpa using hown5
      · have hik2 : split n ≤ i := by omega
        have HP := fun W (hW : Below w.heap.size w W) => Lib.hid (ih (some (ad.add (split n * 16))) (n - split n) (n - split n) (i - split n) (ds.drop (split n)) W (by omega) (hK.on hW) ((hW.cell hpb).trans hf) (hr2.on hW) (by omega) (by omega) (by omega))
        simp only [show ((i - split n : Nat) : Int) = (i : Int) - (split n : Int) from by omega] at HP
        have HR := fun W (hW : Below w.heap.size w W) => Lib.hid (root_any (some ad) (split n) (split n) (ds.take (split n)) W (hK.on hW) (hr1.on hW) (by omega) (by omega))
        have HE : Hid (mProof ds i = mProof (ds.drop (split n)) (i - split n) ++ [root (ds.take (split n))]) := by
          have e := proveR_right (l := ds) (by rw [HLN.out]; exact h2) (i := i) (by rw [HLN.out]; exact hik)
          rw [HLN.out] at e
          show _ = _
          unfold mProof
          rw [e, List.reverse_cons]
        have HPL := Lib.hid (mProof_len (l := ds.drop (split n)) (i := i - split n) hr2.len (by omega))
        have HRL := Lib.hid (root_len (ds.take (split n)))
        generalize mProof ds i = D at *
        generalize mProof (ds.drop (split n)) (i - split n) = D1 at *
        generalize root (ds.take (split n)) = D2 at *
        have HBL : Hid ((bvs D2).length = 16) := by show _ = _; rw [bvs_length, HRL.out]
        generalize split n = k at *
        clear hr1 hr2 ih
        go_enter Tryd.func21, Tryd.ntmps21
        go_wp2_with fail
        refine (HSP _).out.mono ?_
        rintro e w2 ⟨rfl, m2, rfl⟩
        have hb2 : Below w.heap.size w (w.drewN m2) := below_drewN (Below.refl _ _) m2
        have hsz : (w.drewN m2).heap.size = w.heap.size := rfl
        clear HSP
        generalize w.drewN m2 = w2 at *
        have hf2 := (hb2.cell hpb).trans hf
        unfold sibV at hf2
        go_wp2_with (refine wpList_valueG (o := ⟨some 28, _, _, _, _, _⟩) rfl _ (by exact exec_load1 _ 41 _ rfl pb rfl _ hf2 _ Tryd.underlying41 rfl) ?_)
        refine (HP _ hb2).out.mono ?_
        rintro e w3 ⟨v3, rfl, hown3, hb3⟩
        have hb3' := hb2.trans (hb3.mono hb2.size)
        rw [hsz] at hown3
        go_wp2_with fail
        refine (HR _ hb3').out.mono ?_
        rintro e w4 ⟨rfl, hb4⟩
        have hown4 := own_below hown3 hb4
        have hb4' := hb3'.trans (hb4.mono hb3'.size)
        have hl1 := HPL.out
        go_wp2_with (first
          | (refine wpList_valueW (o := ⟨some 37, _, _, _, _, _⟩) rfl _ (by exact exec_slice1 _ 22 28 _ rfl Tryd.underlying22 i0 _ hi0 hz0 (bvs D2) (by rw [hz1, HBL.out]) (by rw [HBL.out]; omega) (by rw [HBL.out]; omega) rfl) ?_)
          | (at_builtin
             refine wpList_append_src _ rfl (.tmp 34) (.tmp 37) _ _ rfl w.heap.size 28 i0 _ 16 16 Tryd.underlying22 hi0 hz0 hz1 hz2 rfl _ _ _ rfl (own_below hown4 ((Below.refl _ _).alloc (Nat.le_refl _) _)) 1 (bvs D2) (Src.boxRow Tryd.underlying22 _ _ _ 16 HBL.out (bvs_one D2) _) (by unfold maxLen; omega) (by omega) (by have := hb4'.size; simp; omega) ?_
             intro v5 w5 hown5 hb5))
        go_ret
        refine ⟨_, rfl, ?_, (hb4'.alloc hb4'.size _).trans hb5⟩
        rw [HE.out, List.length_append, List.flatten_append, bvs_append]
        simpa using hown5
    · obtain rfl : n = 1 := by omega
      have HE : Hid (mProof ds i = []) := by show _ = _; unfold mProof; rw [proveR_less (by rw [HLN.out]; omega)]; rfl
      rw [HE.out]
      obtain rfl : i = 0 := by omega
      go_enter Tryd.func21, Tryd.ntmps21
      go_wp2_with fail
      go_ret
      exact ⟨_, rfl, World.ownsRow_nil w _ _ _, Below.refl _ _⟩

set_option maxRecDepth 100000 in
set_option maxHeartbeats 1000000 in
theorem prove_bad (A : Option Addr) (c n : Nat) (i : Int) (w : World) (hi : i < 0 ∨ (n : Int) ≤ i) :
    Calls Tryd.prog 10 #[.slice A n c, .int .i64 i] w (GivesDE [] 1 w) := by
  by_cases h0 : i < 0
  · go_enter Tryd.func10, Tryd.ntmps10
    go_wp2_with fail
    go_ret2
    exact ⟨_, rfl, World.ownsRow_nil w _ _ _, Below.refl _ _⟩
  · have h1 : (n : Int) ≤ i := by omega
    go_enter Tryd.func10, Tryd.ntmps10
    go_wp2_with fail
    go_ret2
    exact ⟨_, rfl, World.ownsRow_nil w _ _ _, Below.refl _ _⟩

set_option maxRecDepth 100000 in
set_option maxHeartbeats 1000000 in
theorem prove_any (A : Option Addr) (c n i : Nat) (ds : List (List UInt8)) (w : World) (hK : Consts w) (hr : ReadsD w A n ds) (hc : n ≤ c) (hn : n ≤ 1000) (hi : i < n) :
    Calls Tryd.prog 10 #[.slice A n c, .int .i64 (i : Int)] w (GivesDE (mProof ds i) 0 w) := by
  have HF := fun pb W (hKW : Consts W) hf hW => Lib.hid (sib_any pb 1000 A c n i ds W hn hKW hf hW hc hn hi)
  generalize mProof ds i = D at *
  unfold sibV at HF
  have hin : ¬ n ≤ i := by omega
  go_enter Tryd.func10, Tryd.ntmps10
  go_wp2_with (first
    | (with_reducible refine wpList_alloc_row (o := ⟨some 6, _, _, _, _, _⟩) rfl _ rfl [.nilFunc] (by kernel_rfl) ?_; intro w2 hrow2 hs2 hg2)
    | (refine wpList_at ⟨none, .store 41 _ _, _, _, _, _⟩ ?_; refine wpList_store_elem rfl _ _ _ rfl w.heap.size 0 rfl _ _ hrow2 (.func (.func 21) #[] #[.pointer (some ⟨w.heap.size, 0, none⟩)]) rfl rfl (by simp) (by kernel_rfl) ?_; intro w3 hrow3 hg3; have hf3 : w3.cell? ⟨w.heap.size, 0, none⟩ = some (.func (.func 21) #[] #[.pointer (some ⟨w.heap.size, 0, none⟩)]) := hrow3.cell rfl)
    | (refine wpList_valueG (o := ⟨some 16, _, _, _, _, _⟩) rfl _ (by exact exec_load1 _ 41 _ rfl ⟨w.heap.size, 0, none⟩ rfl _ hf3 _ Tryd.underlying41 rfl) ?_))
  have hb2 : Below w.heap.size w w2 := grown_below hg2 (Nat.le_refl _) (by simp)
  have hb3 : Below w.heap.size w w3 := below_kept hb2 hg3 hb2.size (by rintro k hk; cases hk; exact Nat.le_refl _)
  clear hg2 hg3 hrow2
  refine (HF _ _ (hK.on hb3) hf3 (hr.on hb3)).out.mono ?_
  rintro e w4 ⟨v, rfl, hown, hb4⟩
  go_wp2_with fail
  go_ret2
  exact ⟨_, rfl, own_base hown hb3.size, hb3.trans (hb4.mono hb3.size)⟩
end Go.Proofs.YtpmkjnmddglckaaDoor

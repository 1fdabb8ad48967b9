/-
  MerkleRoot's walk. Condition: the table of constants as laid.
-/
import Derived.Test.YtpmkjnmddglckaaDoorSan3
import Derived.Test.YtpmkjnmddglckaaDoorRProve
namespace Go.Proofs.YtpmkjnmddglckaaDoor
open Go.RowKit

set_option maxRecDepth 100000 in
set_option maxHeartbeats 2000000 in
theorem walkRoot (A : Option Addr) (n c : Nat) (ds : List (List UInt8)) (i : Int) (w : World) (hK : Consts w) (hr : ReadsD w A n ds) (hc : n ≤ c) (hn : n ≤ 140737488351232) (h1 : -9223372036854775808 ≤ i) (h2 : i ≤ 9223372036854775807) :
    Calls Tryd.prog 3 #[.slice A n c, .int .i64 i] w fun e w' => e = .returned (.bool true) ∧ Below w.heap.size w w' := by
  by_cases h40 : 40 < n
  · go_enter Tryd.func3, Tryd.ntmps3
    go_wp2_with fail
    refine (sanity_any _ hK).mono ?_
    rintro e w1 ⟨rfl, hb1⟩
    go_wp2_with fail
    go_ret
    exact ⟨rfl, hb1⟩
  have HRL := Lib.hid (root_len ds)
  have eRR : (root ds == root ds) = true := by simp
  have HRt := fun W hKW hrW => Lib.hid (root_any A c n ds W hKW hrW hc (by omega))
  have HRr := fun W hrW => Lib.hid (refRoot_any 1000 A c n ds W (by omega) hrW hc (by omega))
  generalize root ds = D at *
  by_cases hi : i < 0 ∨ (n : Int) ≤ i
  · have eNN : (([] : List (List UInt8)) == []) = true := by simp
    have hpb := fun W => Lib.hid (prove_bad A c n i W hi)
    have hqb := fun W => Lib.hid (refProve_bad A c n i W hi)
    clear hi
    go_enter Tryd.func3, Tryd.ntmps3
    go_wp2_with fail
    refine (sanity_any _ hK).mono ?_
    rintro e w1 ⟨rfl, hb1⟩
    go_wp2_with fail
    refine (hpb _).out.mono ?_
    rintro e w2 ⟨v2, rfl, hown2, hb2⟩
    have hb2' := hb1.trans (hb2.mono hb1.size)
    obtain ⟨A2, c2, rfl, _, _, hr2⟩ := own_form hown2
    go_wp2_with fail
    refine (hqb _).out.mono ?_
    rintro e w3 ⟨v3, rfl, hown3, hb3⟩
    have hb3' := hb2'.trans (hb3.mono hb2'.size)
    have hr2' := hr2.on hb3
    obtain ⟨A3, c3, rfl, _, _, hr3⟩ := own_form hown3
    clear hown2 hown3
    go_wp2_with fail
    refine (HRt _ (hK.on hb3') (hr.on hb3')).out.mono ?_
    rintro e w4 ⟨rfl, hb4⟩
    have hb4' := hb3'.trans (hb4.mono hb3'.size)
    go_wp2_with fail
    refine (HRr _ (hr.on hb4')).out.mono ?_
    rintro e w5 ⟨rfl, hb5⟩
    have hb5' := hb4'.trans (hb5.mono hb4'.size)
    have hb45 := hb4.trans (hb5.mono hb4.size)
    go_wp2_with (refine wpList_valueG (o := ⟨some 33, _, _, _, _, _⟩) rfl _ (by exact exec_eql16 _ _ _ rfl D D HRL.out HRL.out rfl rfl) ?_; rw [eRR])
    refine (refSame_any _ _ _ _ [] [] 0 0 _ _ _ (hr2'.on hb45) (hr3.on hb45) (fun _ h => by simp at h) (fun _ h => by simp at h) (by omega) (by omega)).mono ?_
    rintro e w6 ⟨rfl, m6, hw6⟩
    have hb6 : Below w.heap.size w w6 := by rw [hw6]; exact below_drewN hb5' _
    clear hw6
    rw [eNN]
    go_wp2_with fail
    go_ret
    exact ⟨rfl, hb6⟩
  · obtain ⟨k, rfl⟩ : ∃ k : Nat, i = (k : Int) := ⟨i.toNat, by omega⟩
    have hk : k < n := by omega
    have HPL := Lib.hid (mProof_len (l := ds) (i := k) hr.len (by omega))
    have HP16 := Lib.hid (mProof_16 ds k)
    have hpb := fun W hKW hrW => Lib.hid (prove_any A c n k ds W hKW hrW hc (by omega) hk)
    have hqb := fun W hrW => Lib.hid (refProve_any 1000 A c n k ds W (by omega) hrW hc (by omega) hk)
    generalize mProof ds k = p at *
    have eNN : (p == p) = true := by simp
    clear hi
    go_enter Tryd.func3, Tryd.ntmps3
    go_wp2_with fail
    refine (sanity_any _ hK).mono ?_
    rintro e w1 ⟨rfl, hb1⟩
    go_wp2_with fail
    refine (hpb _ (hK.on hb1) (hr.on hb1)).out.mono ?_
    rintro e w2 ⟨v2, rfl, hown2, hb2⟩
    have hb2' := hb1.trans (hb2.mono hb1.size)
    obtain ⟨A2, c2, rfl, _, _, hr2⟩ := own_form hown2
    go_wp2_with fail
    refine (hqb _ (hr.on hb2')).out.mono ?_
    rintro e w3 ⟨v3, rfl, hown3, hb3⟩
    have hb3' := hb2'.trans (hb3.mono hb2'.size)
    have hr2' := hr2.on hb3
    obtain ⟨A3, c3, rfl, _, _, hr3⟩ := own_form hown3
    clear hown2 hown3
    go_wp2_with fail
    refine (HRt _ (hK.on hb3') (hr.on hb3')).out.mono ?_
    rintro e w4 ⟨rfl, hb4⟩
    have hb4' := hb3'.trans (hb4.mono hb3'.size)
    go_wp2_with fail
    refine (HRr _ (hr.on hb4')).out.mono ?_
    rintro e w5 ⟨rfl, hb5⟩
    have hb5' := hb4'.trans (hb5.mono hb4'.size)
    have hb45 := hb4.trans (hb5.mono hb4.size)
    go_wp2_with (refine wpList_valueG (o := ⟨some 33, _, _, _, _, _⟩) rfl _ (by exact exec_eql16 _ _ _ rfl D D HRL.out HRL.out rfl rfl) ?_; rw [eRR])
    have hpl := HPL.out
    refine (refSame_any _ _ _ _ p p p.length p.length _ _ _ (hr2'.on hb45) (hr3.on hb45) HP16.out HP16.out (by omega) (by omega)).mono ?_
    rintro e w6 ⟨rfl, m6, hw6⟩
    have hb6 : Below w.heap.size w w6 := by rw [hw6]; exact below_drewN hb5' _
    clear hw6
    rw [eNN]
    go_wp2_with fail
    go_ret
    exact ⟨rfl, hb6⟩
end Go.Proofs.YtpmkjnmddglckaaDoor

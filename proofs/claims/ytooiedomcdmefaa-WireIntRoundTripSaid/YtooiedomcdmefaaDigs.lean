/-
  What wire.Digests and the reference's Digests return: contracts by walks.
-/
import Derived.Test.YtooiedomcdmefaaEncs
import Derived.Test.YtooiedomcdmefaaCells
namespace Go.Proofs.Ytooiedomcdmefaa
open Go.RowKit

def Len16 (ds : List (List UInt8)) : Prop := ∀ d ∈ ds, d.length = 16
def encDigs (ds : List (List UInt8)) : List UInt8 := encInt ds.length ++ ds.flatten
theorem flatten_len (ds : List (List UInt8)) (h : Len16 ds) : ds.flatten.length = ds.length * 16 := by
  induction ds with
  | nil => rfl
  | cons d t ih =>
    have h1 := h d (by simp)
    have h2 := ih fun y hy => h y (by simp [hy])
    rw [List.flatten_cons, List.length_append, List.length_cons, h1, h2]
    omega
theorem flatten_take (ds : List (List UInt8)) (h : Len16 ds) (k : Nat) : (ds.take k).flatten = ds.flatten.take (k * 16) := by
  induction k generalizing ds with
  | zero => simp
  | succ k ih =>
    cases ds with
    | nil => simp
    | cons d t =>
      have h1 := h d (by simp)
      have h2 := ih t fun y hy => h y (by simp [hy])
      rw [List.take_succ_cons, List.flatten_cons, List.flatten_cons, h2, List.take_append, h1, show (k + 1) * 16 - 16 = k * 16 from by omega, List.take_of_length_le (l := d) (by omega)]
theorem flatten_snoc (ds : List (List UInt8)) (k : Nat) (d : List UInt8) (h : ds[k]? = some d) : (ds.take (k + 1)).flatten = (ds.take k).flatten ++ d := by
  rw [List.take_add_one, h]
  simp
theorem Reads.dig_at {w : World} {B n : Nat} {A : Option Addr} {ds : List (List UInt8)} (h16 : Len16 ds) (h : Reads w B 16 A n (bvs ds.flatten)) {k : Nat} (hk : k < n) :
    ∃ ad d, A = some ad ∧ ad.block < B ∧ ds[k]? = some d ∧ d.length = 16 ∧ ∀ j u, (bvs d)[j]? = some u → w.cell? (ad.add (k * 16 + j)) = some u := by
  obtain ⟨hl, h⟩ := h
  obtain ⟨ad, rfl, hb, hc⟩ := h (by omega)
  rw [bvs_length, flatten_len ds h16] at hl
  have hkl : k < ds.length := by omega
  refine ⟨ad, ds[k], rfl, hb, List.getElem?_eq_getElem hkl, h16 _ (List.getElem_mem hkl), fun j u hu => hc _ u ?_⟩
  have hd := h16 _ (List.getElem_mem hkl)
  have hj : j < 16 := by
    rcases Nat.lt_or_ge j 16 with h | h
    · exact h
    · rw [List.getElem?_eq_none (by rw [bvs_length]; omega)] at hu; cases hu
  have hs := flatten_snoc ds k _ (List.getElem?_eq_getElem hkl)
  rw [flatten_take ds h16, flatten_take ds h16] at hs
  have e : ds.flatten[k * 16 + j]? = (ds[k])[j]? := by
    have h1 : (ds.flatten.take ((k + 1) * 16))[k * 16 + j]? = ds.flatten[k * 16 + j]? := List.getElem?_take_of_lt (by omega)
    rw [← h1, hs, List.getElem?_append_right (by rw [List.length_take, flatten_len ds h16]; omega)]
    congr 1
    rw [List.length_take, flatten_len ds h16]
    omega
  unfold bvs at hu ⊢
  rw [List.getElem?_map] at hu ⊢
  rw [e]
  exact hu

set_option maxRecDepth 100000 in
set_option maxHeartbeats 400000 in
theorem digests_any (A : Option Addr) (c : Nat) (ds : List (List UInt8)) (n : Nat) (hn : ds.length = n) (w : World) (h16 : Len16 ds) (hr : Reads w w.heap.size 16 A n (bvs ds.flatten)) (hs : n ≤ 1000000000) :
    Calls Try.prog 19 #[.slice A n c] w (Gives (encDigs ds) w) := by
  obtain ⟨i0, hi0, hz0, hz1, hz2⟩ := info_parts info_u8
  have HN := Lib.hid hn
  clear hn
  have HL := Lib.hid h16
  clear h16
  go_enter Try.func19, Try.ntmps19
  go_wp2_with fail
  refine (int_any (n : Int) _ (by omega) (by omega)).mono ?_
  rintro e w' ⟨v, rfl, hown, hbel⟩
  go_wp2_with fail
  have hl0 : (encInt (n : Int)).length ≤ 10 := leb_le10 _ (zz_lt _ (by omega) (by omega))
  go_loopg [3, 11] n (fun g v' i wr => ∃ k : Nat, Hid (k + g = n) ∧ k ≤ n ∧ i = .int .i64 k ∧ wr.ownsRow w.heap.size 5 1 v' ((encInt (n : Int)).length + k * 16) (bvs (encInt (n : Int) ++ (ds.take k).flatten)) ∧ Below w.heap.size w wr)
  case atStart => exact ⟨0, by show _ = _; omega, by omega, rfl, by simpa using hown, hbel⟩
  case round =>
    obtain ⟨k, HK, hk, rfl, hown1, hbel1⟩ := hrel
    by_cases hlt : k < n
    · obtain ⟨ad, d, rfl, hab, hx, hd, hc⟩ := (hr.below hbel1).dig_at HL.out hlt
      have HX := Lib.hid hx
      clear hx
      have HC := Lib.hid hc
      clear hc
      have hsz : (bvs d).toArray.size = 16 := by simp [bvs_length, hd]
      have hd1 : (Try.prog.info? 51).map (·.size) = some (bvs d).length := by rw [bvs_length, hd]; kernel_rfl
      have HD1 := Lib.hid hd1
      have HD2 : Hid ((Try.prog.info? 51).map (·.size) = some (bvs d).toArray.size) := by show _ = _; rw [hd1]; simp
      have HSZ := Lib.hid hsz
      have HD := Lib.hid hd
      clear hd1 hsz hd
      have hbs := hbel1.size
      go_wp2_with (first
        | (with_reducible refine wpList_load_at (o := ⟨some 14, _, _, _, _, _⟩) rfl _ _ rfl _ rfl (bvs d) (fun j u hu => by rw [add_of_add]; exact HC.out j u hu) _ Try.underlying51 rfl HD1.out ?_)
        | (with_reducible refine wpList_store_row (o := ⟨none, _, _, _, _, _⟩) rfl _ _ _ rfl _ rfl _ rfl _ _ (Go.heap_alloc_new _ _) (fun u hu => bvs_one d u (by simpa using hu)) HSZ.out.symm HD2.out ?_
           change wpList _ _ _ _ _ (laid wr _ _))
        | (at_builtin
           refine wpList_append_src _ rfl (.tmp 15) (.tmp 16) _ _ rfl w.heap.size 5 i0 _ 1 1 Try.underlying26 hi0 hz0 hz1 hz2 rfl _ _ _ rfl (laid_own wr hown1 _ _) 16 (bvs d)
             (Src.ofSlice _ Try.underlying26 _ 16 _ (bvs d) (by rw [bvs_length, HD.out]) (fun j u hu => laid_cells wr _ _ _ j u (by simpa using hu)) (bvs_one d)) (by unfold maxLen; omega) (by omega) (by rw [laid_size]; omega) ?_
           intro v2 w2 hown2 hbel2))
      go_roundg (gk - 1)
      case measure => have := HK.out; omega
      case rel =>
        have hs := flatten_snoc ds k d HX.out
        refine ⟨k + 1, ?_, by omega, by go_num, ?_, (laid_below wr hbel1 hbs _ _).trans hbel2⟩
        · have := HK.out; show _ = _; omega
        · rw [hs, ← List.append_assoc, bvs_append, show (encInt (n : Int)).length + (k + 1) * 16 = (encInt (n : Int)).length + k * 16 + 16 from by omega]
          exact hown2
    · have hkn : k = n := by omega
      have HKN := Lib.hid hkn
      clear hkn
      go_wp2_with fail
      go_ret
      refine ⟨_, rfl, ?_, hbel1⟩
      have e : encDigs ds = encInt (n : Int) ++ (ds.take k).flatten := by unfold encDigs; rw [HKN.out, List.take_of_length_le (by rw [HN.out]; exact Nat.le_refl _), HN.out]
      have e2 : (encInt (n : Int) ++ (ds.take k).flatten).length = (encInt (n : Int)).length + k * 16 := by rw [List.length_append, flatten_take ds HL.out, List.length_take, flatten_len ds HL.out, HN.out, HKN.out, Nat.min_self]
      rw [e, e2]
      exact hown1
end Go.Proofs.Ytooiedomcdmefaa

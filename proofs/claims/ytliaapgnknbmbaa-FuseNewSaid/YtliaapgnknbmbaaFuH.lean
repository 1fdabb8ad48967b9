/-
  Sequences of pulses: how they read, and what the law file's hits returns: a contract by a walk. Condition: bounded lengths.
-/
import Derived.Test.YtliaapgnknbmbaaFuP
namespace Go.Proofs.Ytliaapgnknbmbaa
open Go.RowKit

def hv (h : FHit) : List Value := [.int .i64 h.b, .int .i64 h.c, .bool h.cut]
def hvs (l : List FHit) : List Value := l.flatMap hv
theorem hvs_len (l : List FHit) : (hvs l).length = l.length * 3 := by
  induction l with
  | nil => rfl
  | cons h l ih => show (hv h ++ hvs l).length = _; rw [List.length_append, ih, List.length_cons]; show 3 + _ = _; omega
theorem hvs_at : ∀ {l : List FHit} {i : Nat} {h : FHit}, l[i]? = some h → ∀ j u, (hv h)[j]? = some u → (hvs l)[i * 3 + j]? = some u
  | [], i, h, hi, _, _, _ => by simp at hi
  | x :: l, 0, h, hi, j, u, hu => by
    simp at hi
    subst hi
    show (hv x ++ hvs l)[0 * 3 + j]? = _
    rw [List.getElem?_append_left (by rw [Nat.zero_mul, Nat.zero_add]; exact (List.getElem?_eq_some_iff.1 hu).1), Nat.zero_mul, Nat.zero_add]
    exact hu
  | x :: l, i + 1, h, hi, j, u, hu => by
    show (hv x ++ hvs l)[(i + 1) * 3 + j]? = _
    rw [List.getElem?_append_right (by show 3 ≤ _; omega)]
    have := hvs_at (l := l) (i := i) (by simpa using hi) j u hu
    rw [← this]
    congr 1
    show (i + 1) * 3 + j - 3 = _
    omega
theorem hvs_one (l : List FHit) : ∀ u ∈ hvs l, u.oneCell' = true := by
  intro u hu
  obtain ⟨h, _, hu⟩ := List.mem_flatMap.1 hu
  unfold hv at hu
  simp only [List.mem_cons, List.not_mem_nil, or_false] at hu
  rcases hu with rfl | rfl | rfl <;> rfl
theorem hv_one (h : FHit) : ∀ u ∈ hv h, u.oneCell' = true := by
  intro u hu
  unfold hv at hu
  simp only [List.mem_cons, List.not_mem_nil, or_false] at hu
  rcases hu with rfl | rfl | rfl <;> rfl
theorem hvs_app (l k : List FHit) : hvs (l ++ k) = hvs l ++ hvs k := List.flatMap_append ..
theorem Reads.hits_len {w : World} {B n : Nat} {A : Option Addr} {l : List FHit} (h : Reads w B 3 A n (hvs l)) : l.length = n := by
  have := h.1; rw [hvs_len] at this; omega
theorem Reads.hit_at {w : World} {B n : Nat} {A : Option Addr} {l : List FHit} (h : Reads w B 3 A n (hvs l)) {i : Nat} {x : FHit} (hx : l[i]? = some x) :
    ∃ ad, A = some ad ∧ ad.block < B ∧ ∀ j u, (hv x)[j]? = some u → w.cell? (ad.add (i * 3 + j)) = some u := by
  have hi : i < n := by have := h.hits_len; have := (List.getElem?_eq_some_iff.1 hx).1; omega
  obtain ⟨ad, hA, hb, hc⟩ := h.2 (by omega)
  exact ⟨ad, hA, hb, fun j u hu => hc _ u (hvs_at hx j u hu)⟩

theorem fuPulse_lens (bs : List (List UInt8)) (b c : Int) (cut : Bool) : (fuPulse bs b c cut).map List.length = bs.map List.length := by
  unfold fuPulse
  split
  · rename_i h
    obtain ⟨k, j, l, rfl, rfl, hl, hj⟩ := fuEx_iff.1 h
    rw [List.map_set, List.length_set, fuBank_nat hl, Int.toNat_natCast]
    refine List.ext_getElem? fun i => ?_
    rw [List.getElem?_set]
    split
    · rename_i e
      subst e
      rw [List.length_map, if_pos (List.getElem?_eq_some_iff.1 hl).1, List.getElem?_map, hl]
      rfl
    · rfl
  · rfl
theorem fuHits_lens : ∀ (l : List FHit) (bs : List (List UInt8)), (fuHits bs l).map List.length = bs.map List.length
  | [], _ => rfl
  | h :: l, bs => by
    show (fuHits (fuPulse bs h.b h.c h.cut) l).map _ = _
    rw [fuHits_lens l, fuPulse_lens]
/-- Parts that read as banks of bounded lengths are bounded. -/
theorem parts_le {w : World} {A : Option Addr} {n c : Nat} {ps : List Part} (h : FuOK w A n c ps) {bs : List (List UInt8)} {k m : Nat} (hb : (bk ps).map List.length = bs.map List.length) (hm : bs.length = m) (hk : ∀ l ∈ bs, l.length ≤ k) : n = m ∧ ∀ p ∈ ps, p.n ≤ k := by
  have hl := congrArg List.length hb
  rw [List.length_map, List.length_map, bk_len, h.1.len] at hl
  refine ⟨by omega, fun p hp => ?_⟩
  have h1 : p.l.length ∈ (bk ps).map List.length := List.mem_map.2 ⟨p.l, List.mem_map.2 ⟨p, hp, rfl⟩, rfl⟩
  rw [hb] at h1
  obtain ⟨l, hl', e⟩ := List.mem_map.1 h1
  have := hk l hl'
  have h3 := (h.1.2 p hp).1.bytes_len
  omega

theorem zero_hit : (Try.prog.info? 47).map (fun i => i.zero.map (·.cells)) = some (some [Value.int .i64 0, .int .i64 0, .bool false].toArray) := by kernel_rfl
theorem size_hit : (Try.prog.info? 47).map (·.size) = some 3 := by kernel_rfl

set_option maxRecDepth 100000 in
set_option maxHeartbeats 4000000 in
theorem fhits_any (A : Option Addr) (n c : Nat) (ps : List Part) (L : Option Addr) (m d : Nat) (hs : List FHit) (w : World) (hok : FuOK w A n c ps) (hn : n ≤ 100) (hp : ∀ l ∈ bk ps, l.length ≤ 1000) (hh : Reads w w.heap.size 3 L m (hvs hs)) (hm : m ≤ 1000000) :
    Calls Try.prog 28 #[fuv A n c, .slice L m d] w (GivesF (fuHits (bk ps) hs) w) := by
  have HLN := Lib.hid hh.hits_len
  have HNP : Hid ((bk ps).length = n) := Lib.hid (by rw [bk_len, hok.1.len])
  have HPB := Lib.hid hp
  clear hp
  unfold fuv
  go_enter Try.func28, Try.ntmps28
  go_wp2_with (first
    | (with_reducible refine wpList_box_row (o := ⟨some 2, _, _, _, _, _⟩) rfl _ _ rfl [.slice A n c] rfl ?_; intro w1 r1 s1 g1)
    | (with_reducible refine wpList_alloc_row (o := ⟨some 4, _, _, _, _, _⟩) rfl _ rfl [.slice none 0 0] (by kernel_rfl) ?_; intro w2 r2 s2 g2; have q1 := r1.kept g2 (by simp)))
  have b2 := below_kept (grown_below g1 (Nat.le_refl _) (by simp)) g2 (Nat.le_of_lt s1) (by simp)
  have hl1 := r1.lt
  have hl2 := r2.lt
  have hok2 := hok.on b2
  clear r1 g1 g2
  go_loopg [9] m (fun g s9 wr => ∃ (i : Nat) (A' : Option Addr) (c' : Nat) (qs : List Part), Hid (i + g = m) ∧ i ≤ m ∧ s9 = .int .i64 (i : Int) ∧ FuOK wr A' n c' qs ∧ Hid (∀ W' : World, wr.grownBy W' (some w1.heap.size) → FuOK W' A' n c' qs) ∧ Hid (bk qs = fuHits (bk ps) (hs.take i)) ∧ Row wr w.heap.size 24 [.slice A' n c'] ∧ Row wr w1.heap.size 24 [.slice none 0 0] ∧ Below w.heap.size w wr)
  case atStart => exact ⟨0, A, c, ps, by show _ = _; omega, by omega, rfl, hok2, Lib.hid (fun W' hg => hok.on (below_kept b2 hg b2.size (by rintro z hz; cases hz; omega))), Lib.hid rfl, q1, r2, b2⟩
  case round =>
    obtain ⟨i, A', c', qs, HI, hi, rfl, hokr, HKP, HQB, e1, e2, hB⟩ := hrel
    by_cases hlt : i < m
    · obtain ⟨x, hx⟩ : ∃ x, hs[i]? = some x := ⟨_, List.getElem?_eq_getElem (by rw [HLN.out]; exact hlt)⟩
      obtain ⟨ad, rfl, hlta, hc⟩ := (hh.below hB).hit_at hx
      have HC := Lib.hid hc
      have HSU := Lib.hid (fuHits_succ (bk ps) hs i x hx)
      have HPL := fun W (hW : FuOK W A' n c' qs) => Lib.hid (fpulse_own A' n c' qs x.b x.c x.cut W hW.1 hn (parts_le hW (bs := bk ps) (k := 1000) (by rw [HQB.out, fuHits_lens]) HNP.out HPB.out).2)
      have HNN := fun W A'' n'' c'' ps'' (h : FuOK W A'' n'' c'' ps'') (hb : bk ps'' = fuPulse (bk qs) x.b x.c x.cut) => Lib.hid (parts_le h (bs := bk ps) (k := 1000) (by rw [hb, fuPulse_lens, HQB.out, fuHits_lens]) HNP.out HPB.out).1
      unfold fuv at HPL
      clear hx hc
      generalize fuErr (bk qs) x.b x.c = xe at *
      have HHV : Hid (hv x = [.int .i64 x.b, .int .i64 x.c, .bool x.cut]) := Lib.hid rfl
      have HON := Lib.hid (hv_one x)
      have HZ3 : Hid ([Value.int .i64 0, .int .i64 0, .bool false].length = (hv x).length) := Lib.hid rfl
      have HSZ : Hid ((Try.prog.info? 47).map (·.size) = some (hv x).length) := Lib.hid size_hit
      have hlr1 := e1.lt
      go_wp2_with (first
        | (refine wpList_valueW (o := ⟨some 12, _, _, _, _, _⟩) rfl _ (by exact exec_load _ 47 _ rfl _ rfl (hv x) (fun j u hu => by rw [add_of_add]; exact HC.out j u hu) _ Try.underlying47 rfl HSZ.out) ?_)
        | (with_reducible refine wpList_alloc_row (o := ⟨some 6, _, _, _, _, _⟩) rfl _ rfl [.int .i64 0, .int .i64 0, .bool false] zero_hit ?_; intro w3 r3 s3 g3)
        | ((with_reducible refine wpList_at ⟨none, .store _ (.tmp 6) _, _, _, _, _⟩ ?_); refine wpList_store_all rfl _ _ _ rfl wr.heap.size rfl _ _ r3 (hv x) rfl HON.out HZ3.out HSZ.out ?_; intro w4 r4 g4; have d1 := (e1.kept g3 (by simp)).kept g4 (by simp; omega); have d2 := (e2.kept g3 (by simp)).kept g4 (by have := e2.lt; simp; omega); have b4 := below_kept (grown_below g3 (Nat.le_refl _) (by simp)) g4 (Nat.le_of_lt s3) (by rintro z hz; cases hz; exact Nat.le_refl _); have c1 := d1.cell (j := 0) rfl; have h0 := r4.cell (j := 0) rfl; have h1 := r4.cell (j := 1) rfl; have h2 := r4.cell (j := 2) rfl; clear r3 g3 g4))
      refine (HPL _ (hokr.on b4)).out.mono ?_
      rintro e w5 ⟨A5, n5, c5, ps5, rfl, hown5, hbk5, b5⟩
      have hok5 := hown5.ok
      have hn5 := (HNN _ _ _ _ _ hok5 hbk5).out
      subst hn5
      have f1 := d1.on b5
      have f2 := d2.on b5
      have B5 := (hB.trans (b4.mono hB.size)).trans (b5.mono (hB.trans (b4.mono hB.size)).size)
      unfold fuv
      go_wp2_with ((with_reducible refine wpList_at ⟨none, .store _ (.tmp 2) _, _, _, _, _⟩ ?_); refine wpList_store_all rfl _ _ _ rfl w.heap.size rfl _ _ f1 [.slice A5 n5 c5] rfl (slice_one _ _ _) rfl (by kernel_rfl) ?_; intro w6 r6 g6)
      have f2' := f2.kept g6 (by simp; omega)
      have B6 := below_kept B5 g6 B5.size (by rintro z hz; cases hz; exact Nat.le_refl _)
      have hown6 := hown5.kept g6 (Nat.lt_of_lt_of_le hlr1 b4.size)
      go_roundg (gk - 1)
      case measure => have := HI.out; omega
      case rel => exact ⟨i + 1, A5, c5, ps5, by have := HI.out; show _ = _; omega, by omega, by go_num, hown6.ok, Lib.hid (fun W' hg => (hown6.kept hg (by have := e2.lt; have := b4.size; omega)).ok), by show _ = _; rw [hbk5, HQB.out, HSU.out], r6, f2', B6⟩
    · obtain rfl : i = m := by omega
      have HT : Hid (hs.take i = hs) := Lib.hid (List.take_of_length_le (by rw [HLN.out]; exact Nat.le_refl _))
      have c1 := e1.cell (j := 0) rfl
      go_wp2_with (with_reducible refine wpList_store_all (o := ⟨none, _, _, _, _, _⟩) rfl _ _ _ rfl w1.heap.size rfl _ _ e2 [.slice A' n c'] rfl (slice_one _ _ _) rfl (by kernel_rfl) ?_; intro wy ry gy)
      have hload := run_loadVar_at (P := Try.prog) wy 24 ⟨w1.heap.size, 0, none⟩ [.slice A' n c'] ry.cells _ Try.underlying24 rfl (by kernel_rfl)
      exact bodyPost_ret (results_cell1 Try.results28 _ _ _ _ rfl hload) rfl ⟨A', n, c', qs, rfl, HKP.out wy gy, by rw [HQB.out, HT.out], below_kept hB gy hB.size (by rintro z hz; cases hz; omega)⟩
end Go.Proofs.Ytliaapgnknbmbaa

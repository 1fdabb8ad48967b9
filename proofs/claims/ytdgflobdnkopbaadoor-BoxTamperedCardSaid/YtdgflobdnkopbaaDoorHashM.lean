/-
  What sha.shorten and the reference's short return: contracts by walks. No condition.
-/
import Derived.Test.YtdgflobdnkopbaaDoorSumM
import Derived.Test.YtdgflobdnkopbaaDoorShaM
import Derived.Test.YtdgflobdnkopbaaDoorBase
namespace Go.Proofs.YtdgflobdnkopbaaDoor
open Go.RowKit

def zeros16 : List Value := List.replicate 16 (.int .u8 0)
theorem zero_b16 : (Tryd.prog.info? 23).map (fun i => i.zero.map (·.cells)) = some (some zeros16.toArray) := by kernel_rfl
theorem b16_size (l : List UInt8) (h : l.length = 16) : (Tryd.prog.info? 23).map (·.size) = some (bvs l).length := by rw [bvs_length, h]; kernel_rfl
theorem b16_zeros (l : List UInt8) (h : l.length = 16) : zeros16.length = (bvs l).length := by rw [bvs_length, h]; rfl
theorem zeros16_one : ∀ u ∈ zeros16, u.oneCell' = true := by
  intro u hu
  rw [List.eq_of_mem_replicate hu]
  rfl

set_option maxRecDepth 100000 in
set_option maxHeartbeats 1000000 in
theorem refShort_any (l : List UInt8) (hl : l.length = 32) (w : World) : Calls Tryd.prog 39 #[.agg (bvs l).toArray] w (GivesV (.agg (bvs (l.take 16)).toArray) w) := by
  have HL := Lib.hid hl
  clear hl
  go_enter Tryd.func39, Tryd.ntmps39
  go_wp2_with (first
    | (with_reducible refine wpList_box_row (o := ⟨some 1, _, _, _, _, _⟩) rfl _ _ rfl (bvs l) rfl ?_; intro w1 hrow1 hs1 hg1)
    | (with_reducible refine wpList_alloc_row (o := ⟨some 2, _, _, _, _, _⟩) rfl _ rfl zeros16 zero_b16 ?_; intro w2 hrow2 hs2 hg2)
    | (with_reducible refine wpList_alloc_row (o := ⟨some 3, _, _, _, _, _⟩) rfl _ rfl zeros16 zero_b16 ?_; intro w3 hrow3 hs3 hg3)
    | (with_reducible refine wpList_store_all (o := ⟨none, _, _, _, _, _⟩) rfl _ _ _ rfl w2.heap.size rfl _ _ hrow3 zeros16 rfl zeros16_one rfl (by kernel_rfl) ?_; intro w4 hrow4 hg4))
  have hb4 : Below w.heap.size w w4 := below_kept (below_kept (below_kept (grown_below hg1 (Nat.le_refl _) (by simp)) hg2 (by omega) (by simp)) hg3 (by omega) (by simp)) hg4 (by omega) (by rintro k hk; cases hk; omega)
  have hrow1' := ((hrow1.kept hg2 (by simp)).kept hg3 (by simp)).kept hg4 (by simp; omega)
  have hrow2' := (hrow2.kept hg3 (by simp)).kept hg4 (by simp; omega)
  clear hrow1 hrow2 hrow3 hg1 hg2 hg3 hg4
  go_loopg [4] 16 (fun g s4 wr => ∃ k : Nat, Hid (k + g = 16) ∧ k ≤ 16 ∧ s4 = .int .i64 (k : Int) ∧ Row wr w2.heap.size 23 (bvs (l.take k) ++ List.replicate (16 - k) (.int .u8 0)) ∧ Row wr w.heap.size 48 (bvs l) ∧ Row wr w1.heap.size 23 zeros16 ∧ Below w.heap.size w wr)
  case atStart => exact ⟨0, rfl, by omega, rfl, hrow4, hrow1', hrow2', hb4⟩
  case round =>
    obtain ⟨k, HK, hk, rfl, hrow, hrow1, hrow2, hbel⟩ := hrel
    by_cases hlt : k < 16
    · have hlk : k < l.length := by rw [HL.out]; omega
      have hc := hrow1.cell (j := k) (u := bv l[k]) (by unfold bvs; rw [List.getElem?_map, List.getElem?_eq_getElem hlk]; rfl)
      have HT : Hid (l.take (k + 1) = l.take k ++ [l[k]]) := by show _ = _; rw [List.take_add_one, List.getElem?_eq_getElem hlk]; rfl
      have HLT : Hid ((bvs (l.take k)).length = k) := by show _ = _; rw [bvs_length, List.length_take]; omega
      generalize l[k] = x at *
      unfold bv at hc
      go_wp2_with (with_reducible refine wpList_at ⟨none, .store 5 _ _, _, _, _, _⟩ ?_; refine wpList_store_elem rfl _ _ _ rfl w2.heap.size k rfl _ _ hrow (.int .u8 (x.toNat : Int)) rfl rfl (by rw [List.length_append, HLT.out, List.length_replicate]; omega) (by kernel_rfl) ?_; intro w9 hrow9 hg9)
      have HR : Hid (Row w9 w2.heap.size 23 (bvs (l.take (k + 1)) ++ List.replicate (16 - (k + 1)) (.int .u8 0))) := by
        show Row _ _ _ _
        have e := set_fill (bvs (l.take k)) (.int .u8 0) (.int .u8 (x.toNat : Int)) (16 - k) (by omega)
        rw [HLT.out] at e
        rw [HT.out, bvs_append, show 16 - (k + 1) = 16 - k - 1 by omega]
        exact e ▸ hrow9
      have h1' := hrow1.kept hg9 (by simp; omega)
      have h2' := hrow2.kept hg9 (by simp; omega)
      have hb9 := below_kept hbel hg9 hbel.size (by rintro k hk; cases hk; omega)
      clear hrow9 hg9
      go_roundg (gk - 1)
      case measure => have := HK.out; omega
      case rel => exact ⟨k + 1, by have := HK.out; show _ = _; omega, by omega, by go_num, HR.out, h1', h2', hb9⟩
    · have HK16 : Hid (k = 16) := by show _ = _; omega
      have HSL : Hid ((l.take 16).length = 16) := by show _ = _; rw [List.length_take, HL.out]; rfl
      rw [HK16.out, Nat.sub_self, List.replicate_zero, List.append_nil] at hrow
      generalize l.take 16 = bs at *
      go_wp2_with (first
        | (with_reducible refine wpList_load_all (o := ⟨some 15, _, _, _, _, _⟩) rfl _ _ rfl w2.heap.size rfl _ _ hrow _ Tryd.underlying23 rfl (b16_size bs HSL.out) ?_)
        | (with_reducible refine wpList_store_all (o := ⟨none, _, _, _, _, _⟩) rfl _ _ _ rfl w1.heap.size rfl _ _ hrow2 _ rfl (bvs_one _) (b16_zeros bs HSL.out) (b16_size bs HSL.out) ?_; intro w9 hrow9 hg9))
      have hload := run_loadVar_at (P := Tryd.prog) w9 23 ⟨w1.heap.size, 0, none⟩ (bvs bs) hrow9.cells _ Tryd.underlying23 rfl (b16_size bs HSL.out)
      exact bodyPost_ret (results_cell1 Tryd.results39 _ _ _ _ rfl hload) rfl ⟨rfl, below_kept hbel hg9 hbel.size (by rintro k hk; cases hk; omega)⟩

theorem arrayAt16 (w : World) (ad : Addr) (c : Nat) : (Instr.arrayAt 23 (.slice (some ad) 16 c)).run Tryd.prog w = .ok (.pointer (some ad)) w := by kernel_rfl
set_option maxRecDepth 100000 in
set_option maxHeartbeats 1000000 in
theorem shorten_any (l : List UInt8) (hl : l.length = 32) (w : World) : Calls Tryd.prog 22 #[.agg (bvs l).toArray] w (GivesV (.agg (bvs (l.take 16)).toArray) w) := by
  have HL := Lib.hid hl
  clear hl
  have HSL : Hid ((l.take 16).length = 16) := by show _ = _; rw [List.length_take, HL.out]; rfl
  have harr := fun W => arrayAt16 W ⟨w.heap.size, 0, none⟩ 32
  go_enter Tryd.func22, Tryd.ntmps22
  go_wp2_with (first
    | (with_reducible refine wpList_box_row (o := ⟨some 1, _, _, _, _, _⟩) rfl _ _ rfl (bvs l) rfl ?_; intro w1 hrow1 hs1 hg1)
    | (with_reducible refine wpList_alloc_row (o := ⟨some 2, _, _, _, _, _⟩) rfl _ rfl zeros16 zero_b16 ?_; intro w2 hrow2 hs2 hg2; have hrow1' := hrow1.kept hg2 (by simp))
    | (with_reducible refine wpList_load_at (o := ⟨some 5, _, _, _, _, _⟩) rfl _ _ rfl ⟨w.heap.size, 0, none⟩ rfl (bvs (l.take 16)) (fun j u hu => hrow1'.cells j u (by unfold bvs at hu ⊢; rw [List.map_take, List.getElem?_take] at hu; split at hu; exact hu; cases hu)) _ Tryd.underlying23 rfl (b16_size _ HSL.out) ?_)
    | (with_reducible refine wpList_store_all (o := ⟨none, _, _, _, _, _⟩) rfl _ _ _ rfl w1.heap.size rfl _ _ hrow2 _ rfl (bvs_one _) (b16_zeros _ HSL.out) (b16_size _ HSL.out) ?_; intro w9 hrow9 hg9))
  have hload := run_loadVar_at (P := Tryd.prog) w9 23 ⟨w1.heap.size, 0, none⟩ (bvs (l.take 16)) hrow9.cells _ Tryd.underlying23 rfl (b16_size _ HSL.out)
  exact bodyPost_ret (results_cell1 Tryd.results22 _ _ _ _ rfl hload) rfl ⟨rfl, below_kept (below_kept (grown_below hg1 (Nat.le_refl _) (by simp)) hg2 (by omega) (by simp)) hg9 (by omega) (by rintro k hk; cases hk; omega)⟩
end Go.Proofs.YtdgflobdnkopbaaDoor

/-
  Slices of slices of bytes: how they read. No condition.
-/
namespace Go.Proofs.YtdgflobdnkopbaaDoor
open Go.RowKit

/-- One part: a slice of bytes and what it reads as. -/
structure Part where
  A : Option Addr
  n : Nat
  c : Nat
  l : List UInt8
def Part.v (p : Part) : Value := .slice p.A p.n p.c
def PartOK (w : World) (B : Nat) (p : Part) : Prop := Reads w B 1 p.A p.n (bvs p.l) ∧ p.n ≤ p.c
/-- A slice of slices reads as parts. -/
def ReadsP (w : World) (B : Nat) (A : Option Addr) (n : Nat) (ps : List Part) : Prop := Reads w B 1 A n (ps.map Part.v) ∧ ∀ p ∈ ps, PartOK w B p
section
variable {w w' : World} {B n : Nat} {A : Option Addr} {ps : List Part}
theorem ReadsP.len (h : ReadsP w B A n ps) : ps.length = n := by have := h.1.1; rw [List.length_map] at this; omega
theorem ReadsP.below (h : ReadsP w B A n ps) (hb : Below B w w') : ReadsP w' B A n ps := ⟨h.1.below hb, fun p hp => ⟨(h.2 p hp).1.below hb, (h.2 p hp).2⟩⟩
theorem ReadsP.more {B' : Nat} (h : ReadsP w B A n ps) (hB : B ≤ B') : ReadsP w B' A n ps := ⟨h.1.more hB, fun p hp => ⟨(h.2 p hp).1.more hB, (h.2 p hp).2⟩⟩
theorem ReadsP.on (h : ReadsP w w.heap.size A n ps) (hb : Below w.heap.size w w') : ReadsP w' w'.heap.size A n ps := (h.below hb).more hb.size
theorem ReadsP.at_ (h : ReadsP w B A n ps) {k : Nat} (hk : k < n) : ∃ ad p, A = some ad ∧ ad.block < B ∧ ps[k]? = some p ∧ w.cell? (ad.add k) = some (.slice p.A p.n p.c) ∧ Reads w B 1 p.A p.n (bvs p.l) ∧ p.n ≤ p.c := by
  obtain ⟨ad, u, hA, hb, hx, hc⟩ := h.1.at_ hk
  rw [List.getElem?_map, Option.map_eq_some_iff] at hx
  obtain ⟨p, hp, rfl⟩ := hx
  have := h.2 p (List.mem_of_getElem? hp)
  exact ⟨ad, p, hA, hb, hp, hc, this.1, this.2⟩
end
/-- The parts' bytes, one behind the other. -/
def allBytes (ps : List Part) : List UInt8 := ps.flatMap Part.l
theorem allBytes_succ (ps : List Part) (k : Nat) (p : Part) (h : ps[k]? = some p) : allBytes (ps.take (k + 1)) = allBytes (ps.take k) ++ p.l := by
  rw [List.take_add_one, h]
  unfold allBytes
  simp

theorem readsP_two (w : World) (t : TypeId) (A1 A2 : Option Addr) (n1 c1 n2 c2 : Nat) (l1 l2 : List UInt8) (h1 : Reads w w.heap.size 1 A1 n1 (bvs l1)) (hc1 : n1 ≤ c1) (h2 : Reads w w.heap.size 1 A2 n2 (bvs l2)) (hc2 : n2 ≤ c2) :
    ReadsP (w.alloc (.cells #[.slice A1 n1 c1, .slice A2 n2 c2] t)) (w.alloc (.cells #[.slice A1 n1 c1, .slice A2 n2 c2] t)).heap.size (some ⟨w.heap.size, 0, none⟩) 2 [⟨A1, n1, c1, l1⟩, ⟨A2, n2, c2, l2⟩] := by
  have hsz : (w.alloc (.cells #[.slice A1 n1 c1, .slice A2 n2 c2] t)).heap.size = w.heap.size + 1 := by simp
  refine ⟨⟨rfl, fun _ => ⟨_, rfl, by rw [hsz]; exact Nat.lt_succ_self _, (row_alloc w t [.slice A1 n1 c1, .slice A2 n2 c2]).cells⟩⟩, fun p hp => ?_⟩
  simp only [List.mem_cons, List.not_mem_nil, or_false] at hp
  rcases hp with rfl | rfl
  · exact ⟨(h1.alloc (Nat.le_refl _) _).more (by rw [hsz]; omega), hc1⟩
  · exact ⟨(h2.alloc (Nat.le_refl _) _).more (by rw [hsz]; omega), hc2⟩
theorem parts_two_le (p q : Part) (m : Nat) (hp : p.n ≤ m) (hq : q.n ≤ m) : ∀ r ∈ [p, q], r.n ≤ m := by
  intro r hr
  simp only [List.mem_cons, List.not_mem_nil, or_false] at hr
  rcases hr with rfl | rfl
  · exact hp
  · exact hq
theorem allBytes_two (p q : Part) : allBytes [p, q] = p.l ++ q.l := by simp [allBytes]
end Go.Proofs.YtdgflobdnkopbaaDoor

/-
  Encoded parts: their lengths, and what sha.appendParts returns: a contract by a walk. Condition: bounded lengths.
-/
namespace Go.Proofs.YtdgflobdnkopbaaDoor
open Go.RowKit

def epK (ps : List Part) (k : Nat) : List UInt8 := encParts ((ps.take k).map Part.l)
def epAll (ps : List Part) : List UInt8 := encParts (ps.map Part.l)
theorem epK_zero (ps : List Part) : epK ps 0 = [] := rfl
theorem epK_succ (ps : List Part) (k : Nat) (p : Part) (h : ps[k]? = some p) : epK ps (k + 1) = epK ps k ++ encBytes p.l := by
  unfold epK
  rw [List.take_add_one, h]
  unfold encParts
  simp
  rfl
theorem epK_all (ps : List Part) (n : Nat) (h : ps.length = n) : epK ps n = epAll ps := by
  unfold epK epAll
  rw [List.take_of_length_le (by omega)]
theorem encBytes_le (l : List UInt8) (m : Nat) (h : l.length ≤ m) (hm : m ≤ 100000000) : (encBytes l).length ≤ m + 10 := by
  have h10 : (encInt (l.length : Int)).length ≤ 10 := leb_le10 _ (zz_lt _ (by omega) (by omega))
  unfold encBytes
  rw [List.length_append]
  omega
theorem epK_len (ps : List Part) (hp : ∀ p ∈ ps, p.l.length ≤ 2000) : ∀ k, (epK ps k).length ≤ 2010 * k
  | 0 => by rw [epK_zero]; simp
  | k + 1 => by
    have ih := epK_len ps hp k
    cases h : ps[k]? with
    | none =>
      have : epK ps (k + 1) = epK ps k := by unfold epK; rw [List.take_add_one, h]; simp
      rw [this]; omega
    | some p =>
      rw [epK_succ ps k p h, List.length_append]
      have := encBytes_le p.l 2000 (hp p (List.mem_of_getElem? h)) (by omega)
      omega

set_option maxRecDepth 100000 in
set_option maxHeartbeats 2000000 in
theorem appendParts_any (base : Nat) (v : Value) (l : List UInt8) (A : Option Addr) (c : Nat) (ps : List Part) (n : Nat) (w : World) (hown : w.ownsRow base 5 1 v l.length (bvs l)) (hbase : base ≤ w.heap.size) (hl : l.length ≤ 1000)
    (hr : ReadsP w base A n ps) (hn : n ≤ 20) (hp : ∀ p ∈ ps, p.n ≤ 2000) :
    Calls Tryd.prog 21 #[v, .slice A n c] w fun e w' => ∃ v', e = .returned v' ∧ w'.ownsRow base 5 1 v' (l ++ epAll ps).length (bvs (l ++ epAll ps)) ∧ Below base w w' := by
  obtain ⟨i0, hi0, hz0, hz1, hz2⟩ := info_parts info_u8
  have HLN := Lib.hid hr.len
  have HPL : Hid (∀ p ∈ ps, p.l.length ≤ 2000) := by
    show ∀ p ∈ ps, p.l.length ≤ 2000
    intro p hpm
    have h1 := (hr.2 p hpm).1.bytes_len
    have h2 := hp p hpm
    omega
  have HLE := Lib.hid (epK_len ps HPL.out)
  have HPN := Lib.hid hp
  clear hp
  go_enter Tryd.func21, Tryd.ntmps21
  go_wp2_with fail
  go_loopg [0, 9] n (fun g s0 s9 wr => ∃ k : Nat, Hid (k + g = n) ∧ k ≤ n ∧ s9 = .int .i64 (k : Int) ∧ wr.ownsRow base 5 1 s0 (l ++ epK ps k).length (bvs (l ++ epK ps k)) ∧ Below base w wr)
  case atStart => exact ⟨0, by show _ = _; omega, by omega, rfl, by rw [epK_zero, List.append_nil]; exact hown, Below.refl _ _⟩
  case round =>
    obtain ⟨k, HK, hk, rfl, hownk, hbel⟩ := hrel
    have hlen : (l ++ epK ps k).length ≤ 45000 := by have := HLE.out k; rw [List.length_append]; omega
    have hsz := hbel.size
    by_cases hlt : k < n
    · obtain ⟨ad, p, rfl, _, hpk, hc, hrp, _⟩ := (hr.below hbel).at_ hlt
      have hpn := HPN.out p (List.mem_of_getElem? hpk)
      have HS : Hid (l ++ epK ps (k + 1) = (l ++ epK ps k) ++ encBytes p.l) := by show _ = _; rw [epK_succ ps k p hpk, List.append_assoc]
      have HEL := Lib.hid (encBytes_le p.l 2000 (HPL.out p (List.mem_of_getElem? hpk)) (by omega))
      have hpl := hrp.bytes_len
      have HPL2 := Lib.hid hpl
      clear hpk hpl
      generalize l ++ epK ps k = L at *
      go_wp2_with (refine wpList_valueW (o := ⟨some 15, _, _, _, _, _⟩) rfl _ (by exact exec_string_of _ _ _ _ _ rfl Tryd.underlying34 Tryd.underlying5 Tryd.underlying9 rfl hrp) ?_)
      refine (bytes_any ⟨p.l.toArray⟩ wr (by show p.l.toArray.size ≤ _; rw [List.size_toArray, HPL2.out]; omega)).mono ?_
      rintro e w1 ⟨v1, rfl, hown1, hb1⟩
      rw [show (ByteArray.mk p.l.toArray).data.toList = p.l from rfl] at hown1
      obtain ⟨A1, c1, rfl, hc1, _, hr1⟩ := own_form hown1
      have hownk1 := own_below hownk hb1
      have hb1' := hbel.trans (hb1.mono (Nat.le_trans hbase hsz))
      have hel := HEL.out
      generalize encBytes p.l = E at *
      clear hown1 hownk
      go_wp2_with (at_builtin; refine wpList_append_src _ rfl (.tmp 13) (.tmp 16) _ _ rfl base 5 i0 _ 1 1 Tryd.underlying34 hi0 hz0 hz1 hz2 rfl _ _ _ rfl hownk1 E.length _ (Src.ofReads _ Tryd.underlying34 hr1 (bvs_one _)) (by unfold maxLen; omega) (by omega) (Nat.le_trans hbase hb1'.size) ?_; intro v4 w4 hown4 hb4)
      go_roundg (gk - 1)
      case measure => have := HK.out; omega
      case rel =>
        refine ⟨k + 1, by have := HK.out; show _ = _; omega, by omega, by go_num, ?_, hb1'.trans hb4⟩
        rw [HS.out, bvs_append, List.length_append]
        exact hown4
    · have HKN : Hid (k = n) := by show _ = _; omega
      rw [HKN.out, epK_all ps n HLN.out] at hownk
      go_wp2_with fail
      go_ret
      exact ⟨_, rfl, hownk, hbel⟩
theorem epAll_len (ps : List Part) (hp : ∀ p ∈ ps, p.l.length ≤ 2000) : (epAll ps).length ≤ 2010 * ps.length := by
  rw [← epK_all ps ps.length rfl]
  exact epK_len ps hp ps.length
theorem parts_l {w : World} {B n : Nat} {A : Option Addr} {ps : List Part} (h : ReadsP w B A n ps) (hp : ∀ p ∈ ps, p.n ≤ 2000) : ∀ p ∈ ps, p.l.length ≤ 2000 := by
  intro p hpm
  have h1 := (h.2 p hpm).1.bytes_len
  have h2 := hp p hpm
  omega

end Go.Proofs.YtdgflobdnkopbaaDoor

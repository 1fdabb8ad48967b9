/-
  What wire.getList at int, and GetInts, return: contracts by walks.
-/
import Derived.Test.YtooiedomcdmefaaLists
namespace Go.Proofs.Ytooiedomcdmefaa
open Go.RowKit

theorem info_int : (Try.prog.info? 3).map (fun i => (i.zero, i.size, i.bytes)) = some (some (.int .i64 0), 1, 8) := by kernel_rfl

def getIntsGo : Nat → Nat → List UInt8 → List Int → List Int × Nat × Int
  | 0, at0, _, acc => (acc, at0, 0)
  | k + 1, at0, l, acc =>
    if (getInt (l.drop at0)).2.2 ≠ 0 then ([], 0, (getInt (l.drop at0)).2.2)
    else getIntsGo k (at0 + (getInt (l.drop at0)).2.1) l (acc ++ [(getInt (l.drop at0)).1])
def getInts (l : List UInt8) : List Int × Nat × Int :=
  if (getLen l 1).2.2 ≠ 0 then ([], 0, (getLen l 1).2.2) else getIntsGo (getLen l 1).1.toNat (getLen l 1).2.1 l []
/-- A new slice of integers and two integers come back; nothing that was there has changed. -/
def GivesI (r : List Int × Nat × Int) (w : World) (e : Ending) (w' : World) : Prop :=
  ∃ v, e = .returned (.tuple #[v, .int .i64 (r.2.1 : Int), .int .i64 r.2.2]) ∧ w'.ownsRow w.heap.size 3 1 v r.1.length (ivs r.1) ∧ Below w.heap.size w w'

set_option maxRecDepth 100000 in
set_option maxHeartbeats 2000000 in
theorem getListInt_any (pb : Addr) (A : Option Addr) (c : Nat) (l : List UInt8) (n : Nat) (w : World) (hp : w.cell? pb = some (.slice A n c)) (hl : Reads w w.heap.size 1 A n (bvs l)) (hn : n ≤ 1000000000) (hc : n ≤ c) :
    Calls Try.prog 38 #[.slice A n c, .int .i64 1, .func (.func 39) #[] #[.pointer (some pb)]] w (GivesI (getInts l) w) := by
  have HL := Lib.hid hl.bytes_len
  have hpb : pb.block < w.heap.size := World.block_lt_of_cell? w pb hp
  obtain ⟨i0, hi0, hz0, hz1, hz2⟩ := info_parts info_int
  have hok := getLen_ok l 1 (by omega)
  obtain ⟨m, u, e, hr⟩ : ∃ m u e, getLen l 1 = (m, u, e) := ⟨_, _, _, rfl⟩
  rw [hr] at hok
  have HR := Lib.hid hr
  have hcon := getLen_any A c l n 1 w _ hl (by omega) (by omega) (by omega)
  rw [hr] at hcon
  unfold Rets at hcon
  have HC := Lib.hid hcon
  clear hr hcon
  rcases hok with ⟨he, hm, hu0, hu10, hum⟩ | he | he
  · simp only at he hm hu0 hu10 hum
    subst he
    rw [HL.out] at hum
    obtain ⟨k, rfl⟩ := Int.eq_ofNat_of_zero_le hm
    rw [Int.toNat_natCast] at hum
    have HE : Hid (getInts l = getIntsGo k u l []) := by show _ = _; unfold getInts; rw [HR.out]; rfl
    go_enter Try.func38, Try.ntmps38
    go_wp2_with fail
    refine HC.out.mono ?_
    rintro e w1 ⟨rfl, rfl⟩
    go_wp2_with (refine wpList_make_own _ (o := ⟨some 27, _, _, _, _, _⟩) rfl _ _ _ rfl w.heap.size 3 i0 _ 1 Try.underlying22 hi0 hz0 hz1 .i64 .i64 (k : Int) k rfl rfl rfl (by rw [hz2]; omega) (by unfold maxLen; omega) (Nat.le_refl _) ?_; intro w2 hown2 hg2)
    have hbel0 : Below w.heap.size w w2 := (Below.refl _ _).grown hg2 (Nat.le_refl _) (by simp)
    have hk : k ≤ n := by omega
    go_loopg [10, 12, 29] k (fun g s10 s12 s29 wr => ∃ (j at0 : Nat) (acc : List Int), Hid (j + g = k) ∧ j ≤ k ∧ at0 ≤ n ∧ Hid (acc.length = j) ∧ s29 = .int .i64 j ∧ s10 = .int .i64 at0 ∧ wr.ownsRow w.heap.size 3 1 s12 acc.length (ivs acc) ∧ Below w.heap.size w wr ∧ Hid (getInts l = getIntsGo g at0 l acc))
    case atStart => exact ⟨0, u, [], by show _ = _; omega, by omega, by omega, rfl, rfl, rfl, hown2, hbel0, HE⟩
    case round =>
      obtain ⟨j, at0, acc, HJ, hj, hat, HA, rfl, rfl, hown, hbel, HG⟩ := hrel
      by_cases hlt : j < k
      · obtain ⟨g, rfl⟩ : ∃ g, gk = g + 1 := ⟨gk - 1, by have := HJ.out; omega⟩
        have hok := getInt_ok (l.drop at0)
        have hcon := getIntsElem_any pb A c l n at0 wr w.heap.size ((hbel.cell hpb).trans hp) (hl.below hbel) (by omega) hc hat
        obtain ⟨x, u2, e2, hr⟩ : ∃ x u2 e2, getInt (l.drop at0) = (x, u2, e2) := ⟨_, _, _, rfl⟩
        rw [hr] at hok hcon
        have HR2 := Lib.hid hr
        unfold Rets at hcon
        have HC2 := Lib.hid hcon
        clear hr hcon
        rcases hok with ⟨he, hx, hu0', hu1, hu2⟩ | he | he
        · simp only at he hx hu0' hu1 hu2
          subst he
          rw [List.length_drop, HL.out] at hu1
          have HE2 : Hid (getInts l = getIntsGo g (at0 + u2) l (acc ++ [x])) := by
            show _ = _
            rw [HG.out, getIntsGo, HR2.out]
            rfl
          have hal : acc.length ≤ n := by have := HA.out; omega
          have hbs := hbel.size
          go_wp2_with fail
          refine HC2.out.mono ?_
          rintro e w3 ⟨rfl, rfl⟩
          go_wp2_with (at_builtin; refine wpList_append_src _ rfl (.tmp 41) (.tmp 43) _ _ rfl w.heap.size 3 i0 _ 1 8 Try.underlying22 hi0 hz0 hz1 hz2 rfl _ _ _ rfl (hown.alloc _) 1 _ (Src.box Try.underlying22 _ _ _ rfl _) (by unfold maxLen; omega) (by omega) (by simp; omega) ?_; intro v2 w4 hown4 hbel4)
          go_roundg g
          case measure => omega
          case rel =>
            refine ⟨j + 1, at0 + u2, acc ++ [x], by have := HJ.out; show _ = _; omega, by omega, by omega, ?_, by go_num, by go_num, ?_, hbel.trans (((Below.refl _ _).alloc hbs _).trans hbel4), HE2⟩
            · show _ = _; rw [List.length_append, HA.out]; rfl
            · unfold ivs; rw [List.length_append, List.map_append]; exact hown4
        · injection he with h1 h2
          injection h2 with h2 h3
          subst h1 h2 h3
          have HE2 : Hid (getInts l = ([], 0, 6)) := by show _ = _; rw [HG.out, getIntsGo, HR2.out]; rfl
          go_wp2_with fail
          refine HC2.out.mono ?_
          rintro e w3 ⟨rfl, rfl⟩
          go_wp2_with fail
          go_ret3
          exact ⟨_, by rw [HE2.out]; rfl, by rw [HE2.out]; exact World.ownsRow_nil _ _ _ _, hbel⟩
        · injection he with h1 h2
          injection h2 with h2 h3
          subst h1 h2 h3
          have HE2 : Hid (getInts l = ([], 0, 7)) := by show _ = _; rw [HG.out, getIntsGo, HR2.out]; rfl
          go_wp2_with fail
          refine HC2.out.mono ?_
          rintro e w3 ⟨rfl, rfl⟩
          go_wp2_with fail
          go_ret3
          exact ⟨_, by rw [HE2.out]; rfl, by rw [HE2.out]; exact World.ownsRow_nil _ _ _ _, hbel⟩
      · obtain rfl : gk = 0 := by have := HJ.out; omega
        have hkj : k ≤ j := by omega
        have HE2 : Hid (getInts l = (acc, at0, 0)) := HG
        go_wp2_with fail
        go_ret3
        exact ⟨_, by rw [HE2.out]; rfl, by rw [HE2.out]; exact hown, hbel⟩
  · injection he with h1 h2
    injection h2 with h2 h3
    subst h1 h2 h3
    have HE : Hid (getInts l = ([], 0, 6)) := by show _ = _; unfold getInts; rw [HR.out]; rfl
    go_enter Try.func38, Try.ntmps38
    go_wp2_with fail
    refine HC.out.mono ?_
    rintro e w1 ⟨rfl, rfl⟩
    go_wp2_with fail
    go_ret3
    exact ⟨_, by rw [HE.out]; rfl, by rw [HE.out]; exact World.ownsRow_nil _ _ _ _, Below.refl _ _⟩
  · injection he with h1 h2
    injection h2 with h2 h3
    subst h1 h2 h3
    have HE : Hid (getInts l = ([], 0, 7)) := by show _ = _; unfold getInts; rw [HR.out]; rfl
    go_enter Try.func38, Try.ntmps38
    go_wp2_with fail
    refine HC.out.mono ?_
    rintro e w1 ⟨rfl, rfl⟩
    go_wp2_with fail
    go_ret3
    exact ⟨_, by rw [HE.out]; rfl, by rw [HE.out]; exact World.ownsRow_nil _ _ _ _, Below.refl _ _⟩

set_option maxRecDepth 100000 in
set_option maxHeartbeats 1000000 in
theorem getInts_any (A : Option Addr) (c : Nat) (l : List UInt8) (n : Nat) (w : World) (hl : Reads w w.heap.size 1 A n (bvs l)) (hn : n ≤ 1000000000) (hc : n ≤ c) :
    Calls Try.prog 25 #[.slice A n c] w (GivesI (getInts l) w) := by
  have hw : ((w.alloc (.cells #[.slice A n c] 26)).cell? ⟨w.heap.size, 0, none⟩ = some (.slice A n c)) := by simp
  have hl1 : Reads (w.alloc (.cells #[.slice A n c] 26)) (w.alloc (.cells #[.slice A n c] 26)).heap.size 1 A n (bvs l) := (hl.alloc (Nat.le_refl _) _).more (by simp)
  have hcon := Lib.hid (getListInt_any ⟨w.heap.size, 0, none⟩ A c l n _ hw hl1 hn hc)
  clear hw hl1
  go_enter Try.func25, Try.ntmps25
  go_wp2_with fail
  refine hcon.out.mono ?_
  rintro e w1 ⟨v, rfl, hown, hbel⟩
  go_wp2_with fail
  go_ret3
  exact ⟨v, rfl, own_base hown (by simp), ((Below.refl _ _).alloc (Nat.le_refl _) _).trans (hbel.mono (by simp))⟩
end Go.Proofs.Ytooiedomcdmefaa

/-
  What the reference's GetInts returns: contracts by walks.
-/
import Derived.Test.YtooiedomcdmefaaRefLists
namespace Go.Proofs.Ytooiedomcdmefaa
open Go.RowKit

set_option maxRecDepth 100000 in
set_option maxHeartbeats 4000000 in
theorem refGetInts_any (A : Option Addr) (c : Nat) (l : List UInt8) (n : Nat) (w : World) (hl : Reads w w.heap.size 1 A n (bvs l)) (hn : n ≤ 1000000000) (hc : n ≤ c) :
    Calls Try.prog 26 #[.slice A n c] w (GivesI (getInts l) w) := by
  have HL := Lib.hid hl.bytes_len
  obtain ⟨i0, hi0, hz0, hz1, hz2⟩ := info_parts info_int
  have hok := getLen_ok l 1 (by omega)
  obtain ⟨m, u, e, hr⟩ : ∃ m u e, getLen l 1 = (m, u, e) := ⟨_, _, _, rfl⟩
  rw [hr] at hok
  have HR := Lib.hid hr
  have hcon := refCount_any A c l n 1 w hl hn hc (by omega) (by omega)
  rw [hr] at hcon
  unfold RetsB at hcon
  have HC := Lib.hid hcon
  clear hr hcon
  rcases hok with ⟨he, hm, hu0, hu10, hum⟩ | he | he
  · simp only at he hm hu0 hu10 hum
    subst he
    rw [HL.out] at hum
    obtain ⟨k, rfl⟩ := Int.eq_ofNat_of_zero_le hm
    rw [Int.toNat_natCast] at hum
    have HE : Hid (getInts l = getIntsGo k u l []) := by show _ = _; unfold getInts; rw [HR.out]; rfl
    go_enter Try.func26, Try.ntmps26
    go_wp2_with fail
    refine HC.out.mono ?_
    rintro e w1 ⟨rfl, hb1⟩
    go_wp2_with fail
    have hk : k ≤ n := by omega
    go_loopg [6, 8, 9] k (fun g s6 s8 s9 wr => ∃ (j at0 : Nat) (acc : List Int), Hid (j + g = k) ∧ j ≤ k ∧ at0 ≤ n ∧ Hid (acc.length = j) ∧ s9 = .int .i64 j ∧ s6 = .int .i64 at0 ∧ wr.ownsRow w.heap.size 3 1 s8 acc.length (ivs acc) ∧ Below w.heap.size w wr ∧ Hid (getInts l = getIntsGo g at0 l acc))
    case atStart => exact ⟨0, u, [], by show _ = _; omega, by omega, by omega, rfl, rfl, rfl, World.ownsRow_nil _ _ _ _, hb1, HE⟩
    case round =>
      obtain ⟨j, at0, acc, HJ, hj, hat, HA, rfl, rfl, hown, hbel, HG⟩ := hrel
      by_cases hlt : j < k
      · obtain ⟨g, rfl⟩ : ∃ g, gk = g + 1 := ⟨gk - 1, by have := HJ.out; omega⟩
        have hok := getInt_ok (l.drop at0)
        have hbs := hbel.size
        have hcut := ((hl.below hbel).more hbs).cut (k := at0) (cap := c) hat hc
        have ed : (bvs l).drop (at0 * 1) = bvs (l.drop at0) := by unfold bvs; rw [Nat.mul_one, List.map_drop]
        rw [ed, Nat.mul_one] at hcut
        clear ed
        obtain ⟨x, u2, e2, hr⟩ : ∃ x u2 e2, getInt (l.drop at0) = (x, u2, e2) := ⟨_, _, _, rfl⟩
        have hcon : ∀ A' c', Reads wr wr.heap.size 1 A' (n - at0) (bvs (l.drop at0)) → n - at0 ≤ c' → Calls Try.prog 22 #[.slice A' (n - at0) c'] wr fun e w' => e = .returned (.tuple #[.int .i64 x, .int .i64 (u2 : Int), .int .i64 e2]) ∧ Below wr.heap.size wr w' := by
          intro A' c' h1 h2
          have := refGetInt_any A' c' (l.drop at0) (n - at0) wr h1 (by omega) h2
          rw [hr] at this
          exact this
        rw [hr] at hok
        have HR2 := Lib.hid hr
        have HC2 := Lib.hid hcon
        clear hr hcon
        rcases hok with ⟨he, hx, hu0', hu1, hu2⟩ | he | he
        · simp only at he hx hu0' hu1 hu2
          subst he
          rw [List.length_drop, HL.out] at hu1
          have HE2 : Hid (getInts l = getIntsGo g (at0 + u2) l (acc ++ [x])) := by
            show _ = _
            rw [HG.out, getIntsGo, HR2.out]
            rfl
          have hal : acc.length ≤ n := by have := HA.out; omega
          have hcu : ¬ c = at0 := by omega
          rw [if_neg hcu] at hcut
          go_wp2_with fail
          refine (HC2.out _ _ hcut (by omega)).mono ?_
          rintro e w3 ⟨rfl, hb3⟩
          have hbs3 := hb3.size
          have hown3 := own_below hown hb3
          have hbel3 : Below w.heap.size w w3 := hbel.trans (hb3.mono hbs)
          go_wp2_with (at_builtin; refine wpList_append_src _ rfl (.tmp 38) (.tmp 40) _ _ rfl w.heap.size 3 i0 _ 1 8 Try.underlying22 hi0 hz0 hz1 hz2 rfl _ _ _ rfl (hown3.alloc _) 1 _ (Src.box Try.underlying22 _ _ _ rfl _) (by unfold maxLen; omega) (by omega) (by simp; omega) ?_; intro v2 w4 hown4 hbel4)
          go_roundg g
          case measure => omega
          case rel =>
            refine ⟨j + 1, at0 + u2, acc ++ [x], by have := HJ.out; show _ = _; omega, by omega, by omega, ?_, by go_num, by go_num, ?_, hbel3.trans (((Below.refl _ _).alloc (Nat.le_trans hbs hbs3) _).trans hbel4), HE2⟩
            · show _ = _; rw [List.length_append, HA.out]; rfl
            · unfold ivs; rw [List.length_append, List.map_append]; exact hown4
        · injection he with h1 h2
          injection h2 with h2 h3
          subst h1 h2 h3
          have HE2 : Hid (getInts l = ([], 0, 6)) := by show _ = _; rw [HG.out, getIntsGo, HR2.out]; rfl
          by_cases hcu : c = at0
          · rw [if_pos hcu, show n - at0 = 0 from by omega] at hcut
            rw [show n - at0 = 0 from by omega] at HC2
            subst hcu
            go_wp2_with fail
            refine (HC2.out _ _ hcut (by omega)).mono ?_
            rintro e w3 ⟨rfl, hb3⟩
            go_wp2_with fail
            go_ret3
            exact ⟨_, by rw [HE2.out]; rfl, by rw [HE2.out]; exact World.ownsRow_nil _ _ _ _, hbel.trans (hb3.mono hbs)⟩
          · rw [if_neg hcu] at hcut
            go_wp2_with fail
            refine (HC2.out _ _ hcut (by omega)).mono ?_
            rintro e w3 ⟨rfl, hb3⟩
            go_wp2_with fail
            go_ret3
            exact ⟨_, by rw [HE2.out]; rfl, by rw [HE2.out]; exact World.ownsRow_nil _ _ _ _, hbel.trans (hb3.mono hbs)⟩
        · injection he with h1 h2
          injection h2 with h2 h3
          subst h1 h2 h3
          have HE2 : Hid (getInts l = ([], 0, 7)) := by show _ = _; rw [HG.out, getIntsGo, HR2.out]; rfl
          by_cases hcu : c = at0
          · rw [if_pos hcu, show n - at0 = 0 from by omega] at hcut
            rw [show n - at0 = 0 from by omega] at HC2
            subst hcu
            go_wp2_with fail
            refine (HC2.out _ _ hcut (by omega)).mono ?_
            rintro e w3 ⟨rfl, hb3⟩
            go_wp2_with fail
            go_ret3
            exact ⟨_, by rw [HE2.out]; rfl, by rw [HE2.out]; exact World.ownsRow_nil _ _ _ _, hbel.trans (hb3.mono hbs)⟩
          · rw [if_neg hcu] at hcut
            go_wp2_with fail
            refine (HC2.out _ _ hcut (by omega)).mono ?_
            rintro e w3 ⟨rfl, hb3⟩
            go_wp2_with fail
            go_ret3
            exact ⟨_, by rw [HE2.out]; rfl, by rw [HE2.out]; exact World.ownsRow_nil _ _ _ _, hbel.trans (hb3.mono hbs)⟩
      · obtain rfl : gk = 0 := by have := HJ.out; omega
        have hkj : k ≤ j := by omega
        have HE2 : Hid (getInts l = (acc, at0, 0)) := HG
        go_wp2_with fail
        go_ret3
        exact ⟨_, by rw [HE2.out]; rfl, by rw [HE2.out]; exact hown, hbel⟩
  · injection he with h1 h2
    injection h2 with h2 h3
    subst h1 h2 h3
    have HE : Hid (getInts l = ([], 0, 6)) := by show _ = _; unfold getInts; rw [HR.out]; rfl
    go_enter Try.func26, Try.ntmps26
    go_wp2_with fail
    refine HC.out.mono ?_
    rintro e w1 ⟨rfl, hb1⟩
    go_wp2_with fail
    go_ret3
    exact ⟨_, by rw [HE.out]; rfl, by rw [HE.out]; exact World.ownsRow_nil _ _ _ _, hb1⟩
  · injection he with h1 h2
    injection h2 with h2 h3
    subst h1 h2 h3
    have HE : Hid (getInts l = ([], 0, 7)) := by show _ = _; unfold getInts; rw [HR.out]; rfl
    go_enter Try.func26, Try.ntmps26
    go_wp2_with fail
    refine HC.out.mono ?_
    rintro e w1 ⟨rfl, hb1⟩
    go_wp2_with fail
    go_ret3
    exact ⟨_, by rw [HE.out]; rfl, by rw [HE.out]; exact World.ownsRow_nil _ _ _ _, hb1⟩
end Go.Proofs.Ytooiedomcdmefaa

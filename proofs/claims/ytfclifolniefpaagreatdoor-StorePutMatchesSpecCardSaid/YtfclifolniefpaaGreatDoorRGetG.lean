/-
  What the reference's length and GetInt return: contracts by walks.
-/
import Derived.Test.YtfclifolniefpaaGreatDoorEncG
import Derived.Test.YtfclifolniefpaaGreatDoorGetG
namespace Go.Proofs.YtfclifolniefpaaGreatDoor
open Go.RowKit

def refLenGo : Nat → List UInt8 → Nat
  | _, [] => 0
  | k, c :: t => if 10 ≤ k then 0 else if c.toNat < 128 then k + 1 else refLenGo (k + 1) t
theorem refLenGo_groups (c : UInt8) (rest : List UInt8) (hc : c.toNat < 128) : ∀ (p : List UInt8) (i : Nat), (∀ y ∈ p, 128 ≤ y.toNat) → i + p.length ≤ 9 → refLenGo i (p ++ c :: rest) = i + p.length + 1
  | [], i, _, h => by rw [List.nil_append, refLenGo, if_neg (by simp at h; omega), if_pos hc]; rfl
  | y :: p, i, hp, h => by
    have hy := hp y (by simp)
    rw [List.length_cons] at h
    rw [List.cons_append, refLenGo, if_neg (by omega), if_neg (by omega), refLenGo_groups c rest hc p (i + 1) (fun z hz => hp z (by simp [hz])) (by omega), List.length_cons]
    omega
theorem refLenGo_none : ∀ (l : List UInt8) (i : Nat), (∀ y ∈ l.take (10 - i), 128 ≤ y.toNat) → i ≤ 10 → refLenGo i l = 0
  | [], _, _, _ => rfl
  | y :: l, i, h, hi => by
    rw [refLenGo]
    by_cases h10 : 10 ≤ i
    · rw [if_pos h10]
    · have e : 10 - i = (10 - (i + 1)) + 1 := by omega
      rw [e, List.take_succ_cons] at h
      rw [if_neg h10, if_neg (by have := h y (by simp); omega), refLenGo_none l (i + 1) (fun z hz => h z (List.mem_cons_of_mem _ hz)) (by omega)]
set_option maxRecDepth 100000 in
set_option maxHeartbeats 1000000 in
theorem refLen_any (A : Option Addr) (c : Nat) (l : List UInt8) (n : Nat) (w : World) (C : Nat) (hl : Reads w C 1 A n (bvs l)) (hn : n ≤ 1000000000000) :
    Calls Tryz.prog 90 #[.slice A n c] w fun e w' => e = .returned (.int .i64 (refLenGo 0 l : Nat)) ∧ w = w' := by
  have HL := Lib.hid hl.bytes_len
  go_enter Tryz.func90, Tryz.ntmps90
  go_wp2_with fail
  go_loopg [3] n (fun g i wr => ∃ j : Nat, Hid (j + g = n) ∧ j ≤ n ∧ j ≤ 10 ∧ i = .int .i64 j ∧ w = wr ∧ Hid (refLenGo 0 l = refLenGo j (l.drop j)))
  case atStart => exact ⟨0, by show _ = _; omega, by omega, by omega, rfl, rfl, rfl⟩
  case round =>
    obtain ⟨j, HJ, hj, hj10, rfl, rfl, HG⟩ := hrel
    by_cases hlt : j < n
    · obtain ⟨ad, b, rfl, _, hb, hcb⟩ := hl.byte_at hlt
      have HD := Lib.hid (drop_cons hb)
      clear hb
      by_cases h10 : j < 10
      · by_cases hc : b.toNat < 128
        · have HE : Hid (refLenGo 0 l = j + 1) := by show _ = _; rw [HG.out, HD.out, refLenGo, if_neg (by omega), if_pos hc]
          go_wp2_with fail
          go_ret
          exact ⟨by rw [HE.out]; rfl, rfl⟩
        · have HE : Hid (refLenGo 0 l = refLenGo (j + 1) (l.drop (j + 1))) := by show _ = _; rw [HG.out, HD.out, refLenGo, if_neg (by omega), if_neg hc]
          go_wp2_with fail
          go_roundg (gk - 1)
          case measure => have := HJ.out; omega
          case rel => exact ⟨j + 1, by have := HJ.out; show _ = _; omega, by omega, by omega, by go_num, rfl, HE⟩
      · have HE : Hid (refLenGo 0 l = 0) := by show _ = _; rw [HG.out, HD.out, refLenGo, if_pos (by omega)]
        go_wp2_with fail
        go_ret
        exact ⟨by rw [HE.out]; rfl, rfl⟩
    · have hjn : n ≤ j := by omega
      have HE : Hid (refLenGo 0 l = 0) := by show _ = _; rw [HG.out, List.drop_of_length_le (by rw [HL.out]; omega)]; rfl
      go_wp2_with fail
      go_ret
      exact ⟨by rw [HE.out]; rfl, rfl⟩
/-- One group more, from the last to the first. -/
theorem ref_group (x b : Nat) :
    IntKind.u64.wrap (IntKind.u64.wrap (128 * (x : Int)) + (b : Int) % 128) = (((b % 128 + 128 * x) % 18446744073709551616 : Nat) : Int) := by
  rw [IntKind.wrap_u64, IntKind.wrap_u64]
  omega
theorem val_mod (c : UInt8) (t : List UInt8) : val (c :: t) % 18446744073709551616 = (c.toNat % 128 + 128 * (val t % 18446744073709551616)) % 18446744073709551616 := by
  rw [val]; omega
set_option maxRecDepth 100000 in
set_option maxHeartbeats 16000000 in
theorem refGetInt_any (A : Option Addr) (c : Nat) (l : List UInt8) (n : Nat) (w : World) (hl : Reads w w.heap.size 1 A n (bvs l)) (hn : n ≤ 1000000000) (hc : n ≤ c) :
    Calls Tryz.prog 77 #[.slice A n c] w fun e w' => e = .returned (.tuple #[.int .i64 (getInt l).1, .int .i64 ((getInt l).2.1 : Int), .int .i64 (getInt l).2.2]) ∧ Below w.heap.size w w' := by
  have HL := Lib.hid hl.bytes_len
  have hcon := refLen_any A c l n w _ hl (by omega)
  rcases getInt_cases l with ⟨p, b, rest, h1, h2, h3, h4, h5⟩ | ⟨h1, h2, h3⟩ | ⟨h1, h2, h3⟩
  · have hrl : refLenGo 0 l = p.length + 1 := by rw [h1, refLenGo_groups b rest h3 p 0 h2 (by omega)]; omega
    obtain ⟨k, hk⟩ : ∃ k, k = p.length + 1 := ⟨_, rfl⟩
    rw [hrl, ← hk] at hcon
    have hkn : k ≤ n := by rw [← HL.out, h1, hk]; simp
    have hk10 : k ≤ 10 := by omega
    have hk1 : 1 ≤ k := by omega
    have hk0 : ((k : Int) == 0) = false := by simp; omega
    have hq : l.take k = p ++ [b] := by rw [h1, hk, show p ++ b :: rest = (p ++ [b]) ++ rest from by simp]; exact List.take_left' (by simp)
    rw [← hq, ← hk] at h5
    have HC := Lib.hid hcon
    have H5 := Lib.hid h5
    clear hcon h5 hq hrl hk h4 h3 h2 h1
    go_enter Tryz.func77, Tryz.ntmps77
    go_wp2_with fail
    refine HC.out.mono ?_
    rintro e w1 ⟨rfl, rfl⟩
    go_wp2_with fail
    go_loopg [6, 7] k (fun g u i wr => ∃ x : Nat, g ≤ k ∧ i = .int .i64 ((g : Int) - 1) ∧ u = .int .u64 x ∧ Hid (x < 18446744073709551616) ∧ w = wr ∧ Hid (x = val ((l.take k).drop g) % 18446744073709551616))
    case atStart => exact ⟨0, by omega, by go_num, rfl, by show _ < _; omega, rfl, by show _ = _; rw [List.drop_of_length_le (by rw [List.length_take]; omega)]; rfl⟩
    case round =>
      obtain ⟨x, hgk, rfl, rfl, HX, rfl, HV⟩ := hrel
      by_cases hg0 : gk = 0
      · have hx64 : x ≤ 18446744073709551615 := by have := HX.out; omega
        have hxv : x = val (l.take k) % 18446744073709551616 := by rw [HV.out, hg0]; rfl
        have hmb := unzz_bd x (by omega)
        have hsub := hl.take hkn
        have e2 : (bvs l).take (k * 1) = bvs (l.take k) := by unfold bvs; rw [Nat.mul_one, List.map_take]
        rw [e2] at hsub
        have hH := H5.out
        rw [← hxv] at hH
        have HH := Lib.hid hH
        clear e2 hH hxv
        by_cases h2 : x % 2 = 0
        · skip
          have ht : ((x : Int) % 2 == 1) = false := by simp; omega
          obtain ⟨m, hm⟩ : ∃ m, m = unzz x := ⟨_, rfl⟩
          have hme : (x : Int) / 2 = m := by rw [hm]; exact (unzz_even x h2).symm
          rw [← hm] at hmb
          have HM := Lib.hid hm
          have hml : (encInt m).length ≤ 4611686018427387903 := by have := leb_le10 (zz m) (zz_lt m hmb.1 hmb.2); unfold encInt; omega
          have hzz : encInt m = leb x := by unfold encInt; rw [hm, zz_unzz]
          rw [← hzz, ← hm] at HH
          clear hm h2 hzz
          by_cases heq : encInt m = l.take k
          · have hb : (encInt m == l.take k) = true := by simp [heq]
            have HE : Hid (getInt l = (m, k, 0)) := by show _ = _; rw [HH.out, if_pos heq]
            clear heq
            go_wp2_with fail
            go_region_with (first
              | (go_at_call 63; refine (refInt_any m _ hmb.1 hmb.2).mono ?_; rintro e w2 ⟨v2, rfl, hown2, hbel2⟩; obtain ⟨A2, c2, rfl, _, _, hr2⟩ := own_form hown2)
              | (go_at_call 79; refine (sameL_any _ _ _ _ _ _ _ _ _ _ _ hr2 ((Reads.drew hsub).below hbel2) hml (by omega)).mono ?_; rintro e w3 ⟨rfl, q, rfl⟩))
            all_goals
              go_wp2_with fail
              go_ret3
              refine ⟨by rw [HE.out]; rfl, ?_⟩
              exact below_drewN (((Below.refl _ _).drew).trans hbel2) _
          · have hb : (encInt m == l.take k) = false := by simp [heq]
            have HE : Hid (getInt l = (0, 0, 7)) := by show _ = _; rw [HH.out, if_neg heq]
            clear heq
            go_wp2_with fail
            go_region_with (first
              | (go_at_call 63; refine (refInt_any m _ hmb.1 hmb.2).mono ?_; rintro e w2 ⟨v2, rfl, hown2, hbel2⟩; obtain ⟨A2, c2, rfl, _, _, hr2⟩ := own_form hown2)
              | (go_at_call 79; refine (sameL_any _ _ _ _ _ _ _ _ _ _ _ hr2 ((Reads.drew hsub).below hbel2) hml (by omega)).mono ?_; rintro e w3 ⟨rfl, q, rfl⟩))
            all_goals
              go_wp2_with fail
              go_ret3
              refine ⟨by rw [HE.out]; rfl, ?_⟩
              exact below_drewN (((Below.refl _ _).drew).trans hbel2) _
        · skip
          have ht : ((x : Int) % 2 == 1) = true := by simp; omega
          obtain ⟨m, hm⟩ : ∃ m, m = unzz x := ⟨_, rfl⟩
          have hme : -((x : Int) / 2) - 1 = m := by rw [hm]; exact (unzz_odd x h2).symm
          rw [← hm] at hmb
          have HM := Lib.hid hm
          have hml : (encInt m).length ≤ 4611686018427387903 := by have := leb_le10 (zz m) (zz_lt m hmb.1 hmb.2); unfold encInt; omega
          have hzz : encInt m = leb x := by unfold encInt; rw [hm, zz_unzz]
          rw [← hzz, ← hm] at HH
          clear hm h2 hzz
          by_cases heq : encInt m = l.take k
          · have hb : (encInt m == l.take k) = true := by simp [heq]
            have HE : Hid (getInt l = (m, k, 0)) := by show _ = _; rw [HH.out, if_pos heq]
            clear heq
            go_wp2_with fail
            go_region_with (first
              | (go_at_call 63; refine (refInt_any m _ hmb.1 hmb.2).mono ?_; rintro e w2 ⟨v2, rfl, hown2, hbel2⟩; obtain ⟨A2, c2, rfl, _, _, hr2⟩ := own_form hown2)
              | (go_at_call 79; refine (sameL_any _ _ _ _ _ _ _ _ _ _ _ hr2 ((Reads.drew hsub).below hbel2) hml (by omega)).mono ?_; rintro e w3 ⟨rfl, q, rfl⟩))
            all_goals
              go_wp2_with fail
              go_ret3
              refine ⟨by rw [HE.out]; rfl, ?_⟩
              exact below_drewN (((Below.refl _ _).drew).trans hbel2) _
          · have hb : (encInt m == l.take k) = false := by simp [heq]
            have HE : Hid (getInt l = (0, 0, 7)) := by show _ = _; rw [HH.out, if_neg heq]
            clear heq
            go_wp2_with fail
            go_region_with (first
              | (go_at_call 63; refine (refInt_any m _ hmb.1 hmb.2).mono ?_; rintro e w2 ⟨v2, rfl, hown2, hbel2⟩; obtain ⟨A2, c2, rfl, _, _, hr2⟩ := own_form hown2)
              | (go_at_call 79; refine (sameL_any _ _ _ _ _ _ _ _ _ _ _ hr2 ((Reads.drew hsub).below hbel2) hml (by omega)).mono ?_; rintro e w3 ⟨rfl, q, rfl⟩))
            all_goals
              go_wp2_with fail
              go_ret3
              refine ⟨by rw [HE.out]; rfl, ?_⟩
              exact below_drewN (((Below.refl _ _).drew).trans hbel2) _
      · obtain ⟨g, rfl⟩ : ∃ g, gk = g + 1 := ⟨gk - 1, by omega⟩
        have hgn : g < n := by omega
        obtain ⟨ad, b2, hA, _, hb2, hcb⟩ := hl.byte_at hgn
        subst hA
        have hbb := UInt8.toNat_lt b2
        have hd : (l.take k).drop g = b2 :: (l.take k).drop (g + 1) := drop_cons (by rw [List.getElem?_take_of_lt (by omega)]; exact hb2)
        have hgr := ref_group x b2.toNat
        obtain ⟨y, hy⟩ : ∃ y : Nat, y = (b2.toNat % 128 + 128 * x) % 18446744073709551616 := ⟨_, rfl⟩
        rw [← hy] at hgr
        have HY : Hid (y < 18446744073709551616) := by show _ < _; rw [hy]; exact Nat.mod_lt _ (by decide)
        have HV2 : Hid (y = val ((l.take k).drop g) % 18446744073709551616) := by show _ = _; rw [hd, val_mod, ← HV.out, hy]
        clear hb2 hd hy
        go_wp2_with fail
        go_roundg g
        case measure => omega
        case rel => exact ⟨y, by omega, rfl, rfl, HY, rfl, HV2⟩
  · have hrl : refLenGo 0 l = 0 := refLenGo_none l 0 (by rw [List.take_of_length_le (by omega)]; exact h1) (by omega)
    rw [hrl] at hcon
    have HC := Lib.hid hcon
    have hn10 : n < 10 := by have := HL.out; omega
    have HE := Lib.hid h3
    clear hcon hrl h1 h2 h3
    go_enter Tryz.func77, Tryz.ntmps77
    go_wp2_with fail
    refine HC.out.mono ?_
    rintro e w1 ⟨rfl, rfl⟩
    go_wp2_with fail
    go_ret3
    exact ⟨by rw [HE.out]; rfl, Below.refl _ _⟩
  · have hrl : refLenGo 0 l = 0 := refLenGo_none l 0 h1 (by omega)
    rw [hrl] at hcon
    have HC := Lib.hid hcon
    have hn10 : 10 ≤ n := by have := HL.out; omega
    have HE := Lib.hid h3
    clear hcon hrl h1 h2 h3
    go_enter Tryz.func77, Tryz.ntmps77
    go_wp2_with fail
    refine HC.out.mono ?_
    rintro e w1 ⟨rfl, rfl⟩
    go_wp2_with fail
    refine wp_loop_rounds 1 ?_
    rw [rounds_succ]
    go_wp2_with fail
    go_quiet (fail)
    go_wp2_with fail
    go_ret3
    exact ⟨by rw [HE.out]; rfl, below_drewN (Below.refl _ _) _⟩
end Go.Proofs.YtfclifolniefpaaGreatDoor

/-
  What the reference's count and GetBytes return: contracts by walks.
-/
namespace Go.Proofs.YtfclifolniefpaaGreatDoor
open Go.RowKit

/-- Three integers come back; nothing that was there has changed. -/
def RetsB (r : Int × Nat × Int) (w : World) (e : Ending) (w' : World) : Prop := e = .returned (.tuple #[.int .i64 r.1, .int .i64 (r.2.1 : Int), .int .i64 r.2.2]) ∧ Below w.heap.size w w'
set_option maxRecDepth 100000 in
set_option maxHeartbeats 1000000 in
theorem refCount_any (A : Option Addr) (c : Nat) (l : List UInt8) (n z : Nat) (w : World) (hl : Reads w w.heap.size 1 A n (bvs l)) (hn : n ≤ 1000000000) (hc : n ≤ c) (hz : 0 < z) (hz2 : z ≤ 1000) :
    Calls Tryz.prog 91 #[.slice A n c, .int .i64 (z : Int)] w (RetsB (getLen l z) w) := by
  have HL := Lib.hid hl.bytes_len
  have hok := getInt_ok l
  obtain ⟨m, u, e, hr⟩ : ∃ m u e, getInt l = (m, u, e) := ⟨_, _, _, rfl⟩
  rw [hr] at hok
  have HR := Lib.hid hr
  have hcon := refGetInt_any A c l n w hl hn hc
  rw [hr] at hcon
  have HC := Lib.hid hcon
  clear hr hcon
  rcases hok with ⟨he, hm, hu0, hul, hu10⟩ | he | he
  · simp only at he hm hu0 hul hu10
    subst he
    rw [HL.out] at hul
    obtain ⟨hm1, hm2⟩ := hm
    by_cases h1 : m < 0
    · have HE : Hid (getLen l z = (0, 0, 7)) := by show _ = _; unfold getLen; rw [HR.out]; simp [h1]
      go_enter Tryz.func91, Tryz.ntmps91
      go_wp2_with fail
      refine HC.out.mono ?_
      rintro e w1 ⟨rfl, hb1⟩
      go_wp2_with fail
      go_ret3
      exact ⟨by rw [HE.out]; rfl, hb1⟩
    · obtain ⟨k, rfl⟩ := Int.eq_ofNat_of_zero_le (show 0 ≤ m by omega)
      by_cases hbig : n < k
      · have HE : Hid (getLen l z = (0, 0, 6)) := by
          show _ = _
          unfold getLen
          rw [HR.out, HL.out]
          rw [if_neg (by simp), if_neg h1, if_pos]
          have := Nat.div_le_self (n - u) z
          show (((n - u) / z : Nat) : Int) < (k : Int)
          omega
        go_enter Tryz.func91, Tryz.ntmps91
        go_wp2_with fail
        refine HC.out.mono ?_
        rintro e w1 ⟨rfl, hb1⟩
        go_wp2_with fail
        go_ret3
        exact ⟨by rw [HE.out]; rfl, hb1⟩
      · obtain ⟨q, hq⟩ : ∃ q : Nat, q = k * z := ⟨_, rfl⟩
        have hq1 : (k : Int) * (z : Int) = (q : Int) := by rw [hq]; push_cast; rfl
        have hqb : q ≤ 1000000000 * 1000 := by rw [hq]; exact Nat.mul_le_mul (by omega) hz2
        have hiff : (((n - u) / z : Nat) : Int) < (k : Int) ↔ n - u < q := by
          rw [hq]
          have := Nat.div_lt_iff_lt_mul hz (x := n - u) (y := k)
          omega
        have HI := Lib.hid hiff
        clear hiff hq
        by_cases h2 : n - u < q
        · have HE : Hid (getLen l z = (0, 0, 6)) := by
            show _ = _
            unfold getLen
            rw [HR.out, HL.out]
            rw [if_neg (by simp), if_neg h1, if_pos (HI.out.2 h2)]
          go_enter Tryz.func91, Tryz.ntmps91
          go_wp2_with fail
          refine HC.out.mono ?_
          rintro e w1 ⟨rfl, hb1⟩
          go_wp2_with fail
          go_ret3
          exact ⟨by rw [HE.out]; rfl, hb1⟩
        · have HE : Hid (getLen l z = ((k : Int), u, 0)) := by
            show _ = _
            unfold getLen
            rw [HR.out, HL.out]
            rw [if_neg (by simp), if_neg h1, if_neg (fun h => h2 (HI.out.1 h))]
          go_enter Tryz.func91, Tryz.ntmps91
          go_wp2_with fail
          refine HC.out.mono ?_
          rintro e w1 ⟨rfl, hb1⟩
          go_wp2_with fail
          go_ret3
          exact ⟨by rw [HE.out]; rfl, hb1⟩
  all_goals
    injection he with h1 h2
    injection h2 with h2 h3
    subst h1 h2 h3
  · have HE : Hid (getLen l z = (0, 0, 6)) := by show _ = _; unfold getLen; rw [HR.out]; rfl
    go_enter Tryz.func91, Tryz.ntmps91
    go_wp2_with fail
    refine HC.out.mono ?_
    rintro e w1 ⟨rfl, hb1⟩
    go_wp2_with fail
    go_ret3
    exact ⟨by rw [HE.out]; rfl, hb1⟩
  · have HE : Hid (getLen l z = (0, 0, 7)) := by show _ = _; unfold getLen; rw [HR.out]; rfl
    go_enter Tryz.func91, Tryz.ntmps91
    go_wp2_with fail
    refine HC.out.mono ?_
    rintro e w1 ⟨rfl, hb1⟩
    go_wp2_with fail
    go_ret3
    exact ⟨by rw [HE.out]; rfl, hb1⟩
/-- A string and two integers come back; nothing that was there has changed. -/
def RetsSB (r : List UInt8 × Nat × Int) (w : World) (e : Ending) (w' : World) : Prop := e = .returned (.tuple #[.string ⟨r.1.toArray⟩, .int .i64 (r.2.1 : Int), .int .i64 r.2.2]) ∧ Below w.heap.size w w'
set_option maxRecDepth 100000 in
set_option maxHeartbeats 1000000 in
theorem refGetBytes_any (A : Option Addr) (c : Nat) (l : List UInt8) (n : Nat) (w : World) (hl : Reads w w.heap.size 1 A n (bvs l)) (hn : n ≤ 1000000000) (hc : n ≤ c) :
    Calls Tryz.prog 78 #[.slice A n c] w (RetsSB (getBytes l) w) := by
  have HL := Lib.hid hl.bytes_len
  have hok := getLen_ok l 1 (by omega)
  obtain ⟨m, u, e, hr⟩ : ∃ m u e, getLen l 1 = (m, u, e) := ⟨_, _, _, rfl⟩
  rw [hr] at hok
  have HR := Lib.hid hr
  have hcon := refCount_any A c l n 1 w hl hn hc (by omega) (by omega)
  rw [hr] at hcon
  unfold RetsB at hcon
  have HC := Lib.hid hcon
  clear hr hcon
  rcases hok with ⟨he, hm, hu0, hu10, hum⟩ | he | he
  · simp only at he hm hu0 hu10 hum
    subst he
    rw [HL.out] at hum
    obtain ⟨k, rfl⟩ := Int.eq_ofNat_of_zero_le hm
    rw [Int.toNat_natCast] at hum
    have hsub := hl.sub (u := u) (m := k) (c := c) (by omega) hc
    have HE : Hid (getBytes l = ((l.drop u).take k, u + k, 0)) := by show _ = _; unfold getBytes; rw [HR.out]; rfl
    rw [Nat.mul_one] at hsub
    by_cases hcu : c = u
    · rw [if_pos hcu] at hsub
      subst hcu
      have hsub2 : Reads w w.heap.size 1 A (c + k - c) (bvs ((l.drop c).take k)) := by rw [Nat.add_sub_cancel_left]; exact hsub
      go_enter Tryz.func78, Tryz.ntmps78
      go_wp2_with fail
      refine HC.out.mono ?_
      rintro e w1 ⟨rfl, hb1⟩
      have hsub3 := hsub2.below hb1
      go_wp2_with (refine wpList_valueW (o := ⟨some 23, _, _, _, _, _⟩) rfl _ (by exact exec_string_of _ _ _ _ _ rfl Tryz.underlying76 Tryz.underlying5 Tryz.underlying9 rfl hsub3) ?_)
      go_ret3
      exact ⟨by rw [HE.out]; rfl, hb1⟩
    · rw [if_neg hcu] at hsub
      have hsub2 : Reads w w.heap.size 1 (A.map (·.add u)) (u + k - u) (bvs ((l.drop u).take k)) := by rw [Nat.add_sub_cancel_left]; exact hsub
      go_enter Tryz.func78, Tryz.ntmps78
      go_wp2_with fail
      refine HC.out.mono ?_
      rintro e w1 ⟨rfl, hb1⟩
      have hsub3 := hsub2.below hb1
      go_wp2_with (refine wpList_valueW (o := ⟨some 23, _, _, _, _, _⟩) rfl _ (by exact exec_string_of _ _ _ _ _ rfl Tryz.underlying76 Tryz.underlying5 Tryz.underlying9 rfl hsub3) ?_)
      go_ret3
      exact ⟨by rw [HE.out]; rfl, hb1⟩
  · injection he with h1 h2
    injection h2 with h2 h3
    subst h1 h2 h3
    have HE : Hid (getBytes l = ([], 0, 6)) := by show _ = _; unfold getBytes; rw [HR.out]; rfl
    go_enter Tryz.func78, Tryz.ntmps78
    go_wp2_with fail
    refine HC.out.mono ?_
    rintro e w1 ⟨rfl, hb1⟩
    go_wp2_with fail
    go_ret3
    exact ⟨by rw [HE.out]; rfl, hb1⟩
  · injection he with h1 h2
    injection h2 with h2 h3
    subst h1 h2 h3
    have HE : Hid (getBytes l = ([], 0, 7)) := by show _ = _; unfold getBytes; rw [HR.out]; rfl
    go_enter Tryz.func78, Tryz.ntmps78
    go_wp2_with fail
    refine HC.out.mono ?_
    rintro e w1 ⟨rfl, hb1⟩
    go_wp2_with fail
    go_ret3
    exact ⟨by rw [HE.out]; rfl, hb1⟩
end Go.Proofs.YtfclifolniefpaaGreatDoor

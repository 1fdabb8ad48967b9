/-
  WireCanonical: if an integer, a string, a list of integers or a list of digests is decoded, the consumed bytes are its encoding. For every input; no condition.
-/
import Derived.Test.YtooiedomcdmefaaRows
import Derived.Test.YtooiedomcdmefaaSanity
import Derived.Test.YtooiedomcdmefaaArgs
import Derived.Test.YtooiedomcdmefaaLens
import Derived.Test.YtooiedomcdmefaaBds
import Derived.Test.YtooiedomcdmefaaArgD
namespace Go.Proofs.Ytooiedomcdmefaa.lawCan
open Go.ChangeShapes Go.WideShapes Go.ChangeAt Go.RowKit
open Go.ChangeMaps (open_string shut_string)
open Go.Proofs.Ytooiedomcdmefaa

theorem own : ownKnob Try.prog.godebug = none := by kernel_rfl
theorem laidOut : laidOutB Try.prog = true := by kernel_rfl

set_option maxRecDepth 100000 in
set_option maxHeartbeats 4000000 in
/-- The law's own closure: no error means that the bytes are the input's first ones. -/
theorem is_any (pb : Addr) (A B : Option Addr) (n c m d u : Nat) (e : Int) (l k : List UInt8) (w : World) (C D : Nat) (hp : w.cell? pb = some (.slice A n c)) (hl : Reads w C 1 A n (bvs l)) (hk : Reads w D 1 B m (bvs k)) (_hn2 : n ≤ 2000) (hc : n ≤ c) (hm : m ≤ 4611686018427387903)
    (h : e ≠ 0 ∨ (e = 0 ∧ 0 < u ∧ u ≤ n ∧ k = l.take u)) (hu : u ≤ 4611686018427387903) :
    Calls Try.prog 31 #[.slice B m d, .int .i64 (u : Int), .int .i64 e, .pointer (some pb)] w (Tells true w) := by
  rcases h with he | ⟨rfl, hu0, hun, hkl⟩
  · have hb : (e != 0) = true := by simp [he]
    clear he
    go_enter Try.func31, Try.ntmps31
    go_wp2_with fail
    go_ret
    exact ⟨rfl, 0, rfl⟩
  · have hsub := hl.take hun
    have e2 : (bvs l).take (u * 1) = bvs (l.take u) := by unfold bvs; rw [Nat.mul_one, List.map_take]
    rw [e2, ← hkl] at hsub
    clear e2 hkl
    go_enter Try.func31, Try.ntmps31
    go_wp2_with fail
    refine (same_any _ _ _ _ k k _ _ _ _ _ hk hsub hm (by omega)).mono ?_
    rw [beq_self_eq_true]
    rintro e w1 ⟨rfl, q1, rfl⟩
    go_wp2_with fail
    go_ret
    exact ⟨rfl, q1, rfl⟩

set_option maxRecDepth 100000 in
set_option maxHeartbeats 8000000 in
theorem walk (A : Option Addr) (n c : Nat) (l : List UInt8) (w : World) (hl : Reads w w.heap.size 1 A n (bvs l)) (hn : n ≤ 140737488351232) (hc : n ≤ c) :
    Calls Try.prog 6 #[.slice A n c] w fun e w' => e = .returned (.bool true) ∧ Below w.heap.size w w' := by
  by_cases hs : 2000 < n
  · clear hl
    go_enter Try.func6, Try.ntmps6
    go_wp2_with fail
    refine (sanity_any _).mono ?_
    rintro e w1 ⟨rfl, hb1⟩
    go_wp2_with fail
    go_ret
    exact ⟨rfl, ((Below.refl _ _).alloc (Nat.le_refl _) _).trans (hb1.mono (by simp))⟩
  · have hln := hl.bytes_len
    obtain ⟨W, hW⟩ : ∃ W, W = w.alloc (.cells #[.slice A n c] 26) := ⟨_, rfl⟩
    have hz : W.heap.size = w.heap.size + 1 := by rw [hW]; simp
    have hp : W.cell? ⟨w.heap.size, 0, none⟩ = some (.slice A n c) := by rw [hW]; simp
    have hlW : Reads W W.heap.size 1 A n (bvs l) := by rw [hW]; exact (hl.alloc (Nat.le_refl _) _).more (by simp)
    have hbW : Below w.heap.size w W := by rw [hW]; exact (Below.refl _ _).alloc (Nat.le_refl _) _
    have hI := getInts_bd l
    have hD := getDigs_bd l
    have hB := getBytes_bd l
    have hN : I64 (getInt l).1 := getInt_bd l
    have q1 := Lib.hid (getInt_cons l)
    have q2 := Lib.hid (getBytes_cons l)
    have q3 := Lib.hid (getInts_cons l)
    have q4 := Lib.hid (getDigs_cons l)
    have c1 : Hid (∀ w', Below W.heap.size W w' → Calls Try.prog 21 #[.slice A n c] w' (Rets (getInt l) w')) := fun w' hb => getInt_any A c l n w' _ (hlW.below hb) (by omega)
    have c3 : Hid (∀ w', Below W.heap.size W w' → Calls Try.prog 23 #[.slice A n c] w' (RetsS (getBytes l) w')) := fun w' hb => getBytes_any A c l n w' _ (hlW.below hb) (by omega) hc
    have c5 : Hid (∀ w', Below W.heap.size W w' → Calls Try.prog 25 #[.slice A n c] w' (GivesI (getInts l) w')) := fun w' hb => getInts_any A c l n w' ((hlW.below hb).more hb.size) (by omega) hc
    have c7 : Hid (∀ w', Below W.heap.size W w' → Calls Try.prog 28 #[.slice A n c] w' (GivesD (getDigs l) w')) := fun w' hb => getDigests_any A c l n w' ((hlW.below hb).more hb.size) (by omega) hc
    unfold Rets at c1
    unfold RetsS at c3
    unfold GivesI at c5
    unfold GivesD at c7
    generalize getInt l = r1 at *
    generalize getBytes l = r2 at *
    generalize getInts l = r3 at *
    generalize getDigs l = r4 at *
    obtain ⟨m, u1, e1⟩ := r1
    obtain ⟨s, u2, e2⟩ := r2
    obtain ⟨li, u3, e3⟩ := r3
    obtain ⟨ds, u4, e4⟩ := r4
    obtain ⟨hI1, hI2⟩ := hI
    obtain ⟨hD1, hD2⟩ := hD
    simp only at c1 c3 c5 c7 hI1 hI2 hD1 hD2 hB hN q1 q2 q3 q4
    have hi : li.length ≤ 2000 := by omega
    have hd : ds.length ≤ 2000 := by omega
    have hsl : s.length ≤ 2000 := by omega
    have k1 : (encInt m).length ≤ 4611686018427387903 := by have := encInt_len m hN; omega
    have k2 : (encBytes s).length ≤ 4611686018427387903 := by have := encBytes_len s (by omega); omega
    have k3 : (encInts li).length ≤ 4611686018427387903 := by have := encInts_len li hI2 (by omega); omega
    have k4 : (encDigs ds).length ≤ 4611686018427387903 := by have := encDigs_len ds hD2 (by omega); omega
    have u1b : u1 ≤ 4611686018427387903 := by have := q1.out.2; omega
    have u2b : u2 ≤ 4611686018427387903 := by have := q2.out.2; omega
    have u3b : u3 ≤ 4611686018427387903 := by have := q3.out.2; omega
    have u4b : u4 ≤ 4611686018427387903 := by have := q4.out.2; omega
    have LN := Lib.hid hln
    have I2 := Lib.hid hI2
    have D16' := Lib.hid hD2
    have HP := Lib.hid hp
    have HZ := Lib.hid hz
    have HW := Lib.hid hW
    have hzs : w.heap.size < W.heap.size := by omega
    clear hI1 hI2 hD1 hD2 hln hl hB hp hz hW
    go_enter Try.func6, Try.ntmps6
    go_wp2_with fail
    rw [← HW.out]
    have hc0 := Below.refl W.heap.size W
    have hp0 := HP.out
    refine (c1.out W hc0).mono ?_
    rintro e w1 ⟨rfl, rfl⟩
    go_wp2_with fail
    refine (c3.out W hc0).mono ?_
    rintro e w2 ⟨rfl, rfl⟩
    go_wp2_with fail
    refine (c5.out W hc0).mono ?_
    rintro e w3 ⟨v3, rfl, hown3, hc3⟩
    obtain ⟨A3, d3, rfl, _, _, hr3⟩ := own_form hown3
    clear hown3 hp0 c1 c3 c5
    have hp3 : w3.cell? ⟨w.heap.size, 0, none⟩ = some (.slice A n c) := (hc3.cell hzs).trans HP.out
    go_wp2_with fail
    refine (c7.out w3 hc3).mono ?_
    rintro e w4 ⟨v4, rfl, hown4, hb4⟩
    obtain ⟨A4, d4, rfl, _, _, hr4⟩ := own_form hown4
    have hc4 := hc3.trans (hb4.mono hc3.size)
    have hr3 := (hr3.below hb4).more hb4.size
    clear hown4 hp3 c7 hb4
    go_wp2_with fail
    refine (sanity_any _).mono ?_
    rintro e w5 ⟨rfl, hb5⟩
    have hc5 := hc4.trans (hb5.mono hc4.size)
    have hr3 := hr3.on hb5
    have hr4 := hr4.on hb5
    clear hb5
    go_wp2_with fail
    refine (int_any m _ hN.1 hN.2).mono ?_
    rintro e w6 ⟨v6, rfl, hown6, hb6⟩
    obtain ⟨A6, d6, rfl, _, _, hr6⟩ := own_form hown6
    have hc6 := hc5.trans (hb6.mono hc5.size)
    have hr3 := hr3.on hb6
    have hr4 := hr4.on hb6
    clear hown6 hb6
    have hp6 : w6.cell? ⟨w.heap.size, 0, none⟩ = some (.slice A n c) := (hc6.cell hzs).trans HP.out
    go_wp2_with fail
    refine (is_any _ _ _ _ _ _ _ _ _ l (encInt m) _ _ _ hp6 (hlW.below hc6) hr6 (by omega) hc k1 (by have := q1.out.1; rw [LN.out] at this; exact this) u1b).mono ?_
    rintro e w7 ⟨rfl, q7, hw7⟩
    have hc7 : Below W.heap.size W w7 := by rw [hw7]; exact below_drewN _ hc6
    have hr3 := hr3.drew_on hw7
    have hr4 := hr4.drew_on hw7
    clear hw7 hp6 hr6
    go_wp2_with fail
    refine (bytes_any ⟨s.toArray⟩ _ (by have e : (⟨s.toArray⟩ : ByteArray).size = s.length := by simp [ByteArray.size]
                                        omega)).mono ?_
    rintro e w8 ⟨v8, rfl, hown8, hb8⟩
    obtain ⟨A8, d8, rfl, _, _, hr8⟩ := own_form hown8
    rw [show (⟨s.toArray⟩ : ByteArray).data.toList = s from by simp] at hr8
    have hc8 := hc7.trans (hb8.mono hc7.size)
    have hr3 := hr3.on hb8
    have hr4 := hr4.on hb8
    clear hown8 hb8
    have hp8 : w8.cell? ⟨w.heap.size, 0, none⟩ = some (.slice A n c) := (hc8.cell hzs).trans HP.out
    rw [show (⟨s.toArray⟩ : ByteArray).data.toList = s from by simp]
    go_wp2_with fail
    refine (is_any _ _ _ _ _ _ _ _ _ l (encBytes s) _ _ _ hp8 (hlW.below hc8) hr8 (by omega) hc k2 (by have := q2.out.1; rw [LN.out] at this; exact this) u2b).mono ?_
    rintro e w9 ⟨rfl, q9, hw9⟩
    have hc9 : Below W.heap.size W w9 := by rw [hw9]; exact below_drewN _ hc8
    have hr3 := hr3.drew_on hw9
    have hr4 := hr4.drew_on hw9
    clear hw9 hp8 hr8
    go_wp2_with fail
    refine (ints_any _ _ li _ rfl _ I2.out hr3 (by omega)).mono ?_
    rintro e w10 ⟨v10, rfl, hown10, hb10⟩
    obtain ⟨A10, d10, rfl, _, _, hr10⟩ := own_form hown10
    have hc10 := hc9.trans (hb10.mono hc9.size)
    have hr4 := hr4.on hb10
    clear hown10 hb10 hr3
    have hp10 : w10.cell? ⟨w.heap.size, 0, none⟩ = some (.slice A n c) := (hc10.cell hzs).trans HP.out
    go_wp2_with fail
    refine (is_any _ _ _ _ _ _ _ _ _ l (encInts li) _ _ _ hp10 (hlW.below hc10) hr10 (by omega) hc k3 (by have := q3.out.1; rw [LN.out] at this; exact this) u3b).mono ?_
    rintro e w11 ⟨rfl, q11, hw11⟩
    have hc11 : Below W.heap.size W w11 := by rw [hw11]; exact below_drewN _ hc10
    have hr4 := hr4.drew_on hw11
    clear hw11 hp10 hr10
    go_wp2_with fail
    refine (digests_any _ _ ds _ rfl _ D16'.out hr4 (by omega)).mono ?_
    rintro e w12 ⟨v12, rfl, hown12, hb12⟩
    obtain ⟨A12, d12, rfl, _, _, hr12⟩ := own_form hown12
    have hc12 := hc11.trans (hb12.mono hc11.size)
    clear hown12 hb12 hr4
    have hp12 : w12.cell? ⟨w.heap.size, 0, none⟩ = some (.slice A n c) := (hc12.cell hzs).trans HP.out
    go_wp2_with fail
    refine (is_any _ _ _ _ _ _ _ _ _ l (encDigs ds) _ _ _ hp12 (hlW.below hc12) hr12 (by omega) hc k4 (by have := q4.out.1; rw [LN.out] at this; exact this) u4b).mono ?_
    rintro e w13 ⟨rfl, q13, hw13⟩
    have hc13 : Below W.heap.size W w13 := by rw [hw13]; exact below_drewN _ hc12
    clear hw13 hp12 hr12
    go_wp2_with fail
    go_ret
    exact ⟨rfl, hbW.trans (hc13.mono hbW.size)⟩

set_option maxRecDepth 100000 in
theorem lifted (os : Os) (started : os.Started) (H : Type) (enc : TypeId × Value → H) :
    ReturnsInHanded {} Try.checked os 6 .any (Rows.wireCanonicalSpec.pre6 enc Try.prog Try.f6 Rows.wireCanonicalRow.domain false) (Rows.wireCanonicalSpec.post enc Try.prog Try.f6 false true false false) := by
  refine returnsInHanded_of_change_sized (C := Try.checked) own started (by kernel_rfl) Try.func6
    (ChangeSpec.witness6 (enc := enc) (C := Try.checked) false ⟨#[], #[.slice none 0 0], []⟩ 8 (by kernel_rfl) (by kernel_rfl) (by kernel_rfl) (by kernel_rfl)) ?_
  intro W base args ds gs before hval0 hW hcnd hsz0 _
  have hval : ∀ (j : Nat) t v, Try.f6.params[j]? = some t → args[j]? = some v → Value.okWide Try.prog W .any base t v := hval0
  have hsz : (DataW.weightsEach Try.prog (Try.f6.params.toList ++ Rows.wireCanonicalSpec.plain.varTypes Try.prog) (ds ++ gs)).all (· ≤ reachBytes) = true := hsz0
  have hW' := hW
  obtain ⟨p, q, hA0, hV, rfl, hfz, hnd⟩ := hW
  have hA : DataW.TrodAll enc Try.prog W 0 (fun _ => true) true Try.f6.params.toList args.toList ds p := hA0
  rw [Try.params6] at hA hval hsz
  obtain ⟨v0, vs0, d0, ds0, p0, q0, hargs, rfl, rfl, h0, r0⟩ := trodAll_cons hA
  obtain ⟨rfl, rfl, rfl⟩ := trodAll_nil r0
  obtain rfl : args = #[v0] := by cases args; simp_all
  obtain ⟨rfl, rfl⟩ := trodVars_none hV
  have k0 := h0
  have lt0 : ∀ x ∈ p0, x.block < W.heap.size := by obtain ⟨m, hm⟩ := k0; exact DataW.trod_lt m _ _ _ hm
  obtain ⟨A0, n0, c0, l0, rfl, nc0, nb0, hr0⟩ := arg_bytes Try.underlying26 Try.underlying5 (by kernel_rfl) (by kernel_rfl) (hval 0 26 v0 rfl rfl) h0 (fun elems spare hd => sized_slice hsz (j := 0) (t := 26) (e := 5) rfl (congrArg some hd) Try.underlying26)
  clear hA0 hval0
  refine (walk A0 n0 c0 l0 W hr0 nb0 nc0).mono fun e W' ⟨he, bel⟩ => ?_
  subst he
  exact ⟨_, rfl, _, _, _, [], _, [], hW', trodAll_mk1 (shut_bool Try.underlying4 _), (trodAll_cons_mk (Below.trod laidOut (by kernel_rfl) (of_decide_eq_true (by kernel_rfl)) k0 bel lt0) trodAll_mk0), rfl, bel.frame _, fun h => by cases h⟩

theorem over : Rows.wireCanonicalRow.holds Try.pinned (OpenSpec.ofChange Rows.wireCanonicalSpec) :=
  OpenClaim.holds_of_wide 6 Try.f6 rfl rfl rfl rfl rfl rfl rfl ⟨rfl, rfl, rfl, rfl, rfl⟩ rfl rfl rfl rfl rfl (by kernel_rfl) Try.func6 (by kernel_rfl)
    (of_decide_eq_true (by kernel_rfl)) (by unfold Func.isWrapper; first | (rw [if_pos (by decide +kernel)]; kernel_rfl) | (rw [if_neg (by decide +kernel)]; exact ⟨rfl, rfl⟩))
    (fun os started H enc _ => lifted os started H enc)

/-- The statement. -/
theorem proved : Rows.WireCanonicalSaid := over
end Go.Proofs.Ytooiedomcdmefaa.lawCan

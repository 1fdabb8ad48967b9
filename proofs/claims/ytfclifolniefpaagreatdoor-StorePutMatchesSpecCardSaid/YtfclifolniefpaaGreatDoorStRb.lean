/-
  What the reference's Decode returns: a contract by walks. Condition: bounded lengths.
-/
import Derived.Test.YtfclifolniefpaaGreatDoorStRa
import Derived.Test.YtfclifolniefpaaGreatDoorRGetG
import Derived.Test.YtfclifolniefpaaGreatDoorStCE
set_option linter.unusedSimpArgs false
set_option linter.unusedVariables false
namespace Go.Proofs.YtfclifolniefpaaGreatDoor
open Go.RowKit

/-- A number and a content come back. -/
def TellsD (p : Int × List UInt8) (w : World) (e : Ending) (w' : World) : Prop := e = .returned (.tuple #[.int .i64 p.1, .string (mk p.2)]) ∧ Below w.heap.size w w'
theorem stDec_ref {rec : Int} {b : List UInt8} {n : Int} {u : Nat} {c : List UInt8} {z : Nat} (hg : getInt b = (n, u, 0)) (h1 : 1 ≤ n) (h2 : n ≤ 1099511627776) (hb : getBytes (b.drop u) = (c, z, 0)) (hc : c.length ≤ 2000) :
    stDec rec b = if (stEnc rec n c).length ≤ b.length ∧ b.take (stEnc rec n c).length = stEnc rec n c then (n, c) else (0, []) := by
  have hd := prefix_dec (l := b) (k := stEnc rec n c)
  unfold stDec
  rw [hg]
  simp only
  rw [hb]
  simp only
  rw [if_neg (by omega), if_neg (by omega)]
  rw [← Bool.decide_and] at hd
  by_cases h : stEnc rec n c <+: b
  · rw [if_pos h, if_pos]
    rw [decide_eq_true h] at hd
    exact of_decide_eq_true hd.symm
  · rw [if_neg h, if_neg]
    rw [decide_eq_false h] at hd
    exact of_decide_eq_false hd.symm
set_option maxRecDepth 100000 in
set_option maxHeartbeats 4000000 in
theorem rdecode_any (rec : Int) (A : Option Addr) (n c : Nat) (l : List UInt8) (w : World) (hin : stIn rec = true) (hr : Reads w w.heap.size 1 A n (bvs l)) (hc : n ≤ c) (hn : n ≤ 1000000) :
    Calls Tryz.prog 59 #[.int .i64 rec, .slice A n c] w (TellsD (stDec rec l) w) := by
  obtain ⟨m, u, x, hmx⟩ : ∃ m u x, getInt l = (m, u, x) := ⟨_, _, _, rfl⟩
  have hok := getInt_ok l
  have HG := fun W hW => Lib.hid (refGetInt_any A c l n W hW (by omega) hc)
  rw [hmx] at hok
  rw [hmx] at HG
  have HMX := Lib.hid hmx
  generalize hR : stDec rec l = R at *
  have HR := Lib.hid hR
  clear hR hmx
  simp only at hok HG
  have HLL := Lib.hid hr.bytes_len
  unfold TellsD
  by_cases hx : x = 0
  rotate_left
  · have HE : Hid (R = (0, [])) := Lib.hid (by rw [← HR.out]; exact stDec_err (.inl (by rw [HMX.out]; exact hx)))
    have q1 : (x != 0) = true := by simpa using hx
    clear hok hx
    go_enter Tryz.func59, Tryz.ntmps59
    go_wp2_with fail
    refine ((HG _ hr).out).mono ?_
    rintro e w1 ⟨rfl, h1⟩
    have B1 : Below w.heap.size w w1 := h1
    have l_1 := hr.on h1
    go_wp2_with fail
    go_ret2
    exact ⟨by rw [HE.out]; rfl, B1⟩
  subst hx
  have hok2 : I64 m ∧ 0 < u ∧ u ≤ l.length ∧ u ≤ 10 := by rcases hok with h | h | h; exact h.2; (injection h with _ h; injection h with _ h; cases h); (injection h with _ h; injection h with _ h; cases h)
  obtain ⟨hm, hu0, hul, hu10⟩ := hok2
  rw [HLL.out] at hul
  obtain ⟨hm1, hm2⟩ := hm
  clear hok
  by_cases hA : m < 1
  · have HE : Hid (R = (0, [])) := Lib.hid (by rw [← HR.out]; exact stDec_err (.inr (.inl (by rw [HMX.out]; exact hA))))
    go_enter Tryz.func59, Tryz.ntmps59
    go_wp2_with fail
    refine ((HG _ hr).out).mono ?_
    rintro e w2 ⟨rfl, h2⟩
    have B2 : Below w.heap.size w w2 := h2
    have l_2 := hr.on h2
    go_wp2_with fail
    go_ret2
    exact ⟨by rw [HE.out]; rfl, B2⟩
  by_cases hB : 1099511627776 < m
  · have HE : Hid (R = (0, [])) := Lib.hid (by rw [← HR.out]; exact stDec_err (.inr (.inr (by rw [HMX.out]; exact hB))))
    go_enter Tryz.func59, Tryz.ntmps59
    go_wp2_with fail
    refine ((HG _ hr).out).mono ?_
    rintro e w3 ⟨rfl, h3⟩
    have B3 : Below w.heap.size w w3 := h3
    have l_3 := hr.on h3
    go_wp2_with fail
    go_ret2
    exact ⟨by rw [HE.out]; rfl, B3⟩
  by_cases hcu : c = u
  · obtain rfl : n = u := by omega
    subst hcu
    have HGE := fun W => Lib.hid (refGetBytes_any A 0 [] 0 W Reads.nil_ (by omega) (Nat.le_refl _))
    have hge : getBytes [] = ([], 0, 6) := by decide +kernel
    rw [hge] at HGE
    unfold RetsSB at HGE
    simp only at HGE
    have HE : Hid (R = (0, [])) := Lib.hid (by rw [← HR.out]; exact stDec_err2 (.inl (by rw [HMX.out]; simp only; rw [List.drop_of_length_le (by rw [HLL.out]; exact Nat.le_refl _), hge]; decide)))
    clear hge hu10 hn hul
    go_enter Tryz.func59, Tryz.ntmps59
    go_wp2_with fail
    refine ((HG _ hr).out).mono ?_
    rintro e w4 ⟨rfl, h4⟩
    have B4 : Below w.heap.size w w4 := h4
    have l_4 := hr.on h4
    go_wp2_with fail
    refine ((HGE _).out).mono ?_
    rintro e w5 ⟨rfl, h5⟩
    have B5 := B4.trans (h5.mono B4.size)
    have l_5 := l_4.on h5
    clear l_4
    go_wp2_with fail
    go_ret2
    exact ⟨by rw [HE.out]; rfl, B5⟩
  obtain ⟨cs, z, y, hcz⟩ : ∃ cs z y, getBytes (l.drop u) = (cs, z, y) := ⟨_, _, _, rfl⟩
  have hsub := hr.sub (u := u) (m := n - u) (c := c) (by omega) hc
  have hdl : ((l.drop u).take (n - u)) = l.drop u := List.take_of_length_le (by rw [List.length_drop, HLL.out]; exact Nat.le_refl _)
  rw [hdl] at hsub
  rw [if_neg hcu, Nat.mul_one] at hsub
  have HGB := fun W (hW : Below w.heap.size w W) => Lib.hid (refGetBytes_any (A.map (·.add u)) (c - u) (l.drop u) (n - u) W (hsub.on hW) (by omega) (by omega))
  rw [hcz] at HGB
  unfold RetsSB at HGB
  simp only at HGB
  obtain ⟨S, hS⟩ : ∃ S : ByteArray, S = ⟨cs.toArray⟩ := ⟨_, rfl⟩
  rw [← hS] at HGB
  have hSz : S.size = cs.length := by rw [hS]; simp [ByteArray.size]
  have HSM : Hid (S = mk cs) := Lib.hid hS
  have HST : Hid (tl S = cs) := Lib.hid (by rw [hS]; exact tl_mk cs)
  have HCZ := Lib.hid hcz
  clear hdl hS hcz hsub
  have hu2 : (n : Int) - (u : Int) = ((n - u : Nat) : Int) := by omega
  by_cases hy : y = 0
  rotate_left
  · have HE : Hid (R = (0, [])) := Lib.hid (by rw [← HR.out]; exact stDec_err2 (.inl (by rw [HMX.out]; simp only; rw [HCZ.out]; exact hy)))
    have q2 : (y != 0) = true := by simpa using hy
    clear hy
    go_enter Tryz.func59, Tryz.ntmps59
    go_wp2_with fail
    refine ((HG _ hr).out).mono ?_
    rintro e w6 ⟨rfl, h6⟩
    have B6 : Below w.heap.size w w6 := h6
    have l_6 := hr.on h6
    go_wp2_with fail
    refine ((HGB _ B6).out).mono ?_
    rintro e w7 ⟨rfl, h7⟩
    have B7 := B6.trans (h7.mono B6.size)
    have l_7 := l_6.on h7
    clear l_6
    go_wp2_with fail
    go_ret2
    exact ⟨by rw [HE.out]; rfl, B7⟩
  subst hy
  by_cases hbig : 2000 < S.size
  · have HE : Hid (R = (0, [])) := Lib.hid (by rw [← HR.out]; exact stDec_err2 (.inr (by rw [HMX.out]; simp only; rw [HCZ.out]; simp only; rw [← hSz]; exact hbig)))
    go_enter Tryz.func59, Tryz.ntmps59
    go_wp2_with fail
    refine ((HG _ hr).out).mono ?_
    rintro e w8 ⟨rfl, h8⟩
    have B8 : Below w.heap.size w w8 := h8
    have l_8 := hr.on h8
    go_wp2_with fail
    refine ((HGB _ B8).out).mono ?_
    rintro e w9 ⟨rfl, h9⟩
    have B9 := B8.trans (h9.mono B8.size)
    have l_9 := l_8.on h9
    clear l_8
    go_wp2_with fail
    go_ret2
    exact ⟨by rw [HE.out]; rfl, B9⟩
  have hrb := stIn_iff.1 hin
  have HEQ : Hid (R = if (stEnc rec m cs).length ≤ l.length ∧ l.take (stEnc rec m cs).length = stEnc rec m cs then (m, cs) else (0, [])) := Lib.hid (by rw [← HR.out]; exact stDec_ref HMX.out (by omega) (by omega) HCZ.out (by omega))
  have HEN := fun W => Lib.hid (rencode_any rec m S W (by omega) (by omega) (by omega) (by omega) (by omega))
  rw [HST.out] at HEN
  clear hrb hu2
  have HWL : Hid ((stEnc rec m cs).length ≤ 2024) := Lib.hid (stEnc_le (by omega) (by omega) (by omega))
  generalize stEnc rec m cs = WT at *
  rw [HLL.out] at HEQ
  by_cases hlen : WT.length ≤ n
  rotate_left
  · have HE : Hid (R = (0, [])) := Lib.hid (by rw [HEQ.out, if_neg (fun h => hlen h.1)])
    go_enter Tryz.func59, Tryz.ntmps59
    go_wp2_with fail
    refine ((HG _ hr).out).mono ?_
    rintro e w10 ⟨rfl, h10⟩
    have B10 : Below w.heap.size w w10 := h10
    have l_10 := hr.on h10
    go_wp2_with fail
    refine ((HGB _ B10).out).mono ?_
    rintro e w11 ⟨rfl, h11⟩
    have B11 := B10.trans (h11.mono B10.size)
    have l_11 := l_10.on h11
    clear l_10
    go_wp2_with fail
    refine ((HEN _).out).mono ?_
    rintro e w12 ⟨v12, rfl, o12, h12⟩
    have B12 := B11.trans (h12.mono B11.size)
    have l_12 := l_11.on h12
    clear l_11
    obtain ⟨Aw, cw, rfl, hcw, _, dw⟩ := own_form o12
    go_wp2_with fail
    go_wp2_with fail
    go_ret2
    exact ⟨by rw [HE.out]; rfl, B12⟩
  have htk := hr.take (k := WT.length) hlen
  rw [Nat.mul_one, show (bvs l).take WT.length = bvs (l.take WT.length) by unfold bvs; rw [List.map_take]] at htk
  have HSA := fun (W : World) (B : Option Addr) (d : Nat) (hW : Below w.heap.size w W) (h : Reads W W.heap.size 1 B WT.length (bvs WT)) => Lib.hid (sameL_any A B c d (l.take WT.length) WT WT.length WT.length W _ _ (htk.on hW) h (by have := HWL.out; omega) (by have := HWL.out; omega))
  clear htk
  cases heq : (l.take WT.length == WT) with
  | true =>
    have HE : Hid (R = (m, cs)) := Lib.hid (by rw [HEQ.out, if_pos ⟨hlen, beq_iff_eq.1 heq⟩])
    rw [heq] at HSA
    clear heq
    go_enter Tryz.func59, Tryz.ntmps59
    go_wp2_with fail
    refine ((HG _ hr).out).mono ?_
    rintro e w13 ⟨rfl, h13⟩
    have B13 : Below w.heap.size w w13 := h13
    have l_13 := hr.on h13
    go_wp2_with fail
    refine ((HGB _ B13).out).mono ?_
    rintro e w14 ⟨rfl, h14⟩
    have B14 := B13.trans (h14.mono B13.size)
    have l_14 := l_13.on h14
    clear l_13
    go_wp2_with fail
    refine ((HEN _).out).mono ?_
    rintro e w15 ⟨v15, rfl, o15, h15⟩
    have B15 := B14.trans (h15.mono B14.size)
    have l_15 := l_14.on h15
    clear l_14
    obtain ⟨Aw, cw, rfl, hcw, _, dw⟩ := own_form o15
    go_wp2_with fail
    refine ((HSA _ Aw cw B15 dw).out).mono ?_
    rintro e wz ⟨rfl, q, rfl⟩
    go_wp2_with fail
    go_ret2
    exact ⟨by rw [HE.out, HSM.out]; rfl, below_drewN B15 _⟩
  | false =>
    have HE : Hid (R = (0, [])) := Lib.hid (by rw [HEQ.out, if_neg (fun h => by rw [h.2] at heq; simp at heq)])
    rw [heq] at HSA
    clear heq
    go_enter Tryz.func59, Tryz.ntmps59
    go_wp2_with fail
    refine ((HG _ hr).out).mono ?_
    rintro e w16 ⟨rfl, h16⟩
    have B16 : Below w.heap.size w w16 := h16
    have l_16 := hr.on h16
    go_wp2_with fail
    refine ((HGB _ B16).out).mono ?_
    rintro e w17 ⟨rfl, h17⟩
    have B17 := B16.trans (h17.mono B16.size)
    have l_17 := l_16.on h17
    clear l_16
    go_wp2_with fail
    refine ((HEN _).out).mono ?_
    rintro e w18 ⟨v18, rfl, o18, h18⟩
    have B18 := B17.trans (h18.mono B17.size)
    have l_18 := l_17.on h18
    clear l_17
    obtain ⟨Aw, cw, rfl, hcw, _, dw⟩ := own_form o18
    go_wp2_with fail
    refine ((HSA _ Aw cw B18 dw).out).mono ?_
    rintro e wz ⟨rfl, q, rfl⟩
    go_wp2_with fail
    go_ret2
    exact ⟨by rw [HE.out]; rfl, below_drewN B18 _⟩
end Go.Proofs.YtfclifolniefpaaGreatDoor

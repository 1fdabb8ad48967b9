/-
  What Root and Sign return for a valid height and an index below the number of keys. Condition: the table of constants as laid.
-/
import Derived.Test.YtfmcgcdppbcfjaaDoorSan5
import Derived.Test.YtfmcgcdppbcfjaaDoorStepA
namespace Go.Proofs.YtfmcgcdppbcfjaaDoor
open Go.RowKit

/-- A signature of 68 chain values and k path elements, without an error. -/
def GivesOwn (i k : Nat) (C P : List (List UInt8)) (w : World) (e : Ending) (w' : World) : Prop :=
  ∃ A c B d, e = .returned (.tuple #[.agg #[.int .i64 (i : Int), .slice A 68 c, .slice B k d], .int .i64 0]) ∧ ReadsD w' A 68 C ∧ ReadsD w' B k P ∧ 68 ≤ c ∧ k ≤ d ∧ Below w.heap.size w w'
theorem tsign_own (seed msg : List UInt8) (hs : seed.length = 16) (hm : msg.length = 16) (k i : Nat) (hk : k ≤ 4) (hi : i < 2 ^ k) (w : World) (hK : Consts w) :
    Calls Tryd.prog 12 #[.agg (bvs seed).toArray, .int .i64 (k : Int), .int .i64 (i : Int), .agg (bvs msg).toArray] w (GivesOwn i k (wSign seed (i : Int) msg) (mProof (tKeys seed (2 ^ k)) i) w) := by
  have hM := tMany_nat k hk
  have h16 := two_le16 hk
  have he : tErr (k : Int) (i : Int) = 0 := tErr_ok (by omega) (by rw [hM]; omega)
  have e1 : tIdx (k : Int) (i : Int) = (i : Int) := by unfold tIdx; rw [he, if_pos rfl]
  have e2 : tChain seed (k : Int) (i : Int) msg = wSign seed (i : Int) msg := by unfold tChain; rw [he, if_pos rfl]
  have e3 : tPath seed (k : Int) (i : Int) = mProof (tKeys seed (2 ^ k)) i := by unfold tPath; rw [he, if_pos rfl, Int.toNat_natCast, hM]
  refine (tsign_any seed msg hs hm (k : Int) (i : Int) (by omega) (by omega) (by omega) (by omega) w hK).mono ?_
  rintro e w' ⟨A, c, B, d, rfl, h1, h2, h3, h4, h5⟩
  rw [e2] at h1 h3
  rw [e3] at h2 h4
  rw [wSign_len] at h1 h3
  rw [mProof_two seed hi] at h2 h4
  exact ⟨A, c, B, d, by rw [he, e1, e2, e3, wSign_len, mProof_two seed hi], h1, h2, h3, h4, h5⟩
theorem troot_own (seed : List UInt8) (hs : seed.length = 16) (k : Nat) (hk : k ≤ 4) (w : World) (hK : Consts w) :
    Calls Tryd.prog 10 #[.agg (bvs seed).toArray, .int .i64 (k : Int)] w (GivesVE (root (tKeys seed (2 ^ k))) 0 w) := by
  have hM := tMany_nat k hk
  have hp := Nat.two_pow_pos k
  have e1 : tRoot seed (k : Int) = root (tKeys seed (2 ^ k)) := by unfold tRoot; rw [hM, if_neg (by omega)]
  have e2 : tRootE (k : Int) = 0 := by unfold tRootE; rw [hM, if_neg (by omega)]
  have h := troot_any seed hs (k : Int) (by omega) (by omega) w hK
  rw [e1, e2] at h
  exact h
theorem tVerify_two (seed msg : List UInt8) {k i : Nat} (hk : k ≤ 4) (hi : i < 2 ^ k) : tVerify (root (tKeys seed (2 ^ k))) (k : Int) msg (i : Int) (wSign seed (i : Int) msg) (mProof (tKeys seed (2 ^ k)) i) = true := by
  have hM := tMany_nat k hk
  have e := tVerify_own seed msg (k : Int) i (by rw [hM]; exact hi)
  rw [hM] at e
  exact e
theorem refMany_two (k : Nat) (hk : k ≤ 4) (w : World) : Calls Tryd.prog 19 #[.int .i64 (k : Int)] w fun e w' => e = .returned (.int .i64 ((2 ^ k : Nat) : Int)) ∧ w' = w := by
  have h := refMany_any (k : Int) (by omega) (by omega) w
  rw [tMany_nat k hk] at h
  exact h
theorem tverify_no (rt msg : List UInt8) (ht : rt.length = 16) (hm : msg.length = 16) (h idx : Int) (h1 : -9223372036854775808 ≤ h) (h2 : h ≤ 9223372036854775807) (i1 : -9223372036854775808 ≤ idx) (i2 : idx ≤ 9223372036854775807) (A B : Option Addr) (n c m d : Nat) (C P : List (List UInt8)) (w : World) (hK : Consts w)
    (hC : ReadsD w A n C) (hP : ReadsD w B m P) (hnc : n ≤ c) (hmd : m ≤ d) (hn : n ≤ 1000) (hmm : m ≤ 1000) (hv : tVerify rt h msg idx C P = false) :
    Calls Tryd.prog 16 #[.agg (bvs rt).toArray, .int .i64 h, .agg (bvs msg).toArray, .agg #[.int .i64 idx, .slice A n c, .slice B m d]] w (TellsB false w) := by
  have e := tverify_any rt msg ht hm h idx h1 h2 i1 i2 A B n c m d C P w hK hC hP hnc hmd hn hmm
  rw [hv] at e
  exact e
theorem step_store_elem {P : Program} {ops : Array Oper} {o : Oper} {a : Act} {w : World} {K : Act → World → Prop} {Q : Exit → Act → World → Prop} {E : Prop} (hgd : o.guard = none) (ty : TypeId) (x v : Operand) (ho : o.op = .store ty x v) (g j : Nat) (hx : a.eval x = .pointer (some ⟨g, j, none⟩)) (e : TypeId) (cs : List Value) (hr : Row w g e cs) (u : Value) (hv : a.eval v = u)
    (h1 : u.oneCell' = true) (hj : j < cs.length) (hi : (P.info? ty).map (·.size) = some 1)
    (h : ∀ w', Row w' g e (cs.set j u) → w.grownBy w' (some g) → K (a.put o.dst undef) w') : if Region.wanted o (yielded ops a.tmps) = true then Oper.wp P o a w K Q else E := by
  obtain ⟨w', hrun, h2, h3, h4⟩ := run_store_elem w ty g j e cs hr u h1 hj hi
  rw [if_pos (wanted_plain hgd)]
  unfold Oper.wp execOp
  simp only [ho, hx, hv, Instr.storeAt, Instr.sureAddr, Sem.run_bind, Sem.run_pure, Result.andThen_ok, hrun]
  exact h _ h2 h4
theorem len16_more {p : List (List UInt8)} {m : List UInt8} (hp : Len16 p) (hm : m.length = 16) : Len16 (p ++ [m]) := fun d hd => by
  rcases List.mem_append.1 hd with h | h
  · exact hp d h
  · simp only [List.mem_cons, List.not_mem_nil, or_false] at h
    subst h; exact hm
/-- Digests don't lie in a signature's row. -/
theorem ReadsD.apart {w w' : World} {A : Option Addr} {n : Nat} {ds : List (List UInt8)} {g : Nat} (h : ReadsD w A n ds) (hr : Row w g 32 sgz) (hg : w.grownBy w' (some g)) : ReadsD w' A n ds := by
  refine ⟨⟨h.1.1, fun hn => ?_⟩, h.2⟩
  obtain ⟨ad, hA, hlt, hc⟩ := h.1.2 hn
  have hne : ad.block ≠ g := by
    intro he
    have hl : 0 < (bvs ds.flatten).length := by rw [h.1.1]; omega
    obtain ⟨b, hb⟩ : ∃ b, (bvs ds.flatten)[0]? = some (bv b) := by
      have h0 : 0 < ds.flatten.length := by rwa [bvs_length] at hl
      exact ⟨ds.flatten[0], by unfold bvs; rw [List.getElem?_map, List.getElem?_eq_getElem h0]; rfl⟩
    have h1 := hc 0 _ hb
    have h2 : ad.add 0 = ad := by unfold Addr.add; rw [if_pos rfl]
    rw [h2] at h1
    have hr' : w.heap[ad.block]? = some (.cells sgz.toArray 32 (0, 0)) := by rw [he]; exact hr
    unfold World.cell? at h1
    rw [hr'] at h1
    change (if ad.spot.isSome = true then none else sgz.toArray[ad.off]?) = some (bv b) at h1
    by_cases hsp : ad.spot.isSome = true
    · rw [if_pos hsp] at h1; cases h1
    rw [if_neg hsp] at h1
    have h4 : ad.off < 3 := (Array.getElem?_eq_some_iff.1 h1).1
    rcases (by omega : ad.off = 0 ∨ ad.off = 1 ∨ ad.off = 2) with h5 | h5 | h5 <;> rw [h5] at h1 <;> simp [sgz, bv] at h1
  refine ⟨ad, hA, Nat.lt_of_lt_of_le hlt hg.size, fun j u hj => ?_⟩
  have e := hc j u hj
  have hb : (ad.add j).block = ad.block := block_of_add ad j
  have hk := hg.block (ad.add j).block (by rw [hb]; exact hlt) (by rw [hb]; intro h; exact hne (Option.some.inj h))
  unfold World.cell? at e ⊢
  rw [hk]
  exact e
end Go.Proofs.YtfmcgcdppbcfjaaDoor

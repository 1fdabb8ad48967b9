/-
  What ratchet.access returns: a contract by a walk. No condition.
-/
import Derived.Test.YtfcbcclcmgheeaaRtW
set_option linter.unusedSimpArgs false
set_option linter.unusedVariables false
namespace Go.Proofs.Ytfcbcclcmgheeaa
open Go.RowKit

set_option maxRecDepth 100000 in
set_option maxHeartbeats 4000000 in
theorem raccess_any (g B : Nat) (bank : Int) (s : RtS) (hs : s.OK) (kind c : Int) (w : World) (hp : RpOK w g B bank s) :
    Calls Try.prog 41 #[.pointer (some ⟨g, 0, none⟩), .int .i64 kind, .int .i64 c] w (GivesP g B bank (rtAcc bank s kind c).1 (.int .i64 (rtAcc bank s kind c).2) w) := by
  obtain ⟨l, A, n, d, hl, hnd, hBg, hrow, hr⟩ := hp
  obtain ⟨sl, a⟩ := s
  simp only at hl hrow
  subst hl
  have hgl := hrow.lt
  have c0 := hrow.cell (j := 0) rfl
  have c1 := hrow.cell (j := 1) rfl
  have hln := hr.len_of (by decide) DvR.cs_len
  cases l with
  | nil =>
    obtain rfl : n = 0 := by simpa using hln.symm
    by_cases h0 : a.k = 0
    · have ha : a = noAc := by
        rcases hs with h | ⟨h, _⟩
        · exact h
        · exact absurd h0 h
      subst ha
      have HE : Hid (rtAcc bank ⟨rxs [], noAc⟩ kind c = (⟨[], acA bank kind c⟩, 0)) := Lib.hid rfl
      rw [HE.out]
      clear hs
      go_enter Try.func41, Try.ntmps41
      go_wp2_with (first
        | ((with_reducible refine wpList_at ⟨some 33, _, _, _, _, _⟩ ?_); refine wpList_valueG rfl _ (by exact exec_load _ 27 _ rfl ⟨g, 2, none⟩ rfl noAc.cs (Row.part hrow (pre := [.int .i64 bank, .slice A 0 d]) (post := []) rfl rfl) _ Try.underlying27 rfl (by kernel_rfl)) ?_)
        | ((with_reducible refine wpList_at ⟨some 35, _, _, _, _, _⟩ ?_); refine wpList_valueG rfl _ (by exact exec_eqlA _ _ _ rfl noAc noAc rfl rfl) ?_)
        | ((with_reducible refine wpList_at ⟨none, .store _ (.tmp 45) _, _, _, _, _⟩ ?_); refine wpList_store_part rfl _ _ _ rfl g 2 rfl _ _ hrow (acA bank kind c).cs rfl (DvA.cs_one _) (by show 2 + 4 ≤ 6; omega) (by kernel_rfl) ?_; intro w1 r1 g1))
      go_ret
      refine ⟨rfl, ⟨[], A, 0, d, rfl, Nat.zero_le _, hBg, r1, hr.kept g1 (by omega) (by rintro k hk; cases hk; exact hBg)⟩, g1⟩
    · have hg : acEq a noAc = false := acEq_no h0
      have HE : Hid (rtAcc bank ⟨rxs [], a⟩ kind c = (⟨rxs [], a⟩, 0)) := Lib.hid (rtAcc_stop hs h0)
      rw [HE.out]
      clear hs h0
      have hrun : ∀ (ρ : Operand → Value) (o : Oper) (x y : Operand), o.op = .binOp .eql 27 x y 27 → ρ x = .agg a.cs.toArray → ρ y = .agg noAc.cs.toArray → (execOp ρ o).run Try.prog w = .ok (.value (.bool false)) w := fun ρ o x y h1 h2 h3 => by
        rw [← hg]; exact exec_eqlA w x y h1 a noAc h2 h3
      go_enter Try.func41, Try.ntmps41
      go_wp2_with (first
        | ((with_reducible refine wpList_at ⟨some 33, _, _, _, _, _⟩ ?_); refine wpList_valueG rfl _ (by exact exec_load _ 27 _ rfl ⟨g, 2, none⟩ rfl a.cs (Row.part hrow (pre := [.int .i64 bank, .slice A 0 d]) (post := []) (by rw [List.append_nil]; rfl) rfl) _ Try.underlying27 rfl (by kernel_rfl)) ?_)
        | ((with_reducible refine wpList_at ⟨some 35, _, _, _, _, _⟩ ?_); refine wpList_valueG rfl _ (by exact hrun _ _ _ _ rfl rfl rfl) ?_))
      go_ret
      exact ⟨rfl, ⟨[], A, 0, d, rfl, Nat.zero_le _, hBg, hrow, hr⟩, World.grownBy.refl _ _⟩
  | cons r t =>
    obtain ⟨ad, rfl, hlta, hc⟩ := hr.elem DvR.cs_len (l := r :: t) (i := 0) rfl (by rw [← hln]; simp)
    have hn0 : 0 < n := by rw [← hln]; simp
    have hcx : w.cell? ad = some (.int .i64 r.x) := hc 0 _ rfl
    have hgt : decide ((0 : Int) < (n : Int)) = true := decide_eq_true (by omega)
    have HE : Hid (rtAcc bank ⟨rxs (r :: t), a⟩ kind c = (⟨rxs t, a⟩, r.x)) := Lib.hid rfl
    rw [HE.out]
    have hcut := hr.cut (k := 1) (cap := d) hn0 hnd
    rw [show List.drop (1 * 2) (rrs (r :: t)) = rrs t from rfl] at hcut
    clear hs hc
    have fin : ∀ (A' : Option Addr) (d' : Nat) (w1 : World), Reads w B 2 A' (n - 1) (rrs t) → n - 1 ≤ d' → Row w1 g 53 (rpCs bank A' (n - 1) d' a) → w.grownBy w1 (some g) → GivesP g B bank ⟨rxs t, a⟩ (.int .i64 r.x) w (.returned (.int .i64 r.x)) w1 :=
      fun A' d' w1 h1 h2 h3 h4 => ⟨rfl, ⟨t, A', n - 1, d', rfl, h2, hBg, h3, h1.kept h4 (by omega) (by rintro k hk; cases hk; exact hBg)⟩, h4⟩
    by_cases hd : d = 1
    · subst hd
      rw [if_pos rfl] at hcut
      obtain rfl : n = 1 := by omega
      clear hr
      go_enter Try.func41, Try.ntmps41
      go_wp2_with ((with_reducible refine wpList_at ⟨none, .store _ (.tmp 28) _, _, _, _, _⟩ ?_); refine wpList_store_elem rfl _ _ _ rfl g 1 rfl _ _ hrow _ rfl rfl (by show 1 < 6; omega) (by kernel_rfl) ?_; intro w1 r1 g1)
      go_ret
      exact fin _ _ _ hcut (by omega) r1 g1
    · rw [if_neg hd] at hcut
      have hd1 : ¬ d = 1 := hd
      clear hr
      go_enter Try.func41, Try.ntmps41
      go_wp2_with ((with_reducible refine wpList_at ⟨none, .store _ (.tmp 28) _, _, _, _, _⟩ ?_); refine wpList_store_elem rfl _ _ _ rfl g 1 rfl _ _ hrow _ rfl rfl (by show 1 < 6; omega) (by kernel_rfl) ?_; intro w1 r1 g1)
      go_ret
      exact fin _ _ _ hcut (by omega) r1 g1
end Go.Proofs.Ytfcbcclcmgheeaa

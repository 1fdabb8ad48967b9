/-
  What few of the law file returns: a contract by a walk. No condition.
-/
import Derived.Test.YtfcbcclcmgheeaaSan11
import Derived.Test.YtfcbcclcmgheeaaFuRG
import Derived.Deep.LoopGhost
set_option linter.unusedSimpArgs false
set_option linter.unusedVariables false
namespace Go.Proofs.Ytfcbcclcmgheeaa
open Go.RowKit

/-- Sessions as they lie in memory, with their faults. -/
def ses (l : List (Se × List UInt8)) : List Value := l.flatMap fun p => p.1.cs
def SesIn (w : World) (l : List (Se × List UInt8)) : Prop := ∀ p ∈ l, Reads w w.heap.size 1 p.1.A p.1.n (bvs p.2)
theorem SesIn.on {w w' : World} {l : List (Se × List UInt8)} (h : SesIn w l) (hb : Below w.heap.size w w') : SesIn w' l := fun p hp => (h p hp).on hb
theorem ses_at {w : World} {B n : Nat} {A : Option Addr} {l : List (Se × List UInt8)} (h : Reads w B 3 A n (ses l)) {k : Nat} (hk : k < n) :
    ∃ ad p, A = some ad ∧ ad.block < B ∧ l[k]? = some p ∧ ∀ j u, p.1.cs[j]? = some u → w.cell? ((ad.add (k * 3)).add j) = some u := by
  have hl : l.length = n := h.len_of (g := fun p : Se × List UInt8 => p.1.cs) (by decide) (fun p => p.1.cs_len)
  obtain ⟨p, hp⟩ : ∃ p, l[k]? = some p := ⟨_, List.getElem?_eq_getElem (by omega)⟩
  obtain ⟨ad, e, hb, hc⟩ := h.elem (g := fun p : Se × List UInt8 => p.1.cs) (fun p => p.1.cs_len) hp hk
  exact ⟨ad, p, e, hb, hp, hc⟩
set_option maxRecDepth 100000 in
set_option maxHeartbeats 4000000 in
theorem few11_any (A : Option Addr) (n c : Nat) (l : List (Se × List UInt8)) (w : World) (hr : Reads w w.heap.size 3 A n (ses l)) (hn : n ≤ 9223372036854775807) (hs : ∀ p ∈ l, p.1.n ≤ 9223372036854775807) :
    Calls Try.prog 14 #[.slice A n c] w (fun e w' => ∃ b, e = .returned (.bool b) ∧ w = w') := by
  have HEL := fun k (hk : k < n) => ses_at hr hk
  have HS := Lib.hid hs
  clear hr hs
  by_cases hbig : 8 < n
  · have q : decide ((8 : Int) < (n : Int)) = true := decide_eq_true (by omega)
    go_enter Try.func14, Try.ntmps14
    go_wp2_with fail
    go_ret
    exact ⟨_, rfl, rfl⟩
  · have q : decide ((8 : Int) < (n : Int)) = false := decide_eq_false (by omega)
    go_enter Try.func14, Try.ntmps14
    go_wp2_with fail
    go_loopg [3] n (fun g s3 wr => ∃ k : Nat, Hid (k + g = n) ∧ k ≤ n ∧ s3 = .int .i64 (k : Int) ∧ wr = w)
    case atStart => exact ⟨0, by show _ = _; omega, by omega, rfl, rfl⟩
    case round =>
      obtain ⟨k, HK, hk, rfl, rfl⟩ := hrel
      by_cases hlt : k < n
      · obtain ⟨ad, ⟨⟨sr, st, sA, sn, sc⟩, fs⟩, rfl, hlta, hp, hc⟩ := HEL k hlt
        have hsn : sn ≤ 9223372036854775807 := HS.out _ (List.mem_of_getElem? hp)
        have hc2 : wr.cell? ⟨(ad.add (k * 3)).block, (ad.add (k * 3)).off + 2, none⟩ = some (.slice sA sn sc) := by
          have h := hc 2 _ rfl
          rw [add_pos _ _ (by decide)] at h
          exact h
        clear hc hp HEL
        by_cases hbg : 200 < sn
        · have q2 : decide ((200 : Int) < (sn : Int)) = true := decide_eq_true (by omega)
          go_wp2_with fail
          go_ret
          exact ⟨_, rfl, rfl⟩
        · have q2 : decide ((200 : Int) < (sn : Int)) = false := decide_eq_false (by omega)
          go_wp2_with fail
          go_roundg (gk - 1)
          case measure => have := HK.out; omega
          case rel => exact ⟨k + 1, by have := HK.out; show _ = _; omega, by omega, by go_num, rfl⟩
      · go_wp2_with fail
        go_ret
        exact ⟨_, rfl, rfl⟩
end Go.Proofs.Ytfcbcclcmgheeaa

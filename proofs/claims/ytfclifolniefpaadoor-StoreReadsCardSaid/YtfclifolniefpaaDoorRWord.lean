/-
  What the reference's word and words return: contracts by walks. Condition: a text of hexadecimal digits 0-9, a-f.
-/
import Derived.Test.YtfclifolniefpaaDoorRCompr
namespace Go.Proofs.YtfclifolniefpaaDoor
open Go.RowKit

/-- The value of a hexadecimal digit. -/
def hexV (c : UInt8) : Nat := if 97 ≤ c.toNat then c.toNat - 97 + 10 else c.toNat - 48
def hexOk (c : UInt8) : Bool := decide (48 ≤ c.toNat ∧ c.toNat ≤ 57) || decide (97 ≤ c.toNat ∧ c.toNat ≤ 102)
def hexW (l : List UInt8) : Nat → UInt32 → UInt32
  | 0, acc => acc
  | n + 1, acc => 16 * hexW l n acc + UInt32.ofNat (hexV (l.getD n 0))
/-- The word of eight digits. -/
def hexAt (l : List UInt8) (i : Nat) : UInt32 := hexW (l.drop (8 * i)) 8 0

theorem hexOk_bd {c : UInt8} (h : hexOk c = true) : (48 ≤ c.toNat ∧ c.toNat ≤ 57) ∨ (97 ≤ c.toNat ∧ c.toNat ≤ 102) := by
  unfold hexOk at h
  simpa using h
theorem wi_16 (acc : UInt32) (v : Nat) : wi (16 * acc + UInt32.ofNat v) = (16 * wi acc + (v : Int)) % 4294967296 := by
  unfold wi
  rw [UInt32.toNat_add, UInt32.toNat_mul, UInt32.toNat_ofNat']
  have h16 : (16 : UInt32).toNat = 16 := rfl
  rw [h16]
  omega
theorem hex_low (c : UInt8) (acc : UInt32) (h : hexOk c = true) (h2 : (c.toNat : Int) < 97) : (16 * wi acc % 4294967296 + ((c.toNat : Int) - 48) % 256) % 4294967296 = wi (16 * acc + UInt32.ofNat (hexV c)) := by
  have hb := hexOk_bd h
  have e : hexV c = c.toNat - 48 := by unfold hexV; rw [if_neg (by omega)]
  rw [e, wi_16 _ _]
  omega
theorem hex_high (c : UInt8) (acc : UInt32) (h : hexOk c = true) (h2 : 97 ≤ (c.toNat : Int)) : (16 * wi acc % 4294967296 + ((c.toNat : Int) - 97 + 10) % 256) % 4294967296 = wi (16 * acc + UInt32.ofNat (hexV c)) := by
  have hb := hexOk_bd h
  have e : hexV c = c.toNat - 97 + 10 := by unfold hexV; rw [if_pos (by omega)]
  rw [e, wi_16 _ _]
  omega
theorem hexW_step (l : List UInt8) (j k : Nat) (c : UInt8) (h : l[j + k]? = some c) : hexW (l.drop j) (k + 1) 0 = 16 * hexW (l.drop j) k 0 + UInt32.ofNat (hexV c) := by
  rw [hexW, List.getD, List.getElem?_drop, h]
  rfl

set_option maxRecDepth 100000 in
set_option maxHeartbeats 1000000 in
theorem refWord_any (s : ByteArray) (i : Nat) (w : World) (hs : 8 * i + 8 ≤ s.size) (hb : s.size ≤ 1000000) (hok : s.data.toList.all hexOk = true) :
    Calls Tryd.prog 79 #[.string s, .int .i64 (i : Int)] w fun e w' => e = .returned (.int .u32 (wi (hexAt s.data.toList i))) ∧ w = w' := by
  have HOK := Lib.hid hok
  clear hok
  go_enter Tryd.func79, Tryd.ntmps79
  go_wp2_with fail
  go_loopg [5, 6, 7] 8 (fun g s5 s6 s7 wr => ∃ k : Nat, Hid (k + g = 8) ∧ k ≤ 8 ∧ s6 = .int .i64 ((8 * i + k : Nat) : Int) ∧ s5 = .int .u32 (wi (hexW (s.data.toList.drop (8 * i)) k 0)) ∧ w = wr)
  case atStart => exact ⟨0, rfl, by omega, rfl, rfl, rfl⟩
  case round =>
    obtain ⟨k, HK, hk, rfl, rfl, rfl⟩ := hrel
    by_cases hlt : k < 8
    · have hx : s.data.toList[8 * i + k]? = some s[8 * i + k] := by rw [List.getElem?_eq_getElem (by simp; omega)]; rfl
      have HS := Lib.hid (hexW_step s.data.toList (8 * i) k _ hx)
      have HC : Hid (hexOk s[8 * i + k] = true) := List.all_eq_true.1 HOK.out _ (List.mem_of_getElem? hx)
      clear hx
      go_wp2_with fail
      all_goals
        go_roundg (gk - 1)
        case measure => have := HK.out; omega
        case rel => exact ⟨k + 1, by have := HK.out; show _ = _; omega, by omega, by go_num, by rw [HS.out]; first | exact congrArg (Value.int .u32) (hex_low _ _ HC.out (by assumption)) | exact congrArg (Value.int .u32) (hex_high _ _ HC.out (by assumption)), rfl⟩
    · have HK8 : Hid (k = 8) := by show _ = _; omega
      go_wp2_with fail
      go_ret
      exact ⟨by rw [HK8.out]; rfl, rfl⟩

set_option maxRecDepth 100000 in
set_option maxHeartbeats 1000000 in
theorem refWords_any (s : ByteArray) (n : Nat) (w : World) (hs : 8 * n ≤ s.size) (hb : s.size ≤ 1000000) (hok : s.data.toList.all hexOk = true) :
    Calls Tryd.prog 69 #[.string s, .int .i64 (n : Int)] w (GivesW ((List.range n).map (hexAt s.data.toList)) w) := by
  have HOK := Lib.hid hok
  clear hok
  obtain ⟨i0, hi0, hz0, hz1, hz2⟩ := info_parts info_u32
  go_enter Tryd.func69, Tryd.ntmps69
  go_wp2_with fail
  go_loopg [5, 6] n (fun g s5 s6 wr => ∃ k : Nat, Hid (k + g = n) ∧ k ≤ n ∧ s6 = .int .i64 (k : Int) ∧ wr.ownsRow w.heap.size 108 1 s5 k (wvs ((List.range k).map (hexAt s.data.toList))) ∧ Below w.heap.size w wr)
  case atStart => exact ⟨0, by show _ = _; omega, by omega, rfl, World.ownsRow_nil _ _ _ _, Below.refl _ _⟩
  case round =>
    obtain ⟨k, HK, hk, rfl, hown, hbel⟩ := hrel
    have hbs := hbel.size
    by_cases hlt : k < n
    · go_wp2_with fail
      refine (refWord_any s k _ (by omega) hb HOK.out).mono ?_
      rintro e w2 ⟨rfl, rfl⟩
      go_wp2_with (at_builtin; refine wpList_append_src _ rfl (.tmp 12) (.tmp 16) _ _ rfl w.heap.size 108 i0 _ 1 4 Tryd.underlying124 hi0 hz0 hz1 hz2 rfl _ _ _ rfl (hown.alloc _) 1 _ (Src.box Tryd.underlying124 _ _ _ rfl _) (by unfold maxLen; omega) (by omega) (by simp; omega) ?_; intro v3 w3 hown3 hbel3)
      go_roundg (gk - 1)
      case measure => have := HK.out; omega
      case rel =>
        refine ⟨k + 1, by have := HK.out; show _ = _; omega, by omega, by go_num, ?_, hbel.trans (((Below.refl _ _).alloc hbs _).trans hbel3)⟩
        rw [List.range_succ, List.map_append, List.map_singleton]
        unfold wvs at hown3 ⊢
        rw [List.map_append]
        exact hown3
    · have HKN : Hid (k = n) := by show _ = _; omega
      go_wp2_with fail
      go_ret
      refine ⟨_, rfl, ?_, hbel⟩
      rw [HKN.out] at hown
      rw [List.length_map, List.length_range]
      exact hown
theorem refWords_lit (s : ByteArray) (n : Nat) (ws : List UInt32) (w : World) (hs : 8 * n ≤ s.size) (hb : s.size ≤ 1000000) (hok : s.data.toList.all hexOk = true) (he : (List.range n).map (hexAt s.data.toList) = ws) :
    Calls Tryd.prog 69 #[.string s, .int .i64 (n : Int)] w (GivesW ws w) := he ▸ refWords_any s n w hs hb hok
end Go.Proofs.YtfclifolniefpaaDoor

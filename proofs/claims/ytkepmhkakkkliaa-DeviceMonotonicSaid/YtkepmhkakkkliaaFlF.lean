/-
  What the law file's full returns: 256 equal bytes; slices.Clone at sectors; flash.writer's closure: contracts by walks. No condition but bounded lengths.
-/
import Derived.Test.YtkepmhkakkkliaaFlK
namespace Go.Proofs.Ytkepmhkakkkliaa
open Go.RowKit

/-- The row behind k stores. -/
def fullRow (b : UInt8) (k : Nat) : List Value := bvs (List.replicate k b ++ List.replicate (256 - k) 0)
theorem fullRow_0 (b : UInt8) : fullRow b 0 = List.replicate 256 (.int .u8 0) := by
  unfold fullRow bvs
  rw [List.replicate_zero, List.nil_append, List.map_replicate]
  rfl
theorem fullRow_len (b : UInt8) {k : Nat} (h : k ≤ 256) : (fullRow b k).length = 256 := by
  unfold fullRow
  rw [bvs_length, List.length_append, List.length_replicate, List.length_replicate]
  omega
theorem fullRow_set (b : UInt8) {k : Nat} (h : k < 256) : (fullRow b k).set k (bv b) = fullRow b (k + 1) := by
  unfold fullRow bvs
  rw [← List.map_set]
  congr 1
  rw [List.set_append_right _ _ (by rw [List.length_replicate]; exact Nat.le_refl _), List.length_replicate, Nat.sub_self]
  obtain ⟨m, hm⟩ : ∃ m, 256 - k = m + 1 := ⟨255 - k, by omega⟩
  rw [hm, List.replicate_succ, List.set_cons_zero, List.replicate_succ', List.append_assoc, show 256 - (k + 1) = m from by omega]
  rfl
theorem fullRow_all (b : UInt8) : fullRow b 256 = bvs (List.replicate 256 b) := by
  unfold fullRow
  rw [show 256 - 256 = 0 from rfl, List.replicate_zero, List.append_nil]

set_option maxRecDepth 100000 in
set_option maxHeartbeats 1000000 in
theorem full_any (b : UInt8) (w : World) : Calls Try.prog 20 #[bv b] w (TellsS (fullS b) w) := by
  go_enter Try.func20, Try.ntmps20
  go_wp2_with (with_reducible refine wpList_make_row (o := ⟨some 5, _, _, _, _, _⟩) rfl _ _ _ rfl 5 Try.underlying56 (.int .u8 0) rfl 1 (by kernel_rfl) .i64 .i64 256 256 rfl rfl (by omega) (by omega) (by omega) ?_; intro w1 r1 s1 g1)
  rw [← fullRow_0 b] at r1
  have b1 := grown_below g1 (Nat.le_refl _) (by simp)
  clear g1
  go_loopg [4] 256 (fun g s4 wr => ∃ k : Nat, Hid (k + g = 256) ∧ k ≤ 256 ∧ s4 = .int .i64 (k : Int) ∧ Row wr w.heap.size 5 (fullRow b k) ∧ Below w.heap.size w wr)
  case atStart => exact ⟨0, by show _ = _; omega, by omega, rfl, r1, b1⟩
  case round =>
    obtain ⟨k, HK, hk, rfl, hR, hB⟩ := hrel
    by_cases hlt : k < 256
    · go_wp2_with ((with_reducible refine wpList_at ⟨none, .store _ (.tmp 15) _, _, _, _, _⟩ ?_); refine wpList_store_elem rfl _ _ _ rfl w.heap.size k rfl _ _ hR (bv b) rfl rfl (by rw [fullRow_len b hk]; exact hlt) (by kernel_rfl) ?_; intro w6 r6 g6)
      go_roundg (gk - 1)
      case measure => have := HK.out; omega
      case rel => exact ⟨k + 1, by have := HK.out; show _ = _; omega, by omega, by go_num, by rw [← fullRow_set b hlt]; exact r6, below_kept hB g6 (Nat.le_of_lt_succ (by have := hB.size; omega)) (by rintro q hq; cases hq; exact Nat.le_refl _)⟩
    · obtain rfl : k = 256 := by omega
      rw [fullRow_all] at hR
      have hRd := hR.reads (size := 1) (n := 256) (by rw [bvs_length, List.length_replicate])
      go_wp2_with (refine wpList_valueG (o := ⟨some 17, _, _, _, _, _⟩) rfl _ (by exact exec_string_of _ 56 9 5 _ rfl Try.underlying56 Try.underlying5 Try.underlying9 rfl hRd) ?_)
      go_ret
      exact ⟨rfl, hB⟩

theorem info_st : (Try.prog.info? 9).map (fun i => (i.zero, i.size, i.bytes)) = some (some (.string ⟨#[]⟩), 1, 16) := by kernel_rfl

set_option maxRecDepth 100000 in
set_option maxHeartbeats 1000000 in
theorem cloneS_any (A : Option Addr) (n c : Nat) (fs : List ByteArray) (hn : n ≤ 1000000) (w : World) (hr : Reads w w.heap.size 1 A n (svs fs)) :
    Calls Try.prog 42 #[.slice A n c] w fun e w' => ∃ v, e = .returned v ∧ w'.ownsRow w.heap.size 9 1 v n (svs fs) ∧ Below w.heap.size w w' := by
  obtain ⟨i0, hi0, hz0, hz1, hz2⟩ := info_parts info_st
  have HO := Lib.hid (svs_one fs)
  rcases A with _ | ad
  · have h0 : n = 0 := by
      rcases Nat.eq_zero_or_pos n with h | h
      · exact h
      · obtain ⟨_, h, _⟩ := hr.2 h
        cases h
    subst h0
    have hx : svs fs = [] := List.eq_nil_of_length_eq_zero (by simpa using hr.1)
    rw [hx]
    have hq : (binOp .eql 25 (.slice none 0 c) (.slice none 0 0)).run Try.prog w = .ok (.bool true) w := Lib.run_eql_slice_nil w _ _ none 0 c 0 0 Try.underlying25
    go_enter Try.func42, Try.ntmps42
    go_wp2_with fail
    go_ret
    exact ⟨_, rfl, World.ownsRow_nil _ _ _ _, Below.refl _ _⟩
  · have hq : (binOp .eql 25 (.slice (some ad) n c) (.slice none 0 0)).run Try.prog w = .ok (.bool false) w := Lib.run_eql_slice_nil w _ _ (some ad) n c 0 0 Try.underlying25
    go_enter Try.func42, Try.ntmps42
    go_wp2_with (at_builtin; refine wpList_append_src _ rfl (.tmp 5) (.tmp 6) _ _ rfl w.heap.size 9 i0 _ 1 16 Try.underlying25 hi0 hz0 hz1 hz2 rfl _ _ _ rfl (own_empty w 9 1 w.heap.size (Nat.le_refl _)) n _ (Src.ofReads _ Try.underlying25 (hr.alloc (Nat.le_refl _) _) HO.out) (by unfold maxLen; omega) (by omega) (by simp) ?_; intro v4 w4 hown4 hb4)
    go_ret
    rw [Nat.zero_add, List.nil_append] at hown4
    exact ⟨_, rfl, hown4, ((Below.refl _ _).alloc (Nat.le_refl _) _).trans hb4⟩

/-- The closure that writer returns, at the block of its two boxes. -/
def wrv (g : Nat) : Value := .func (.func 77) #[] #[.pointer (some ⟨g + 1, 0, none⟩), .pointer (some ⟨g, 0, none⟩)]
def WrAt (w : World) (g : Nat) (b : ByteArray) (cut : Int) : Prop := Row w g 9 [.string b] ∧ Row w (g + 1) 3 [.int .i64 cut]
theorem WrAt.on {w w' : World} {g : Nat} {b : ByteArray} {cut : Int} (h : WrAt w g b cut) (hb : Below w.heap.size w w') : WrAt w' g b cut := ⟨h.1.on hb, h.2.on hb⟩

set_option maxRecDepth 100000 in
set_option maxHeartbeats 1000000 in
theorem writer_any (b : ByteArray) (cut : Int) (w : World) : Calls Try.prog 74 #[.string b, .int .i64 cut] w fun e w' => e = .returned (wrv w.heap.size) ∧ WrAt w' w.heap.size b cut ∧ Below w.heap.size w w' := by
  go_enter Try.func74, Try.ntmps74
  go_wp2_with fail
  go_ret
  refine ⟨rfl, ⟨?_, ?_⟩, ?_⟩
  · exact (row_alloc w 9 [.string b]).on ((Below.refl _ _).alloc (Nat.le_refl _) _)
  · have h := row_alloc (w.alloc (.cells [.string b].toArray 9)) 3 [.int .i64 cut]
    rw [show (w.alloc (.cells [.string b].toArray 9)).heap.size = w.heap.size + 1 by simp] at h
    exact h
  · exact ((Below.refl _ _).alloc (Nat.le_refl _) _).alloc (by simp) _

set_option maxRecDepth 100000 in
set_option maxHeartbeats 1000000 in
theorem written_any (b : ByteArray) (cut : Int) (old : ByteArray) (ho : old.size ≤ 9223372036854775807) (hb256 : b.size = 256) (g : Nat) (w : World) (hw : WrAt w g b cut) :
    Calls Try.prog 77 #[.string old, .pointer (some ⟨g + 1, 0, none⟩), .pointer (some ⟨g, 0, none⟩)] w (TellsS (flW b cut old) w) := by
  have c1 := hw.1.cell (j := 0) rfl
  have c2 := hw.2.cell (j := 0) rfl
  by_cases h0 : cut < 0
  · have HE := Lib.hid (flW_whole (b := b) (flWhole_neg h0) old)
    generalize flW b cut old = E at *
    go_enter Try.func77, Try.ntmps77
    go_wp2_with fail
    go_ret
    exact ⟨by rw [HE.out]; rfl, Below.refl _ _⟩
  · by_cases h256 : 256 ≤ cut
    · have HE := Lib.hid (flW_whole (b := b) (flWhole_far h256) old)
      generalize flW b cut old = E at *
      go_enter Try.func77, Try.ntmps77
      go_wp2_with fail
      go_ret
      exact ⟨by rw [HE.out]; rfl, Below.refl _ _⟩
    · obtain ⟨k, rfl⟩ : ∃ k : Nat, cut = (k : Int) := ⟨cut.toNat, by omega⟩
      by_cases hs : old.size < k
      · have HE := Lib.hid (flW_ref0 (b := b) (c := k) (by omega) (old := old) (by omega))
        generalize flW b k old = E at *
        go_enter Try.func77, Try.ntmps77
        go_wp2_with fail
        go_quiet (fail)
        go_wp2_with fail
        go_ret
        exact ⟨by rw [← HE.out]; rfl, below_drewN (Below.refl _ _) nq⟩
      · have HE := Lib.hid (flW_code (b := b) (c := k) (by omega) old)
        rw [Nat.min_eq_left (by omega)] at HE
        generalize flW b k old = E at *
        go_enter Try.func77, Try.ntmps77
        go_wp2_with fail
        go_quiet (fail)
        go_wp2_with fail
        go_ret
        exact ⟨by rw [← HE.out]; rfl, below_drewN (Below.refl _ _) nq⟩
end Go.Proofs.Ytkepmhkakkkliaa

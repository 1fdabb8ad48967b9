/-
  What lex.word and lex.number return: contracts by walks. No condition but bounded lengths.
-/
import Derived.Test.YtgliealofieenaaDoorLxA
set_option linter.unusedSimpArgs false
set_option linter.unusedVariables false
namespace Go.Proofs.YtgliealofieenaaDoor
open Go.RowKit

section
variable {P : Program}
/-- The iterator's step, by a single byte or not. -/
theorem next_rn (w : World) (k : Nat) (s : ByteArray) (pos : Nat) (hk : w.heap[k]? = some (.stringIter s pos)) (h : pos < s.size) (ty : TypeId) :
    (Instr.next (.pointer (some ⟨k, 0, none⟩)) true ty).run P w = .ok (.tuple #[.bool true, .int .i64 pos, .int .i32 (rn s pos)]) (w.iterAt k s (pos + (Utf8.decode s pos).2)) := Lib.run_next_any_at w k s pos ty hk h
theorem next_one (w : World) (k : Nat) (s : ByteArray) (pos : Nat) (hk : w.heap[k]? = some (.stringIter s pos)) (h : pos < s.size) (h1 : (Utf8.decode s pos).2 = 1) (ty : TypeId) :
    (Instr.next (.pointer (some ⟨k, 0, none⟩)) true ty).run P w = .ok (.tuple #[.bool true, .int .i64 pos, .int .i32 (rn s pos)]) (w.iterAt k s (pos + 1)) := by
  have := next_rn (P := P) w k s pos hk h ty
  rwa [h1] at this
end
theorem wd_of_rn {s : ByteArray} {pos : Nat} {c : UInt8} (hc : (tl s)[pos]? = some c) (h : lxWd (rn s pos) = true) : (Utf8.decode s pos).2 = 1 := (rn_next hc (.inl (by rw [← rn_wd hc]; exact h))).2
set_option maxRecDepth 100000 in
set_option maxHeartbeats 4000000 in
theorem word_any (s : ByteArray) (w : World) (hs : s.size ≤ 9223372036854775807) :
    Calls Tryd.prog 27 #[.string s] w (TellsS (s.extract 0 (wLen (tl s))) w) := by
  have HLT := fun r W => Lib.hid (letter_any r W)
  have HDG := fun r W => Lib.hid (digit_any r W)
  go_enter Tryd.func27, Tryd.ntmps27
  go_wp2_with fail
  go_loopg [] s.size (fun g wr => ∃ pos : Nat, Hid (pos + g = s.size) ∧ pos ≤ s.size ∧ wr.heap[w.heap.size]? = some (.stringIter s pos) ∧ Below w.heap.size w wr ∧ Hid (wLen (tl s) = pos + wLen ((tl s).drop pos)))
  case atStart => exact ⟨0, by show _ = _; omega, by omega, World.iter_heap w s 0, (Below.refl _ _).alloc (Nat.le_refl _) _, Lib.hid (by simp)⟩
  case round =>
    obtain ⟨pos, HP, hp, hit, hB, HW⟩ := hrel
    have HIT := Lib.hid hit
    by_cases hlt : pos < s.size
    · obtain ⟨c, hc⟩ : ∃ c, (tl s)[pos]? = some c := ⟨_, tl_get hlt⟩
      have HC := Lib.hid hc
      have HLTR := HLT (rn s pos)
      have HDGR := HDG (rn s pos)
      by_cases hwd : lxWd (rn s pos) = true
      · have HWD := Lib.hid hwd
        have hnx := fun ty => next_one (P := Tryd.prog) wr w.heap.size s pos hit hlt (wd_of_rn hc hwd) ty
        have HR : Hid (wLen (tl s) = (pos + 1) + wLen ((tl s).drop (pos + 1))) := Lib.hid (wLen_step HW.out hc (by rw [← rn_wd hc]; exact hwd))
        have hit2 := Lib.hid (Lib.iterAt_heap wr w.heap.size s pos (pos + 1) hit)
        have hB2 := Lib.below_iterAt hB (k := w.heap.size) (Nat.le_refl _) s (pos + 1)
        have HD : Hid (lxLet (rn s pos) = true ∨ lxDig (rn s pos) = true ∨ (rn s pos == 95) = true) := Lib.hid (by unfold lxWd at hwd; simpa [or_assoc] using hwd)
        clear hc hwd hit
        generalize rn s pos = R at *
        generalize wr.iterAt w.heap.size s (pos + 1) = w2 at *
        cases hl : lxLet R with
        | true =>
          rw [hl] at HLTR
          clear hl
          go_wp2_with fail
          refine (HLTR _).out.mono ?_
          rintro e _ ⟨rfl, rfl⟩
          go_wp2_with fail
          go_roundg (gk - 1)
          case measure => have := HP.out; omega
          case rel => exact ⟨pos + 1, by have := HP.out; show _ = _; omega, by omega, hit2.out, hB2, HR⟩
        | false =>
          rw [hl] at HLTR
          cases hd : lxDig R with
          | true =>
            rw [hd] at HDGR
            clear hl hd
            go_wp2_with fail
            refine (HLTR _).out.mono ?_
            rintro e _ ⟨rfl, rfl⟩
            go_wp2_with fail
            refine (HDGR _).out.mono ?_
            rintro e _ ⟨rfl, rfl⟩
            go_wp2_with fail
            go_roundg (gk - 1)
            case measure => have := HP.out; omega
            case rel => exact ⟨pos + 1, by have := HP.out; show _ = _; omega, by omega, hit2.out, hB2, HR⟩
          | false =>
            rw [hd] at HDGR
            have h95 : (R == 95) = true := by rcases HD.out with h | h | h; rw [hl] at h; cases h; rw [hd] at h; cases h; exact h
            have hn95 : (R != 95) = false := by unfold bne; rw [h95]; rfl
            clear hl hd
            go_wp2_with fail
            refine (HLTR _).out.mono ?_
            rintro e _ ⟨rfl, rfl⟩
            go_wp2_with fail
            refine (HDGR _).out.mono ?_
            rintro e _ ⟨rfl, rfl⟩
            go_wp2_with fail
            go_roundg (gk - 1)
            case measure => have := HP.out; omega
            case rel => exact ⟨pos + 1, by have := HP.out; show _ = _; omega, by omega, hit2.out, hB2, HR⟩
      · have hwf := not_of hwd
        have hnx := fun ty => next_rn (P := Tryd.prog) wr w.heap.size s pos hit hlt ty
        have HR : Hid (wLen (tl s) = pos) := Lib.hid (wLen_stop HW.out hc (by rw [← rn_wd hc]; exact hwf))
        have hB2 := Lib.below_iterAt hB (k := w.heap.size) (Nat.le_refl _) s (pos + (Utf8.decode s pos).2)
        have hl : Hid (lxLet (rn s pos) = false) := Lib.hid (not_of fun h => hwd (wd_of_let h))
        have hd : Hid (lxDig (rn s pos) = false) := Lib.hid (not_of fun h => hwd (wd_of_dig h))
        have h95 : (rn s pos == 95) = false := not_of fun h => hwd (lxWd_iff.2 (.inr (.inr (by simpa using h))))
        have hn95 : (rn s pos != 95) = true := by unfold bne; rw [h95]; rfl
        rw [hl.out] at HLTR
        rw [hd.out] at HDGR
        clear hc hwd hwf hit hl hd
        generalize rn s pos = R at *
        generalize wr.iterAt w.heap.size s (pos + (Utf8.decode s pos).2) = w2 at *
        go_wp2_with fail
        refine (HLTR _).out.mono ?_
        rintro e _ ⟨rfl, rfl⟩
        go_wp2_with fail
        refine (HDGR _).out.mono ?_
        rintro e _ ⟨rfl, rfl⟩
        go_wp2_with fail
        go_ret
        exact ⟨by rw [HR.out]; rfl, hB2⟩
    · obtain rfl : pos = s.size := by omega
      have hnx := fun ty => Lib.run_next_end_at (P := Tryd.prog) wr w.heap.size s s.size ty hit hlt
      have HR : Hid (s.extract 0 (wLen (tl s)) = s) := Lib.hid (by
        rw [wLen_end HW.out (by rw [tl_len]; exact Nat.le_refl _), tl_len]
        refine ba_ext ?_
        rw [tl_extract, List.drop_zero, Nat.sub_zero, List.take_of_length_le (by rw [tl_len]; exact Nat.le_refl _)])
      clear hit
      go_wp2_with fail
      go_ret
      exact ⟨by rw [HR.out]; rfl, hB⟩
section
variable {P : Program}
theorem exec_idxS {ρ : Operand → Value} {o : Oper} (w : World) (t : TypeId) (x y : Operand) (ho : o.op = .index t x y) (ht : P.underlying t = some .string) (s : ByteArray) (hx : ρ x = .string s) (k : IntKind) (i : Nat) (hy : ρ y = .int k (i : Int)) (c : UInt8) (hc : (tl s)[i]? = some c) (n : Int) (hn : (c.toNat : Int) = n) :
    (execOp ρ o).run P w = .ok (.value (.int .u8 n)) w := by
  subst hn
  have hi : i < s.size := by rw [← tl_len]; exact (List.getElem?_eq_some_iff.1 hc).1
  rw [tl_get hi] at hc
  cases hc
  have h : (Instr.index t (.string s) (.int k (i : Int))).run P w = .ok (.int .u8 (s[i].toNat : Int)) w := by
    rw [run_index_string w t s k (i : Int) ht, dif_pos ⟨by omega, by omega⟩]
    rfl
  unfold execOp
  simp [ho, hx, hy, h]
end
def TellsNum (l : List UInt8) (w : World) (e : Ending) (w' : World) : Prop := ∃ v : Int, e = .returned (.tuple #[.int .i64 v, .bool (numOK l)]) ∧ (numOK l = true → v = numV l) ∧ Below w.heap.size w w'
theorem take_snocD {l : List UInt8} {k : Nat} {c : UInt8} (hc : l[k]? = some c) : l.take (k + 1) = l.take k ++ [c] := by rw [List.take_add_one, hc]; rfl
theorem dig_snoc {l : List UInt8} {k : Nat} {c : UInt8} (hc : l[k]? = some c) (h : ∀ x ∈ l.take k, lxDig (bz x) = true) (hd : lxDig (bz c) = true) : ∀ x ∈ l.take (k + 1), lxDig (bz x) = true := by
  intro x hx
  rw [take_snocD hc] at hx
  rcases List.mem_append.1 hx with hx | hx
  · exact h x hx
  · rw [List.mem_singleton] at hx; subst hx; exact hd
set_option maxRecDepth 100000 in
set_option maxHeartbeats 4000000 in
theorem number_any (s : ByteArray) (w : World) (hs : s.size ≤ 9223372036854775807) :
    Calls Tryd.prog 29 #[.string s] w (TellsNum (tl s) w) := by
  have HDG := fun r W => Lib.hid (digit_any r W)
  have HLEN := Lib.hid (tl_len s)
  by_cases h5 : 5 < s.size
  · have q : decide ((5 : Int) < (s.size : Int)) = true := decide_eq_true (by omega)
    have HL : Hid (numOK (tl s) = false) := Lib.hid (numOK_long (by unfold numLong; rw [HLEN.out, decide_eq_true h5]; rfl))
    unfold TellsNum
    generalize numOK (tl s) = V at *
    go_enter Tryd.func29, Tryd.ntmps29
    go_wp2_with fail
    go_ret2
    exact ⟨0, by rw [HL.out]; rfl, (fun h => by rw [HL.out] at h; cases h), Below.refl _ _⟩
  · have q : decide ((5 : Int) < (s.size : Int)) = false := decide_eq_false (by omega)
    by_cases hlong : numLong (tl s) = true
    · have HL : Hid (numOK (tl s) = false) := Lib.hid (numOK_long hlong)
      have h1 : 1 < s.size := by
        unfold numLong at hlong
        rw [HLEN.out, decide_eq_false h5, Bool.false_or, Bool.and_eq_true, decide_eq_true_eq] at hlong
        exact hlong.1
      have hc0 : (tl s)[0]? = some 48 := by
        unfold numLong at hlong
        rw [HLEN.out, decide_eq_false h5, Bool.false_or, Bool.and_eq_true, beq_iff_eq] at hlong
        rw [← List.head?_eq_getElem?]; exact hlong.2
      have HC0 := Lib.hid hc0
      have q1 : decide ((1 : Int) < (s.size : Int)) = true := decide_eq_true (by omega)
      clear hlong hc0
      unfold TellsNum
      generalize numOK (tl s) = V at *
      go_enter Tryd.func29, Tryd.ntmps29
      go_wp2_with ((with_reducible refine wpList_at ⟨some 16, _, _, _, _, _⟩ ?_); refine wpList_valueG rfl _ (by exact exec_idxS _ _ _ _ rfl Tryd.underlying9 s rfl .i64 0 rfl 48 HC0.out 48 rfl) ?_)
      go_ret2
      exact ⟨0, by rw [HL.out]; rfl, (fun h => by rw [HL.out] at h; cases h), Below.refl _ _⟩
    · have HNL := Lib.hid (not_of hlong)
      have HEN : Hid (s.size ≤ 1 ∨ (1 < s.size ∧ ∃ c, (tl s)[0]? = some c ∧ ((c.toNat : Int) == 48) = false)) := Lib.hid (by
        rcases Nat.lt_or_ge 1 s.size with h1 | h1
        · refine .inr ⟨h1, ?_⟩
          obtain ⟨c, hc⟩ : ∃ c, (tl s)[0]? = some c := ⟨_, tl_get (by omega)⟩
          refine ⟨c, hc, ?_⟩
          refine beq_eq_false_iff_ne.2 fun e => hlong ?_
          unfold numLong
          rw [HLEN.out, decide_eq_true h1, List.head?_eq_getElem?, hc]
          have e2 : c = 48 := UInt8.toNat_inj.1 (by rw [show (48 : UInt8).toNat = 48 from rfl]; omega)
          rw [e2]; simp
        · exact .inl h1)
      clear hlong
      unfold TellsNum
      rcases HEN.out with h1 | ⟨h1, c0, hc0, q3⟩
      · have q1 : decide ((1 : Int) < (s.size : Int)) = false := decide_eq_false (by omega)
        go_enter Tryd.func29, Tryd.ntmps29
        go_wp2_with fail
        go_loopg [4] s.size (fun g s4 wr => ∃ (pos : Nat) (v : Int), Hid (pos + g = s.size) ∧ pos ≤ s.size ∧ s4 = .int .i64 v ∧ Hid (v = numV ((tl s).take pos)) ∧ 0 ≤ v ∧ v < 100000 ∧ Hid (∀ x ∈ (tl s).take pos, lxDig (bz x) = true) ∧ wr.heap[w.heap.size]? = some (.stringIter s pos) ∧ Below w.heap.size w wr)
        case atStart => exact ⟨0, 0, by show _ = _; omega, by omega, rfl, Lib.hid rfl, by omega, by omega, Lib.hid (by intro x hx; simp at hx), World.iter_heap w s 0, (Below.refl _ _).alloc (Nat.le_refl _) _⟩
        case round =>
          obtain ⟨pos, v, HP, hp, rfl, HV, hv0, hv1, HA, hit, hB⟩ := hrel
          have HIT := Lib.hid hit
          by_cases hlt : pos < s.size
          · obtain ⟨c, hc⟩ : ∃ c, (tl s)[pos]? = some c := ⟨_, tl_get hlt⟩
            have HC := Lib.hid hc
            have HDGR := HDG (rn s pos)
            cases hd : lxDig (rn s pos) with
            | true =>
              rw [hd] at HDGR
              have hnx := fun ty => next_one (P := Tryd.prog) wr w.heap.size s pos hit hlt (wd_of_rn hc (wd_of_dig hd)) ty
              have hR := (rn_next hc (.inl (by rw [← rn_wd hc]; exact wd_of_dig hd))).1
              have hb := lxDig_iff.1 hd
              have hdc : lxDig (bz c) = true := by rw [← hR]; exact hd
              have HA2 := Lib.hid (dig_snoc hc HA.out hdc)
              have HV2 : Hid (10 * v + (rn s pos - 48) = numV ((tl s).take (pos + 1))) := Lib.hid (by rw [take_snocD hc, numV_snoc, ← HV.out, hR])
              have hsm := numV_small HA2.out (by rw [List.length_take]; omega)
              rw [← HV2.out] at hsm
              have hit2 := Lib.hid (Lib.iterAt_heap wr w.heap.size s pos (pos + 1) hit)
              have hB2 := Lib.below_iterAt hB (k := w.heap.size) (Nat.le_refl _) s (pos + 1)
              clear hc hd hit hR hdc
              generalize rn s pos = R at *
              generalize wr.iterAt w.heap.size s (pos + 1) = w2 at *
              go_wp2_with fail
              refine (HDGR _).out.mono ?_
              rintro e _ ⟨rfl, rfl⟩
              go_wp2_with fail
              go_roundg (gk - 1)
              case measure => have := HP.out; omega
              case rel => exact ⟨pos + 1, 10 * v + (R - 48), by have := HP.out; show _ = _; omega, by omega, by first | rfl | go_num, HV2, hsm.1, hsm.2, HA2, hit2.out, hB2⟩
            | false =>
              rw [hd] at HDGR
              have HL : Hid (numOK (tl s) = false) := Lib.hid (numOK_bad (List.mem_of_getElem? hc) (by rw [← rn_dig hc]; exact hd))
              have hnx := fun ty => next_rn (P := Tryd.prog) wr w.heap.size s pos hit hlt ty
              have hB2 := Lib.below_iterAt hB (k := w.heap.size) (Nat.le_refl _) s (pos + (Utf8.decode s pos).2)
              clear hc hd hit
              generalize rn s pos = R at *
              generalize wr.iterAt w.heap.size s (pos + (Utf8.decode s pos).2) = w2 at *
              go_wp2_with fail
              refine (HDGR _).out.mono ?_
              rintro e _ ⟨rfl, rfl⟩
              go_wp2_with fail
              go_ret2
              exact ⟨0, by rw [HL.out]; rfl, (fun h => by rw [HL.out] at h; cases h), hB2⟩
          · obtain rfl : pos = s.size := by omega
            have hnx := fun ty => Lib.run_next_end_at (P := Tryd.prog) wr w.heap.size s s.size ty hit hlt
            have HTA : Hid ((tl s).take s.size = tl s) := Lib.hid (List.take_of_length_le (by rw [HLEN.out]; exact Nat.le_refl _))
            have HV2 : Hid (v = numV (tl s)) := Lib.hid (by rw [HV.out, HTA.out])
            have HOK : Hid (numOK (tl s) = decide (v < 65536)) := Lib.hid (by rw [numOK_end HNL.out (List.all_eq_true.2 (by have := HA.out; rw [HTA.out] at this; exact this)), HV2.out])
            clear hit
            go_wp2_with fail
            go_ret2
            exact ⟨v, by rw [HOK.out]; rfl, fun _ => HV2.out, hB⟩
      · have q1 : decide ((1 : Int) < (s.size : Int)) = true := decide_eq_true (by omega)
        have HC0 := Lib.hid hc0
        clear hc0
        go_enter Tryd.func29, Tryd.ntmps29
        go_wp2_with ((with_reducible refine wpList_at ⟨some 16, _, _, _, _, _⟩ ?_); refine wpList_valueG rfl _ (by exact exec_idxS _ _ _ _ rfl Tryd.underlying9 s rfl .i64 0 rfl c0 HC0.out _ rfl) ?_)
        go_loopg [4] s.size (fun g s4 wr => ∃ (pos : Nat) (v : Int), Hid (pos + g = s.size) ∧ pos ≤ s.size ∧ s4 = .int .i64 v ∧ Hid (v = numV ((tl s).take pos)) ∧ 0 ≤ v ∧ v < 100000 ∧ Hid (∀ x ∈ (tl s).take pos, lxDig (bz x) = true) ∧ wr.heap[w.heap.size]? = some (.stringIter s pos) ∧ Below w.heap.size w wr)
        case atStart => exact ⟨0, 0, by show _ = _; omega, by omega, rfl, Lib.hid rfl, by omega, by omega, Lib.hid (by intro x hx; simp at hx), World.iter_heap w s 0, (Below.refl _ _).alloc (Nat.le_refl _) _⟩
        case round =>
          obtain ⟨pos, v, HP, hp, rfl, HV, hv0, hv1, HA, hit, hB⟩ := hrel
          have HIT := Lib.hid hit
          by_cases hlt : pos < s.size
          · obtain ⟨c, hc⟩ : ∃ c, (tl s)[pos]? = some c := ⟨_, tl_get hlt⟩
            have HC := Lib.hid hc
            have HDGR := HDG (rn s pos)
            cases hd : lxDig (rn s pos) with
            | true =>
              rw [hd] at HDGR
              have hnx := fun ty => next_one (P := Tryd.prog) wr w.heap.size s pos hit hlt (wd_of_rn hc (wd_of_dig hd)) ty
              have hR := (rn_next hc (.inl (by rw [← rn_wd hc]; exact wd_of_dig hd))).1
              have hb := lxDig_iff.1 hd
              have hdc : lxDig (bz c) = true := by rw [← hR]; exact hd
              have HA2 := Lib.hid (dig_snoc hc HA.out hdc)
              have HV2 : Hid (10 * v + (rn s pos - 48) = numV ((tl s).take (pos + 1))) := Lib.hid (by rw [take_snocD hc, numV_snoc, ← HV.out, hR])
              have hsm := numV_small HA2.out (by rw [List.length_take]; omega)
              rw [← HV2.out] at hsm
              have hit2 := Lib.hid (Lib.iterAt_heap wr w.heap.size s pos (pos + 1) hit)
              have hB2 := Lib.below_iterAt hB (k := w.heap.size) (Nat.le_refl _) s (pos + 1)
              clear hc hd hit hR hdc
              generalize rn s pos = R at *
              generalize wr.iterAt w.heap.size s (pos + 1) = w2 at *
              go_wp2_with fail
              refine (HDGR _).out.mono ?_
              rintro e _ ⟨rfl, rfl⟩
              go_wp2_with fail
              go_roundg (gk - 1)
              case measure => have := HP.out; omega
              case rel => exact ⟨pos + 1, 10 * v + (R - 48), by have := HP.out; show _ = _; omega, by omega, by first | rfl | go_num, HV2, hsm.1, hsm.2, HA2, hit2.out, hB2⟩
            | false =>
              rw [hd] at HDGR
              have HL : Hid (numOK (tl s) = false) := Lib.hid (numOK_bad (List.mem_of_getElem? hc) (by rw [← rn_dig hc]; exact hd))
              have hnx := fun ty => next_rn (P := Tryd.prog) wr w.heap.size s pos hit hlt ty
              have hB2 := Lib.below_iterAt hB (k := w.heap.size) (Nat.le_refl _) s (pos + (Utf8.decode s pos).2)
              clear hc hd hit
              generalize rn s pos = R at *
              generalize wr.iterAt w.heap.size s (pos + (Utf8.decode s pos).2) = w2 at *
              go_wp2_with fail
              refine (HDGR _).out.mono ?_
              rintro e _ ⟨rfl, rfl⟩
              go_wp2_with fail
              go_ret2
              exact ⟨0, by rw [HL.out]; rfl, (fun h => by rw [HL.out] at h; cases h), hB2⟩
          · obtain rfl : pos = s.size := by omega
            have hnx := fun ty => Lib.run_next_end_at (P := Tryd.prog) wr w.heap.size s s.size ty hit hlt
            have HTA : Hid ((tl s).take s.size = tl s) := Lib.hid (List.take_of_length_le (by rw [HLEN.out]; exact Nat.le_refl _))
            have HV2 : Hid (v = numV (tl s)) := Lib.hid (by rw [HV.out, HTA.out])
            have HOK : Hid (numOK (tl s) = decide (v < 65536)) := Lib.hid (by rw [numOK_end HNL.out (List.all_eq_true.2 (by have := HA.out; rw [HTA.out] at this; exact this)), HV2.out])
            clear hit
            go_wp2_with fail
            go_ret2
            exact ⟨v, by rw [HOK.out]; rfl, fun _ => HV2.out, hB⟩
end Go.Proofs.YtgliealofieenaaDoor

/-
  What lex.Tokens returns: a contract by a walk. For texts of at most 1500 bytes.
-/
import Derived.Test.YtgliealofieenaaDoorLxG
set_option linter.unusedSimpArgs false
set_option linter.unusedVariables false
namespace Go.Proofs.YtgliealofieenaaDoor
open Go.RowKit

theorem itr_on {w w' : World} {k p : Nat} {s : ByteArray} (h : w.heap[k]? = some (.stringIter s p)) (hb : Below w.heap.size w w') : w'.heap[k]? = some (.stringIter s p) := (hb.block k (Array.getElem?_eq_some_iff.1 h).1).trans h
theorem itr_kept {w w' : World} {k p : Nat} {s : ByteArray} {row : Option Nat} (h : w.heap[k]? = some (.stringIter s p)) (hg : w.grownBy w' row) (hne : some k ≠ row) : w'.heap[k]? = some (.stringIter s p) := (hg.block k (Array.getElem?_eq_some_iff.1 h).1 hne).trans h
theorem grown_iterAt (w : World) (k : Nat) (s : ByteArray) (p : Nat) : w.grownBy (w.iterAt k s p) (some k) :=
  ⟨rfl, rfl, rfl, by rw [Lib.iterAt_size]; exact Nat.le_refl _, fun j hj hne => Lib.iterAt_other w k j s p (fun e => hne (by rw [e]))⟩
theorem own_lt_ne {w : World} {base n g size : Nat} {e : TypeId} {v : Value} {xs : List Value} (h : w.ownsRow base e size v n xs) (hlt : g < base) : v.ownBlock ≠ some g := fun e' => by
  have := (h.lt g e').1; omega
theorem own_ge_ne {w : World} {base n g size : Nat} {e : TypeId} {v : Value} {xs : List Value} (h : w.ownsRow base e size v n xs) (hg : w.heap.size ≤ g) : v.ownBlock ≠ some g := fun e' => by
  have := (h.lt g e').2; omega
theorem tl_rest (s : ByteArray) (p : Nat) : tl (s.extract p s.size) = (tl s).drop p := by
  rw [tl_extract, List.take_of_length_le (by rw [List.length_drop, tl_len]; exact Nat.le_refl _)]
def TellsK (b : Bool) (Q : Tk → Prop) (w : World) (e : Ending) (w' : World) : Prop := ∃ t : Tk, e = .returned (.tuple #[.agg t.cs.toArray, .bool b]) ∧ Q t ∧ Below w.heap.size w w'
theorem tellsF_none {l : List UInt8} (hf : lxFirst l = none) {w : World} {e : Ending} {w' : World} (h : TellsF l w e w') : TellsK false (fun _ => True) w e w' := by
  obtain ⟨t, he, _, hb⟩ := h
  rw [hf] at he
  exact ⟨t, he, trivial, hb⟩
theorem tellsF_some {l : List UInt8} {k n : Int} {m : Nat} (hf : lxFirst l = some (k, m, n)) {w : World} {e : Ending} {w' : World} (h : TellsF l w e w') : TellsK true (fun t => t = ⟨k, mk (l.take m), n, 0⟩) w e w' := by
  obtain ⟨t, he, ht, hb⟩ := h
  rw [hf] at he
  exact ⟨t, he, ht _ _ _ hf, hb⟩
set_option maxRecDepth 100000 in
set_option maxHeartbeats 8000000 in
theorem tokens_any (s : ByteArray) (w : World) (hs : s.size ≤ 1500) (hK : Sgs w) :
    Calls Tryd.prog 10 #[.string s] w (GivesT (tkL s) (tkE s) w) := by
  obtain ⟨i0, hi0, hz0, hz1, hz2⟩ := info_parts info_tk
  have HK := Lib.hid hK
  have HLEN := Lib.hid (tl_len s)
  have HWH := fun r W => Lib.hid (white_any r W)
  have HFI := fun r (x : ByteArray) c W (h1 : x.size ≤ 1000000) (h2 : Sgs W) (h3 : (tl x)[0]? = some c) (h4 : lxLet r = lxLet (bz c)) (h5 : lxDig r = lxDig (bz c)) => Lib.hid (first_any r x c W h1 h2 h3 h4 h5)
  have q15 : decide ((1500 : Int) < (s.size : Int)) = false := decide_eq_false (by omega)
  clear hK
  unfold GivesT
  go_enter Tryd.func10, Tryd.ntmps10
  go_wp2_with fail
  go_loopg [4, 5] s.size (fun g s4 s5 wr => ∃ (p e : Nat) (acc : List Tk), Hid (p + g = s.size) ∧ s5 = .int .i64 (e : Int) ∧ wr.ownsRow (w.heap.size + 1) 30 4 s4 acc.length (tks acc) ∧ wr.heap[w.heap.size]? = some (.stringIter s p) ∧ Below w.heap.size w wr ∧ LxAt s p e acc)
  case atStart => exact ⟨0, 0, [], by show _ = _; omega, rfl, World.ownsRow_nil _ _ _ _, World.iter_heap w s 0, (Below.refl _ _).alloc (Nat.le_refl _) _, LxAt.start s⟩
  case round =>
    obtain ⟨p, e, acc, HP, rfl, own, hit, hB, hat⟩ := hrel
    have HAT := Lib.hid hat
    have HIT := Lib.hid hit
    have hps := hat.1
    have hes := hat.2.1
    have hal := hat.2.2.1
    have hbs := hB.size
    have hks : w.heap.size < wr.heap.size := (Array.getElem?_eq_some_iff.1 hit).1
    by_cases hlt : p < s.size
    · obtain ⟨c, hc⟩ : ∃ c, (tl s)[p]? = some c := ⟨_, tl_get hlt⟩
      have HC := Lib.hid hc
      by_cases hpe : p < e
      · have hone := (rn_next hc (.inr (.inr (hat.2.2.2.1 p c (Nat.le_refl _) hpe hc)))).2
        have hnx := fun ty => next_one (P := Tryd.prog) wr w.heap.size s p hit hlt hone ty
        have hit2 := Lib.hid (Lib.iterAt_heap wr w.heap.size s p (p + 1) hit)
        have hg2 := grown_iterAt wr w.heap.size s (p + 1)
        have own2 := own.kept hg2 (.inr (own_lt_ne own (Nat.lt_succ_self _)))
        have hB2 := Lib.below_iterAt hB (k := w.heap.size) (Nat.le_refl _) s (p + 1)
        have q1 : decide ((p : Int) < (e : Int)) = true := decide_eq_true (by omega)
        have q2 : decide (p < e) = true := decide_eq_true hpe
        clear hc hat hit hone hg2 own hB
        generalize rn s p = R at *
        generalize wr.iterAt w.heap.size s (p + 1) = w2 at *
        go_wp2_with fail
        go_roundg (gk - 1)
        case measure => have := HP.out; omega
        case rel => exact ⟨p + 1, e, acc, by have := HP.out; show _ = _; omega, rfl, own2, hit2.out, hB2, HAT.out.skip HC.out hpe⟩
      · have q1 : decide ((p : Int) < (e : Int)) = false := decide_eq_false (by omega)
        have q2 : decide (p < e) = false := decide_eq_false hpe
        have hpe' : e ≤ p := by omega
        have HWR := HWH (rn s p)
        by_cases hw : lxWh (bz c) = true
        · have hone := (rn_next hc (.inr (.inl hw))).2
          rw [rn_wh hc, hw] at HWR
          have HWW := Lib.hid hw
          have hnx := fun ty => next_one (P := Tryd.prog) wr w.heap.size s p hit hlt hone ty
          have hit2 := Lib.hid (Lib.iterAt_heap wr w.heap.size s p (p + 1) hit)
          have hg2 := grown_iterAt wr w.heap.size s (p + 1)
          have own2 := own.kept hg2 (.inr (own_lt_ne own (Nat.lt_succ_self _)))
          have hB2 := Lib.below_iterAt hB (k := w.heap.size) (Nat.le_refl _) s (p + 1)
          clear hc hat hit hone hg2 own hB hw
          generalize rn s p = R at *
          generalize wr.iterAt w.heap.size s (p + 1) = w2 at *
          go_wp2_with fail
          refine (HWR _).out.mono ?_
          rintro _ _ ⟨rfl, rfl⟩
          go_wp2_with fail
          go_roundg (gk - 1)
          case measure => have := HP.out; omega
          case rel => exact ⟨p + 1, e, acc, by have := HP.out; show _ = _; omega, rfl, own2, hit2.out, hB2, HAT.out.white HC.out hpe' HWW.out⟩
        · have hwf := not_of hw
          rw [rn_wh hc, hwf] at HWR
          have HX := Lib.hid (tl_rest s p)
          have hxs : (s.extract p s.size).size ≤ 1000000 := by
            rw [← tl_len, HX.out, List.length_drop, tl_len]; omega
          have hx0 : (tl (s.extract p s.size))[0]? = some c := by rw [HX.out, List.getElem?_drop]; exact hc
          have HFX := fun W hW => HFI (rn s p) (s.extract p s.size) c W hxs hW hx0 (rn_let hc) (rn_dig hc)
          rw [HX.out] at HFX
          have hg2 := grown_iterAt wr w.heap.size s (p + (Utf8.decode s p).2)
          have hnx := fun ty => next_rn (P := Tryd.prog) wr w.heap.size s p hit hlt ty
          have own2 := own.kept hg2 (.inr (own_lt_ne own (Nat.lt_succ_self _)))
          have hit2 := Lib.hid (Lib.iterAt_heap wr w.heap.size s p (p + (Utf8.decode s p).2) hit)
          have hB2 := Lib.below_iterAt hB (k := w.heap.size) (Nat.le_refl _) s (p + (Utf8.decode s p).2)
          have hsz2 : (wr.iterAt w.heap.size s (p + (Utf8.decode s p).2)).heap.size = wr.heap.size := Lib.iterAt_size _ _ _ _
          have hks2 : w.heap.size < (wr.iterAt w.heap.size s (p + (Utf8.decode s p).2)).heap.size := by omega
          cases hf : lxFirst ((tl s).drop p) with
          | none =>
            have HTK := Lib.hid (tk_none (hat.bad hc hpe' hwf hf))
            replace HFX := fun W hW => Lib.hid ((HFX W hW).out.mono fun e w' h => tellsF_none hf h)
            clear hc hat hit hw hwf hf hx0 hsz2 hxs
            generalize rn s p = R at *
            generalize wr.iterAt w.heap.size s (p + (Utf8.decode s p).2) = w2 at *
            go_wp2_with fail
            refine (HWR _).out.mono ?_
            rintro _ _ ⟨rfl, rfl⟩
            go_wp2_with fail
            refine (HFX _ (HK.out.on hB2)).out.mono ?_
            rintro _ w3 ⟨t, rfl, _, b3⟩
            have B3 := hB2.trans (b3.mono hB2.size)
            go_wp2_with (first
              | (with_reducible refine wpList_alloc_row (o := ⟨some 8, _, _, _, _, _⟩) rfl _ rfl zeroTk zero_tk ?_; intro w4 r4 s4 g4; have B4 := below_kept B3 g4 B3.size (by simp))
              | ((with_reducible refine wpList_at ⟨none, .store _ (.tmp 8) _, _, _, _, _⟩ ?_); refine wpList_store_all rfl _ _ _ rfl w3.heap.size rfl _ _ r4 t.cs rfl (t.cs_one) rfl (by kernel_rfl) ?_; intro w5 r5 g5; have B5 := below_kept B4 g5 B4.size (by rintro q hq; cases hq; have := B3.size; omega)))
            go_ret2
            exact ⟨none, 0, 0, by rw [HTK.out.2]; rfl, by rw [HTK.out.1]; exact Reads.nil_, Nat.le_refl _, by omega, B5⟩
          | some x =>
            obtain ⟨k, m, n⟩ := x
            obtain ⟨hat2, hm0, hml⟩ := hat.tok hc hpe' hf
            have HAT2 := Lib.hid hat2
            have hone : (Utf8.decode s p).2 = 1 := (rn_next hc (.inr (.inr (first_ascii hf (j := 0) hm0 (by rw [List.getElem?_drop]; exact hc))))).2
            rw [hone] at hnx own2 hit2 hB2 hsz2 hks2
            have HF := Lib.hid hf
            replace HFX := fun W hW => Lib.hid ((HFX W hW).out.mono fun e w' h => tellsF_some hf h)
            have HMS : Hid ((mk (((tl s).drop p).take m)).size = m) := Lib.hid (by rw [mk_size, List.length_take, List.length_drop, tl_len]; omega)
            clear hc hat hit hw hwf hf hx0 hxs hat2 hone hg2
            generalize rn s p = R at *
            generalize wr.iterAt w.heap.size s (p + 1) = w2 at *
            go_wp2_with fail
            refine (HWR _).out.mono ?_
            rintro _ _ ⟨rfl, rfl⟩
            go_wp2_with fail
            refine (HFX _ (HK.out.on hB2)).out.mono ?_
            rintro _ w3 ⟨t, rfl, ht, b3⟩
            have HT := Lib.hid ht
            clear ht
            have B3 := hB2.trans (b3.mono hB2.size)
            have own3 := own_below own2 b3
            have it3 := Lib.hid (itr_on hit2.out b3)
            have z3 := b3.size
            clear own2 hit2 b3 HFX HFI
            go_wp2_with (first
              | (with_reducible refine wpList_alloc_row (o := ⟨some 8, _, _, _, _, _⟩) rfl _ rfl zeroTk zero_tk ?_; intro w4 r4 z4 g4; have B4 := below_kept B3 g4 B3.size (by simp); have own4 := own3.kept g4 (by cases v : Value.ownBlock _ <;> simp); have it4 := Lib.hid (itr_kept it3.out g4 (by simp)); have ne4 := own_ge_ne own3 (Nat.le_refl _))
              | ((with_reducible refine wpList_at ⟨none, .store _ (.tmp 8) _, _, _, _, _⟩ ?_); refine wpList_store_all rfl _ _ _ rfl w3.heap.size rfl _ _ r4 t.cs rfl (t.cs_one) rfl (by kernel_rfl) ?_; intro w5 r5 g5; have z5 := g5.size; have B5 := below_kept B4 g5 B4.size (by rintro q hq; cases hq; omega); have own5 := own4.kept g5 (.inr ne4); have it5 := Lib.hid (itr_kept it4.out g5 (by simp; omega)))
              | ((with_reducible refine wpList_at ⟨none, .store _ (.tmp 37) _, _, _, _, _⟩ ?_); refine wpList_store_elem rfl _ _ _ rfl w3.heap.size 3 rfl _ _ r5 (.int .i64 (p : Int)) rfl rfl (by show 3 < 4; decide) (by kernel_rfl) ?_; intro w6 r6 g6; have z6 := g6.size; have B6 := below_kept B5 g6 B5.size (by rintro q hq; cases hq; omega); have own6 := own5.kept g6 (.inr ne4); have it6 := Lib.hid (itr_kept it5.out g6 (by simp; omega)); clear own3 own4 own5 it3 it4 it5 r4 r5)
              | ((with_reducible refine wpList_at ⟨some 39, _, _, _, _, _⟩ ?_); refine wpList_valueG rfl _ (by exact exec_loadTk _ _ rfl ⟨w3.heap.size, 0, none⟩ rfl ⟨t.k, t.t, t.n, (p : Int)⟩ r6.cells) ?_)
              | ((with_reducible refine wpList_at ⟨some 40, _, _, _, _, _⟩ ?_); refine wpList_valueW (o := ⟨some 40, _, _, _, _, _⟩) rfl _ (by exact exec_slice1 _ 23 30 _ rfl Tryd.underlying23 i0 _ hi0 hz0 (Tk.cs ⟨t.k, t.t, t.n, (p : Int)⟩) (by rw [hz1]; rfl) (by show 0 < 4; decide) (by show 4 ≤ 1000; decide) rfl) ?_)
              | (at_builtin; have bx : Below w6.heap.size w6 (w6.alloc (.cells (Tk.cs ⟨t.k, t.t, t.n, (p : Int)⟩).toArray 30)) := (Below.refl _ _).alloc (Nat.le_refl _) _; have rx := r6.on bx; have ownx := own_below own6 bx; have itx := Lib.hid (itr_on it6.out bx); have zx := bx.size
                 refine wpList_append_at9 rfl (.tmp 38) (.tmp 40) _ _ rfl (w.heap.size + 1) 30 i0 _ 4 40 Tryd.underlying23 hi0 hz0 hz1 hz2 rfl _ _ _ rfl ownx 1 (Tk.cs ⟨t.k, t.t, t.n, (p : Int)⟩) (boxRow9 Tryd.underlying23 _ _ _ 4 rfl (Tk.cs_one _) _) (by unfold maxLen; omega) (by omega) (by omega) ?_
                 intro v7 w7 own7 g7 ob7; have z7 := g7.size; have r7 := rx.kept g7 (Ne.symm ne4); have c71 := r7.cell (j := 1) rfl; have it7 := Lib.hid (itr_kept itx.out g7 (Ne.symm (own_lt_ne ownx (Nat.lt_succ_self _)))); have B7 := below_kept (B6.trans (bx.mono B6.size)) g7 (Nat.le_trans B6.size bx.size) (by intro q hq; have := (ownx.lt q hq).1; omega); clear own6 ownx rx r6 it6 itx))
            have HTT : Hid ((p : Int) + (t.t.size : Int) = ((p + m : Nat) : Int)) := Lib.hid (by rw [HT.out, HMS.out]; omega)
            have HTV : Hid (tks acc ++ Tk.cs ⟨t.k, t.t, t.n, (p : Int)⟩ = tks (acc ++ [⟨k, mk (((tl s).drop p).take m), n, (p : Int)⟩])) := Lib.hid (by rw [tks_snoc, HT.out])
            rw [HTV.out] at own7
            have htm : p + t.t.size ≤ 1500 := by have := HTT.out; omega
            go_wp2_with fail
            go_roundg (gk - 1)
            case measure => have := HP.out; omega
            case rel => exact ⟨p + 1, p + m, acc ++ [⟨k, mk (((tl s).drop p).take m), n, (p : Int)⟩], by have := HP.out; show _ = _; omega, by have h9 := HTT.out; rw [Int.natCast_add] at h9 ⊢; rw [← h9]; show Value.int .i64 (wrap64 ((p : Int) + (t.t.size : Int))) = _; rw [show wrap64 ((p : Int) + (t.t.size : Int)) = (p : Int) + (t.t.size : Int) by unfold wrap64; omega], by rw [List.length_append, List.length_singleton]; exact own7, it7.out, B7, HAT2.out⟩
    · obtain rfl : p = s.size := by omega
      have hnx := fun ty => Lib.run_next_end_at (P := Tryd.prog) wr w.heap.size s s.size ty hit hlt
      have HTK := Lib.hid (tk_some hat.done)
      have hacc : acc.length ≤ 100000 := by omega
      obtain ⟨A, c, rfl, hc1, hc2, hr⟩ := own_form own
      clear hit hat own
      go_wp2_with fail
      go_ret2
      exact ⟨A, acc.length, c, by rw [HTK.out.2]; rfl, by rw [HTK.out.1]; exact hr, hc1, hacc, hB⟩
end Go.Proofs.YtgliealofieenaaDoor

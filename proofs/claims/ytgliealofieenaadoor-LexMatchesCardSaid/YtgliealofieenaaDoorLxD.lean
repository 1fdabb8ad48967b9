/-
  What lex.sign returns, from the list of operators and delimiters; the reference's sign and number: contracts by walks. No condition but bounded lengths.
-/
import Derived.Test.YtgliealofieenaaDoorLxC
import Derived.WalkMore
set_option linter.unusedSimpArgs false
set_option linter.unusedVariables false
namespace Go.Proofs.YtgliealofieenaaDoor
open Go.RowKit

/-- The list as it lies in memory. -/
def sgv : List Value := sgs.map fun g => .string (mk g)
def Sgs (w : World) : Prop := ∀ j u, sgv[j]? = some u → w.cell? ((⟨0, 0, none⟩ : Addr).add j) = some u
theorem Sgs.lt {w : World} (h : Sgs w) : 0 < w.heap.size := by
  have := World.block_lt_of_cell? w _ (h 0 _ rfl)
  rwa [block_of_add] at this
theorem Sgs.on {w w' : World} (h : Sgs w) (hb : Below w.heap.size w w') : Sgs w' := fun j u hj => (hb.cell (by rw [block_of_add]; exact h.lt)).trans (h j u hj)
section
variable {P : Program}
theorem run_index_agg1 (w : World) (t e : TypeId) (n : Nat) (ht : P.underlying t = some (.array n e)) (ha : ∀ w, (isAgg e).run P w = .ok false w) (hsz : ∀ w, (sizeOf e).run P w = .ok 1 w) (cs : List Value) (k : IntKind) (i : Nat) (hi : i < n) (u : Value)
    (hu : cs[i]? = some u) : (Instr.index t (.agg cs.toArray) (.int k (i : Int))).run P w = .ok u w := by
  simp [Instr.index, asIntOf, run_underlying ht, part, ha, hsz, hi, hu]
theorem exec_index_agg1 {ρ : Operand → Value} {o : Oper} (w : World) (t e : TypeId) (n : Nat) (x ix : Operand) (ho : o.op = .index t x ix) (ht : P.underlying t = some (.array n e)) (ha : ∀ w, (isAgg e).run P w = .ok false w) (hsz : ∀ w, (sizeOf e).run P w = .ok 1 w) (cs : List Value)
    (hx : ρ x = .agg cs.toArray) (k : IntKind) (i : Nat) (hix : ρ ix = .int k (i : Int)) (hi : i < n) (u : Value) (hu : cs[i]? = some u) : (execOp ρ o).run P w = .ok (.value u) w := by
  unfold execOp
  simp [ho, hx, hix, run_index_agg1 w t e n ht ha hsz cs k i hi u hu]
end
theorem isAgg_str (w : World) : (isAgg 9).run Tryd.prog w = .ok false w := by kernel_rfl
theorem sizeOf_str (w : World) : (sizeOf 9).run Tryd.prog w = .ok 1 w := by kernel_rfl
theorem sgs_small : ∀ g ∈ sgs, g.length ≤ 2 := by decide
def TellsSg (l : List UInt8) (w : World) (e : Ending) (w' : World) : Prop := ∃ x : ByteArray, e = .returned (.tuple #[.string x, .bool (decide (sgn l ≠ 0))]) ∧ (sgn l ≠ 0 → tl x = l.take (sgn l)) ∧ Below w.heap.size w w'
theorem pre_of_take {g l : List UInt8} (h : g.take g.length = l.take g.length) (hl : g.length ≤ l.length) : g.isPrefixOf l = true := by
  rw [List.isPrefixOf_iff_prefix, List.prefix_iff_eq_take, ← h, List.take_length]
theorem pre_short {g l : List UInt8} (h : l.length < g.length) : g.isPrefixOf l = false := not_of fun e => by
  have := (List.isPrefixOf_iff_prefix.1 e).length_le
  omega
theorem pre_ne {g l : List UInt8} {k : Nat} {a b : UInt8} (ha : g[k]? = some a) (hb : l[k]? = some b) (h : b ≠ a) : g.isPrefixOf l = false := not_of fun e => by
  obtain ⟨r, rfl⟩ := List.isPrefixOf_iff_prefix.1 e
  rw [List.getElem?_append_left (List.getElem?_eq_some_iff.1 ha).1, ha] at hb
  exact h (Option.some.inj hb).symm
set_option maxRecDepth 100000 in
set_option maxHeartbeats 4000000 in
theorem lsign_any (s : ByteArray) (w : World) (hs : s.size ≤ 9223372036854775807) (hK : Sgs w) :
    Calls Tryd.prog 30 #[.string s] w (TellsSg (tl s) w) := by
  have HK := Lib.hid hK
  have HLEN := Lib.hid (tl_len s)
  clear hK
  go_enter Tryd.func30, Tryd.ntmps30
  go_wp2_with fail
  try go_step3
  go_wp2_with fail
  try go_step3
  go_wp2_with ((with_reducible refine wpList_at ⟨some 7, _, _, _, _, _⟩ ?_); refine wpList_valueG rfl _ (by exact exec_load _ 61 _ rfl ⟨0, 0, none⟩ rfl sgv HK.out _ Tryd.underlying61 rfl (by kernel_rfl)) ?_)
  go_loopg [8] 15 (fun g s8 wr => ∃ i : Nat, Hid (i + g = 15) ∧ i ≤ 15 ∧ s8 = .int .i64 (i : Int) ∧ Hid ((sgs.drop i).find? (fun g => g.isPrefixOf (tl s)) = sgs.find? fun g => g.isPrefixOf (tl s)) ∧ Below w.heap.size w wr)
  case atStart => exact ⟨0, by show _ = _; omega, by omega, rfl, Lib.hid rfl, Below.refl _ _⟩
  case round =>
    obtain ⟨i, HI, hi, rfl, HF, hB⟩ := hrel
    by_cases hlt : i < 15
    · obtain ⟨g, hg⟩ : ∃ g, sgs[i]? = some g := ⟨_, List.getElem?_eq_getElem (show i < sgs.length from hlt)⟩
      have HG := Lib.hid hg
      have HU : Hid (sgv[i]? = some (.string (mk g))) := Lib.hid (by unfold sgv; rw [List.getElem?_map, hg]; rfl)
      have hgl := sgs_small g (List.mem_of_getElem? hg)
      have hms : (mk g).size ≤ 2 := by rw [mk_size]; exact hgl
      have HMS := Lib.hid (mk_size g)
      have HMT := Lib.hid (tl_mk g)
      generalize mk g = m at *
      clear hg
      go_wp2_with ((with_reducible refine wpList_at ⟨some 10, _, _, _, _, _⟩ ?_); refine wpList_valueG rfl _ (by exact exec_index_agg1 _ _ 9 15 _ _ rfl Tryd.underlying61 isAgg_str sizeOf_str sgv rfl .i64 i rfl hlt _ HU.out) ?_)
      have HK2 := Lib.hid hms
      go_loopg [13] m.size (fun q s13 wq => ∃ k : Nat, Hid (k + q = m.size) ∧ k ≤ m.size ∧ k ≤ s.size ∧ s13 = .int .i64 (k : Int) ∧ Hid (g.take k = (tl s).take k) ∧ Below w.heap.size w wq)
      case atStart => exact ⟨0, by show _ = _; omega, by omega, by omega, rfl, Lib.hid rfl, hB⟩
      case round =>
        obtain ⟨k, HKQ, hk, hks, rfl, HTK, hB2⟩ := hrel
        have HPASS : Hid (g.isPrefixOf (tl s) = false → (sgs.drop (i + 1)).find? (fun g => g.isPrefixOf (tl s)) = sgs.find? fun g => g.isPrefixOf (tl s)) := Lib.hid fun h => sgn_pass HF.out HG.out h
        by_cases hkl : k < m.size
        · obtain ⟨a, ha⟩ : ∃ a, g[k]? = some a := ⟨_, List.getElem?_eq_getElem (by rw [← HMS.out]; exact hkl)⟩
          have HA := Lib.hid ha
          have HAM : Hid ((tl m)[k]? = some a) := Lib.hid (by rw [HMT.out]; exact ha)
          clear ha
          by_cases hend : k = s.size
          · have q1 : ((k : Int) == (s.size : Int)) = true := by rw [beq_iff_eq]; omega
            have q2 : (k == s.size) = true := by rw [beq_iff_eq]; omega
            have HP := Lib.hid (HPASS.out (pre_short (by rw [HLEN.out, ← HMS.out]; omega)))
            clear hend
            go_wp2_with fail
            go_quiet (fail)
            go_wp2_with fail
            go_roundg (15 - (i + 1))
            case measure => have := HI.out; omega
            case rel => exact ⟨i + 1, by show _ = _; omega, by omega, by go_num, HP, below_drewN hB2 nq⟩
          · have q1 : ((k : Int) == (s.size : Int)) = false := by rw [beq_eq_false_iff_ne]; omega
            have q2 : (k == s.size) = false := by rw [beq_eq_false_iff_ne]; omega
            obtain ⟨b, hb⟩ : ∃ b, (tl s)[k]? = some b := ⟨_, tl_get (by omega)⟩
            have HBM := Lib.hid hb
            have hks2 : k < s.size := by omega
            clear hb hend
            by_cases hab : b = a
            · subst hab
              have q3 : ((b.toNat : Int) != (b.toNat : Int)) = false := by simp
              have q4 : (b.toNat != b.toNat) = false := by simp
              have HT2 : Hid (g.take (k + 1) = (tl s).take (k + 1)) := Lib.hid (by rw [take_snocD HA.out, take_snocD HBM.out, HTK.out])
              go_wp2_with fail
              refine wp_region_quiet_lit (by kernel_rfl) (by kernel_rfl) ?_
              repeat (first
                | ((with_reducible refine wpQuietT_at ⟨some 23, _, _, _, _, _⟩ ?_); refine wpQuiet_valueG rfl _ (by intro _ _; exact exec_idxS _ _ _ _ rfl Tryd.underlying9 s rfl .i64 k rfl b HBM.out _ rfl) ?_; simp only [Act.put, List.setIfInBounds_toArray, List.set_cons_zero, List.set_cons_succ])
                | ((with_reducible refine wpQuietT_at ⟨some 26, _, _, _, _, _⟩ ?_); refine wpQuiet_valueG rfl _ (by intro _ _; exact exec_idxS _ _ _ _ rfl Tryd.underlying9 m rfl .i64 k rfl b HAM.out _ rfl) ?_; simp only [Act.put, List.setIfInBounds_toArray, List.set_cons_zero, List.set_cons_succ])
                | go_big_quiet_step (fail))
              refine wpQuiet_nil ?_
              intro _ hw'
              obtain ⟨nq, rfl⟩ := hw'
              go_wp2_with fail
              go_roundg (gk - 1)
              case measure => have := HKQ.out; omega
              case rel => exact ⟨k + 1, by have := HKQ.out; show _ = _; omega, by omega, by omega, by go_num, HT2, below_drewN hB2 nq⟩
            · have q3 : ((b.toNat : Int) != (a.toNat : Int)) = true := by rw [bne_iff_ne]; intro e; exact hab (UInt8.toNat_inj.1 (by omega))
              have q4 : (b.toNat != a.toNat) = true := by rw [bne_iff_ne]; intro e; exact hab (UInt8.toNat_inj.1 e)
              have q5 : ((b.toNat : Int) == (a.toNat : Int)) = false := by rw [beq_eq_false_iff_ne]; intro e; exact hab (UInt8.toNat_inj.1 (by omega))
              have q6 : (b.toNat == a.toNat) = false := by rw [beq_eq_false_iff_ne]; intro e; exact hab (UInt8.toNat_inj.1 e)
              have HP := Lib.hid (HPASS.out (pre_ne HA.out HBM.out hab))
              clear hab
              go_wp2_with fail
              refine wp_region_quiet_lit (by kernel_rfl) (by kernel_rfl) ?_
              repeat (first
                | ((with_reducible refine wpQuietT_at ⟨some 23, _, _, _, _, _⟩ ?_); refine wpQuiet_valueG rfl _ (by intro _ _; exact exec_idxS _ _ _ _ rfl Tryd.underlying9 s rfl .i64 k rfl b HBM.out _ rfl) ?_; simp only [Act.put, List.setIfInBounds_toArray, List.set_cons_zero, List.set_cons_succ])
                | ((with_reducible refine wpQuietT_at ⟨some 26, _, _, _, _, _⟩ ?_); refine wpQuiet_valueG rfl _ (by intro _ _; exact exec_idxS _ _ _ _ rfl Tryd.underlying9 m rfl .i64 k rfl a HAM.out _ rfl) ?_; simp only [Act.put, List.setIfInBounds_toArray, List.set_cons_zero, List.set_cons_succ])
                | go_big_quiet_step (fail))
              refine wpQuiet_nil ?_
              intro _ hw'
              obtain ⟨nq, rfl⟩ := hw'
              go_wp2_with fail
              go_roundg (15 - (i + 1))
              case measure => have := HI.out; omega
              case rel => exact ⟨i + 1, by show _ = _; omega, by omega, by go_num, HP, below_drewN hB2 nq⟩
        · obtain rfl : k = m.size := by omega
          have HPT := Lib.hid (sgn_at HF.out HG.out (pre_of_take (by rw [← HMS.out]; exact HTK.out) (by rw [HLEN.out, ← HMS.out]; exact hks)))
          go_wp2_with fail
          try go_step3
          try rw [Exit.noGoto_ret]
          go_ret2
          exact ⟨m, by rw [decide_eq_true (show sgn (tl s) ≠ 0 by have := HPT.out.1; omega)]; rfl, fun _ => by rw [HMT.out]; exact HPT.out.2.symm, hB2⟩
    · obtain rfl : i = 15 := by omega
      have HZ := Lib.hid (sgn_none HF.out)
      go_wp2_with fail
      try go_step3
      try rw [Exit.noGoto_ret]
      go_ret2
      exact ⟨⟨#[]⟩, by rw [HZ.out]; rfl, fun h => absurd HZ.out h, hB⟩
end Go.Proofs.YtgliealofieenaaDoor

/-
  Words of layer 12: the values of tokens; comparisons of tokens; a string's characters. No condition.
-/
import Derived.Test.YtgliealofieenaaDoorProg
import Derived.Test.YtgliealofieenaaDoorLxM
import Derived.Test.YtgliealofieenaaDoorElt
import Derived.Test.YtgliealofieenaaDoorApp
import Derived.Lib.OthersKept
import Derived.Deep.LoopGhost
set_option linter.unusedSimpArgs false
set_option linter.unusedVariables false
namespace Go.Proofs.YtgliealofieenaaDoor
open Go.RowKit

theorem strT_eqb (s t : ByteArray) : (s.toList == t.toList) = decide (s = t) := by
  rw [ByteArray.toList_eq, ByteArray.toList_eq, Bool.eq_iff_iff, beq_iff_eq, decide_eq_true_eq]
  exact ⟨ba_ext, fun h => by rw [h]⟩
def Tk.cs (t : Tk) : List Value := [.int .i64 t.k, .string t.t, .int .i64 t.n, .int .i64 t.a]
def Tk.v (t : Tk) : Value := .agg t.cs.toArray
theorem Tk.cs_len (t : Tk) : t.cs.length = 4 := rfl
theorem Tk.cs_one (t : Tk) : ∀ u ∈ t.cs, u.oneCell' = true := by intro u hu; unfold Tk.cs at hu; simp at hu; rcases hu with rfl | rfl | rfl | rfl <;> rfl
def tks (l : List Tk) : List Value := l.flatMap Tk.cs
theorem tks_one (l : List Tk) : ∀ u ∈ tks l, u.oneCell' = true := flT_one Tk.cs_one l
theorem tks_snoc (l : List Tk) (t : Tk) : tks (l ++ [t]) = tks l ++ t.cs := by unfold tks; simp
theorem tks_app (l m : List Tk) : tks (l ++ m) = tks l ++ tks m := by unfold tks; simp
def zeroTk : List Value := [.int .i64 0, .string ⟨#[]⟩, .int .i64 0, .int .i64 0]
theorem zero_tk : (Tryd.prog.info? 30).map (fun i => i.zero.map (·.cells)) = some (some zeroTk.toArray) := by kernel_rfl
theorem info_tk : (Tryd.prog.info? 30).map (fun i => (i.zero, i.size, i.bytes)) = some (some (.agg zeroTk.toArray), 4, 40) := by kernel_rfl
section
variable {w w' : World} {B n : Nat} {A : Option Addr} {ts : List Tk}
theorem Reads.tk_len (h : Reads w B 4 A n (tks ts)) : ts.length = n := h.lenT (g := Tk.cs) (by decide) Tk.cs_len
theorem Reads.tk_at (h : Reads w B 4 A n (tks ts)) {i : Nat} (hi : i < n) : ∃ ad t, A = some ad ∧ ad.block < B ∧ ts[i]? = some t ∧ ∀ j u, t.cs[j]? = some u → w.cell? ((ad.add (i * 4)).add j) = some u := by
  obtain ⟨t, ht⟩ : ∃ t, ts[i]? = some t := ⟨_, List.getElem?_eq_getElem (by rw [h.tk_len]; exact hi)⟩
  obtain ⟨ad, hA, hb, hc⟩ := h.elemT (g := Tk.cs) Tk.cs_len ht hi
  exact ⟨ad, t, hA, hb, ht, hc⟩
end
/-- A cell of an element, as a walk names it. -/
theorem tk_cell {w : World} {ad : Addr} {cs : List Value} (h : ∀ j u, cs[j]? = some u → w.cell? (ad.add j) = some u) {j : Nat} {u : Value} (hj : cs[j + 1]? = some u) : w.cell? ⟨ad.block, ad.off + (j + 1), none⟩ = some u := by
  have := h (j + 1) u hj
  rwa [add_pos _ _ (by omega)] at this
/-- Tokens and an error come back. -/
def GivesT (ts : List Tk) (x : Int) (w : World) (e : Ending) (w' : World) : Prop :=
  ∃ A n c, e = .returned (.tuple #[.slice A n c, .int .i64 x]) ∧ Reads w' w'.heap.size 4 A n (tks ts) ∧ n ≤ c ∧ n ≤ 100000 ∧ Below w.heap.size w w'
def TellsS (s : ByteArray) (w : World) (e : Ending) (w' : World) : Prop := e = .returned (.string s) ∧ Below w.heap.size w w'
section
variable {ρ : Operand → Value} {o : Oper}
theorem exec_loadTk (w : World) (x : Operand) (ho : o.op = .load 30 x) (ad : Addr) (hx : ρ x = .pointer (some ad)) (t : Tk) (hc : ∀ j u, t.cs[j]? = some u → w.cell? (ad.add j) = some u) :
    (execOp ρ o).run Tryd.prog w = .ok (.value (.agg t.cs.toArray)) w := exec_load w _ x ho ad hx t.cs hc _ Tryd.underlying30 rfl (by kernel_rfl)
end
/-! ## Comparisons -/
def tkEq (a b : Tk) : Bool := decide (a.k = b.k) && (decide (a.t = b.t) && (decide (a.n = b.n) && (decide (a.a = b.a) && true)))
theorem tkEq_iff {a b : Tk} : tkEq a b = true ↔ a = b := by
  obtain ⟨k, t, n, p⟩ := a
  obtain ⟨k', t', n', p'⟩ := b
  unfold tkEq
  simp
theorem tkEq_self (a : Tk) : tkEq a a = true := tkEq_iff.2 rfl
theorem fields_tk : (Tryd.prog.fieldsOf 30).toList.map (fun f => (f.type, f.offset, f.name == "_")) = [(3, 0, false), (9, 1, false), (3, 2, false), (3, 3, false)] := by kernel_rfl
theorem eqT_i64 (w : World) (n m : Int) : (Op.equalIn 9999 3 (.int .i64 n) (.int .i64 m)).run Tryd.prog w = .ok (decide (n = m)) w := by
  rw [run_equalIn_int w 9998 3 .i64 .i64 n m Tryd.underlying3]
  congr 1
theorem eq_tk (w : World) (a b : Tk) : (Op.equalIn 10000 30 (.agg a.cs.toArray) (.agg b.cs.toArray)).run Tryd.prog w = .ok (tkEq a b) w := by
  obtain ⟨k, s, p, c⟩ := a
  obtain ⟨k', s', p', c'⟩ := b
  have hu : Tryd.prog.underlying 30 = some (.struct (Tryd.prog.fieldsOf 30)) := by kernel_rfl
  have hp : Tryd.prog.stoodInHeld 30 = false := by kernel_rfl
  have hf := fields_tk
  rw [run_equalIn_agg w 9999 _ _ _ hu hp]
  generalize (Tryd.prog.fieldsOf 30).toList = fs at hf
  rcases fs with _ | ⟨f0, _ | ⟨f1, _ | ⟨f2, _ | ⟨f3, _ | ⟨f4, r⟩⟩⟩⟩⟩
  · simp at hf
  · simp at hf
  · simp at hf
  · simp at hf
  rotate_left
  · simp at hf
  · simp only [List.map_cons, List.map_nil, List.cons.injEq, Prod.mk.injEq, and_true] at hf
    obtain ⟨⟨h0, o0, n0⟩, ⟨h1, o1, n1⟩, ⟨h2, o2, n2⟩, h3, o3, n3⟩ := hf
    have n0 : f0.name ≠ "_" := by simpa using n0
    have n1 : f1.name ≠ "_" := by simpa using n1
    have n2 : f2.name ≠ "_" := by simpa using n2
    have n3 : f3.name ≠ "_" := by simpa using n3
    have ha0 : ∀ w, (isAgg 3).run Tryd.prog w = .ok false w := fun w => by kernel_rfl
    have ha1 : ∀ w, (isAgg 9).run Tryd.prog w = .ok false w := fun w => by kernel_rfl
    exact eqT_and w 9999 _ _ f0 [f1, f2, f3] (.int .i64 k) (.int .i64 k') _ _ n0 (by rw [h0, o0]; exact partT_one w _ _ 0 _ (ha0 w) rfl) (by rw [h0, o0]; exact partT_one w _ _ 0 _ (ha0 w) rfl) (by rw [h0]; exact eqT_i64 w k k')
      (eqT_and w 9999 _ _ f1 [f2, f3] (.string s) (.string s') _ _ n1 (by rw [h1, o1]; exact partT_one w _ _ 1 _ (ha1 w) rfl) (by rw [h1, o1]; exact partT_one w _ _ 1 _ (ha1 w) rfl) (by rw [h1]; rw [run_equalIn_string w 9998 9 s s' Tryd.underlying9, ← strT_eqb])
        (eqT_and w 9999 _ _ f2 [f3] (.int .i64 p) (.int .i64 p') _ _ n2 (by rw [h2, o2]; exact partT_one w _ _ 2 _ (ha0 w) rfl) (by rw [h2, o2]; exact partT_one w _ _ 2 _ (ha0 w) rfl) (by rw [h2]; exact eqT_i64 w p p')
          (eqT_and w 9999 _ _ f3 [] (.int .i64 c) (.int .i64 c') _ true n3 (by rw [h3, o3]; exact partT_one w _ _ 3 _ (ha0 w) rfl) (by rw [h3, o3]; exact partT_one w _ _ 3 _ (ha0 w) rfl) (by rw [h3]; exact eqT_i64 w c c') (by simp [Op.eqFields]))))
section
variable {ρ : Operand → Value} {o : Oper}
theorem exec_eqlT (w : World) (x y : Operand) (ho : o.op = .binOp .eql 30 x y 30) (a b : Tk) (h1 : ρ x = .agg a.cs.toArray) (h2 : ρ y = .agg b.cs.toArray) :
    (execOp ρ o).run Tryd.prog w = .ok (.value (.bool (tkEq a b))) w := by
  have hg : Tryd.prog.eqGuardType Tryd.prog.depth 30 = false := by kernel_rfl
  unfold execOp
  simp only [ho, h1, h2, Sem.run_bind, run_eqGuard_agg w _ _ _ _ _ _ hg, Result.andThen_ok, run_eql_struct, eq_tk w a b]
  rfl
theorem exec_neqT (w : World) (x y : Operand) (ho : o.op = .binOp .neq 30 x y 30) (a b : Tk) (h1 : ρ x = .agg a.cs.toArray) (h2 : ρ y = .agg b.cs.toArray) :
    (execOp ρ o).run Tryd.prog w = .ok (.value (.bool (!tkEq a b))) w := by
  have hg : Tryd.prog.eqGuardType Tryd.prog.depth 30 = false := by kernel_rfl
  unfold execOp
  simp only [ho, h1, h2, Sem.run_bind, run_eqGuard_agg w _ _ _ _ _ _ hg, Result.andThen_ok, run_neq_struct, eq_tk w a b]
  rfl
end
/-! ## A string's characters -/
/-- The character at a place. -/
def rn (s : ByteArray) (i : Nat) : Int := (Utf8.decode s i).1
theorem tl_get {s : ByteArray} {i : Nat} (h : i < s.size) : (tl s)[i]? = some (s[i]'h) := by
  unfold tl
  rw [List.getElem?_eq_getElem (by simpa using h)]
  simp
  rfl
theorem rn_small {s : ByteArray} {i : Nat} {c : UInt8} (h : (tl s)[i]? = some c) (hc : c.toNat < 128) : Utf8.decode s i = (c.toNat, 1) := by
  have hi : i < s.size := by rw [← tl_len]; exact (List.getElem?_eq_some_iff.1 h).1
  rw [tl_get hi] at h
  cases h
  exact decode_ascii s i hi hc
theorem rn_high {s : ByteArray} {i : Nat} {c : UInt8} (h : (tl s)[i]? = some c) (hc : 128 ≤ c.toNat) : 128 ≤ rn s i := by
  have hi : i < s.size := by rw [← tl_len]; exact (List.getElem?_eq_some_iff.1 h).1
  rw [tl_get hi] at h
  cases h
  have := (decode_high s i hi hc).1
  unfold rn
  omega
/-- What a character says of its byte: letters, digits, the underscore and white space are single bytes. -/
theorem rn_wd {s : ByteArray} {i : Nat} {c : UInt8} (h : (tl s)[i]? = some c) : lxWd (rn s i) = lxWd (bz c) := by
  rcases Nat.lt_or_ge c.toNat 128 with hc | hc
  · unfold rn; rw [rn_small h hc]; rfl
  · have := rn_high h hc
    rw [lxWd_no (by omega), lxWd_no (by unfold bz; omega)]
theorem rn_let {s : ByteArray} {i : Nat} {c : UInt8} (h : (tl s)[i]? = some c) : lxLet (rn s i) = lxLet (bz c) := by
  rcases Nat.lt_or_ge c.toNat 128 with hc | hc
  · unfold rn; rw [rn_small h hc]; rfl
  · have := rn_high h hc
    rw [lxLet_no (by omega), lxLet_no (by unfold bz; omega)]
theorem rn_dig {s : ByteArray} {i : Nat} {c : UInt8} (h : (tl s)[i]? = some c) : lxDig (rn s i) = lxDig (bz c) := by
  rcases Nat.lt_or_ge c.toNat 128 with hc | hc
  · unfold rn; rw [rn_small h hc]; rfl
  · have := rn_high h hc
    rw [lxDig_no (by omega), lxDig_no (by unfold bz; omega)]
theorem rn_wh {s : ByteArray} {i : Nat} {c : UInt8} (h : (tl s)[i]? = some c) : lxWh (rn s i) = lxWh (bz c) := by
  rcases Nat.lt_or_ge c.toNat 128 with hc | hc
  · unfold rn; rw [rn_small h hc]; rfl
  · have := rn_high h hc
    rw [lxWh_no (by omega), lxWh_no (by unfold bz; omega)]
/-- A character of one byte. -/
theorem rn_next {s : ByteArray} {i : Nat} {c : UInt8} (h : (tl s)[i]? = some c) (hw : lxWd (bz c) = true ∨ lxWh (bz c) = true ∨ c.toNat < 128) : rn s i = bz c ∧ (Utf8.decode s i).2 = 1 := by
  have hc : c.toNat < 128 := by
    unfold bz at hw
    rcases hw with hw | hw | hw
    · have := lxWd_iff.1 hw; omega
    · have := lxWh_iff.1 hw; omega
    · exact hw
  unfold rn
  rw [rn_small h hc]
  exact ⟨rfl, rfl⟩
end Go.Proofs.YtgliealofieenaaDoor

/-
  Records: the plain functions of layer 10 over lists of bytes and sectors, and their laws: numbers and lists alone. No condition.
-/
import Derived.Test.YtfclifolniefpaaDoorParH
import Derived.Test.YtfclifolniefpaaDoorGetG
import Derived.Test.YtfclifolniefpaaDoorFlG
set_option linter.unusedSimpArgs false
set_option linter.unusedVariables false
namespace Go.Proofs.YtfclifolniefpaaDoor

/-! ## Accesses, results, outcomes -/
structure StA where
  k : Int
  b : Int
  c : Int
  s : ByteArray
structure StR where
  x : Int
  s : ByteArray
structure StO where
  s : ByteArray
  n : Int
  e : Int
def em : ByteArray := ⟨#[]⟩
def noA : StA := ⟨0, 0, 0, em⟩
def noO : StO := ⟨em, 0, 0⟩

/-! ## The bytes of an area -/
/-- A digest of lists of bytes. -/
def dgl (n : Int) (ls : List (List UInt8)) : List UInt8 := (sha (tagB n :: encParts ls)).take 16
theorem dgl_len (n : Int) (ls : List (List UInt8)) : (dgl n ls).length = 16 := by unfold dgl; rw [List.length_take, sha_len]; rfl
theorem dig_dgl (n : Int) (ps : List Part) : dig n ps = dgl n (ps.map Part.l) := rfl
/-- What stands before the digest. -/
def stH (seq : Int) (c : List UInt8) : List UInt8 := encInt seq ++ encBytes c
def stEnc (rec seq : Int) (c : List UInt8) : List UInt8 := stH seq c ++ dgl 5 [encInt rec, stH seq c]
def stDec (rec : Int) (b : List UInt8) : Int × List UInt8 :=
  if (getInt b).2.2 ≠ 0 ∨ (getInt b).1 < 1 ∨ 1099511627776 < (getInt b).1 then (0, [])
  else if (getBytes (b.drop (getInt b).2.1)).2.2 ≠ 0 ∨ 2000 < (getBytes (b.drop (getInt b).2.1)).1.length then (0, [])
  else if stEnc rec (getInt b).1 (getBytes (b.drop (getInt b).2.1)).1 <+: b then ((getInt b).1, (getBytes (b.drop (getInt b).2.1)).1) else (0, [])
theorem encInt_le6 {n : Int} (h1 : 0 ≤ n) (h2 : n ≤ 1099511627776) : (encInt n).length ≤ 6 := by
  refine leb_len 5 _ ?_
  unfold zz
  rw [if_pos h1]
  omega
theorem encLen_le2 {c : List UInt8} (h : c.length ≤ 2000) : (encInt (c.length : Int)).length ≤ 2 := by
  refine leb_len 1 _ ?_
  unfold zz
  rw [if_pos (by omega)]
  omega
theorem stH_len {seq : Int} {c : List UInt8} (h1 : 0 ≤ seq) (h2 : seq ≤ 1099511627776) (hc : c.length ≤ 2000) : (stH seq c).length ≤ 2008 := by
  have a := encInt_le6 h1 h2
  have b := encLen_le2 hc
  unfold stH encBytes
  simp only [List.length_append]
  omega
theorem stEnc_len (rec seq : Int) (c : List UInt8) : (stEnc rec seq c).length = (stH seq c).length + 16 := by unfold stEnc; rw [List.length_append, dgl_len]
theorem stEnc_le {rec seq : Int} {c : List UInt8} (h1 : 0 ≤ seq) (h2 : seq ≤ 1099511627776) (hc : c.length ≤ 2000) : (stEnc rec seq c).length ≤ 2024 := by
  have := stH_len h1 h2 hc
  rw [stEnc_len]
  omega
theorem stEnc_pos (rec seq : Int) (c : List UInt8) : 16 ≤ (stEnc rec seq c).length := by rw [stEnc_len]; omega
theorem stEnc_app (rec seq : Int) (c : List UInt8) : stEnc rec seq c = encInt seq ++ (encBytes c ++ dgl 5 [encInt rec, stH seq c]) := by unfold stEnc; rw [stH, List.append_assoc]
/-- What is read at the beginning of valid bytes. -/
theorem getInt_enc {rec seq : Int} {c b : List UInt8} (h : I64 seq) (hp : stEnc rec seq c <+: b) : getInt b = (seq, (encInt seq).length, 0) := by
  obtain ⟨t, rfl⟩ := hp
  rw [stEnc_app, List.append_assoc]
  exact getInt_encInt seq h _
theorem drop_enc {rec seq : Int} {c b : List UInt8} (hp : stEnc rec seq c <+: b) : ∃ t, b.drop (encInt seq).length = encBytes c ++ t := by
  obtain ⟨t, rfl⟩ := hp
  rw [stEnc_app, List.append_assoc, List.drop_left, List.append_assoc]
  exact ⟨_, rfl⟩
theorem stDec_of {rec n : Int} {c b : List UInt8} (h1 : 1 ≤ n) (h2 : n ≤ 1099511627776) (hc : c.length ≤ 2000) (hp : stEnc rec n c <+: b) : stDec rec b = (n, c) := by
  have hg := getInt_enc (rec := rec) (c := c) (b := b) ⟨by omega, by omega⟩ hp
  obtain ⟨t, ht⟩ := drop_enc hp
  have hb : getBytes (b.drop (encInt n).length) = (c, (encBytes c).length, 0) := by rw [ht]; exact getBytes_enc c t (by omega)
  unfold stDec
  rw [hg]
  simp only
  rw [hb]
  simp only
  rw [if_neg (by omega), if_neg (by omega), if_pos hp]
theorem stDec_some {rec n : Int} {c b : List UInt8} (h : stDec rec b = (n, c)) (h0 : n ≠ 0) : 1 ≤ n ∧ n ≤ 1099511627776 ∧ c.length ≤ 2000 ∧ stEnc rec n c <+: b := by
  unfold stDec at h
  split at h
  · cases h; exact absurd rfl h0
  · split at h
    · cases h; exact absurd rfl h0
    · split at h
      · cases h; exact ⟨by omega, by omega, by omega, by assumption⟩
      · cases h; exact absurd rfl h0
theorem stDec_pos {rec : Int} {b : List UInt8} (h : (stDec rec b).1 ≠ 0) : 1 ≤ (stDec rec b).1 ∧ (stDec rec b).1 ≤ 1099511627776 ∧ (stDec rec b).2.length ≤ 2000 ∧ stEnc rec (stDec rec b).1 (stDec rec b).2 <+: b := stDec_some (n := (stDec rec b).1) (c := (stDec rec b).2) rfl h
theorem stDec_none {rec : Int} {b : List UInt8} (h : (stDec rec b).1 = 0) : stDec rec b = (0, []) := by
  cases he : stDec rec b with
  | mk n c =>
    rw [he] at h
    simp only at h
    subst h
    unfold stDec at he
    split at he
    · exact he.symm
    · split at he
      · exact he.symm
      · split at he
        · injection he with h1 h2; omega
        · exact he.symm
theorem stDec_nn (rec : Int) (b : List UInt8) : 0 ≤ (stDec rec b).1 ∧ (stDec rec b).1 ≤ 1099511627776 ∧ (stDec rec b).2.length ≤ 2000 := by
  by_cases h : (stDec rec b).1 = 0
  · rw [stDec_none h]; decide
  · obtain ⟨h1, h2, h3, _⟩ := stDec_pos h
    exact ⟨by omega, h2, h3⟩
/-- An area is what its longest part says. -/
theorem stDec_same {rec : Int} {a b : List UInt8} (h1 : ∀ n c, 1 ≤ n → n ≤ 1099511627776 → c.length ≤ 2000 → stEnc rec n c <+: a → stEnc rec n c <+: b) (h2 : ∀ n c, 1 ≤ n → n ≤ 1099511627776 → c.length ≤ 2000 → stEnc rec n c <+: b → stEnc rec n c <+: a) : stDec rec a = stDec rec b := by
  by_cases h : (stDec rec a).1 = 0
  · by_cases k : (stDec rec b).1 = 0
    · rw [stDec_none h, stDec_none k]
    · obtain ⟨g1, g2, g3, g4⟩ := stDec_pos k
      exact stDec_of g1 g2 g3 (h2 _ _ g1 g2 g3 g4)
  · obtain ⟨g1, g2, g3, g4⟩ := stDec_pos h
    exact (stDec_of g1 g2 g3 (h1 _ _ g1 g2 g3 g4)).symm
theorem prefix_take {α : Type} {l b : List α} {k : Nat} (h : l <+: b) (hk : l.length ≤ k) : l <+: b.take k := by
  obtain ⟨t, rfl⟩ := h
  rw [List.take_append, List.take_of_length_le hk]
  exact ⟨_, rfl⟩
theorem stDec_take (rec : Int) (b : List UInt8) {k : Nat} (hk : 2024 ≤ k) : stDec rec (b.take k) = stDec rec b :=
  stDec_same (fun _ _ _ _ _ h => h.trans (List.take_prefix _ _)) (fun _ _ h1 h2 h3 h => prefix_take h (Nat.le_trans (stEnc_le (by omega) h2 h3) hk))
/-- As the landed code looks: the digest behind what was decoded. -/
theorem stDec_code {rec : Int} {b : List UInt8} {n : Int} {u : Nat} {c : List UInt8} {z : Nat} (hg : getInt b = (n, u, 0)) (h1 : 1 ≤ n) (h2 : n ≤ 1099511627776) (hb : getBytes (b.drop u) = (c, z, 0)) (hc : c.length ≤ 2000) :
    stDec rec b = if dgl 5 [encInt rec, b.take (u + z)] <+: b.drop (u + z) then (n, c) else (0, []) := by
  have e1 := getInt_canon b n u hg
  obtain ⟨e2, e3⟩ := getBytes_canon _ c z hb
  have hH : stH n c = b.take (u + z) := by unfold stH; rw [e1, e2, take_split]
  have hE : stEnc rec n c = b.take (u + z) ++ dgl 5 [encInt rec, b.take (u + z)] := by unfold stEnc; rw [hH]
  unfold stDec
  rw [hg]
  simp only
  rw [hb]
  simp only
  rw [if_neg (by omega), if_neg (by omega), hE]
  have hiff : (b.take (u + z) ++ dgl 5 [encInt rec, b.take (u + z)] <+: b) ↔ (dgl 5 [encInt rec, b.take (u + z)] <+: b.drop (u + z)) := by
    constructor
    · rintro ⟨t, ht⟩
      refine ⟨t, ?_⟩
      have h5 : (b.take (u + z) ++ (dgl 5 [encInt rec, b.take (u + z)] ++ t)) = b.take (u + z) ++ b.drop (u + z) := by rw [List.take_append_drop, ← List.append_assoc]; exact ht
      exact List.append_cancel_left h5
    · rintro ⟨t, ht⟩
      refine ⟨t, ?_⟩
      rw [List.append_assoc, ht, List.take_append_drop]
  by_cases h : dgl 5 [encInt rec, b.take (u + z)] <+: b.drop (u + z)
  · rw [if_pos h, if_pos (hiff.2 h)]
  · rw [if_neg h, if_neg (fun k => h (hiff.1 k))]
theorem stDec_err {rec : Int} {b : List UInt8} (h : (getInt b).2.2 ≠ 0 ∨ (getInt b).1 < 1 ∨ 1099511627776 < (getInt b).1) : stDec rec b = (0, []) := by unfold stDec; rw [if_pos h]
theorem stDec_err2 {rec : Int} {b : List UInt8} (h : (getBytes (b.drop (getInt b).2.1)).2.2 ≠ 0 ∨ 2000 < (getBytes (b.drop (getInt b).2.1)).1.length) : stDec rec b = (0, []) := by
  unfold stDec
  split
  · rfl
  · rfl
theorem stDec_zero {rec : Int} {b : List UInt8} (h : b.head? = some 0) : stDec rec b = (0, []) := by
  refine stDec_err ?_
  cases b with
  | nil => cases h
  | cons x t =>
    cases h
    right; left
    have : getInt (0 :: t) = (0, 1, 0) := getInt_encInt 0 ⟨by omega, by omega⟩ t
    rw [this]
    decide

/-! ## The step programs -/
def stIn (rec : Int) : Bool := decide (0 ≤ rec) && decide (rec ≤ 3)
def stFirst (rec area : Int) : Int := if 0 ≤ rec ∧ rec ≤ 3 ∧ 0 ≤ area ∧ area ≤ 1 then 16 * rec + 8 * area else -1
def stCat (l : List ByteArray) : List UInt8 := l.flatMap tl
/-- What the two areas hold. -/
def stA0 (rec : Int) (l : List ByteArray) : Int × List UInt8 := stDec rec (stCat (l.take 8))
def stA1 (rec : Int) (l : List ByteArray) : Int × List UInt8 := stDec rec (stCat ((l.drop 8).take 8))
def stNew (rec : Int) (l : List ByteArray) : Bool := decide ((stA0 rec l).1 < (stA1 rec l).1)
def stCur (rec : Int) (l : List ByteArray) : Int × List UInt8 := if stNew rec l then stA1 rec l else stA0 rec l
def stRead (rec : Int) (k : Nat) : StA := ⟨3, 0, 16 * rec + k, em⟩
def stOut (p : Int × List UInt8) : StO := if p.1 = 0 then ⟨em, 0, 13⟩ else ⟨mk p.2, p.1, 0⟩
def stGet (rec : Int) (l : List ByteArray) : StA × StO × Bool :=
  if stIn rec then (if l.length < 16 then (stRead rec l.length, noO, false) else (noA, stOut (stCur rec l), true)) else (noA, ⟨em, 0, 1⟩, true)
def stTgt (rec : Int) (l : List ByteArray) : Int := if (stCur rec l).1 = 0 then 0 else if stNew rec l then 0 else 1
/-- A sector: the first bytes, padded with zeros. -/
def stPad (b : List UInt8) : List UInt8 := (b ++ List.replicate 256 0).take 256
def stSec (b : List UInt8) : ByteArray := mk (stPad b)
theorem stPad_len (b : List UInt8) : (stPad b).length = 256 := by unfold stPad; rw [List.length_take, List.length_append, List.length_replicate]; omega
theorem stSec_size (b : List UInt8) : (stSec b).size = 256 := by unfold stSec; rw [mk_size, stPad_len]
/-- How many sectors the bytes take. -/
def stCnt (b : List UInt8) : Nat := (b.length + 255) / 256
/-- Write j, of stCnt b + 1. -/
def stWrt (first : Int) (b : List UInt8) (j : Nat) : StA := if j = 0 then ⟨4, 0, first, stSec []⟩ else if 256 * j < b.length then ⟨4, 0, first + j, stSec (b.drop (256 * j))⟩ else ⟨4, 0, first, stSec b⟩
def stBytes (rec : Int) (c : ByteArray) (l : List ByteArray) : List UInt8 := stEnc rec ((stCur rec l).1 + 1) (tl c)
def stPut (rec : Int) (c : ByteArray) (l : List ByteArray) : StA × StO × Bool :=
  if stIn rec then
    if c.size ≤ 2000 then
      if l.length < 16 then (stRead rec l.length, noO, false)
      else if (stCur rec l).1 < 1099511627776 then
        if l.length - 16 ≤ stCnt (stBytes rec c l) then (stWrt (16 * rec + 8 * stTgt rec l) (stBytes rec c l) (l.length - 16), noO, false)
        else (noA, ⟨c, (stCur rec l).1 + 1, 0⟩, true)
      else (noA, ⟨em, 0, 19⟩, true)
    else (noA, ⟨em, 0, 19⟩, true)
  else (noA, ⟨em, 0, 1⟩, true)
theorem stIn_iff {rec : Int} : stIn rec = true ↔ 0 ≤ rec ∧ rec ≤ 3 := by unfold stIn; rw [Bool.and_eq_true, decide_eq_true_eq, decide_eq_true_eq]
theorem stCur_nn (rec : Int) (l : List ByteArray) : 0 ≤ (stCur rec l).1 ∧ (stCur rec l).1 ≤ 1099511627776 ∧ (stCur rec l).2.length ≤ 2000 := by
  unfold stCur
  split
  · exact stDec_nn _ _
  · exact stDec_nn _ _
end Go.Proofs.YtfclifolniefpaaDoor

/-
  Updates of records over a flash memory: the plain runs of the law file's get and put, and what they leave: numbers and lists alone. No condition.
-/
namespace Go.Proofs.YtfclifolniefpaaDoor

/-! ## The runs -/
def stSecs (fs : List ByteArray) (rec : Int) (k : Nat) : List ByteArray := (List.range k).map fun i : Nat => flRead fs (16 * rec + (i : Int))
def stL (fs : List ByteArray) (rec : Int) : List ByteArray := stSecs fs rec 16
def stLog (fs : List ByteArray) (rec : Int) (k : Nat) : List ByteArray := stSecs fs rec (min k 16) ++ List.replicate (k - 16) em
/-- The outcome of a Get over a memory. -/
def stSt (fs : List ByteArray) (rec : Int) : StO := stOut (stCur rec (stL fs rec))
def stSq (fs : List ByteArray) (rec : Int) : Int := (stCur rec (stL fs rec)).1
def stFst (fs : List ByteArray) (rec : Int) : Int := 16 * rec + 8 * stTgt rec (stL fs rec)
def stB (fs : List ByteArray) (rec : Int) (c : ByteArray) : List UInt8 := stBytes rec c (stL fs rec)
def stWs (fs : List ByteArray) (rec : Int) (c : ByteArray) : List StA := if stSq fs rec < 1099511627776 then (List.range (stCnt (stB fs rec c) + 1)).map (stWrt (stFst fs rec) (stB fs rec c)) else []
def stAs (fs : List ByteArray) (rec : Int) (c : ByteArray) : List StA := (List.range 16).map (stRead rec) ++ stWs fs rec c
def stFin (fs : List ByteArray) (rec : Int) (c : ByteArray) : StO := if stSq fs rec < 1099511627776 then ⟨c, stSq fs rec + 1, 0⟩ else ⟨em, 0, 19⟩
def stW1 (m : List ByteArray) (a : StA) : List ByteArray := flWrite m a.c a.s (-1)
def stMem (fs : List ByteArray) (ws : List StA) (k : Nat) : List ByteArray := (ws.take k).foldl stW1 fs
/-- The run of a put: the memory, the outcome, whether it was completed, the accesses. -/
structure StRun where
  m : List ByteArray
  o : StO
  w : Bool
  l : List StA
def stHit (fs : List ByteArray) (rec : Int) (c : ByteArray) (cut : Int) : Bool := decide (0 ≤ cut) && decide (cut < ((stAs fs rec c).length : Int))
def stRun (fs : List ByteArray) (rec : Int) (c : ByteArray) (cut bytes : Int) : StRun :=
  if stHit fs rec c cut then
    ⟨(match (stWs fs rec c)[cut.toNat - 16]? with
      | some a => if cut.toNat < 16 then fs else flWrite (stMem fs (stWs fs rec c) (cut.toNat - 16)) a.c a.s (max 0 bytes)
      | none => fs), noO, false, (stAs fs rec c).take (cut.toNat + 1)⟩
  else ⟨stMem fs (stWs fs rec c) (stWs fs rec c).length, stFin fs rec c, true, stAs fs rec c⟩

section
variable {fs : List ByteArray} {rec : Int} {c : ByteArray}
theorem stSecs_len (fs : List ByteArray) (rec : Int) (k : Nat) : (stSecs fs rec k).length = k := by unfold stSecs; rw [List.length_map, List.length_range]
theorem stSecs_succ (fs : List ByteArray) (rec : Int) (k : Nat) : stSecs fs rec (k + 1) = stSecs fs rec k ++ [flRead fs (16 * rec + (k : Int))] := by unfold stSecs; rw [List.range_succ, List.map_append]; rfl
theorem stLog_len (fs : List ByteArray) (rec : Int) (k : Nat) : (stLog fs rec k).length = k := by unfold stLog; rw [List.length_append, stSecs_len, List.length_replicate]; omega
theorem stLog_read {k : Nat} (h : k < 16) : stLog fs rec (k + 1) = stLog fs rec k ++ [flRead fs (16 * rec + (k : Int))] := by
  unfold stLog
  rw [Nat.min_eq_left (by omega), Nat.min_eq_left (by omega), show k + 1 - 16 = 0 by omega, show k - 16 = 0 by omega, List.replicate_zero, List.append_nil, List.append_nil, stSecs_succ]
theorem stLog_write {k : Nat} (h : 16 ≤ k) : stLog fs rec (k + 1) = stLog fs rec k ++ [em] := by
  unfold stLog
  rw [Nat.min_eq_right (by omega), Nat.min_eq_right (by omega), show k + 1 - 16 = (k - 16) + 1 by omega, List.replicate_succ', List.append_assoc]
theorem stLog_take {k : Nat} (h : 16 ≤ k) : (stLog fs rec k).take 16 = stL fs rec := by
  unfold stLog stL
  rw [Nat.min_eq_right h]
  exact List.take_left' (stSecs_len _ _ _)
theorem stA0_take (l : List ByteArray) : stA0 rec (l.take 16) = stA0 rec l := by unfold stA0; rw [List.take_take]; rfl
theorem stA1_take (l : List ByteArray) : stA1 rec (l.take 16) = stA1 rec l := by unfold stA1; rw [List.drop_take, List.take_take]; rfl
theorem stNew_take (l : List ByteArray) : stNew rec (l.take 16) = stNew rec l := by unfold stNew; rw [stA0_take, stA1_take]
theorem stCur_take (l : List ByteArray) : stCur rec (l.take 16) = stCur rec l := by unfold stCur; rw [stA0_take, stA1_take, stNew_take]
theorem stTgt_take (l : List ByteArray) : stTgt rec (l.take 16) = stTgt rec l := by unfold stTgt; rw [stCur_take, stNew_take]
theorem stCur_log {k : Nat} (h : 16 ≤ k) : stCur rec (stLog fs rec k) = stCur rec (stL fs rec) := by rw [← stCur_take, stLog_take h]
theorem stTgt_log {k : Nat} (h : 16 ≤ k) : stTgt rec (stLog fs rec k) = stTgt rec (stL fs rec) := by rw [← stTgt_take, stLog_take h]
theorem stAs_len (fs : List ByteArray) (rec : Int) (c : ByteArray) : (stAs fs rec c).length = 16 + (stWs fs rec c).length := by unfold stAs; rw [List.length_append, List.length_map, List.length_range]
theorem stAs_read {k : Nat} (h : k < 16) : (stAs fs rec c)[k]? = some (stRead rec k) := by
  unfold stAs
  rw [List.getElem?_append_left (by rw [List.length_map, List.length_range]; exact h), List.getElem?_map, List.getElem?_range h]
  rfl
theorem stAs_write (j : Nat) : (stAs fs rec c)[16 + j]? = (stWs fs rec c)[j]? := by
  unfold stAs
  rw [List.getElem?_append_right (by rw [List.length_map, List.length_range]; omega), List.length_map, List.length_range, show 16 + j - 16 = j by omega]
theorem stWs_len : (stWs fs rec c).length = if stSq fs rec < 1099511627776 then stCnt (stB fs rec c) + 1 else 0 := by unfold stWs; split; rw [List.length_map, List.length_range]; rfl
theorem stWs_at {j : Nat} {a : StA} (h : (stWs fs rec c)[j]? = some a) : a = stWrt (stFst fs rec) (stB fs rec c) j ∧ stSq fs rec < 1099511627776 ∧ j ≤ stCnt (stB fs rec c) := by
  unfold stWs at h
  split at h
  · rename_i hs
    rw [List.getElem?_map, Option.map_eq_some_iff] at h
    obtain ⟨i, hi, rfl⟩ := h
    obtain ⟨h1, h2⟩ := List.getElem?_eq_some_iff.1 hi
    rw [List.getElem_range] at h2
    subst h2
    rw [List.length_range] at h1
    exact ⟨rfl, hs, by omega⟩
  · cases h
theorem stWs_in {j : Nat} (h1 : stSq fs rec < 1099511627776) (h2 : j ≤ stCnt (stB fs rec c)) : (stWs fs rec c)[j]? = some (stWrt (stFst fs rec) (stB fs rec c) j) := by
  unfold stWs
  rw [if_pos h1, List.getElem?_map, List.getElem?_range (by omega)]
  rfl
theorem stB_log {k : Nat} (h : 16 ≤ k) : stBytes rec c (stLog fs rec k) = stB fs rec c := by unfold stB stBytes; rw [stCur_log h]
/-- What Put says after k accesses. -/
theorem stPut_read (hin : stIn rec = true) (hc : c.size ≤ 2000) {k : Nat} (h : k < 16) : stPut rec c (stLog fs rec k) = (stRead rec k, noO, false) := by
  unfold stPut
  rw [hin, if_pos rfl, if_pos hc, stLog_len, if_pos h]
theorem stPut_write (hin : stIn rec = true) (hc : c.size ≤ 2000) {j : Nat} {a : StA} (h : (stWs fs rec c)[j]? = some a) : stPut rec c (stLog fs rec (16 + j)) = (a, noO, false) := by
  obtain ⟨rfl, h1, h2⟩ := stWs_at h
  unfold stPut
  rw [hin, if_pos rfl, if_pos hc, stLog_len, if_neg (by omega), stCur_log (by omega), if_pos (show (stCur rec (stL fs rec)).1 < 1099511627776 from h1), stB_log (by omega), show 16 + j - 16 = j by omega, if_pos h2, stTgt_log (by omega)]
  rfl
theorem stPut_end (hin : stIn rec = true) (hc : c.size ≤ 2000) : stPut rec c (stLog fs rec (stAs fs rec c).length) = (noA, stFin fs rec c, true) := by
  rw [stAs_len, stWs_len]
  unfold stPut stFin
  rw [hin, if_pos rfl, if_pos hc, stLog_len, if_neg (by split <;> omega), stCur_log (by omega)]
  by_cases h : stSq fs rec < 1099511627776
  · rw [if_pos h, if_pos h, if_pos (show (stCur rec (stL fs rec)).1 < 1099511627776 from h), stB_log (by omega), if_neg (by omega)]
    rfl
  · rw [if_neg h, if_neg (show ¬ (stCur rec (stL fs rec)).1 < 1099511627776 from h), if_neg h]
theorem stGet_read (hin : stIn rec = true) {k : Nat} (h : k < 16) : stGet rec (stSecs fs rec k) = (stRead rec k, noO, false) := by
  unfold stGet
  rw [hin, if_pos rfl, stSecs_len, if_pos h]
theorem stGet_end (hin : stIn rec = true) : stGet rec (stSecs fs rec 16) = (noA, stSt fs rec, true) := by
  unfold stGet
  rw [hin, if_pos rfl, stSecs_len, if_neg (by omega)]
  rfl
theorem stMem_zero (fs : List ByteArray) (ws : List StA) : stMem fs ws 0 = fs := rfl
theorem stMem_succ {ws : List StA} {j : Nat} {a : StA} (h : ws[j]? = some a) : stMem fs ws (j + 1) = flWrite (stMem fs ws j) a.c a.s (-1) := by
  unfold stMem
  rw [List.take_add_one, h, List.foldl_append]
  rfl
theorem stRun_read {cut : Int} {k : Nat} (hk : cut = (k : Int)) (h : k < 16) (bytes : Int) : stRun fs rec c cut bytes = ⟨fs, noO, false, (stAs fs rec c).take (k + 1)⟩ := by
  subst hk
  unfold stRun stHit
  rw [decide_eq_true (by omega), decide_eq_true (by have := stAs_len fs rec c; omega), Bool.and_true, if_pos rfl, Int.toNat_natCast]
  congr 1
  split
  · rw [if_pos h]
  · rfl
theorem stRun_write {cut : Int} {j : Nat} {a : StA} (hk : cut = ((16 + j : Nat) : Int)) (h : (stWs fs rec c)[j]? = some a) (bytes : Int) :
    stRun fs rec c cut bytes = ⟨flWrite (stMem fs (stWs fs rec c) j) a.c a.s (max 0 bytes), noO, false, (stAs fs rec c).take (16 + j + 1)⟩ := by
  subst hk
  have hl := (List.getElem?_eq_some_iff.1 h).1
  unfold stRun stHit
  rw [decide_eq_true (by omega), decide_eq_true (by have := stAs_len fs rec c; omega), Bool.and_true, if_pos rfl, Int.toNat_natCast, show 16 + j - 16 = j by omega, h]
  congr 1
  exact if_neg (by omega)
theorem stRun_end {cut : Int} (h : cut < 0 ∨ ((stAs fs rec c).length : Int) ≤ cut) (bytes : Int) : stRun fs rec c cut bytes = ⟨stMem fs (stWs fs rec c) (stWs fs rec c).length, stFin fs rec c, true, stAs fs rec c⟩ := by
  unfold stRun
  rw [if_neg]
  unfold stHit
  rw [Bool.and_eq_true, decide_eq_true_eq, decide_eq_true_eq]
  omega
end
end Go.Proofs.YtfclifolniefpaaDoor

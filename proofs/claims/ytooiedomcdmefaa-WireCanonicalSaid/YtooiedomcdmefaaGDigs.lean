/-
  What wire.getList at api.Digest, its closure, and GetDigests return: contracts by walks.
-/
import Derived.Test.YtooiedomcdmefaaGInts
import Derived.Test.YtooiedomcdmefaaBuild
namespace Go.Proofs.Ytooiedomcdmefaa
open Go.RowKit

theorem arrayAt_run (w : World) (ad : Addr) (c : Nat) : (Instr.arrayAt 51 (.slice (some ad) 16 c)).run Try.prog w = .ok (.pointer (some ad)) w := by kernel_rfl

set_option maxRecDepth 100000 in
set_option maxHeartbeats 1000000 in
theorem getDigsElem_any (pb : Addr) (A : Option Addr) (c : Nat) (l : List UInt8) (n at0 : Nat) (w : World) (hp : w.cell? pb = some (.slice A n c)) (hl : Reads w w.heap.size 1 A n (bvs l)) (hn : n ≤ 1000000000000) (hc : n ≤ c) (ha : at0 + 16 ≤ n) :
    Calls Try.prog 41 #[.int .i64 (at0 : Int), .pointer (some pb)] w fun e w' => e = .returned (.tuple #[.agg (bvs ((l.drop at0).take 16)).toArray, .int .i64 16, .int .i64 0]) ∧ Below w.heap.size w w' := by
  have hsub := hl.sub (u := at0) (m := 16) (c := c) ha hc
  rw [Nat.mul_one, if_neg (show ¬ c = at0 by omega)] at hsub
  obtain ⟨ad, hA, hab, hcell⟩ := hsub.2 (by omega)
  obtain ⟨ad0, rfl⟩ : ∃ ad0, A = some ad0 := by
    cases A with
    | none => cases hA
    | some a => exact ⟨a, rfl⟩
  have hA' : ad = ad0.add at0 := by injection hA with h; exact h.symm
  subst hA'
  have hd : ((l.drop at0).take 16).length = 16 := by have := hl.bytes_len; rw [List.length_take, List.length_drop]; omega
  generalize (l.drop at0).take 16 = d at *
  have HC := Lib.hid hcell
  have HD := Lib.hid hd
  have hsz : Hid ((bvs d).toArray.size = 16) := by show _ = _; simp [bvs_length, hd]
  have HD2 : Hid ((Try.prog.info? 51).map (·.size) = some (bvs d).toArray.size) := by show _ = _; rw [hsz.out]; kernel_rfl
  have hpb : pb.block < w.heap.size := World.block_lt_of_cell? w pb hp
  have harr := fun W => arrayAt_run W (ad0.add at0) (c - at0)
  clear hcell hsub hd hA
  go_enter Try.func41, Try.ntmps41
  go_wp2_with (first
    | (with_reducible refine wpList_load_at (o := ⟨some 12, _, _, _, _, _⟩) rfl _ _ rfl _ rfl (bvs d) (fun j u hu => (World.cell?_alloc_lt w _ _ (by rw [block_of_add]; exact hab)).trans (HC.out j u hu)) _ Try.underlying51 rfl (dig_size HD.out) ?_)
    | (with_reducible refine wpList_store_row (o := ⟨none, _, _, _, _, _⟩) rfl _ _ _ rfl _ rfl _ rfl _ _ (Go.heap_alloc_new _ _) (fun u hu => bvs_one d u (by simpa using hu)) hsz.out.symm HD2.out ?_
       change wpList _ _ _ _ _ (laid w _ _)))
  have hload := run_loadVar_at (P := Try.prog) (laid w (Obj.cells #[Value.int IntKind.u8 0, Value.int IntKind.u8 0, Value.int IntKind.u8 0, Value.int IntKind.u8 0, Value.int IntKind.u8 0, Value.int IntKind.u8 0, Value.int IntKind.u8 0, Value.int IntKind.u8 0, Value.int IntKind.u8 0, Value.int IntKind.u8 0, Value.int IntKind.u8 0, Value.int IntKind.u8 0, Value.int IntKind.u8 0, Value.int IntKind.u8 0, Value.int IntKind.u8 0, Value.int IntKind.u8 0] 51) (bvs d).toArray) 51 ⟨w.heap.size, 0, none⟩ (bvs d)
    (fun j u hu => laid_cells w _ _ _ j u (by simpa using hu)) _ Try.underlying51 rfl (dig_size HD.out)
  exact bodyPost_ret (results_cell3 Try.results41 _ _ _ _ rfl hload) rfl ⟨rfl, laid_below w (Below.refl _ _) (Nat.le_refl _) _ _⟩

/-- What the call owns is not touched by a callee. -/
theorem own_below {w w' : World} {base : Nat} {e : TypeId} {size n : Nat} {v : Value} {xs : List Value} (h : w.ownsRow base e size v n xs) (hb : Below w.heap.size w w') : w'.ownsRow base e size v n xs := by
  obtain ⟨h1, h2⟩ := h
  refine ⟨h1, ?_⟩
  rcases h2 with h2 | ⟨g, cap, cur, hv, hg, hh, r⟩
  · exact .inl h2
  · exact .inr ⟨g, cap, cur, hv, hg, (hb.block g (Array.getElem?_eq_some_iff.1 hh).1).trans hh, r⟩

theorem info_dig : (Try.prog.info? 51).map (fun i => (i.zero, i.size, i.bytes)) = some (some (.agg (Array.replicate 16 (.int .u8 0))), 16, 16) := by kernel_rfl

def getDigsGo : Nat → Nat → List UInt8 → List (List UInt8) → List (List UInt8) × Nat × Int
  | 0, at0, _, acc => (acc, at0, 0)
  | k + 1, at0, l, acc => getDigsGo k (at0 + 16) l (acc ++ [(l.drop at0).take 16])
def getDigs (l : List UInt8) : List (List UInt8) × Nat × Int :=
  if (getLen l 16).2.2 ≠ 0 then ([], 0, (getLen l 16).2.2) else getDigsGo (getLen l 16).1.toNat (getLen l 16).2.1 l []
/-- A new slice of digests and two integers come back; nothing that was there has changed. -/
def GivesD (r : List (List UInt8) × Nat × Int) (w : World) (e : Ending) (w' : World) : Prop :=
  ∃ v, e = .returned (.tuple #[v, .int .i64 (r.2.1 : Int), .int .i64 r.2.2]) ∧ w'.ownsRow w.heap.size 51 16 v r.1.length (bvs r.1.flatten) ∧ Below w.heap.size w w'

theorem Src.boxRow {P : Program} {tx e' : TypeId} (hk : P.underlying tx = some (.slice e')) (w : World) (cs : List Value) (t : TypeId) (size : Nat) (hs : cs.length = size) (h1 : ∀ u ∈ cs, u.oneCell' = true) (c : Nat) :
    Src P size tx (.slice (some ⟨w.heap.size, 0, none⟩) 1 c) 1 cs (w.alloc (.cells cs.toArray t)) :=
  Src.ofSlice _ hk _ 1 c cs (by omega) (World.news_of_block (cs := cs.toArray) (Go.heap_alloc_new w _)) h1

set_option maxRecDepth 100000 in
set_option maxHeartbeats 2000000 in
theorem getListDig_any (pb : Addr) (A : Option Addr) (c : Nat) (l : List UInt8) (n : Nat) (w : World) (hp : w.cell? pb = some (.slice A n c)) (hl : Reads w w.heap.size 1 A n (bvs l)) (hn : n ≤ 1000000000) (hc : n ≤ c) :
    Calls Try.prog 40 #[.slice A n c, .int .i64 16, .func (.func 41) #[] #[.pointer (some pb)]] w (GivesD (getDigs l) w) := by
  have HL := Lib.hid hl.bytes_len
  have hpb : pb.block < w.heap.size := World.block_lt_of_cell? w pb hp
  obtain ⟨i0, hi0, hz0, hz1, hz2⟩ := info_parts info_dig
  have hok := getLen_ok l 16 (by omega)
  obtain ⟨m, u, e, hr⟩ : ∃ m u e, getLen l 16 = (m, u, e) := ⟨_, _, _, rfl⟩
  rw [hr] at hok
  have HR := Lib.hid hr
  have hcon := getLen_any A c l n 16 w _ hl (by omega) (by omega) (by omega)
  rw [hr] at hcon
  unfold Rets at hcon
  have HC := Lib.hid hcon
  clear hr hcon
  rcases hok with ⟨he, hm, hu0, hu10, hum⟩ | he | he
  · simp only at he hm hu0 hu10 hum
    subst he
    rw [HL.out] at hum
    obtain ⟨k, rfl⟩ := Int.eq_ofNat_of_zero_le hm
    rw [Int.toNat_natCast] at hum
    have HE : Hid (getDigs l = getDigsGo k u l []) := by show _ = _; unfold getDigs; rw [HR.out]; rfl
    go_enter Try.func40, Try.ntmps40
    go_wp2_with fail
    refine HC.out.mono ?_
    rintro e w1 ⟨rfl, rfl⟩
    go_wp2_with (refine wpList_make_own _ (o := ⟨some 27, _, _, _, _, _⟩) rfl _ _ _ rfl w.heap.size 51 i0 _ 16 Try.underlying23 hi0 hz0 hz1 .i64 .i64 (k : Int) k rfl rfl rfl (by rw [hz2]; omega) (by unfold maxLen; omega) (Nat.le_refl _) ?_; intro w2 hown2 hg2)
    have hbel0 : Below w.heap.size w w2 := (Below.refl _ _).grown hg2 (Nat.le_refl _) (by simp)
    have hk : k ≤ n := by omega
    go_loopg [10, 12, 29] k (fun g s10 s12 s29 wr => ∃ (j at0 : Nat) (acc : List (List UInt8)), Hid (j + g = k) ∧ j ≤ k ∧ at0 + g * 16 ≤ n ∧ Hid (acc.length = j) ∧ Hid (Len16 acc) ∧ s29 = .int .i64 j ∧ s10 = .int .i64 at0 ∧ wr.ownsRow w.heap.size 51 16 s12 acc.length (bvs acc.flatten) ∧ Below w.heap.size w wr ∧ Hid (getDigs l = getDigsGo g at0 l acc))
    case atStart => exact ⟨0, u, [], by show _ = _; omega, by omega, by omega, rfl, fun d hd => absurd hd (by simp), rfl, rfl, hown2, hbel0, HE⟩
    case round =>
      obtain ⟨j, at0, acc, HJ, hj, hat, HA, H16, rfl, rfl, hown, hbel, HG⟩ := hrel
      by_cases hlt : j < k
      · obtain ⟨g, rfl⟩ : ∃ g, gk = g + 1 := ⟨gk - 1, by have := HJ.out; omega⟩
        have hcon := Lib.hid (getDigsElem_any pb A c l n at0 wr ((hbel.cell hpb).trans hp) ((hl.below hbel).more hbel.size) (by omega) hc (by omega))
        have hd : ((l.drop at0).take 16).length = 16 := by rw [List.length_take, List.length_drop, HL.out]; omega
        have HE2 : Hid (getDigs l = getDigsGo g (at0 + 16) l (acc ++ [(l.drop at0).take 16])) := by
          show _ = _
          rw [HG.out, getDigsGo]
        generalize (l.drop at0).take 16 = d at *
        have HD := Lib.hid hd
        have HSZ : Hid ((bvs d).toArray.size = 16) := by show _ = _; simp [bvs_length, hd]
        have HD2 : Hid ((Try.prog.info? 51).map (·.size) = some (bvs d).toArray.size) := by show _ = _; rw [HSZ.out]; kernel_rfl
        have HBL : Hid ((bvs d).length = 16) := by show _ = _; rw [bvs_length, hd]
        clear hd
        have hal : acc.length ≤ n := by have := HA.out; omega
        have hat2 : at0 ≤ n := by omega
        have hbs := hbel.size
        go_wp2_with fail
        refine hcon.out.mono ?_
        rintro e w3 ⟨rfl, hbel3⟩
        have hbs3 := hbel3.size
        have hb3 : Below w.heap.size w w3 := hbel.trans (hbel3.mono hbs)
        have hown3 := own_below hown hbel3
        go_wp2_with (first
          | (with_reducible refine wpList_store_row (o := ⟨none, _, _, _, _, _⟩) rfl _ _ _ rfl _ rfl _ rfl _ _ (Go.heap_alloc_new _ _) (fun u hu => bvs_one d u (by simpa using hu)) HSZ.out.symm HD2.out ?_
             change wpList _ _ _ _ _ (laid w3 _ _))
          | (with_reducible refine wpList_load_at (o := ⟨some 42, _, _, _, _, _⟩) rfl _ _ rfl _ rfl (bvs d) (fun j u hu => laid_cells w3 _ _ _ j u (by simpa using hu)) _ Try.underlying51 rfl (dig_size HD.out) ?_)
          | (refine wpList_valueW (o := ⟨some 43, _, _, _, _, _⟩) rfl _ (by exact exec_slice1 _ 23 51 _ rfl Try.underlying23 i0 _ hi0 hz0 (bvs d) (by rw [hz1, HBL.out]) (by rw [HBL.out]; omega) (by rw [HBL.out]; omega) rfl) ?_)
          | (at_builtin
             refine wpList_append_src _ rfl (.tmp 41) (.tmp 43) _ _ rfl w.heap.size 51 i0 _ 16 16 Try.underlying23 hi0 hz0 hz1 hz2 rfl _ _ _ rfl ((laid_own w3 hown3 _ _).alloc _) 1 (bvs d) (Src.boxRow Try.underlying23 _ _ _ 16 HBL.out (bvs_one d) _) (by unfold maxLen; omega) (by omega) (by simp [laid_size]; omega) ?_
             intro v2 w4 hown4 hbel4))
        go_roundg g
        case measure => omega
        case rel =>
          refine ⟨j + 1, at0 + 16, acc ++ [d], by have := HJ.out; show _ = _; omega, by omega, by omega, ?_, ?_, by go_num, by go_num, ?_, (((laid_below w3 hb3 (by omega) _ _).alloc (by simp [laid_size]; omega) _).trans hbel4), HE2⟩
          · show _ = _; rw [List.length_append, HA.out]; rfl
          · intro x hx
            rcases List.mem_append.1 hx with h | h
            · exact H16.out x h
            · simp at h; rw [h]; exact HD.out
          · rw [List.length_append, List.flatten_append, bvs_append]
            simpa using hown4
      · obtain rfl : gk = 0 := by have := HJ.out; omega
        have hkj : k ≤ j := by omega
        have HE2 : Hid (getDigs l = (acc, at0, 0)) := HG
        go_wp2_with fail
        go_ret3
        exact ⟨_, by rw [HE2.out]; rfl, by rw [HE2.out]; exact hown, hbel⟩
  · injection he with h1 h2
    injection h2 with h2 h3
    subst h1 h2 h3
    have HE : Hid (getDigs l = ([], 0, 6)) := by show _ = _; unfold getDigs; rw [HR.out]; rfl
    go_enter Try.func40, Try.ntmps40
    go_wp2_with fail
    refine HC.out.mono ?_
    rintro e w1 ⟨rfl, rfl⟩
    go_wp2_with fail
    go_ret3
    exact ⟨_, by rw [HE.out]; rfl, by rw [HE.out]; exact World.ownsRow_nil _ _ _ _, Below.refl _ _⟩
  · injection he with h1 h2
    injection h2 with h2 h3
    subst h1 h2 h3
    have HE : Hid (getDigs l = ([], 0, 7)) := by show _ = _; unfold getDigs; rw [HR.out]; rfl
    go_enter Try.func40, Try.ntmps40
    go_wp2_with fail
    refine HC.out.mono ?_
    rintro e w1 ⟨rfl, rfl⟩
    go_wp2_with fail
    go_ret3
    exact ⟨_, by rw [HE.out]; rfl, by rw [HE.out]; exact World.ownsRow_nil _ _ _ _, Below.refl _ _⟩

set_option maxRecDepth 100000 in
set_option maxHeartbeats 1000000 in
theorem getDigests_any (A : Option Addr) (c : Nat) (l : List UInt8) (n : Nat) (w : World) (hl : Reads w w.heap.size 1 A n (bvs l)) (hn : n ≤ 1000000000) (hc : n ≤ c) :
    Calls Try.prog 28 #[.slice A n c] w (GivesD (getDigs l) w) := by
  have hw : ((w.alloc (.cells #[.slice A n c] 26)).cell? ⟨w.heap.size, 0, none⟩ = some (.slice A n c)) := by simp
  have hl1 : Reads (w.alloc (.cells #[.slice A n c] 26)) (w.alloc (.cells #[.slice A n c] 26)).heap.size 1 A n (bvs l) := (hl.alloc (Nat.le_refl _) _).more (by simp)
  have hcon := Lib.hid (getListDig_any ⟨w.heap.size, 0, none⟩ A c l n _ hw hl1 hn hc)
  clear hw hl1
  go_enter Try.func28, Try.ntmps28
  go_wp2_with fail
  refine hcon.out.mono ?_
  rintro e w1 ⟨v, rfl, hown, hbel⟩
  go_wp2_with fail
  go_ret3
  exact ⟨v, rfl, own_base hown (by simp), ((Below.refl _ _).alloc (Nat.le_refl _) _).trans (hbel.mono (by simp))⟩
end Go.Proofs.Ytooiedomcdmefaa

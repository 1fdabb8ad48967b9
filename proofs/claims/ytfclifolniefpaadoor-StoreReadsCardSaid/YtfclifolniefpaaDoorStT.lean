/-
  What the law file's put returns: a contract by a walk. Conditions: the table of constants as laid; sectors of bounded length.
-/
import Derived.Test.YtfclifolniefpaaDoorStS
import Derived.Test.YtfclifolniefpaaDoorStL
import Derived.Test.YtfclifolniefpaaDoorFlG
set_option linter.unusedSimpArgs false
set_option linter.unusedVariables false
namespace Go.Proofs.YtfclifolniefpaaDoor
open Go.RowKit

/-- A flash memory that lies below a bound, or in a row of strings. -/
def FlS (base : Nat) (w : World) (A : Option Addr) (n c : Nat) (fs : List ByteArray) : Prop :=
  FlOK w A n c fs ∧ (0 < n → ∀ ad, A = some ad → ad.block < base ∨ ∃ cs sh, w.heap[ad.block]? = some (.cells cs 9 sh))
section
variable {base : Nat} {w w' : World} {A : Option Addr} {n c : Nat} {fs : List ByteArray}
theorem FlS.on (h : FlS base w A n c fs) (hb : Below w.heap.size w w') : FlS base w' A n c fs :=
  ⟨h.1.on hb, fun h0 ad e => by
    rcases h.2 h0 ad e with h1 | ⟨cs, sh, h1⟩
    · exact .inl h1
    · exact .inr ⟨cs, sh, (hb.block _ (Array.getElem?_eq_some_iff.1 h1).1).trans h1⟩⟩
theorem FlS.kept {row : Option Nat} (h : FlS base w A n c fs) (hg : w.grownBy w' row) (hrow : ∀ g, row = some g → base ≤ g ∧ ∃ cs t sh, w.heap[g]? = some (.cells cs t sh) ∧ t ≠ 9) : FlS base w' A n c fs := by
  have hne : 0 < n → ∀ ad, A = some ad → some ad.block ≠ row := fun h0 ad e e' => by
    obtain ⟨hb, cs, t, sh, h1, h2⟩ := hrow _ e'.symm
    rcases h.2 h0 ad e with h3 | ⟨cs', sh', h3⟩
    · omega
    · rw [h1] at h3
      cases h3
      exact h2 rfl
  have hlt : 0 < n → ∀ ad, A = some ad → ad.block < w.heap.size := fun h0 ad e => by
    obtain ⟨ad', e', hb, _⟩ := h.1.1.2 h0
    rw [e'] at e
    cases e
    exact hb
  refine ⟨⟨⟨h.1.1.1, fun h0 => ?_⟩, h.1.2⟩, fun h0 ad e => ?_⟩
  · obtain ⟨ad, e, hb, hc⟩ := h.1.1.2 h0
    exact ⟨ad, e, Nat.lt_of_lt_of_le hb hg.size, fun j u hu => (World.cell?_of_block (hg.block (ad.add j).block (by rw [block_of_add]; exact hb) (by rw [block_of_add]; exact hne h0 ad e))).trans (hc j u hu)⟩
  · rcases h.2 h0 ad e with h1 | ⟨cs, sh, h1⟩
    · exact .inl h1
    · exact .inr ⟨cs, sh, (hg.block _ (hlt h0 ad e) (hne h0 ad e)).trans h1⟩
theorem FlS.ownrow {b size k : Nat} {e : TypeId} {v : Value} {xs : List Value} (h : w.ownsRow b e size v k xs) (he : e ≠ 9) (hb : base ≤ b) : ∀ g, v.ownBlock = some g → base ≤ g ∧ ∃ cs t sh, w.heap[g]? = some (.cells cs t sh) ∧ t ≠ 9 := fun g hg => by
  rcases h.2 with ⟨rfl, _⟩ | ⟨g', cap, cur, rfl, hbg, hh, _⟩
  · simp [Value.ownBlock] at hg
  · obtain rfl : g' = g := by simpa [Value.ownBlock] using hg
    exact ⟨by omega, _, _, _, hh, he⟩
theorem FlS.of_ok (h : FlOK w A n c fs) : FlS w.heap.size w A n c fs := ⟨h, fun h0 ad e => by obtain ⟨ad', e', hb, _⟩ := h.1.2 h0; rw [e'] at e; cases e; exact .inl hb⟩
theorem FlS.of_own {b : Nat} (h : w.ownsRow b 9 1 (.slice A n c) n (svs fs)) (hs : ∀ s ∈ fs, s.size ≤ 9223372036854775807) : FlS base w A n c fs :=
  ⟨own_flok h hs, fun h0 ad e => by
    obtain ⟨g, cs, e', _, hr, _⟩ := own_row h h0
    rw [e'] at e
    cases e
    exact .inr ⟨_, _, hr⟩⟩
end
structure StU where
  r : Int
  s : ByteArray
  c : Int
  b : Int
def StU.cs (u : StU) : List Value := [.int .i64 u.r, .string u.s, .int .i64 u.c, .int .i64 u.b]
def StU.v (u : StU) : Value := .agg u.cs.toArray
def acs (l : List StA) : List Value := l.flatMap StA.cs
theorem acs_snoc {l : List StA} {k : Nat} {a : StA} (h : l[k]? = some a) : acs (l.take (k + 1)) = acs (l.take k) ++ a.cs := by
  unfold acs
  rw [List.take_add_one, h, List.flatMap_append]
  simp
theorem info_as : (Tryd.prog.info? 40).map (fun i => (i.zero, i.size, i.bytes)) = some (some (.agg zeroA.toArray), 4, 40) := by kernel_rfl
def gl (fs : List ByteArray) (rec : Int) (k : Nat) : List StR := (stLog fs rec k).map fun s => ⟨0, s⟩
theorem gl_s (fs : List ByteArray) (rec : Int) (k : Nat) : (gl fs rec k).map StR.s = stLog fs rec k := by unfold gl; rw [List.map_map]; exact List.map_id _
theorem gl_len (fs : List ByteArray) (rec : Int) (k : Nat) : (gl fs rec k).length = k := by unfold gl; rw [List.length_map, stLog_len]
theorem gl_read {fs : List ByteArray} {rec : Int} {k : Nat} (h : k < 16) : rcs (gl fs rec (k + 1)) = rcs (gl fs rec k) ++ (⟨0, flRead fs (16 * rec + (k : Int))⟩ : StR).cs := by
  unfold gl rcs
  rw [stLog_read h, List.map_append, List.flatMap_append]
  simp
theorem gl_write {fs : List ByteArray} {rec : Int} {k : Nat} (h : 16 ≤ k) : rcs (gl fs rec (k + 1)) = rcs (gl fs rec k) ++ (⟨0, em⟩ : StR).cs := by
  unfold gl rcs
  rw [stLog_write h, List.map_append, List.flatMap_append]
  simp
theorem gl_sz {fs : List ByteArray} (h : ∀ s ∈ fs, s.size ≤ 400) (rec : Int) (k : Nat) : ∀ r ∈ gl fs rec k, r.s.size ≤ 400 := by
  intro r hr
  unfold gl stLog stSecs at hr
  rw [List.mem_map] at hr
  obtain ⟨s, hs, rfl⟩ := hr
  rcases List.mem_append.1 hs with hs | hs
  · obtain ⟨i, _, rfl⟩ := List.mem_map.1 hs
    exact flRead_mem h _
  · rw [List.eq_of_mem_replicate hs]
    show 0 ≤ 400
    omega
/-- Four results, the first two of them in memory. -/
theorem results_cells4 {P : Program} {fn : Func} {p q t u : Tmp} {ty tz : TypeId} (h : fn.results = #[.cell p ty, .cell q tz, .tmp t, .tmp u]) (tmps : Array Value) (w : World) (ad bd : Addr) (x y : Value) (hp : tmps.getD p undef = .pointer (some ad)) (hq : tmps.getD q undef = .pointer (some bd))
    (hl : (loadVar ty ad).run P w = .ok x w) (hm : (loadVar tz bd).run P w = .ok y w) : (results fn tmps).run P w = .ok (.tuple #[x, y, tmps.getD t undef, tmps.getD u undef]) w := by
  have hp' : tmps[p]?.getD undef = .pointer (some ad) := by simpa using hp
  have hq' : tmps[q]?.getD undef = .pointer (some bd) := by simpa using hq
  simp [results, h, hp', hq', asAddr, hl, hm]
/-- What put gives. -/
def GivesP (r : StRun) (w : World) (e : Ending) (w' : World) : Prop :=
  ∃ (A : Option Addr) (n c : Nat) (B : Option Addr) (m d : Nat), e = .returned (.tuple #[flv A n c, r.o.v, .bool r.w, .slice B m d]) ∧ FlOK w' A n c r.m ∧ Reads w' w'.heap.size 4 B m (acs r.l) ∧ m ≤ d ∧ r.l.length = m ∧ Below w.heap.size w w'
theorem stCnt_le {fs : List ByteArray} {rec : Int} {c : ByteArray} (hc : c.size ≤ 2000) (hs : stSq fs rec < 1099511627776) : stCnt (stB fs rec c) ≤ 8 := by
  have h := stEnc_le (rec := rec) (seq := stSq fs rec + 1) (c := tl c) (by have := (stCur_nn rec (stL fs rec)).1; unfold stSq; omega) (by omega) (by rw [tl_len]; exact hc)
  unfold stCnt
  have h2 : (stB fs rec c).length ≤ 2024 := h
  omega
theorem stWs_le {fs : List ByteArray} {rec : Int} {c : ByteArray} (hc : c.size ≤ 2000) : (stWs fs rec c).length ≤ 10 := by
  rw [stWs_len]
  split
  · rename_i h
    have := stCnt_le (c := c) hc h
    omega
  · omega
theorem stMem_sz {fs : List ByteArray} {ws : List StA} (h : ∀ s ∈ fs, s.size ≤ 9223372036854775807) : ∀ k, (stMem fs ws k).length = fs.length := by
  intro k
  unfold stMem
  generalize ws.take k = l
  induction l generalizing fs with
  | nil => rfl
  | cons a l ih =>
    rw [List.foldl_cons, ih]
    · exact flWrite_length _
    · intro s hs
      unfold stW1 flWrite at hs
      split at hs
      · rename_i ho
        unfold flOk at ho
        rw [Bool.and_eq_true, decide_eq_true_eq] at ho
        rcases List.mem_or_eq_of_mem_set hs with hs | rfl
        · exact h s hs
        · rw [flW_whole (flWhole_neg (by omega)), ho.2]
          omega
      · exact h s hs
set_option maxRecDepth 100000 in
set_option maxHeartbeats 16000000 in
theorem lput_any (A : Option Addr) (n c : Nat) (fs : List ByteArray) (rec : Int) (cb : ByteArray) (cut bytes : Int) (w : World) (hin : stIn rec = true) (hK : Consts w) (hok : FlOK w A n c fs) (hsz : ∀ s ∈ fs, s.size ≤ 400) (hn : n ≤ 1000) (hcb : cb.size ≤ 2000)
    (hc1 : -9223372036854775808 ≤ cut) (hc2 : cut ≤ 9223372036854775807) (hb1 : -9223372036854775808 ≤ bytes) (hb2 : bytes ≤ 9223372036854775807) :
    Calls Tryd.prog 18 #[flv A n c, (⟨rec, cb, cut, bytes⟩ : StU).v] w (GivesP (stRun fs rec cb cut bytes) w) := by
  obtain ⟨i0, hi0, hz0, hz1, hz2⟩ := info_parts info_rs
  obtain ⟨i1, hi1, hy0, hy1, hy2⟩ := info_parts info_as
  obtain ⟨ws, hws⟩ : ∃ ws, ws = stWs fs rec cb := ⟨_, rfl⟩
  obtain ⟨M, hM⟩ : ∃ M, M = ws.length := ⟨_, rfl⟩
  have HM := Lib.hid hM
  have HWS := Lib.hid hws
  have hM9 : M ≤ 10 := by rw [hM, hws]; exact stWs_le hcb
  clear hws hM
  have HG : ∀ (k : Nat) (A6 : Option Addr) (c6 : Nat) (W : World), Below w.heap.size w W → Reads W W.heap.size 2 A6 k (rcs (gl fs rec k)) → k ≤ c6 → k ≤ 1000 → Hid (Calls Tryd.prog 28 #[.int .i64 rec, .string cb, .slice A6 k c6] W (GivesS (stPut rec cb (stLog fs rec k)) W)) := fun k A6 c6 W hW hr hc hk => by
    have h := sput_any rec cb A6 k c6 (gl fs rec k) W (hK.on hW) hr hc hk (gl_sz hsz rec k) (by omega)
    rw [gl_s] at h
    exact Lib.hid h
  unfold flv at *
  go_enter Tryd.func18, Tryd.ntmps18
  go_wp2_with (first
    | ((with_reducible refine wpList_at ⟨some 2, _, _, _, _, _⟩ ?_); refine wpList_box_row rfl _ _ rfl [.slice A n c] rfl ?_; intro w1 r2_1 s1 g1; have k1 : Below w.heap.size w w1 := grown_below g1 (Nat.le_refl _) (by simp); have B1 : Below w.heap.size w w1 := k1; have cr20 := r2_1.cell (j := 0) rfl)
    | ((with_reducible refine wpList_at ⟨some 3, _, _, _, _, _⟩ ?_); refine wpList_box_row rfl _ _ rfl ((⟨rec, cb, cut, bytes⟩ : StU).cs) rfl ?_; intro w2 r3_2 s2 g2; have k2 : Below w1.heap.size w1 w2 := grown_below g2 (Nat.le_refl _) (by simp); have B2 := B1.trans (k2.mono B1.size); have r2_2 := r2_1.on k2; clear r2_1; have cr30 := r3_2.cell (j := 0) rfl; have cr31 := r3_2.cell (j := 1) rfl; have cr32 := r3_2.cell (j := 2) rfl; have cr33 := r3_2.cell (j := 3) rfl)
    | (with_reducible refine wpList_alloc_row (o := ⟨some 4, _, _, _, _, _⟩) rfl _ rfl [.slice none 0 0] (by kernel_rfl) ?_; intro w3 z4_3 s3 g3; have k3 : Below w2.heap.size w2 w3 := grown_below g3 (Nat.le_refl _) (by simp); have B3 := B2.trans (k3.mono B2.size); have r2_3 := r2_2.on k3; have r3_3 := r3_2.on k3; clear r2_2 r3_2; have cr30 := r3_3.cell (j := 0) rfl; have cr31 := r3_3.cell (j := 1) rfl; have cr32 := r3_3.cell (j := 2) rfl; have cr33 := r3_3.cell (j := 3) rfl)
    | (with_reducible refine wpList_alloc_row (o := ⟨some 5, _, _, _, _, _⟩) rfl _ rfl zeroO zero_so ?_; intro w4 z5_4 s4 g4; have k4 : Below w3.heap.size w3 w4 := grown_below g4 (Nat.le_refl _) (by simp); have B4 := B3.trans (k4.mono B3.size); have r2_4 := r2_3.on k4; have r3_4 := r3_3.on k4; have z4_4 := z4_3.on k4; clear r2_3 r3_3 z4_3; have cr30 := r3_4.cell (j := 0) rfl; have cr31 := r3_4.cell (j := 1) rfl; have cr32 := r3_4.cell (j := 2) rfl; have cr33 := r3_4.cell (j := 3) rfl))
  go_loopg [8, 9, 17] 100 (fun g s8 s9 s17 wr => ∃ (k : Nat) (Ak : Option Addr) (nk ck : Nat), Hid (k + g = 100) ∧ k ≤ 16 + M ∧ Hid (cut < 0 ∨ (k : Int) ≤ cut) ∧ s17 = .int .i64 (k : Int) ∧ wr.ownsRow w.heap.size 55 2 s8 k (rcs (gl fs rec k)) ∧ wr.ownsRow w.heap.size 40 4 s9 k (acs ((stAs fs rec cb).take k)) ∧ FlS w.heap.size wr Ak nk ck (stMem fs ws (k - 16)) ∧ Row wr (w.heap.size) 28 [.slice Ak nk ck] ∧ Row wr (w1.heap.size) 30 (⟨rec, cb, cut, bytes⟩ : StU).cs ∧ Row wr (w2.heap.size) 28 [.slice none 0 0] ∧ Row wr (w3.heap.size) 33 zeroO ∧ Below w.heap.size w wr)
  case atStart => exact ⟨0, A, n, c, by show _ = _; omega, by omega, Lib.hid (by omega), rfl, World.ownsRow_nil _ _ _ _, World.ownsRow_nil _ _ _ _, (FlS.of_ok hok).on B4, r2_4, r3_4, z4_4, z5_4, B4⟩
  case round =>
    obtain ⟨k, Ak, nk, ck, HK, hk, HC, rfl, owl, owa, fl, r2, r3, z4, z5, hB⟩ := hrel
    obtain ⟨A8, c8, rfl, hc8, _, d8⟩ := own_form owl
    obtain ⟨A9, c9, rfl, hc9, _, _⟩ := own_form owa
    have HGP := HG k A8 c8 wr hB d8 hc8 (by omega)
    have cr30 := r3.cell (j := 0) rfl
    have cr31 := r3.cell (j := 1) rfl
    have cr32 := r3.cell (j := 2) rfl
    have cr33 := r3.cell (j := 3) rfl
    have lr2 := r2.lt
    have lr3 := r3.lt
    have lz4 := z4.lt
    have lz5 := z5.lt
    have lB := hB.size
    by_cases hlt : k < 16
    · rw [stPut_read hin hcb hlt] at HGP
      have HA := Lib.hid (acs_snoc (stAs_read (fs := fs) (rec := rec) (c := cb) hlt))
      have HS := Lib.hid (gl_read (fs := fs) (rec := rec) hlt)
      have hm0 : stMem fs ws (k - 16) = fs := by rw [show k - 16 = 0 by omega]; rfl
      rw [hm0] at fl
      have HM1 : Hid (stMem fs ws (k + 1 - 16) = fs) := Lib.hid (by rw [show k + 1 - 16 = 0 by omega]; rfl)
      have HRR := fun (W : World) h => Lib.hid (lread_any Ak nk ck fs (16 * rec + (k : Int)) W h)
      obtain ⟨s, hs⟩ : ∃ s, s = flRead fs (16 * rec + (k : Int)) := ⟨_, rfl⟩
      rw [← hs] at HRR
      rw [← hs] at HS
      clear hs hm0
      by_cases hit : (k : Int) = cut
      · have he : ((k : Int) == cut) = true := beq_iff_eq.2 hit
        have HE := Lib.hid (stRun_read (fs := fs) (rec := rec) (c := cb) hit.symm hlt bytes)
        generalize stRun fs rec cb cut bytes = R at *
        clear hit
        go_wp2_with fail
        refine (HGP.out).mono ?_
        rintro e w51 ⟨rfl, h51⟩
        have B51 := hB.trans (h51.mono hB.size)
        have r2_51 := r2.on h51
        have r3_51 := r3.on h51
        have z4_51 := z4.on h51
        have z5_51 := z5.on h51
        have owl_51 := own_below owl h51
        have owa_51 := own_below owa h51
        have fl_51 := fl.on h51
        have cr30 := r3_51.cell (j := 0) rfl
        have cr31 := r3_51.cell (j := 1) rfl
        have cr32 := r3_51.cell (j := 2) rfl
        have cr33 := r3_51.cell (j := 3) rfl
        have sz51 := h51.size
        go_wp2_with (first
          | (with_reducible refine wpList_alloc_row (o := ⟨some 11, _, _, _, _, _⟩) rfl _ rfl zeroA zero_ac ?_; intro w52 r52 s52 g52)
          | (with_reducible refine wpList_alloc_row (o := ⟨some 12, _, _, _, _, _⟩) rfl _ rfl zeroO zero_so ?_; intro w53 r53 s53 g53; have q53 := r52.kept g53 (by simp); have k53 := below_kept (grown_below g52 (Nat.le_refl _) (by simp)) g53 (Nat.le_of_lt s52) (by simp))
          | ((with_reducible refine wpList_at ⟨none, .store _ (.tmp 11) _, _, _, _, _⟩ ?_); refine wpList_store_all rfl _ _ _ rfl w51.heap.size rfl _ _ q53 ((stRead rec k).cs) rfl ((stRead rec k).cs_one) rfl (by kernel_rfl) ?_; intro w54 t54 g54; have q54 := r53.kept g54 (by simp; omega); have k54 := below_kept k53 g54 k53.size (by rintro q hq; cases hq; exact Nat.le_refl _))
          | ((with_reducible refine wpList_at ⟨none, .store _ (.tmp 12) _, _, _, _, _⟩ ?_); refine wpList_store_all rfl _ _ _ rfl w52.heap.size rfl _ _ q54 (noO.cs) rfl (noO.cs_one) rfl (by kernel_rfl) ?_; intro w55 o12_55 g55; have k55 : Below w51.heap.size w51 w55 := below_kept k54 g55 k54.size (by rintro q hq; cases hq; exact Nat.le_of_lt s52); have a11_55 := t54.kept g55 (by simp; omega); have B55 := B51.trans (k55.mono B51.size); have r2_55 := r2_51.on k55; have r3_55 := r3_51.on k55; have z4_55 := z4_51.on k55; have z5_55 := z5_51.on k55; have owl_55 := own_below owl_51 k55; have owa_55 := own_below owa_51 k55; have fl_55 := fl_51.on k55; clear r2_51 r3_51 z4_51 z5_51 owl_51 owa_51 fl_51; have cr30 := r3_55.cell (j := 0) rfl; have cr31 := r3_55.cell (j := 1) rfl; have cr32 := r3_55.cell (j := 2) rfl; have cr33 := r3_55.cell (j := 3) rfl; have s55 := a11_55.lt; have v55 := o12_55.lt; clear r52 r53 q53 q54 t54 g52 g53 g54 g55 k53 k54; have ca110 := a11_55.cell (j := 0) rfl; have ca111 := a11_55.cell (j := 1) rfl; have ca112 := a11_55.cell (j := 2) rfl; have ca113 := a11_55.cell (j := 3) rfl)
          | ((with_reducible refine wpList_at ⟨some 35, _, _, _, _, _⟩ ?_); refine wpList_valueG rfl _ (by exact exec_loadA _ _ rfl (w51.heap.size) rfl (stRead rec k) a11_55) ?_)
          | (refine wpList_valueW (o := ⟨some 36, _, _, _, _, _⟩) rfl _ (by exact exec_slice1 _ 34 40 _ rfl Tryd.underlying34 i1 _ hi1 hy0 (stRead rec k).cs (by rw [hy1]; rfl) (by show 0 < 4; decide) (by show 4 ≤ 1000; decide) rfl) ?_)
          | (at_builtin; have bx56 : Below w55.heap.size w55 (w55.alloc (.cells ((stRead rec k).cs).toArray 40)) := (Below.refl _ _).alloc (Nat.le_refl _) _; have r2x56 := r2_55.on bx56; have r3x56 := r3_55.on bx56; have z4x56 := z4_55.on bx56; have z5x56 := z5_55.on bx56; have owlx56 := own_below owl_55 bx56; have owax56 := own_below owa_55 bx56; have flx56 := fl_55.on bx56; have a11x56 := a11_55.on bx56; have o12x56 := o12_55.on bx56; refine wpList_append_at9 rfl (.tmp 34) (.tmp 36) _ _ rfl w.heap.size 40 i1 _ 4 40 Tryd.underlying34 hi1 hy0 hy1 hy2 rfl _ _ _ rfl owax56 1 ((stRead rec k).cs) (boxRow9 Tryd.underlying34 _ _ _ 4 rfl ((stRead rec k).cs_one) _) (by unfold maxLen; omega) (by omega) (by have := r2x56.lt; omega) ?_; intro v56 w56 owa_56 g56 ob56; have r2_56 := r2x56.kept g56 (r2x56.not_row7 (by decide) owax56); have r3_56 := r3x56.kept g56 (r3x56.not_row7 (by decide) owax56); have z4_56 := z4x56.kept g56 (z4x56.not_row7 (by decide) owax56); have z5_56 := z5x56.kept g56 (z5x56.not_row7 (by decide) owax56); have owl_56 := owlx56.kept g56 (own_ne owlx56 owax56 (by decide)); have fl_56 := flx56.kept g56 (FlS.ownrow owax56 (by decide) (Nat.le_refl _)); have a11_56 := a11x56.kept g56 (fun e => by have := (owa.lt _ e.symm).2; omega); have o12_56 := o12x56.kept g56 (o12x56.not_row7 (by decide) owax56); have B56 := below_kept (B55.trans (bx56.mono B55.size)) g56 (Nat.le_trans B55.size bx56.size) (by intro q hq; exact (owax56.lt q hq).1); have sz56 : w55.heap.size ≤ w56.heap.size := Nat.le_trans bx56.size g56.size; clear r2x56 r3x56 z4x56 z5x56 owlx56 flx56 a11x56 o12x56; have ca110 := a11_56.cell (j := 0) rfl; have ca111 := a11_56.cell (j := 1) rfl; have ca112 := a11_56.cell (j := 2) rfl; have ca113 := a11_56.cell (j := 3) rfl; have cr30 := r3_56.cell (j := 0) rfl; have cr31 := r3_56.cell (j := 1) rfl; have cr32 := r3_56.cell (j := 2) rfl; have cr33 := r3_56.cell (j := 3) rfl)
          | ((with_reducible refine wpList_at ⟨some 45, _, _, _, _, _⟩ ?_); refine wpList_valueG rfl _ (by exact exec_loadFl _ _ rfl (w.heap.size) rfl Ak nk ck r2_56) ?_))
        refine ((HRR _ fl_56.1).out).mono ?_
        rintro e w57 ⟨rfl, h57⟩
        have B57 := B56.trans (h57.mono B56.size)
        have r2_57 := r2_56.on h57
        have r3_57 := r3_56.on h57
        have z4_57 := z4_56.on h57
        have z5_57 := z5_56.on h57
        have owl_57 := own_below owl_56 h57
        have owa_57 := own_below owa_56 h57
        have fl_57 := fl_56.on h57
        have a11_57 := a11_56.on h57
        have o12_57 := o12_56.on h57
        clear r2_56 r3_56 z4_56 z5_56 owl_56 owa_56 fl_56 a11_56 o12_56
        have cr30 := r3_57.cell (j := 0) rfl
        have cr31 := r3_57.cell (j := 1) rfl
        have cr32 := r3_57.cell (j := 2) rfl
        have cr33 := r3_57.cell (j := 3) rfl
        have ca110 := a11_57.cell (j := 0) rfl
        have ca111 := a11_57.cell (j := 1) rfl
        have ca112 := a11_57.cell (j := 2) rfl
        have ca113 := a11_57.cell (j := 3) rfl
        have sz57 := h57.size
        go_wp2_with (first
          | (refine wpList_valueW (o := ⟨some 54, _, _, _, _, _⟩) rfl _ (by exact exec_slice1 _ 51 55 _ rfl Tryd.underlying51 i0 _ hi0 hz0 (⟨0, s⟩ : StR).cs (by rw [hz1]; rfl) (by show 0 < 2; decide) (by show 2 ≤ 1000; decide) rfl) ?_)
          | (at_builtin; have bx58 : Below w57.heap.size w57 (w57.alloc (.cells ((⟨0, s⟩ : StR).cs).toArray 55)) := (Below.refl _ _).alloc (Nat.le_refl _) _; have r2x58 := r2_57.on bx58; have r3x58 := r3_57.on bx58; have z4x58 := z4_57.on bx58; have z5x58 := z5_57.on bx58; have owlx58 := own_below owl_57 bx58; have owax58 := own_below owa_57 bx58; have flx58 := fl_57.on bx58; have a11x58 := a11_57.on bx58; have o12x58 := o12_57.on bx58; refine wpList_append_at9 rfl (.tmp 51) (.tmp 54) _ _ rfl w.heap.size 55 i0 _ 2 24 Tryd.underlying51 hi0 hz0 hz1 hz2 rfl _ _ _ rfl owlx58 1 ((⟨0, s⟩ : StR).cs) (boxRow9 Tryd.underlying51 _ _ _ 2 rfl (StR.cs_one _) _) (by unfold maxLen; omega) (by omega) (by have := r2x58.lt; omega) ?_; intro v58 w58 owl_58 g58 ob58; have r2_58 := r2x58.kept g58 (r2x58.not_row7 (by decide) owlx58); have r3_58 := r3x58.kept g58 (r3x58.not_row7 (by decide) owlx58); have z4_58 := z4x58.kept g58 (z4x58.not_row7 (by decide) owlx58); have z5_58 := z5x58.kept g58 (z5x58.not_row7 (by decide) owlx58); have owa_58 := owax58.kept g58 (own_ne owax58 owlx58 (by decide)); have fl_58 := flx58.kept g58 (FlS.ownrow owlx58 (by decide) (Nat.le_refl _)); have a11_58 := a11x58.kept g58 (a11x58.not_row7 (by decide) owlx58); have o12_58 := o12x58.kept g58 (o12x58.not_row7 (by decide) owlx58); have B58 := below_kept (B57.trans (bx58.mono B57.size)) g58 (Nat.le_trans B57.size bx58.size) (by intro q hq; exact (owlx58.lt q hq).1); have sz58 : w57.heap.size ≤ w58.heap.size := Nat.le_trans bx58.size g58.size; clear r2x58 r3x58 z4x58 z5x58 owax58 flx58 a11x58 o12x58; have ca110 := a11_58.cell (j := 0) rfl; have ca111 := a11_58.cell (j := 1) rfl; have ca112 := a11_58.cell (j := 2) rfl; have ca113 := a11_58.cell (j := 3) rfl; have cr30 := r3_58.cell (j := 0) rfl; have cr31 := r3_58.cell (j := 1) rfl; have cr32 := r3_58.cell (j := 2) rfl; have cr33 := r3_58.cell (j := 3) rfl))
        try simp only [Act.put, List.setIfInBounds_toArray, List.set_cons_zero, List.set_cons_succ]
        have bq0 : Below w.heap.size w w58.drew := B58.drew
        have r2q := r2_58.drew
        have z4q := z4_58.drew
        have z5q := z5_58.drew
        have o12q := o12_58.drew
        have flq : FlS w.heap.size w58.drew Ak nk ck fs := fl_58
        have owaq : w58.drew.ownsRow w.heap.size 40 4 _ _ _ := owa_58
        refine wp_region_plan (fun w' => Row w' (w.heap.size) 28 [.slice Ak nk ck] ∧ Row w' (w52.heap.size) 33 (noO).cs) (.take 0 <| .take 1 <| .take 2 <| .one 3 <| .one 4 <| .take 5 <| .take 6 <| .done) (by kernel_rfl) (by kernel_rfl) (by kernel_rfl) (fun _ _ _ _ _ h => h) ⟨r2q, o12q⟩ ?_
        repeat (refine plan_take _ rfl ?_; (first | ((with_reducible refine wpQuiet_at ⟨some 83, _, _, _, _, _⟩ ?_); refine wpQuiet_valueG rfl _ (by intro _ hS; exact exec_loadFl _ _ rfl (w.heap.size) rfl Ak nk ck hS.1) (wpQuiet_nil ?_); simp only [Act.put, List.setIfInBounds_toArray, List.set_cons_zero, List.set_cons_succ]) | ((with_reducible refine wpQuiet_at ⟨some 84, _, _, _, _, _⟩ ?_); refine wpQuiet_valueG rfl _ (by intro _ hS; exact exec_loadO _ _ rfl (w52.heap.size) rfl (noO) hS.2) (wpQuiet_nil ?_); simp only [Act.put, List.setIfInBounds_toArray, List.set_cons_zero, List.set_cons_succ]) | (go_big_quiet_step ((intros; rfl)); refine wpQuiet_nil ?_)))
        refine plan_one _ rfl fun K hK => ?_
        refine step_store_all rfl _ _ _ rfl (w2.heap.size) rfl _ _ z4q ([.slice Ak nk ck]) rfl (slice_one _ _ _) rfl (by kernel_rfl) ?_
        intro wu1 z4u1 gu1
        have bu1 := below_kept bq0 gu1 bq0.size (by rintro q hq; cases hq; omega)
        have r2u1 := r2q.kept gu1 (by simp; omega)
        have z5u1 := z5q.kept gu1 (by simp; omega)
        have o12u1 := o12q.kept gu1 (by simp; omega)
        have flu1 := flq.kept gu1 (fun q hq => by cases hq; exact ⟨by omega, _, _, _, z4q, by decide⟩)
        have owau1 := owaq.kept gu1 (.inr (z4q.not_row7 (by decide) owaq).symm)
        refine hK _ _ ⟨r2u1, o12u1⟩ ?_
        clear hK K
        simp only [Act.put, List.setIfInBounds_toArray, List.set_cons_zero, List.set_cons_succ]
        refine plan_one _ rfl fun K hK => ?_
        refine step_store_all rfl _ _ _ rfl (w3.heap.size) rfl _ _ z5u1 (noO.cs) rfl (noO.cs_one) rfl (by kernel_rfl) ?_
        intro wu2 z5u2 gu2
        have bu2 := below_kept bu1 gu2 bu1.size (by rintro q hq; cases hq; omega)
        have r2u2 := r2u1.kept gu2 (by simp; omega)
        have z4u2 := z4u1.kept gu2 (by simp; omega)
        have o12u2 := o12u1.kept gu2 (by simp; omega)
        have flu2 := flu1.kept gu2 (fun q hq => by cases hq; exact ⟨by omega, _, _, _, z5u1, by decide⟩)
        have owau2 := owau1.kept gu2 (.inr (z5u1.not_row7 (by decide) owau1).symm)
        refine hK _ _ ⟨r2u2, o12u2⟩ ?_
        clear hK K
        simp only [Act.put, List.setIfInBounds_toArray, List.set_cons_zero, List.set_cons_succ]
        repeat (refine plan_take _ rfl ?_; (first | ((with_reducible refine wpQuiet_at ⟨some 83, _, _, _, _, _⟩ ?_); refine wpQuiet_valueG rfl _ (by intro _ hS; exact exec_loadFl _ _ rfl (w.heap.size) rfl Ak nk ck hS.1) (wpQuiet_nil ?_); simp only [Act.put, List.setIfInBounds_toArray, List.set_cons_zero, List.set_cons_succ]) | ((with_reducible refine wpQuiet_at ⟨some 84, _, _, _, _, _⟩ ?_); refine wpQuiet_valueG rfl _ (by intro _ hS; exact exec_loadO _ _ rfl (w52.heap.size) rfl (noO) hS.2) (wpQuiet_nil ?_); simp only [Act.put, List.setIfInBounds_toArray, List.set_cons_zero, List.set_cons_succ]) | (go_big_quiet_step ((intros; rfl)); refine wpQuiet_nil ?_)))
        refine plan_done ?_
        go_wp2_with fail
        refine bodyPost_ret (results_cells4 Tryd.results18 _ _ _ _ _ _ rfl rfl (load_fl z4u2) (load_so z5u2)) rfl ?_
        obtain ⟨Az, cz, ez, hcz, _, dz⟩ := own_form owau2
        cases ez
        exact ⟨Ak, nk, ck, _, _, _, by rw [HE.out]; rfl, by rw [HE.out]; exact flu2.1, by rw [HE.out]; rw [← HA.out] at dz; exact dz, hcz, by rw [HE.out, List.length_take, stAs_len]; omega, bu2⟩
      · have he : ((k : Int) == cut) = false := beq_eq_false_iff_ne.2 hit
        have HC2 : Hid (cut < 0 ∨ ((k + 1 : Nat) : Int) ≤ cut) := Lib.hid (by have := HC.out; omega)
        clear hit
        go_wp2_with fail
        refine (HGP.out).mono ?_
        rintro e w51 ⟨rfl, h51⟩
        have B51 := hB.trans (h51.mono hB.size)
        have r2_51 := r2.on h51
        have r3_51 := r3.on h51
        have z4_51 := z4.on h51
        have z5_51 := z5.on h51
        have owl_51 := own_below owl h51
        have owa_51 := own_below owa h51
        have fl_51 := fl.on h51
        have cr30 := r3_51.cell (j := 0) rfl
        have cr31 := r3_51.cell (j := 1) rfl
        have cr32 := r3_51.cell (j := 2) rfl
        have cr33 := r3_51.cell (j := 3) rfl
        have sz51 := h51.size
        go_wp2_with (first
          | (with_reducible refine wpList_alloc_row (o := ⟨some 11, _, _, _, _, _⟩) rfl _ rfl zeroA zero_ac ?_; intro w52 r52 s52 g52)
          | (with_reducible refine wpList_alloc_row (o := ⟨some 12, _, _, _, _, _⟩) rfl _ rfl zeroO zero_so ?_; intro w53 r53 s53 g53; have q53 := r52.kept g53 (by simp); have k53 := below_kept (grown_below g52 (Nat.le_refl _) (by simp)) g53 (Nat.le_of_lt s52) (by simp))
          | ((with_reducible refine wpList_at ⟨none, .store _ (.tmp 11) _, _, _, _, _⟩ ?_); refine wpList_store_all rfl _ _ _ rfl w51.heap.size rfl _ _ q53 ((stRead rec k).cs) rfl ((stRead rec k).cs_one) rfl (by kernel_rfl) ?_; intro w54 t54 g54; have q54 := r53.kept g54 (by simp; omega); have k54 := below_kept k53 g54 k53.size (by rintro q hq; cases hq; exact Nat.le_refl _))
          | ((with_reducible refine wpList_at ⟨none, .store _ (.tmp 12) _, _, _, _, _⟩ ?_); refine wpList_store_all rfl _ _ _ rfl w52.heap.size rfl _ _ q54 (noO.cs) rfl (noO.cs_one) rfl (by kernel_rfl) ?_; intro w55 o12_55 g55; have k55 : Below w51.heap.size w51 w55 := below_kept k54 g55 k54.size (by rintro q hq; cases hq; exact Nat.le_of_lt s52); have a11_55 := t54.kept g55 (by simp; omega); have B55 := B51.trans (k55.mono B51.size); have r2_55 := r2_51.on k55; have r3_55 := r3_51.on k55; have z4_55 := z4_51.on k55; have z5_55 := z5_51.on k55; have owl_55 := own_below owl_51 k55; have owa_55 := own_below owa_51 k55; have fl_55 := fl_51.on k55; clear r2_51 r3_51 z4_51 z5_51 owl_51 owa_51 fl_51; have cr30 := r3_55.cell (j := 0) rfl; have cr31 := r3_55.cell (j := 1) rfl; have cr32 := r3_55.cell (j := 2) rfl; have cr33 := r3_55.cell (j := 3) rfl; have s55 := a11_55.lt; have v55 := o12_55.lt; clear r52 r53 q53 q54 t54 g52 g53 g54 g55 k53 k54; have ca110 := a11_55.cell (j := 0) rfl; have ca111 := a11_55.cell (j := 1) rfl; have ca112 := a11_55.cell (j := 2) rfl; have ca113 := a11_55.cell (j := 3) rfl)
          | ((with_reducible refine wpList_at ⟨some 35, _, _, _, _, _⟩ ?_); refine wpList_valueG rfl _ (by exact exec_loadA _ _ rfl (w51.heap.size) rfl (stRead rec k) a11_55) ?_)
          | (refine wpList_valueW (o := ⟨some 36, _, _, _, _, _⟩) rfl _ (by exact exec_slice1 _ 34 40 _ rfl Tryd.underlying34 i1 _ hi1 hy0 (stRead rec k).cs (by rw [hy1]; rfl) (by show 0 < 4; decide) (by show 4 ≤ 1000; decide) rfl) ?_)
          | (at_builtin; have bx56 : Below w55.heap.size w55 (w55.alloc (.cells ((stRead rec k).cs).toArray 40)) := (Below.refl _ _).alloc (Nat.le_refl _) _; have r2x56 := r2_55.on bx56; have r3x56 := r3_55.on bx56; have z4x56 := z4_55.on bx56; have z5x56 := z5_55.on bx56; have owlx56 := own_below owl_55 bx56; have owax56 := own_below owa_55 bx56; have flx56 := fl_55.on bx56; have a11x56 := a11_55.on bx56; have o12x56 := o12_55.on bx56; refine wpList_append_at9 rfl (.tmp 34) (.tmp 36) _ _ rfl w.heap.size 40 i1 _ 4 40 Tryd.underlying34 hi1 hy0 hy1 hy2 rfl _ _ _ rfl owax56 1 ((stRead rec k).cs) (boxRow9 Tryd.underlying34 _ _ _ 4 rfl ((stRead rec k).cs_one) _) (by unfold maxLen; omega) (by omega) (by have := r2x56.lt; omega) ?_; intro v56 w56 owa_56 g56 ob56; have r2_56 := r2x56.kept g56 (r2x56.not_row7 (by decide) owax56); have r3_56 := r3x56.kept g56 (r3x56.not_row7 (by decide) owax56); have z4_56 := z4x56.kept g56 (z4x56.not_row7 (by decide) owax56); have z5_56 := z5x56.kept g56 (z5x56.not_row7 (by decide) owax56); have owl_56 := owlx56.kept g56 (own_ne owlx56 owax56 (by decide)); have fl_56 := flx56.kept g56 (FlS.ownrow owax56 (by decide) (Nat.le_refl _)); have a11_56 := a11x56.kept g56 (fun e => by have := (owa.lt _ e.symm).2; omega); have o12_56 := o12x56.kept g56 (o12x56.not_row7 (by decide) owax56); have B56 := below_kept (B55.trans (bx56.mono B55.size)) g56 (Nat.le_trans B55.size bx56.size) (by intro q hq; exact (owax56.lt q hq).1); have sz56 : w55.heap.size ≤ w56.heap.size := Nat.le_trans bx56.size g56.size; clear r2x56 r3x56 z4x56 z5x56 owlx56 flx56 a11x56 o12x56; have ca110 := a11_56.cell (j := 0) rfl; have ca111 := a11_56.cell (j := 1) rfl; have ca112 := a11_56.cell (j := 2) rfl; have ca113 := a11_56.cell (j := 3) rfl; have cr30 := r3_56.cell (j := 0) rfl; have cr31 := r3_56.cell (j := 1) rfl; have cr32 := r3_56.cell (j := 2) rfl; have cr33 := r3_56.cell (j := 3) rfl)
          | ((with_reducible refine wpList_at ⟨some 45, _, _, _, _, _⟩ ?_); refine wpList_valueG rfl _ (by exact exec_loadFl _ _ rfl (w.heap.size) rfl Ak nk ck r2_56) ?_))
        refine ((HRR _ fl_56.1).out).mono ?_
        rintro e w57 ⟨rfl, h57⟩
        have B57 := B56.trans (h57.mono B56.size)
        have r2_57 := r2_56.on h57
        have r3_57 := r3_56.on h57
        have z4_57 := z4_56.on h57
        have z5_57 := z5_56.on h57
        have owl_57 := own_below owl_56 h57
        have owa_57 := own_below owa_56 h57
        have fl_57 := fl_56.on h57
        have a11_57 := a11_56.on h57
        have o12_57 := o12_56.on h57
        clear r2_56 r3_56 z4_56 z5_56 owl_56 owa_56 fl_56 a11_56 o12_56
        have cr30 := r3_57.cell (j := 0) rfl
        have cr31 := r3_57.cell (j := 1) rfl
        have cr32 := r3_57.cell (j := 2) rfl
        have cr33 := r3_57.cell (j := 3) rfl
        have ca110 := a11_57.cell (j := 0) rfl
        have ca111 := a11_57.cell (j := 1) rfl
        have ca112 := a11_57.cell (j := 2) rfl
        have ca113 := a11_57.cell (j := 3) rfl
        have sz57 := h57.size
        go_wp2_with (first
          | (refine wpList_valueW (o := ⟨some 54, _, _, _, _, _⟩) rfl _ (by exact exec_slice1 _ 51 55 _ rfl Tryd.underlying51 i0 _ hi0 hz0 (⟨0, s⟩ : StR).cs (by rw [hz1]; rfl) (by show 0 < 2; decide) (by show 2 ≤ 1000; decide) rfl) ?_)
          | (at_builtin; have bx58 : Below w57.heap.size w57 (w57.alloc (.cells ((⟨0, s⟩ : StR).cs).toArray 55)) := (Below.refl _ _).alloc (Nat.le_refl _) _; have r2x58 := r2_57.on bx58; have r3x58 := r3_57.on bx58; have z4x58 := z4_57.on bx58; have z5x58 := z5_57.on bx58; have owlx58 := own_below owl_57 bx58; have owax58 := own_below owa_57 bx58; have flx58 := fl_57.on bx58; have a11x58 := a11_57.on bx58; have o12x58 := o12_57.on bx58; refine wpList_append_at9 rfl (.tmp 51) (.tmp 54) _ _ rfl w.heap.size 55 i0 _ 2 24 Tryd.underlying51 hi0 hz0 hz1 hz2 rfl _ _ _ rfl owlx58 1 ((⟨0, s⟩ : StR).cs) (boxRow9 Tryd.underlying51 _ _ _ 2 rfl (StR.cs_one _) _) (by unfold maxLen; omega) (by omega) (by have := r2x58.lt; omega) ?_; intro v58 w58 owl_58 g58 ob58; have r2_58 := r2x58.kept g58 (r2x58.not_row7 (by decide) owlx58); have r3_58 := r3x58.kept g58 (r3x58.not_row7 (by decide) owlx58); have z4_58 := z4x58.kept g58 (z4x58.not_row7 (by decide) owlx58); have z5_58 := z5x58.kept g58 (z5x58.not_row7 (by decide) owlx58); have owa_58 := owax58.kept g58 (own_ne owax58 owlx58 (by decide)); have fl_58 := flx58.kept g58 (FlS.ownrow owlx58 (by decide) (Nat.le_refl _)); have a11_58 := a11x58.kept g58 (a11x58.not_row7 (by decide) owlx58); have o12_58 := o12x58.kept g58 (o12x58.not_row7 (by decide) owlx58); have B58 := below_kept (B57.trans (bx58.mono B57.size)) g58 (Nat.le_trans B57.size bx58.size) (by intro q hq; exact (owlx58.lt q hq).1); have sz58 : w57.heap.size ≤ w58.heap.size := Nat.le_trans bx58.size g58.size; clear r2x58 r3x58 z4x58 z5x58 owax58 flx58 a11x58 o12x58; have ca110 := a11_58.cell (j := 0) rfl; have ca111 := a11_58.cell (j := 1) rfl; have ca112 := a11_58.cell (j := 2) rfl; have ca113 := a11_58.cell (j := 3) rfl; have cr30 := r3_58.cell (j := 0) rfl; have cr31 := r3_58.cell (j := 1) rfl; have cr32 := r3_58.cell (j := 2) rfl; have cr33 := r3_58.cell (j := 3) rfl))
        go_roundg (gk - 1)
        case measure => have := HK.out; omega
        case rel => exact ⟨k + 1, Ak, nk, ck, by have := HK.out; show _ = _; omega, by omega, HC2, by go_num, by rw [HS.out]; exact owl_58, by rw [HA.out]; exact owa_58, by rw [HM1.out]; exact fl_58, r2_58, r3_58, z4_58, z5_58, B58⟩
    have hmlen : nk ≤ 1000000 := by have h1 := fl.1.len; rw [stMem_sz (fun s hs => Nat.le_trans (hsz s hs) (by omega))] at h1; have h2 := hok.len; omega
    by_cases hend : k < 16 + M
    · have e16 : 16 + (k - 16) = k := by omega
      obtain ⟨j, hj⟩ : ∃ j, j = k - 16 := ⟨_, rfl⟩
      rw [← hj] at e16
      rw [← hj] at fl
      have HJ := Lib.hid hj
      have E16 := Lib.hid e16
      clear hj e16
      obtain ⟨a, ha⟩ : ∃ a, (stWs fs rec cb)[j]? = some a := ⟨_, List.getElem?_eq_getElem (by rw [← HWS.out, ← HM.out]; have := HJ.out; omega)⟩
      have HWA := Lib.hid ha
      have hwr := (stWs_at ha).1
      rw [stWrt_eq] at hwr
      have hpw := stPut_write hin hcb ha
      rw [E16.out] at hpw
      rw [hpw] at HGP
      have hat := stAs_write (fs := fs) (rec := rec) (c := cb) j
      rw [E16.out, ha] at hat
      have HA := Lib.hid (acs_snoc hat)
      have HS := Lib.hid (gl_write (fs := fs) (rec := rec) (k := k) (by omega))
      have HM1 : Hid (stMem fs ws (k + 1 - 16) = flWrite (stMem fs ws j) a.c a.s (-1)) := Lib.hid (by rw [show k + 1 - 16 = j + 1 by have := E16.out; omega]; exact stMem_succ (by rw [HWS.out]; exact ha))
      have HMW : Hid (stMem fs (stWs fs rec cb) j = stMem fs ws j) := Lib.hid (by rw [HWS.out])
      have HLW := fun (cv : Int) (W : World) h => Lib.hid (lwrite_own Ak nk ck (stMem fs ws j) a.c a.s cv W h hmlen)
      unfold GivesLO flv at HLW
      have HRW : (k : Int) = cut → Hid (stRun fs rec cb cut bytes = ⟨flWrite (stMem fs (stWs fs rec cb) j) a.c a.s (max 0 bytes), noO, false, (stAs fs rec cb).take (k + 1)⟩) := fun h => Lib.hid (by have h2 := stRun_write (fs := fs) (rec := rec) (c := cb) (cut := cut) (j := j) (by rw [E16.out]; exact h.symm) ha bytes; rw [E16.out] at h2; exact h2)
      clear hpw hat
      obtain ⟨C, X, rfl⟩ : ∃ C X, a = ⟨4, 0, C, X⟩ := ⟨_, _, hwr⟩
      clear hwr ha
      simp only at HLW HM1 HRW
      obtain ⟨m, hm⟩ : ∃ m, m = stMem fs ws j := ⟨_, rfl⟩
      rw [← hm] at HLW
      rw [← hm] at HM1
      rw [← hm] at fl
      rw [← hm] at HMW
      clear hm
      by_cases hit : (k : Int) = cut
      · by_cases hbs : 0 < bytes
        · have he : ((k : Int) == cut) = true := beq_iff_eq.2 hit
          have HE := HRW hit
          rw [HMW.out] at HE
          generalize stRun fs rec cb cut bytes = R at *
          rw [show max 0 bytes = bytes by omega] at HE
          have HLC := HLW bytes
          clear hit
          clear HLW HRW
          go_wp2_with fail
          refine (HGP.out).mono ?_
          rintro e w51 ⟨rfl, h51⟩
          have B51 := hB.trans (h51.mono hB.size)
          have r2_51 := r2.on h51
          have r3_51 := r3.on h51
          have z4_51 := z4.on h51
          have z5_51 := z5.on h51
          have owl_51 := own_below owl h51
          have owa_51 := own_below owa h51
          have fl_51 := fl.on h51
          have cr30 := r3_51.cell (j := 0) rfl
          have cr31 := r3_51.cell (j := 1) rfl
          have cr32 := r3_51.cell (j := 2) rfl
          have cr33 := r3_51.cell (j := 3) rfl
          have sz51 := h51.size
          go_wp2_with (first
            | (with_reducible refine wpList_alloc_row (o := ⟨some 11, _, _, _, _, _⟩) rfl _ rfl zeroA zero_ac ?_; intro w52 r52 s52 g52)
            | (with_reducible refine wpList_alloc_row (o := ⟨some 12, _, _, _, _, _⟩) rfl _ rfl zeroO zero_so ?_; intro w53 r53 s53 g53; have q53 := r52.kept g53 (by simp); have k53 := below_kept (grown_below g52 (Nat.le_refl _) (by simp)) g53 (Nat.le_of_lt s52) (by simp))
            | ((with_reducible refine wpList_at ⟨none, .store _ (.tmp 11) _, _, _, _, _⟩ ?_); refine wpList_store_all rfl _ _ _ rfl w51.heap.size rfl _ _ q53 ((⟨4, 0, C, X⟩ : StA).cs) rfl ((⟨4, 0, C, X⟩ : StA).cs_one) rfl (by kernel_rfl) ?_; intro w54 t54 g54; have q54 := r53.kept g54 (by simp; omega); have k54 := below_kept k53 g54 k53.size (by rintro q hq; cases hq; exact Nat.le_refl _))
            | ((with_reducible refine wpList_at ⟨none, .store _ (.tmp 12) _, _, _, _, _⟩ ?_); refine wpList_store_all rfl _ _ _ rfl w52.heap.size rfl _ _ q54 (noO.cs) rfl (noO.cs_one) rfl (by kernel_rfl) ?_; intro w55 o12_55 g55; have k55 : Below w51.heap.size w51 w55 := below_kept k54 g55 k54.size (by rintro q hq; cases hq; exact Nat.le_of_lt s52); have a11_55 := t54.kept g55 (by simp; omega); have B55 := B51.trans (k55.mono B51.size); have r2_55 := r2_51.on k55; have r3_55 := r3_51.on k55; have z4_55 := z4_51.on k55; have z5_55 := z5_51.on k55; have owl_55 := own_below owl_51 k55; have owa_55 := own_below owa_51 k55; have fl_55 := fl_51.on k55; clear r2_51 r3_51 z4_51 z5_51 owl_51 owa_51 fl_51; have cr30 := r3_55.cell (j := 0) rfl; have cr31 := r3_55.cell (j := 1) rfl; have cr32 := r3_55.cell (j := 2) rfl; have cr33 := r3_55.cell (j := 3) rfl; have s55 := a11_55.lt; have v55 := o12_55.lt; clear r52 r53 q53 q54 t54 g52 g53 g54 g55 k53 k54; have ca110 := a11_55.cell (j := 0) rfl; have ca111 := a11_55.cell (j := 1) rfl; have ca112 := a11_55.cell (j := 2) rfl; have ca113 := a11_55.cell (j := 3) rfl)
            | ((with_reducible refine wpList_at ⟨some 35, _, _, _, _, _⟩ ?_); refine wpList_valueG rfl _ (by exact exec_loadA _ _ rfl (w51.heap.size) rfl (⟨4, 0, C, X⟩ : StA) a11_55) ?_)
            | (refine wpList_valueW (o := ⟨some 36, _, _, _, _, _⟩) rfl _ (by exact exec_slice1 _ 34 40 _ rfl Tryd.underlying34 i1 _ hi1 hy0 (⟨4, 0, C, X⟩ : StA).cs (by rw [hy1]; rfl) (by show 0 < 4; decide) (by show 4 ≤ 1000; decide) rfl) ?_)
            | (at_builtin; have bx56 : Below w55.heap.size w55 (w55.alloc (.cells ((⟨4, 0, C, X⟩ : StA).cs).toArray 40)) := (Below.refl _ _).alloc (Nat.le_refl _) _; have r2x56 := r2_55.on bx56; have r3x56 := r3_55.on bx56; have z4x56 := z4_55.on bx56; have z5x56 := z5_55.on bx56; have owlx56 := own_below owl_55 bx56; have owax56 := own_below owa_55 bx56; have flx56 := fl_55.on bx56; have a11x56 := a11_55.on bx56; have o12x56 := o12_55.on bx56; refine wpList_append_at9 rfl (.tmp 34) (.tmp 36) _ _ rfl w.heap.size 40 i1 _ 4 40 Tryd.underlying34 hi1 hy0 hy1 hy2 rfl _ _ _ rfl owax56 1 ((⟨4, 0, C, X⟩ : StA).cs) (boxRow9 Tryd.underlying34 _ _ _ 4 rfl ((⟨4, 0, C, X⟩ : StA).cs_one) _) (by unfold maxLen; omega) (by omega) (by have := r2x56.lt; omega) ?_; intro v56 w56 owa_56 g56 ob56; have r2_56 := r2x56.kept g56 (r2x56.not_row7 (by decide) owax56); have r3_56 := r3x56.kept g56 (r3x56.not_row7 (by decide) owax56); have z4_56 := z4x56.kept g56 (z4x56.not_row7 (by decide) owax56); have z5_56 := z5x56.kept g56 (z5x56.not_row7 (by decide) owax56); have owl_56 := owlx56.kept g56 (own_ne owlx56 owax56 (by decide)); have fl_56 := flx56.kept g56 (FlS.ownrow owax56 (by decide) (Nat.le_refl _)); have a11_56 := a11x56.kept g56 (fun e => by have := (owa.lt _ e.symm).2; omega); have o12_56 := o12x56.kept g56 (o12x56.not_row7 (by decide) owax56); have B56 := below_kept (B55.trans (bx56.mono B55.size)) g56 (Nat.le_trans B55.size bx56.size) (by intro q hq; exact (owax56.lt q hq).1); have sz56 : w55.heap.size ≤ w56.heap.size := Nat.le_trans bx56.size g56.size; clear r2x56 r3x56 z4x56 z5x56 owlx56 flx56 a11x56 o12x56; have ca110 := a11_56.cell (j := 0) rfl; have ca111 := a11_56.cell (j := 1) rfl; have ca112 := a11_56.cell (j := 2) rfl; have ca113 := a11_56.cell (j := 3) rfl; have cr30 := r3_56.cell (j := 0) rfl; have cr31 := r3_56.cell (j := 1) rfl; have cr32 := r3_56.cell (j := 2) rfl; have cr33 := r3_56.cell (j := 3) rfl)
            | ((with_reducible refine wpList_at ⟨some 66, _, _, _, _, _⟩ ?_); refine wpList_valueG rfl _ (by exact exec_loadFl _ _ rfl (w.heap.size) rfl Ak nk ck r2_56) ?_))
          refine ((HLC _ fl_56.1).out).mono ?_
          rintro e w57 ⟨An, nn, cn, rfl, on, hsn, h57⟩
          have B57 := B56.trans (h57.mono B56.size)
          have r2_57 := r2_56.on h57
          have r3_57 := r3_56.on h57
          have z4_57 := z4_56.on h57
          have z5_57 := z5_56.on h57
          have owl_57 := own_below owl_56 h57
          have owa_57 := own_below owa_56 h57
          have fl_57 := fl_56.on h57
          have a11_57 := a11_56.on h57
          have o12_57 := o12_56.on h57
          clear r2_56 r3_56 z4_56 z5_56 owl_56 owa_56 fl_56 a11_56 o12_56
          have cr30 := r3_57.cell (j := 0) rfl
          have cr31 := r3_57.cell (j := 1) rfl
          have cr32 := r3_57.cell (j := 2) rfl
          have cr33 := r3_57.cell (j := 3) rfl
          have ca110 := a11_57.cell (j := 0) rfl
          have ca111 := a11_57.cell (j := 1) rfl
          have ca112 := a11_57.cell (j := 2) rfl
          have ca113 := a11_57.cell (j := 3) rfl
          have sz57 := h57.size
          go_wp2_with (first
            | ((with_reducible refine wpList_at ⟨none, .store _ (.tmp 2) _, _, _, _, _⟩ ?_); refine wpList_store_all rfl _ _ _ rfl (w.heap.size) rfl _ _ r2_57 ([.slice An nn cn]) rfl (slice_one _ _ _) rfl (by kernel_rfl) ?_; intro w58 r2_58 g58; have r3_58 := r3_57.kept g58 (by simp; omega); have z4_58 := z4_57.kept g58 (by simp; omega); have z5_58 := z5_57.kept g58 (by simp; omega); have owl_58 := owl_57.kept g58 (.inr (r2_57.not_row7 (by decide) owl_57).symm); have owa_58 := owa_57.kept g58 (.inr (r2_57.not_row7 (by decide) owa_57).symm); have a11_58 := a11_57.kept g58 (by simp; omega); have o12_58 := o12_57.kept g58 (by simp; omega); have on_58 := on.kept g58 (.inr (r2_57.not_row7 (by decide) on).symm); have B58 := below_kept B57 g58 B57.size (by rintro q hq; cases hq; omega); have sz58 := g58.size; clear r3_57 z4_57 z5_57 owl_57 owa_57 a11_57 o12_57; have ca110 := a11_58.cell (j := 0) rfl; have ca111 := a11_58.cell (j := 1) rfl; have ca112 := a11_58.cell (j := 2) rfl; have ca113 := a11_58.cell (j := 3) rfl; have cr30 := r3_58.cell (j := 0) rfl; have cr31 := r3_58.cell (j := 1) rfl; have cr32 := r3_58.cell (j := 2) rfl; have cr33 := r3_58.cell (j := 3) rfl)
            | (refine wpList_valueW (o := ⟨some 77, _, _, _, _, _⟩) rfl _ (by exact exec_slice1 _ 51 55 _ rfl Tryd.underlying51 i0 _ hi0 hz0 (⟨0, em⟩ : StR).cs (by rw [hz1]; rfl) (by show 0 < 2; decide) (by show 2 ≤ 1000; decide) rfl) ?_)
            | (at_builtin; have bx59 : Below w58.heap.size w58 (w58.alloc (.cells ((⟨0, em⟩ : StR).cs).toArray 55)) := (Below.refl _ _).alloc (Nat.le_refl _) _; have r2x59 := r2_58.on bx59; have r3x59 := r3_58.on bx59; have z4x59 := z4_58.on bx59; have z5x59 := z5_58.on bx59; have owlx59 := own_below owl_58 bx59; have owax59 := own_below owa_58 bx59; have a11x59 := a11_58.on bx59; have o12x59 := o12_58.on bx59; have onx59 := own_below on_58 bx59; refine wpList_append_at9 rfl (.tmp 75) (.tmp 77) _ _ rfl w.heap.size 55 i0 _ 2 24 Tryd.underlying51 hi0 hz0 hz1 hz2 rfl _ _ _ rfl owlx59 1 ((⟨0, em⟩ : StR).cs) (boxRow9 Tryd.underlying51 _ _ _ 2 rfl (StR.cs_one _) _) (by unfold maxLen; omega) (by omega) (by have := r2x59.lt; omega) ?_; intro v59 w59 owl_59 g59 ob59; have r2_59 := r2x59.kept g59 (r2x59.not_row7 (by decide) owlx59); have r3_59 := r3x59.kept g59 (r3x59.not_row7 (by decide) owlx59); have z4_59 := z4x59.kept g59 (z4x59.not_row7 (by decide) owlx59); have z5_59 := z5x59.kept g59 (z5x59.not_row7 (by decide) owlx59); have owa_59 := owax59.kept g59 (own_ne owax59 owlx59 (by decide)); have a11_59 := a11x59.kept g59 (a11x59.not_row7 (by decide) owlx59); have o12_59 := o12x59.kept g59 (o12x59.not_row7 (by decide) owlx59); have on_59 := onx59.kept g59 (own_ne onx59 owlx59 (by decide)); have B59 := below_kept (B58.trans (bx59.mono B58.size)) g59 (Nat.le_trans B58.size bx59.size) (by intro q hq; exact (owlx59.lt q hq).1); have sz59 : w58.heap.size ≤ w59.heap.size := Nat.le_trans bx59.size g59.size; clear r2x59 r3x59 z4x59 z5x59 owax59 a11x59 o12x59 onx59; have ca110 := a11_59.cell (j := 0) rfl; have ca111 := a11_59.cell (j := 1) rfl; have ca112 := a11_59.cell (j := 2) rfl; have ca113 := a11_59.cell (j := 3) rfl; have cr30 := r3_59.cell (j := 0) rfl; have cr31 := r3_59.cell (j := 1) rfl; have cr32 := r3_59.cell (j := 2) rfl; have cr33 := r3_59.cell (j := 3) rfl))
          have fln : FlS w.heap.size w59 An nn cn (flWrite m C X (bytes)) := FlS.of_own on_59 hsn
          try simp only [Act.put, List.setIfInBounds_toArray, List.set_cons_zero, List.set_cons_succ]
          have bq0 : Below w.heap.size w w59.drew := B59.drew
          have r2q := r2_59.drew
          have z4q := z4_59.drew
          have z5q := z5_59.drew
          have o12q := o12_59.drew
          have flq : FlS w.heap.size w59.drew An nn cn (flWrite m C X (bytes)) := fln
          have owaq : w59.drew.ownsRow w.heap.size 40 4 _ _ _ := owa_59
          refine wp_region_plan (fun w' => Row w' (w.heap.size) 28 [.slice An nn cn] ∧ Row w' (w52.heap.size) 33 (noO).cs) (.take 0 <| .take 1 <| .take 2 <| .one 3 <| .one 4 <| .take 5 <| .take 6 <| .done) (by kernel_rfl) (by kernel_rfl) (by kernel_rfl) (fun _ _ _ _ _ h => h) ⟨r2q, o12q⟩ ?_
          repeat (refine plan_take _ rfl ?_; (first | ((with_reducible refine wpQuiet_at ⟨some 83, _, _, _, _, _⟩ ?_); refine wpQuiet_valueG rfl _ (by intro _ hS; exact exec_loadFl _ _ rfl (w.heap.size) rfl An nn cn hS.1) (wpQuiet_nil ?_); simp only [Act.put, List.setIfInBounds_toArray, List.set_cons_zero, List.set_cons_succ]) | ((with_reducible refine wpQuiet_at ⟨some 84, _, _, _, _, _⟩ ?_); refine wpQuiet_valueG rfl _ (by intro _ hS; exact exec_loadO _ _ rfl (w52.heap.size) rfl (noO) hS.2) (wpQuiet_nil ?_); simp only [Act.put, List.setIfInBounds_toArray, List.set_cons_zero, List.set_cons_succ]) | (go_big_quiet_step ((intros; rfl)); refine wpQuiet_nil ?_)))
          refine plan_one _ rfl fun K hK => ?_
          refine step_store_all rfl _ _ _ rfl (w2.heap.size) rfl _ _ z4q ([.slice An nn cn]) rfl (slice_one _ _ _) rfl (by kernel_rfl) ?_
          intro wu3 z4u3 gu3
          have bu3 := below_kept bq0 gu3 bq0.size (by rintro q hq; cases hq; omega)
          have r2u3 := r2q.kept gu3 (by simp; omega)
          have z5u3 := z5q.kept gu3 (by simp; omega)
          have o12u3 := o12q.kept gu3 (by simp; omega)
          have flu3 := flq.kept gu3 (fun q hq => by cases hq; exact ⟨by omega, _, _, _, z4q, by decide⟩)
          have owau3 := owaq.kept gu3 (.inr (z4q.not_row7 (by decide) owaq).symm)
          refine hK _ _ ⟨r2u3, o12u3⟩ ?_
          clear hK K
          simp only [Act.put, List.setIfInBounds_toArray, List.set_cons_zero, List.set_cons_succ]
          refine plan_one _ rfl fun K hK => ?_
          refine step_store_all rfl _ _ _ rfl (w3.heap.size) rfl _ _ z5u3 (noO.cs) rfl (noO.cs_one) rfl (by kernel_rfl) ?_
          intro wu4 z5u4 gu4
          have bu4 := below_kept bu3 gu4 bu3.size (by rintro q hq; cases hq; omega)
          have r2u4 := r2u3.kept gu4 (by simp; omega)
          have z4u4 := z4u3.kept gu4 (by simp; omega)
          have o12u4 := o12u3.kept gu4 (by simp; omega)
          have flu4 := flu3.kept gu4 (fun q hq => by cases hq; exact ⟨by omega, _, _, _, z5u3, by decide⟩)
          have owau4 := owau3.kept gu4 (.inr (z5u3.not_row7 (by decide) owau3).symm)
          refine hK _ _ ⟨r2u4, o12u4⟩ ?_
          clear hK K
          simp only [Act.put, List.setIfInBounds_toArray, List.set_cons_zero, List.set_cons_succ]
          repeat (refine plan_take _ rfl ?_; (first | ((with_reducible refine wpQuiet_at ⟨some 83, _, _, _, _, _⟩ ?_); refine wpQuiet_valueG rfl _ (by intro _ hS; exact exec_loadFl _ _ rfl (w.heap.size) rfl An nn cn hS.1) (wpQuiet_nil ?_); simp only [Act.put, List.setIfInBounds_toArray, List.set_cons_zero, List.set_cons_succ]) | ((with_reducible refine wpQuiet_at ⟨some 84, _, _, _, _, _⟩ ?_); refine wpQuiet_valueG rfl _ (by intro _ hS; exact exec_loadO _ _ rfl (w52.heap.size) rfl (noO) hS.2) (wpQuiet_nil ?_); simp only [Act.put, List.setIfInBounds_toArray, List.set_cons_zero, List.set_cons_succ]) | (go_big_quiet_step ((intros; rfl)); refine wpQuiet_nil ?_)))
          refine plan_done ?_
          go_wp2_with fail
          refine bodyPost_ret (results_cells4 Tryd.results18 _ _ _ _ _ _ rfl rfl (load_fl z4u4) (load_so z5u4)) rfl ?_
          obtain ⟨Az, cz, ez, hcz, _, dz⟩ := own_form owau4
          cases ez
          exact ⟨An, nn, cn, _, _, _, by rw [HE.out]; rfl, by rw [HE.out]; exact flu4.1, by rw [HE.out]; rw [← HA.out] at dz; exact dz, hcz, by rw [HE.out, List.length_take, stAs_len, ← HWS.out, ← HM.out]; omega, bu4⟩
        · have he : ((k : Int) == cut) = true := beq_iff_eq.2 hit
          have HE := HRW hit
          rw [HMW.out] at HE
          generalize stRun fs rec cb cut bytes = R at *
          rw [show max 0 bytes = 0 by omega] at HE
          have HLC := HLW 0
          clear hit
          clear HLW HRW
          go_wp2_with fail
          refine (HGP.out).mono ?_
          rintro e w51 ⟨rfl, h51⟩
          have B51 := hB.trans (h51.mono hB.size)
          have r2_51 := r2.on h51
          have r3_51 := r3.on h51
          have z4_51 := z4.on h51
          have z5_51 := z5.on h51
          have owl_51 := own_below owl h51
          have owa_51 := own_below owa h51
          have fl_51 := fl.on h51
          have cr30 := r3_51.cell (j := 0) rfl
          have cr31 := r3_51.cell (j := 1) rfl
          have cr32 := r3_51.cell (j := 2) rfl
          have cr33 := r3_51.cell (j := 3) rfl
          have sz51 := h51.size
          go_wp2_with (first
            | (with_reducible refine wpList_alloc_row (o := ⟨some 11, _, _, _, _, _⟩) rfl _ rfl zeroA zero_ac ?_; intro w52 r52 s52 g52)
            | (with_reducible refine wpList_alloc_row (o := ⟨some 12, _, _, _, _, _⟩) rfl _ rfl zeroO zero_so ?_; intro w53 r53 s53 g53; have q53 := r52.kept g53 (by simp); have k53 := below_kept (grown_below g52 (Nat.le_refl _) (by simp)) g53 (Nat.le_of_lt s52) (by simp))
            | ((with_reducible refine wpList_at ⟨none, .store _ (.tmp 11) _, _, _, _, _⟩ ?_); refine wpList_store_all rfl _ _ _ rfl w51.heap.size rfl _ _ q53 ((⟨4, 0, C, X⟩ : StA).cs) rfl ((⟨4, 0, C, X⟩ : StA).cs_one) rfl (by kernel_rfl) ?_; intro w54 t54 g54; have q54 := r53.kept g54 (by simp; omega); have k54 := below_kept k53 g54 k53.size (by rintro q hq; cases hq; exact Nat.le_refl _))
            | ((with_reducible refine wpList_at ⟨none, .store _ (.tmp 12) _, _, _, _, _⟩ ?_); refine wpList_store_all rfl _ _ _ rfl w52.heap.size rfl _ _ q54 (noO.cs) rfl (noO.cs_one) rfl (by kernel_rfl) ?_; intro w55 o12_55 g55; have k55 : Below w51.heap.size w51 w55 := below_kept k54 g55 k54.size (by rintro q hq; cases hq; exact Nat.le_of_lt s52); have a11_55 := t54.kept g55 (by simp; omega); have B55 := B51.trans (k55.mono B51.size); have r2_55 := r2_51.on k55; have r3_55 := r3_51.on k55; have z4_55 := z4_51.on k55; have z5_55 := z5_51.on k55; have owl_55 := own_below owl_51 k55; have owa_55 := own_below owa_51 k55; have fl_55 := fl_51.on k55; clear r2_51 r3_51 z4_51 z5_51 owl_51 owa_51 fl_51; have cr30 := r3_55.cell (j := 0) rfl; have cr31 := r3_55.cell (j := 1) rfl; have cr32 := r3_55.cell (j := 2) rfl; have cr33 := r3_55.cell (j := 3) rfl; have s55 := a11_55.lt; have v55 := o12_55.lt; clear r52 r53 q53 q54 t54 g52 g53 g54 g55 k53 k54; have ca110 := a11_55.cell (j := 0) rfl; have ca111 := a11_55.cell (j := 1) rfl; have ca112 := a11_55.cell (j := 2) rfl; have ca113 := a11_55.cell (j := 3) rfl)
            | ((with_reducible refine wpList_at ⟨some 35, _, _, _, _, _⟩ ?_); refine wpList_valueG rfl _ (by exact exec_loadA _ _ rfl (w51.heap.size) rfl (⟨4, 0, C, X⟩ : StA) a11_55) ?_)
            | (refine wpList_valueW (o := ⟨some 36, _, _, _, _, _⟩) rfl _ (by exact exec_slice1 _ 34 40 _ rfl Tryd.underlying34 i1 _ hi1 hy0 (⟨4, 0, C, X⟩ : StA).cs (by rw [hy1]; rfl) (by show 0 < 4; decide) (by show 4 ≤ 1000; decide) rfl) ?_)
            | (at_builtin; have bx56 : Below w55.heap.size w55 (w55.alloc (.cells ((⟨4, 0, C, X⟩ : StA).cs).toArray 40)) := (Below.refl _ _).alloc (Nat.le_refl _) _; have r2x56 := r2_55.on bx56; have r3x56 := r3_55.on bx56; have z4x56 := z4_55.on bx56; have z5x56 := z5_55.on bx56; have owlx56 := own_below owl_55 bx56; have owax56 := own_below owa_55 bx56; have flx56 := fl_55.on bx56; have a11x56 := a11_55.on bx56; have o12x56 := o12_55.on bx56; refine wpList_append_at9 rfl (.tmp 34) (.tmp 36) _ _ rfl w.heap.size 40 i1 _ 4 40 Tryd.underlying34 hi1 hy0 hy1 hy2 rfl _ _ _ rfl owax56 1 ((⟨4, 0, C, X⟩ : StA).cs) (boxRow9 Tryd.underlying34 _ _ _ 4 rfl ((⟨4, 0, C, X⟩ : StA).cs_one) _) (by unfold maxLen; omega) (by omega) (by have := r2x56.lt; omega) ?_; intro v56 w56 owa_56 g56 ob56; have r2_56 := r2x56.kept g56 (r2x56.not_row7 (by decide) owax56); have r3_56 := r3x56.kept g56 (r3x56.not_row7 (by decide) owax56); have z4_56 := z4x56.kept g56 (z4x56.not_row7 (by decide) owax56); have z5_56 := z5x56.kept g56 (z5x56.not_row7 (by decide) owax56); have owl_56 := owlx56.kept g56 (own_ne owlx56 owax56 (by decide)); have fl_56 := flx56.kept g56 (FlS.ownrow owax56 (by decide) (Nat.le_refl _)); have a11_56 := a11x56.kept g56 (fun e => by have := (owa.lt _ e.symm).2; omega); have o12_56 := o12x56.kept g56 (o12x56.not_row7 (by decide) owax56); have B56 := below_kept (B55.trans (bx56.mono B55.size)) g56 (Nat.le_trans B55.size bx56.size) (by intro q hq; exact (owax56.lt q hq).1); have sz56 : w55.heap.size ≤ w56.heap.size := Nat.le_trans bx56.size g56.size; clear r2x56 r3x56 z4x56 z5x56 owlx56 flx56 a11x56 o12x56; have ca110 := a11_56.cell (j := 0) rfl; have ca111 := a11_56.cell (j := 1) rfl; have ca112 := a11_56.cell (j := 2) rfl; have ca113 := a11_56.cell (j := 3) rfl; have cr30 := r3_56.cell (j := 0) rfl; have cr31 := r3_56.cell (j := 1) rfl; have cr32 := r3_56.cell (j := 2) rfl; have cr33 := r3_56.cell (j := 3) rfl)
            | ((with_reducible refine wpList_at ⟨some 66, _, _, _, _, _⟩ ?_); refine wpList_valueG rfl _ (by exact exec_loadFl _ _ rfl (w.heap.size) rfl Ak nk ck r2_56) ?_))
          refine ((HLC _ fl_56.1).out).mono ?_
          rintro e w57 ⟨An, nn, cn, rfl, on, hsn, h57⟩
          have B57 := B56.trans (h57.mono B56.size)
          have r2_57 := r2_56.on h57
          have r3_57 := r3_56.on h57
          have z4_57 := z4_56.on h57
          have z5_57 := z5_56.on h57
          have owl_57 := own_below owl_56 h57
          have owa_57 := own_below owa_56 h57
          have fl_57 := fl_56.on h57
          have a11_57 := a11_56.on h57
          have o12_57 := o12_56.on h57
          clear r2_56 r3_56 z4_56 z5_56 owl_56 owa_56 fl_56 a11_56 o12_56
          have cr30 := r3_57.cell (j := 0) rfl
          have cr31 := r3_57.cell (j := 1) rfl
          have cr32 := r3_57.cell (j := 2) rfl
          have cr33 := r3_57.cell (j := 3) rfl
          have ca110 := a11_57.cell (j := 0) rfl
          have ca111 := a11_57.cell (j := 1) rfl
          have ca112 := a11_57.cell (j := 2) rfl
          have ca113 := a11_57.cell (j := 3) rfl
          have sz57 := h57.size
          go_wp2_with (first
            | ((with_reducible refine wpList_at ⟨none, .store _ (.tmp 2) _, _, _, _, _⟩ ?_); refine wpList_store_all rfl _ _ _ rfl (w.heap.size) rfl _ _ r2_57 ([.slice An nn cn]) rfl (slice_one _ _ _) rfl (by kernel_rfl) ?_; intro w58 r2_58 g58; have r3_58 := r3_57.kept g58 (by simp; omega); have z4_58 := z4_57.kept g58 (by simp; omega); have z5_58 := z5_57.kept g58 (by simp; omega); have owl_58 := owl_57.kept g58 (.inr (r2_57.not_row7 (by decide) owl_57).symm); have owa_58 := owa_57.kept g58 (.inr (r2_57.not_row7 (by decide) owa_57).symm); have a11_58 := a11_57.kept g58 (by simp; omega); have o12_58 := o12_57.kept g58 (by simp; omega); have on_58 := on.kept g58 (.inr (r2_57.not_row7 (by decide) on).symm); have B58 := below_kept B57 g58 B57.size (by rintro q hq; cases hq; omega); have sz58 := g58.size; clear r3_57 z4_57 z5_57 owl_57 owa_57 a11_57 o12_57; have ca110 := a11_58.cell (j := 0) rfl; have ca111 := a11_58.cell (j := 1) rfl; have ca112 := a11_58.cell (j := 2) rfl; have ca113 := a11_58.cell (j := 3) rfl; have cr30 := r3_58.cell (j := 0) rfl; have cr31 := r3_58.cell (j := 1) rfl; have cr32 := r3_58.cell (j := 2) rfl; have cr33 := r3_58.cell (j := 3) rfl)
            | (refine wpList_valueW (o := ⟨some 77, _, _, _, _, _⟩) rfl _ (by exact exec_slice1 _ 51 55 _ rfl Tryd.underlying51 i0 _ hi0 hz0 (⟨0, em⟩ : StR).cs (by rw [hz1]; rfl) (by show 0 < 2; decide) (by show 2 ≤ 1000; decide) rfl) ?_)
            | (at_builtin; have bx59 : Below w58.heap.size w58 (w58.alloc (.cells ((⟨0, em⟩ : StR).cs).toArray 55)) := (Below.refl _ _).alloc (Nat.le_refl _) _; have r2x59 := r2_58.on bx59; have r3x59 := r3_58.on bx59; have z4x59 := z4_58.on bx59; have z5x59 := z5_58.on bx59; have owlx59 := own_below owl_58 bx59; have owax59 := own_below owa_58 bx59; have a11x59 := a11_58.on bx59; have o12x59 := o12_58.on bx59; have onx59 := own_below on_58 bx59; refine wpList_append_at9 rfl (.tmp 75) (.tmp 77) _ _ rfl w.heap.size 55 i0 _ 2 24 Tryd.underlying51 hi0 hz0 hz1 hz2 rfl _ _ _ rfl owlx59 1 ((⟨0, em⟩ : StR).cs) (boxRow9 Tryd.underlying51 _ _ _ 2 rfl (StR.cs_one _) _) (by unfold maxLen; omega) (by omega) (by have := r2x59.lt; omega) ?_; intro v59 w59 owl_59 g59 ob59; have r2_59 := r2x59.kept g59 (r2x59.not_row7 (by decide) owlx59); have r3_59 := r3x59.kept g59 (r3x59.not_row7 (by decide) owlx59); have z4_59 := z4x59.kept g59 (z4x59.not_row7 (by decide) owlx59); have z5_59 := z5x59.kept g59 (z5x59.not_row7 (by decide) owlx59); have owa_59 := owax59.kept g59 (own_ne owax59 owlx59 (by decide)); have a11_59 := a11x59.kept g59 (a11x59.not_row7 (by decide) owlx59); have o12_59 := o12x59.kept g59 (o12x59.not_row7 (by decide) owlx59); have on_59 := onx59.kept g59 (own_ne onx59 owlx59 (by decide)); have B59 := below_kept (B58.trans (bx59.mono B58.size)) g59 (Nat.le_trans B58.size bx59.size) (by intro q hq; exact (owlx59.lt q hq).1); have sz59 : w58.heap.size ≤ w59.heap.size := Nat.le_trans bx59.size g59.size; clear r2x59 r3x59 z4x59 z5x59 owax59 a11x59 o12x59 onx59; have ca110 := a11_59.cell (j := 0) rfl; have ca111 := a11_59.cell (j := 1) rfl; have ca112 := a11_59.cell (j := 2) rfl; have ca113 := a11_59.cell (j := 3) rfl; have cr30 := r3_59.cell (j := 0) rfl; have cr31 := r3_59.cell (j := 1) rfl; have cr32 := r3_59.cell (j := 2) rfl; have cr33 := r3_59.cell (j := 3) rfl))
          have fln : FlS w.heap.size w59 An nn cn (flWrite m C X (0)) := FlS.of_own on_59 hsn
          try simp only [Act.put, List.setIfInBounds_toArray, List.set_cons_zero, List.set_cons_succ]
          have bq0 : Below w.heap.size w w59.drew := B59.drew
          have r2q := r2_59.drew
          have z4q := z4_59.drew
          have z5q := z5_59.drew
          have o12q := o12_59.drew
          have flq : FlS w.heap.size w59.drew An nn cn (flWrite m C X (0)) := fln
          have owaq : w59.drew.ownsRow w.heap.size 40 4 _ _ _ := owa_59
          refine wp_region_plan (fun w' => Row w' (w.heap.size) 28 [.slice An nn cn] ∧ Row w' (w52.heap.size) 33 (noO).cs) (.take 0 <| .take 1 <| .take 2 <| .one 3 <| .one 4 <| .take 5 <| .take 6 <| .done) (by kernel_rfl) (by kernel_rfl) (by kernel_rfl) (fun _ _ _ _ _ h => h) ⟨r2q, o12q⟩ ?_
          repeat (refine plan_take _ rfl ?_; (first | ((with_reducible refine wpQuiet_at ⟨some 83, _, _, _, _, _⟩ ?_); refine wpQuiet_valueG rfl _ (by intro _ hS; exact exec_loadFl _ _ rfl (w.heap.size) rfl An nn cn hS.1) (wpQuiet_nil ?_); simp only [Act.put, List.setIfInBounds_toArray, List.set_cons_zero, List.set_cons_succ]) | ((with_reducible refine wpQuiet_at ⟨some 84, _, _, _, _, _⟩ ?_); refine wpQuiet_valueG rfl _ (by intro _ hS; exact exec_loadO _ _ rfl (w52.heap.size) rfl (noO) hS.2) (wpQuiet_nil ?_); simp only [Act.put, List.setIfInBounds_toArray, List.set_cons_zero, List.set_cons_succ]) | (go_big_quiet_step ((intros; rfl)); refine wpQuiet_nil ?_)))
          refine plan_one _ rfl fun K hK => ?_
          refine step_store_all rfl _ _ _ rfl (w2.heap.size) rfl _ _ z4q ([.slice An nn cn]) rfl (slice_one _ _ _) rfl (by kernel_rfl) ?_
          intro wu5 z4u5 gu5
          have bu5 := below_kept bq0 gu5 bq0.size (by rintro q hq; cases hq; omega)
          have r2u5 := r2q.kept gu5 (by simp; omega)
          have z5u5 := z5q.kept gu5 (by simp; omega)
          have o12u5 := o12q.kept gu5 (by simp; omega)
          have flu5 := flq.kept gu5 (fun q hq => by cases hq; exact ⟨by omega, _, _, _, z4q, by decide⟩)
          have owau5 := owaq.kept gu5 (.inr (z4q.not_row7 (by decide) owaq).symm)
          refine hK _ _ ⟨r2u5, o12u5⟩ ?_
          clear hK K
          simp only [Act.put, List.setIfInBounds_toArray, List.set_cons_zero, List.set_cons_succ]
          refine plan_one _ rfl fun K hK => ?_
          refine step_store_all rfl _ _ _ rfl (w3.heap.size) rfl _ _ z5u5 (noO.cs) rfl (noO.cs_one) rfl (by kernel_rfl) ?_
          intro wu6 z5u6 gu6
          have bu6 := below_kept bu5 gu6 bu5.size (by rintro q hq; cases hq; omega)
          have r2u6 := r2u5.kept gu6 (by simp; omega)
          have z4u6 := z4u5.kept gu6 (by simp; omega)
          have o12u6 := o12u5.kept gu6 (by simp; omega)
          have flu6 := flu5.kept gu6 (fun q hq => by cases hq; exact ⟨by omega, _, _, _, z5u5, by decide⟩)
          have owau6 := owau5.kept gu6 (.inr (z5u5.not_row7 (by decide) owau5).symm)
          refine hK _ _ ⟨r2u6, o12u6⟩ ?_
          clear hK K
          simp only [Act.put, List.setIfInBounds_toArray, List.set_cons_zero, List.set_cons_succ]
          repeat (refine plan_take _ rfl ?_; (first | ((with_reducible refine wpQuiet_at ⟨some 83, _, _, _, _, _⟩ ?_); refine wpQuiet_valueG rfl _ (by intro _ hS; exact exec_loadFl _ _ rfl (w.heap.size) rfl An nn cn hS.1) (wpQuiet_nil ?_); simp only [Act.put, List.setIfInBounds_toArray, List.set_cons_zero, List.set_cons_succ]) | ((with_reducible refine wpQuiet_at ⟨some 84, _, _, _, _, _⟩ ?_); refine wpQuiet_valueG rfl _ (by intro _ hS; exact exec_loadO _ _ rfl (w52.heap.size) rfl (noO) hS.2) (wpQuiet_nil ?_); simp only [Act.put, List.setIfInBounds_toArray, List.set_cons_zero, List.set_cons_succ]) | (go_big_quiet_step ((intros; rfl)); refine wpQuiet_nil ?_)))
          refine plan_done ?_
          go_wp2_with fail
          refine bodyPost_ret (results_cells4 Tryd.results18 _ _ _ _ _ _ rfl rfl (load_fl z4u6) (load_so z5u6)) rfl ?_
          obtain ⟨Az, cz, ez, hcz, _, dz⟩ := own_form owau6
          cases ez
          exact ⟨An, nn, cn, _, _, _, by rw [HE.out]; rfl, by rw [HE.out]; exact flu6.1, by rw [HE.out]; rw [← HA.out] at dz; exact dz, hcz, by rw [HE.out, List.length_take, stAs_len, ← HWS.out, ← HM.out]; omega, bu6⟩
      · have he : ((k : Int) == cut) = false := beq_eq_false_iff_ne.2 hit
        have HC2 : Hid (cut < 0 ∨ ((k + 1 : Nat) : Int) ≤ cut) := Lib.hid (by have := HC.out; omega)
        have HLC := HLW (-1)
        clear hit
        clear HLW HRW
        go_wp2_with fail
        refine (HGP.out).mono ?_
        rintro e w51 ⟨rfl, h51⟩
        have B51 := hB.trans (h51.mono hB.size)
        have r2_51 := r2.on h51
        have r3_51 := r3.on h51
        have z4_51 := z4.on h51
        have z5_51 := z5.on h51
        have owl_51 := own_below owl h51
        have owa_51 := own_below owa h51
        have fl_51 := fl.on h51
        have cr30 := r3_51.cell (j := 0) rfl
        have cr31 := r3_51.cell (j := 1) rfl
        have cr32 := r3_51.cell (j := 2) rfl
        have cr33 := r3_51.cell (j := 3) rfl
        have sz51 := h51.size
        go_wp2_with (first
          | (with_reducible refine wpList_alloc_row (o := ⟨some 11, _, _, _, _, _⟩) rfl _ rfl zeroA zero_ac ?_; intro w52 r52 s52 g52)
          | (with_reducible refine wpList_alloc_row (o := ⟨some 12, _, _, _, _, _⟩) rfl _ rfl zeroO zero_so ?_; intro w53 r53 s53 g53; have q53 := r52.kept g53 (by simp); have k53 := below_kept (grown_below g52 (Nat.le_refl _) (by simp)) g53 (Nat.le_of_lt s52) (by simp))
          | ((with_reducible refine wpList_at ⟨none, .store _ (.tmp 11) _, _, _, _, _⟩ ?_); refine wpList_store_all rfl _ _ _ rfl w51.heap.size rfl _ _ q53 ((⟨4, 0, C, X⟩ : StA).cs) rfl ((⟨4, 0, C, X⟩ : StA).cs_one) rfl (by kernel_rfl) ?_; intro w54 t54 g54; have q54 := r53.kept g54 (by simp; omega); have k54 := below_kept k53 g54 k53.size (by rintro q hq; cases hq; exact Nat.le_refl _))
          | ((with_reducible refine wpList_at ⟨none, .store _ (.tmp 12) _, _, _, _, _⟩ ?_); refine wpList_store_all rfl _ _ _ rfl w52.heap.size rfl _ _ q54 (noO.cs) rfl (noO.cs_one) rfl (by kernel_rfl) ?_; intro w55 o12_55 g55; have k55 : Below w51.heap.size w51 w55 := below_kept k54 g55 k54.size (by rintro q hq; cases hq; exact Nat.le_of_lt s52); have a11_55 := t54.kept g55 (by simp; omega); have B55 := B51.trans (k55.mono B51.size); have r2_55 := r2_51.on k55; have r3_55 := r3_51.on k55; have z4_55 := z4_51.on k55; have z5_55 := z5_51.on k55; have owl_55 := own_below owl_51 k55; have owa_55 := own_below owa_51 k55; have fl_55 := fl_51.on k55; clear r2_51 r3_51 z4_51 z5_51 owl_51 owa_51 fl_51; have cr30 := r3_55.cell (j := 0) rfl; have cr31 := r3_55.cell (j := 1) rfl; have cr32 := r3_55.cell (j := 2) rfl; have cr33 := r3_55.cell (j := 3) rfl; have s55 := a11_55.lt; have v55 := o12_55.lt; clear r52 r53 q53 q54 t54 g52 g53 g54 g55 k53 k54; have ca110 := a11_55.cell (j := 0) rfl; have ca111 := a11_55.cell (j := 1) rfl; have ca112 := a11_55.cell (j := 2) rfl; have ca113 := a11_55.cell (j := 3) rfl)
          | ((with_reducible refine wpList_at ⟨some 35, _, _, _, _, _⟩ ?_); refine wpList_valueG rfl _ (by exact exec_loadA _ _ rfl (w51.heap.size) rfl (⟨4, 0, C, X⟩ : StA) a11_55) ?_)
          | (refine wpList_valueW (o := ⟨some 36, _, _, _, _, _⟩) rfl _ (by exact exec_slice1 _ 34 40 _ rfl Tryd.underlying34 i1 _ hi1 hy0 (⟨4, 0, C, X⟩ : StA).cs (by rw [hy1]; rfl) (by show 0 < 4; decide) (by show 4 ≤ 1000; decide) rfl) ?_)
          | (at_builtin; have bx56 : Below w55.heap.size w55 (w55.alloc (.cells ((⟨4, 0, C, X⟩ : StA).cs).toArray 40)) := (Below.refl _ _).alloc (Nat.le_refl _) _; have r2x56 := r2_55.on bx56; have r3x56 := r3_55.on bx56; have z4x56 := z4_55.on bx56; have z5x56 := z5_55.on bx56; have owlx56 := own_below owl_55 bx56; have owax56 := own_below owa_55 bx56; have flx56 := fl_55.on bx56; have a11x56 := a11_55.on bx56; have o12x56 := o12_55.on bx56; refine wpList_append_at9 rfl (.tmp 34) (.tmp 36) _ _ rfl w.heap.size 40 i1 _ 4 40 Tryd.underlying34 hi1 hy0 hy1 hy2 rfl _ _ _ rfl owax56 1 ((⟨4, 0, C, X⟩ : StA).cs) (boxRow9 Tryd.underlying34 _ _ _ 4 rfl ((⟨4, 0, C, X⟩ : StA).cs_one) _) (by unfold maxLen; omega) (by omega) (by have := r2x56.lt; omega) ?_; intro v56 w56 owa_56 g56 ob56; have r2_56 := r2x56.kept g56 (r2x56.not_row7 (by decide) owax56); have r3_56 := r3x56.kept g56 (r3x56.not_row7 (by decide) owax56); have z4_56 := z4x56.kept g56 (z4x56.not_row7 (by decide) owax56); have z5_56 := z5x56.kept g56 (z5x56.not_row7 (by decide) owax56); have owl_56 := owlx56.kept g56 (own_ne owlx56 owax56 (by decide)); have fl_56 := flx56.kept g56 (FlS.ownrow owax56 (by decide) (Nat.le_refl _)); have a11_56 := a11x56.kept g56 (fun e => by have := (owa.lt _ e.symm).2; omega); have o12_56 := o12x56.kept g56 (o12x56.not_row7 (by decide) owax56); have B56 := below_kept (B55.trans (bx56.mono B55.size)) g56 (Nat.le_trans B55.size bx56.size) (by intro q hq; exact (owax56.lt q hq).1); have sz56 : w55.heap.size ≤ w56.heap.size := Nat.le_trans bx56.size g56.size; clear r2x56 r3x56 z4x56 z5x56 owlx56 flx56 a11x56 o12x56; have ca110 := a11_56.cell (j := 0) rfl; have ca111 := a11_56.cell (j := 1) rfl; have ca112 := a11_56.cell (j := 2) rfl; have ca113 := a11_56.cell (j := 3) rfl; have cr30 := r3_56.cell (j := 0) rfl; have cr31 := r3_56.cell (j := 1) rfl; have cr32 := r3_56.cell (j := 2) rfl; have cr33 := r3_56.cell (j := 3) rfl)
          | ((with_reducible refine wpList_at ⟨some 66, _, _, _, _, _⟩ ?_); refine wpList_valueG rfl _ (by exact exec_loadFl _ _ rfl (w.heap.size) rfl Ak nk ck r2_56) ?_))
        refine ((HLC _ fl_56.1).out).mono ?_
        rintro e w57 ⟨An, nn, cn, rfl, on, hsn, h57⟩
        have B57 := B56.trans (h57.mono B56.size)
        have r2_57 := r2_56.on h57
        have r3_57 := r3_56.on h57
        have z4_57 := z4_56.on h57
        have z5_57 := z5_56.on h57
        have owl_57 := own_below owl_56 h57
        have owa_57 := own_below owa_56 h57
        have fl_57 := fl_56.on h57
        have a11_57 := a11_56.on h57
        have o12_57 := o12_56.on h57
        clear r2_56 r3_56 z4_56 z5_56 owl_56 owa_56 fl_56 a11_56 o12_56
        have cr30 := r3_57.cell (j := 0) rfl
        have cr31 := r3_57.cell (j := 1) rfl
        have cr32 := r3_57.cell (j := 2) rfl
        have cr33 := r3_57.cell (j := 3) rfl
        have ca110 := a11_57.cell (j := 0) rfl
        have ca111 := a11_57.cell (j := 1) rfl
        have ca112 := a11_57.cell (j := 2) rfl
        have ca113 := a11_57.cell (j := 3) rfl
        have sz57 := h57.size
        go_wp2_with (first
          | ((with_reducible refine wpList_at ⟨none, .store _ (.tmp 2) _, _, _, _, _⟩ ?_); refine wpList_store_all rfl _ _ _ rfl (w.heap.size) rfl _ _ r2_57 ([.slice An nn cn]) rfl (slice_one _ _ _) rfl (by kernel_rfl) ?_; intro w58 r2_58 g58; have r3_58 := r3_57.kept g58 (by simp; omega); have z4_58 := z4_57.kept g58 (by simp; omega); have z5_58 := z5_57.kept g58 (by simp; omega); have owl_58 := owl_57.kept g58 (.inr (r2_57.not_row7 (by decide) owl_57).symm); have owa_58 := owa_57.kept g58 (.inr (r2_57.not_row7 (by decide) owa_57).symm); have a11_58 := a11_57.kept g58 (by simp; omega); have o12_58 := o12_57.kept g58 (by simp; omega); have on_58 := on.kept g58 (.inr (r2_57.not_row7 (by decide) on).symm); have B58 := below_kept B57 g58 B57.size (by rintro q hq; cases hq; omega); have sz58 := g58.size; clear r3_57 z4_57 z5_57 owl_57 owa_57 a11_57 o12_57; have ca110 := a11_58.cell (j := 0) rfl; have ca111 := a11_58.cell (j := 1) rfl; have ca112 := a11_58.cell (j := 2) rfl; have ca113 := a11_58.cell (j := 3) rfl; have cr30 := r3_58.cell (j := 0) rfl; have cr31 := r3_58.cell (j := 1) rfl; have cr32 := r3_58.cell (j := 2) rfl; have cr33 := r3_58.cell (j := 3) rfl)
          | (refine wpList_valueW (o := ⟨some 77, _, _, _, _, _⟩) rfl _ (by exact exec_slice1 _ 51 55 _ rfl Tryd.underlying51 i0 _ hi0 hz0 (⟨0, em⟩ : StR).cs (by rw [hz1]; rfl) (by show 0 < 2; decide) (by show 2 ≤ 1000; decide) rfl) ?_)
          | (at_builtin; have bx59 : Below w58.heap.size w58 (w58.alloc (.cells ((⟨0, em⟩ : StR).cs).toArray 55)) := (Below.refl _ _).alloc (Nat.le_refl _) _; have r2x59 := r2_58.on bx59; have r3x59 := r3_58.on bx59; have z4x59 := z4_58.on bx59; have z5x59 := z5_58.on bx59; have owlx59 := own_below owl_58 bx59; have owax59 := own_below owa_58 bx59; have a11x59 := a11_58.on bx59; have o12x59 := o12_58.on bx59; have onx59 := own_below on_58 bx59; refine wpList_append_at9 rfl (.tmp 75) (.tmp 77) _ _ rfl w.heap.size 55 i0 _ 2 24 Tryd.underlying51 hi0 hz0 hz1 hz2 rfl _ _ _ rfl owlx59 1 ((⟨0, em⟩ : StR).cs) (boxRow9 Tryd.underlying51 _ _ _ 2 rfl (StR.cs_one _) _) (by unfold maxLen; omega) (by omega) (by have := r2x59.lt; omega) ?_; intro v59 w59 owl_59 g59 ob59; have r2_59 := r2x59.kept g59 (r2x59.not_row7 (by decide) owlx59); have r3_59 := r3x59.kept g59 (r3x59.not_row7 (by decide) owlx59); have z4_59 := z4x59.kept g59 (z4x59.not_row7 (by decide) owlx59); have z5_59 := z5x59.kept g59 (z5x59.not_row7 (by decide) owlx59); have owa_59 := owax59.kept g59 (own_ne owax59 owlx59 (by decide)); have a11_59 := a11x59.kept g59 (a11x59.not_row7 (by decide) owlx59); have o12_59 := o12x59.kept g59 (o12x59.not_row7 (by decide) owlx59); have on_59 := onx59.kept g59 (own_ne onx59 owlx59 (by decide)); have B59 := below_kept (B58.trans (bx59.mono B58.size)) g59 (Nat.le_trans B58.size bx59.size) (by intro q hq; exact (owlx59.lt q hq).1); have sz59 : w58.heap.size ≤ w59.heap.size := Nat.le_trans bx59.size g59.size; clear r2x59 r3x59 z4x59 z5x59 owax59 a11x59 o12x59 onx59; have ca110 := a11_59.cell (j := 0) rfl; have ca111 := a11_59.cell (j := 1) rfl; have ca112 := a11_59.cell (j := 2) rfl; have ca113 := a11_59.cell (j := 3) rfl; have cr30 := r3_59.cell (j := 0) rfl; have cr31 := r3_59.cell (j := 1) rfl; have cr32 := r3_59.cell (j := 2) rfl; have cr33 := r3_59.cell (j := 3) rfl))
        have fln : FlS w.heap.size w59 An nn cn _ := FlS.of_own on_59 hsn
        go_roundg (gk - 1)
        case measure => have := HK.out; omega
        case rel => exact ⟨k + 1, An, nn, cn, by have := HK.out; show _ = _; omega, by omega, HC2, by go_num, by rw [HS.out]; exact owl_59, by rw [HA.out]; exact owa_59, by rw [HM1.out]; exact fln, r2_59, r3_59, z4_59, z5_59, B59⟩
    obtain rfl : k = 16 + M := by omega
    have hal : (stAs fs rec cb).length = 16 + M := by rw [stAs_len, ← HWS.out, ← HM.out]
    rw [← hal, stPut_end hin hcb] at HGP
    rw [List.take_of_length_le (by rw [hal]; exact Nat.le_refl _)] at owa
    have HE := Lib.hid (stRun_end (fs := fs) (rec := rec) (c := cb) (cut := cut) (by rw [hal]; have := HC.out; omega) bytes)
    rw [← HWS.out, ← HM.out] at HE
    rw [show 16 + M - 16 = M by omega] at fl
    generalize stRun fs rec cb cut bytes = R at *
    generalize stMem fs ws M = m at *
    generalize stFin fs rec cb = Fo at *
    rw [hal] at HGP
    have HAL := Lib.hid hal
    clear hal
    go_wp2_with fail
    refine (HGP.out).mono ?_
    rintro e w51 ⟨rfl, h51⟩
    have B51 := hB.trans (h51.mono hB.size)
    have r2_51 := r2.on h51
    have r3_51 := r3.on h51
    have z4_51 := z4.on h51
    have z5_51 := z5.on h51
    have owl_51 := own_below owl h51
    have owa_51 := own_below owa h51
    have fl_51 := fl.on h51
    have cr30 := r3_51.cell (j := 0) rfl
    have cr31 := r3_51.cell (j := 1) rfl
    have cr32 := r3_51.cell (j := 2) rfl
    have cr33 := r3_51.cell (j := 3) rfl
    have sz51 := h51.size
    go_wp2_with (first
      | (with_reducible refine wpList_alloc_row (o := ⟨some 11, _, _, _, _, _⟩) rfl _ rfl zeroA zero_ac ?_; intro w52 r52 s52 g52)
      | (with_reducible refine wpList_alloc_row (o := ⟨some 12, _, _, _, _, _⟩) rfl _ rfl zeroO zero_so ?_; intro w53 r53 s53 g53; have q53 := r52.kept g53 (by simp); have k53 := below_kept (grown_below g52 (Nat.le_refl _) (by simp)) g53 (Nat.le_of_lt s52) (by simp))
      | ((with_reducible refine wpList_at ⟨none, .store _ (.tmp 11) _, _, _, _, _⟩ ?_); refine wpList_store_all rfl _ _ _ rfl w51.heap.size rfl _ _ q53 (noA.cs) rfl (noA.cs_one) rfl (by kernel_rfl) ?_; intro w54 t54 g54; have q54 := r53.kept g54 (by simp; omega); have k54 := below_kept k53 g54 k53.size (by rintro q hq; cases hq; exact Nat.le_refl _))
      | ((with_reducible refine wpList_at ⟨none, .store _ (.tmp 12) _, _, _, _, _⟩ ?_); refine wpList_store_all rfl _ _ _ rfl w52.heap.size rfl _ _ q54 (Fo.cs) rfl (Fo.cs_one) rfl (by kernel_rfl) ?_; intro w55 o12_55 g55; have k55 : Below w51.heap.size w51 w55 := below_kept k54 g55 k54.size (by rintro q hq; cases hq; exact Nat.le_of_lt s52); have a11_55 := t54.kept g55 (by simp; omega); have B55 := B51.trans (k55.mono B51.size); have r2_55 := r2_51.on k55; have r3_55 := r3_51.on k55; have z4_55 := z4_51.on k55; have z5_55 := z5_51.on k55; have owl_55 := own_below owl_51 k55; have owa_55 := own_below owa_51 k55; have fl_55 := fl_51.on k55; clear r2_51 r3_51 z4_51 z5_51 owl_51 owa_51 fl_51; have cr30 := r3_55.cell (j := 0) rfl; have cr31 := r3_55.cell (j := 1) rfl; have cr32 := r3_55.cell (j := 2) rfl; have cr33 := r3_55.cell (j := 3) rfl; have s55 := a11_55.lt; have v55 := o12_55.lt; clear r52 r53 q53 q54 t54 g52 g53 g54 g55 k53 k54; have ca110 := a11_55.cell (j := 0) rfl; have ca111 := a11_55.cell (j := 1) rfl; have ca112 := a11_55.cell (j := 2) rfl; have ca113 := a11_55.cell (j := 3) rfl))
    try simp only [Act.put, List.setIfInBounds_toArray, List.set_cons_zero, List.set_cons_succ]
    have bq0 : Below w.heap.size w w55.drew := B55.drew
    have r2q := r2_55.drew
    have z4q := z4_55.drew
    have z5q := z5_55.drew
    have o12q := o12_55.drew
    have flq : FlS w.heap.size w55.drew Ak nk ck m := fl_55
    have owaq : w55.drew.ownsRow w.heap.size 40 4 _ _ _ := owa_55
    refine wp_region_plan (fun w' => Row w' (w.heap.size) 28 [.slice Ak nk ck] ∧ Row w' (w52.heap.size) 33 (Fo).cs) (.take 0 <| .take 1 <| .take 2 <| .one 3 <| .one 4 <| .take 5 <| .take 6 <| .done) (by kernel_rfl) (by kernel_rfl) (by kernel_rfl) (fun _ _ _ _ _ h => h) ⟨r2q, o12q⟩ ?_
    repeat (refine plan_take _ rfl ?_; (first | ((with_reducible refine wpQuiet_at ⟨some 31, _, _, _, _, _⟩ ?_); refine wpQuiet_valueG rfl _ (by intro _ hS; exact exec_loadFl _ _ rfl (w.heap.size) rfl Ak nk ck hS.1) (wpQuiet_nil ?_); simp only [Act.put, List.setIfInBounds_toArray, List.set_cons_zero, List.set_cons_succ]) | ((with_reducible refine wpQuiet_at ⟨some 32, _, _, _, _, _⟩ ?_); refine wpQuiet_valueG rfl _ (by intro _ hS; exact exec_loadO _ _ rfl (w52.heap.size) rfl (Fo) hS.2) (wpQuiet_nil ?_); simp only [Act.put, List.setIfInBounds_toArray, List.set_cons_zero, List.set_cons_succ]) | (go_big_quiet_step ((intros; rfl)); refine wpQuiet_nil ?_)))
    refine plan_one _ rfl fun K hK => ?_
    refine step_store_all rfl _ _ _ rfl (w2.heap.size) rfl _ _ z4q ([.slice Ak nk ck]) rfl (slice_one _ _ _) rfl (by kernel_rfl) ?_
    intro wu7 z4u7 gu7
    have bu7 := below_kept bq0 gu7 bq0.size (by rintro q hq; cases hq; omega)
    have r2u7 := r2q.kept gu7 (by simp; omega)
    have z5u7 := z5q.kept gu7 (by simp; omega)
    have o12u7 := o12q.kept gu7 (by simp; omega)
    have flu7 := flq.kept gu7 (fun q hq => by cases hq; exact ⟨by omega, _, _, _, z4q, by decide⟩)
    have owau7 := owaq.kept gu7 (.inr (z4q.not_row7 (by decide) owaq).symm)
    refine hK _ _ ⟨r2u7, o12u7⟩ ?_
    clear hK K
    simp only [Act.put, List.setIfInBounds_toArray, List.set_cons_zero, List.set_cons_succ]
    refine plan_one _ rfl fun K hK => ?_
    refine step_store_all rfl _ _ _ rfl (w3.heap.size) rfl _ _ z5u7 (Fo.cs) rfl (Fo.cs_one) rfl (by kernel_rfl) ?_
    intro wu8 z5u8 gu8
    have bu8 := below_kept bu7 gu8 bu7.size (by rintro q hq; cases hq; omega)
    have r2u8 := r2u7.kept gu8 (by simp; omega)
    have z4u8 := z4u7.kept gu8 (by simp; omega)
    have o12u8 := o12u7.kept gu8 (by simp; omega)
    have flu8 := flu7.kept gu8 (fun q hq => by cases hq; exact ⟨by omega, _, _, _, z5u7, by decide⟩)
    have owau8 := owau7.kept gu8 (.inr (z5u7.not_row7 (by decide) owau7).symm)
    refine hK _ _ ⟨r2u8, o12u8⟩ ?_
    clear hK K
    simp only [Act.put, List.setIfInBounds_toArray, List.set_cons_zero, List.set_cons_succ]
    repeat (refine plan_take _ rfl ?_; (first | ((with_reducible refine wpQuiet_at ⟨some 31, _, _, _, _, _⟩ ?_); refine wpQuiet_valueG rfl _ (by intro _ hS; exact exec_loadFl _ _ rfl (w.heap.size) rfl Ak nk ck hS.1) (wpQuiet_nil ?_); simp only [Act.put, List.setIfInBounds_toArray, List.set_cons_zero, List.set_cons_succ]) | ((with_reducible refine wpQuiet_at ⟨some 32, _, _, _, _, _⟩ ?_); refine wpQuiet_valueG rfl _ (by intro _ hS; exact exec_loadO _ _ rfl (w52.heap.size) rfl (Fo) hS.2) (wpQuiet_nil ?_); simp only [Act.put, List.setIfInBounds_toArray, List.set_cons_zero, List.set_cons_succ]) | (go_big_quiet_step ((intros; rfl)); refine wpQuiet_nil ?_)))
    refine plan_done ?_
    go_wp2_with fail
    refine bodyPost_ret (results_cells4 Tryd.results18 _ _ _ _ _ _ rfl rfl (load_fl z4u8) (load_so z5u8)) rfl ?_
    obtain ⟨Az, cz, ez, hcz, _, dz⟩ := own_form owau8
    cases ez
    exact ⟨Ak, nk, ck, _, _, _, by rw [HE.out]; rfl, by rw [HE.out]; exact flu8.1, by rw [HE.out]; exact dz, hcz, by rw [HE.out]; exact HAL.out, bu8⟩
end Go.Proofs.YtfclifolniefpaaDoor

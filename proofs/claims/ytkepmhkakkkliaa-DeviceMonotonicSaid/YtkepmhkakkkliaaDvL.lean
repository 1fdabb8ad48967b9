/-
  What device.All returns: a contract by a walk. Condition: bounded lengths.
-/
import Derived.Test.YtkepmhkakkkliaaDvD
import Derived.Test.YtkepmhkakkkliaaFuRP
namespace Go.Proofs.Ytkepmhkakkkliaa
open Go.RowKit

section
variable {P : Program} {w : World}
theorem run_append_at9 (base : Nat) (t tx ty e : TypeId) (i : TypeInfo) (z : Value) (size bytes : Nat) (ht : P.underlying t = some (.slice e)) (hi : P.info? e = some i) (hz : i.zero = some z)
    (hsize : i.size = size) (hby : i.bytes = bytes) (hzs : z.cells.size = size)
    (v : Value) (n : Nat) (xs : List Value) (hown : w.ownsRow base e size v n xs) (x : Value) (m : Nat) (news : List Value) (hs : Src P size tx x m news w)
    (h63 : n + m ≤ maxLen) (hbytes : (n + m) * bytes ≤ 140737488355328) (hbase : base ≤ w.heap.size) :
    ∃ v' w', (Builtin.append_ #[t, tx] ty #[v, x]).run P w = .ok v' w' ∧ w'.ownsRow base e size v' (n + m) (xs ++ news) ∧ w.grownBy w' v.ownBlock ∧ (v'.ownBlock = v.ownBlock ∨ v'.ownBlock = some w.heap.size) := by
  subst hsize
  subst hby
  have hlen : (xs ++ news).length = (n + m) * i.size := by rw [List.length_append, hown.1, hs.newsLen, Nat.add_mul]
  have hsmall : ((n + m : Nat) : Int) ≤ 9223372036854775807 := by simp only [maxLen] at h63; omega
  rcases hown.2 with ⟨rfl, rfl⟩ | ⟨g, cap, cur, rfl, hbg, hg, hnc, hcm, hcs, htake⟩
  · have hx : xs = [] := List.eq_nil_of_length_eq_zero (by simpa using hown.1)
    subst hx
    by_cases hm : m = 0
    · subst hm
      have hn : news = [] := List.eq_nil_of_length_eq_zero (by simpa using hs.newsLen)
      subst hn
      refine ⟨.slice none 0 0, w, ?_, World.ownsRow_nil w base e i.size, World.grownBy.refl w _, .inl rfl⟩
      rcases hs.kind with ⟨e', hk⟩ | hk <;> simp [Builtin.append_, run_underlying ht, run_underlying hk, sizeOf, typeInfo, hi, hs.len, hs.cells]
    · have hr := run_append_grow_src (P := P) w t tx ty e i z ht hi hz none 0 0 [] (run_firstCells_none w.drew i.size 0 0 0) x m news hs (by omega) hsmall (growslice_fits (by omega) hbytes)
      refine ⟨_, _, hr, ?_, ⟨rfl, rfl, rfl, by simp, fun k hk _ => Below.heap_alloc w.drew _ k hk⟩, .inr rfl⟩
      have := own_grown w base e i.size 0 m 0 z hzs [] news (by simp) hs.newsLen h63 hbase
      simpa using this
  · by_cases hroom : n + m ≤ cap
    · have hfit : n * i.size + news.length ≤ cur.size := by rw [hs.newsLen, hcs, ← Nat.add_mul]; exact Nat.mul_le_mul_right _ hroom
      have hst := run_storeCells_at P g (n * i.size) e news 0 cur w hg (by simpa using hfit) hs.one
      simp only [Nat.add_zero] at hst
      have hr : (Builtin.append_ #[t, tx] ty #[.slice (some ⟨g, 0, none⟩) n cap, x]).run P w =
          .ok (.slice (some ⟨g, 0, none⟩) (n + m) cap) (w.setRow g (cur.toList.take (n * i.size) ++ news ++ cur.toList.drop (n * i.size + news.length)).toArray) := by
        rcases hs.kind with ⟨e', hk⟩ | hk <;> simp [Builtin.append_, run_underlying ht, run_underlying hk, sizeOf, typeInfo, hi, hs.len, hroom, hs.cells, Addr.add_lit, hst]
      refine ⟨_, _, hr, ⟨hlen, .inr ⟨g, cap, _, rfl, hbg, setRow_heap w g cur _ e _ hg, hroom, hcm, ?_, ?_⟩⟩, ⟨rfl, rfl, rfl, by simp, fun k _ hk => setRow_other w g k _ (fun e => hk (by simp [Value.ownBlock, e]))⟩, .inl rfl⟩
      · simp only [List.size_toArray, List.length_append, List.length_take, List.length_drop, Array.length_toList]
        omega
      · rw [htake, ← hlen]
        exact List.take_left
    · have holds : ∀ j u, xs[j]? = some u → w.cell? ((⟨g, 0, none⟩ : Addr).add j) = some u := hown.cells (g := g) rfl
      have hr := run_append_grow_src (P := P) w t tx ty e i z ht hi hz (some ⟨g, 0, none⟩) n cap xs (run_firstCells_some w.drew i.size n ⟨g, 0, none⟩ n cap xs hown.1 (by simpa using holds)) x m news hs (by omega) hsmall (growslice_fits (by omega) hbytes)
      exact ⟨_, _, hr, own_grown w base e i.size n m cap z hzs xs news hown.1 hs.newsLen h63 hbase, ⟨rfl, rfl, rfl, by simp, fun k hk _ => Below.heap_alloc w.drew _ k hk⟩, .inr rfl⟩
theorem wpList_append_at9 {ops : Array Oper} {rest : List Oper} {o : Oper} {a : Act} {Q : Exit → Act → World → Prop} (hgd : o.guard = none) (s x : Operand) (t tx : TypeId)
    (ho : o.op = .call { callee := .builtin .append, args := #[s, x], argTypes := #[t, tx] })
    (base : Nat) (e : TypeId) (i : TypeInfo) (z : Value) (size bytes : Nat) (ht : P.underlying t = some (.slice e)) (hi : P.info? e = some i) (hz : i.zero = some z)
    (hsize : i.size = size) (hby : i.bytes = bytes) (hzs : z.cells.size = size)
    (v : Value) (n : Nat) (xs : List Value) (hsv : a.eval s = v) (hown : w.ownsRow base e size v n xs) (m : Nat) (news : List Value) (hs : Src P size tx (a.eval x) m news w)
    (h63 : n + m ≤ maxLen) (hbytes : (n + m) * bytes ≤ 140737488355328) (hbase : base ≤ w.heap.size)
    (h : ∀ v' w', w'.ownsRow base e size v' (n + m) (xs ++ news) → w.grownBy w' v.ownBlock → (v'.ownBlock = v.ownBlock ∨ v'.ownBlock = some w.heap.size) → wpList P ops Q rest (a.put o.dst v') w') : wpList P ops Q (o :: rest) a w := by
  refine wpList_plain hgd fun _ hK => ?_
  obtain ⟨v', w', hrun, h2, h3, h4⟩ := run_append_at9 (P := P) (w := w) base t tx o.type e i z size bytes ht hi hz hsize hby hzs v n xs hown (a.eval x) m news hs h63 hbytes hbase
  unfold Oper.wp execOp
  simp only [ho, resolve, invoke, builtin, Sem.run_bind, Sem.run_pure, Result.andThen_ok, List.map_toArray, List.map_cons, List.map_nil, hsv, hrun]
  exact hK _ _ (h v' w' h2 h3 h4)
end
section
variable {w w' : World} {X : Nat → Prop}
theorem Reads.apartO {size n : Nat} {A : Option Addr} {xs : List Value} {row : Option Nat} (hr : Reads w w.heap.size size A n xs) (hx : 0 < n → ∀ ad, A = some ad → X ad.block) (hg : w.grownBy w' row) (hn : ∀ k, row = some k → ¬ X k) : Reads w' w'.heap.size size A n xs :=
  ⟨hr.1, fun h0 => by
    obtain ⟨ad, e, hb, hc⟩ := hr.2 h0
    refine ⟨ad, e, Nat.lt_of_lt_of_le hb hg.size, fun j u hu => ?_⟩
    have hxa := hx h0 ad e
    exact (World.cell?_of_block (hg.block (ad.add j).block (by rw [block_of_add]; exact hb) (fun e' => by rw [block_of_add] at e'; exact hn _ e'.symm hxa))).trans (hc j u hu)⟩
theorem HwOK.apartO {h : Hw} {row : Option Nat} (hk : HwOK w h) (hx : HwIn X h) (hg : w.grownBy w' row) (hn : ∀ k, row = some k → ¬ X k) : HwOK w' h :=
  ⟨⟨⟨hk.1.1.1.apartO hx.1.1 hg hn, fun p hp => ⟨(hk.1.1.2 p hp).1.apartO (hx.1.2 p hp) hg hn, (hk.1.1.2 p hp).2⟩⟩, hk.1.2⟩, ⟨hk.2.1.1.apartO hx.2 hg hn, hk.2.1.2⟩, hk.2.2⟩
end
theorem boxRow9 {P : Program} {tx e' : TypeId} (hk : P.underlying tx = some (.slice e')) (w : World) (cs : List Value) (t : TypeId) (size : Nat) (hs : cs.length = size) (h1 : ∀ u ∈ cs, u.oneCell' = true) (c : Nat) :
    Src P size tx (.slice (some ⟨w.heap.size, 0, none⟩) 1 c) 1 cs (w.alloc (.cells cs.toArray t)) :=
  Src.ofSlice _ hk _ 1 c cs (by omega) (World.news_of_block (cs := cs.toArray) (Go.heap_alloc_new w _)) h1
/-- A device, a list of results and an error come back. -/
def GivesA (s : DvS × List DvR × Int) (w : World) (e : Ending) (w' : World) : Prop :=
  ∃ (h : Hw) (A : Option Addr) (n c : Nat), e = .returned (.tuple #[h.v, .slice A n c, .int .i64 s.2.2]) ∧ HwOK w' h ∧ h.s = s.1 ∧ Reads w' w'.heap.size 2 A n (s.2.1.flatMap DvR.cs) ∧ n = s.2.1.length ∧ Below w.heap.size w w'
theorem info_rs : (Try.prog.info? 40).map (fun i => (i.zero, i.size, i.bytes)) = some (some (.agg zeroR.toArray), 2, 24) := by kernel_rfl
/-- Three results, the first of them in memory. -/
theorem results_c3 {P : Program} {fn : Func} {p t u : Tmp} {ty : TypeId} (h : fn.results = #[.cell p ty, .tmp t, .tmp u]) (tmps : Array Value) (w : World) (ad : Addr) (x : Value) (hp : tmps.getD p undef = .pointer (some ad))
    (hl : (loadVar ty ad).run P w = .ok x w) : (results fn tmps).run P w = .ok (.tuple #[x, tmps.getD t undef, tmps.getD u undef]) w := results_cell3 h tmps w ad x hp hl
set_option maxRecDepth 100000 in
set_option maxHeartbeats 4000000 in
theorem dall_any9 (h : Hw) (A B : Option Addr) (n c m d : Nat) (l : List DvA) (fl : List DvF) (w : World) (hok : HwOK w h) (hs : dvSm h.s) (hr : Reads w w.heap.size 4 A n (l.flatMap DvA.cs)) (hf : Reads w w.heap.size 3 B m (fl.flatMap DvF.cs)) (hn : n ≤ 1000000) :
    Calls Try.prog 16 #[h.v, .slice A n c, .slice B m d] w (GivesA (dvAll h.s [] l fl) w) := by
  have H16 := Lib.hid hok.h16
  have HSM := Lib.hid hs
  have HLN := Lib.hid (hr.len_of (by decide) DvA.cs_len)
  have HFN := Lib.hid (hf.len_of (by decide) DvF.cs_len)
  obtain ⟨i0, hi0, hz0, hz1, hz2⟩ := info_parts info_rs
  generalize hs0 : h.s = s0 at *
  generalize hR : dvAll s0 [] l fl = R at *
  have HR := Lib.hid hR.symm
  have HS0 := Lib.hid hs0
  clear hR hs0 hs
  go_enter Try.func16, Try.ntmps16
  go_wp2_with (first
    | ((with_reducible refine wpList_at ⟨some 3, _, _, _, _, _⟩ ?_); refine wpList_box_row rfl _ _ rfl (h.cs) rfl ?_; intro w1 rh_1 s1 g1; have k1 : Below w.heap.size w w1 := grown_below g1 (Nat.le_refl _) (by simp); have B1 : Below w.heap.size w w1 := k1; have okh_1 := hok.on k1)
    | (with_reducible refine wpList_alloc_row (o := ⟨some 6, _, _, _, _, _⟩) rfl _ rfl zeroH zero_hw ?_; intro w2 z6_2 s2 g2; have k2 : Below w1.heap.size w1 w2 := grown_below g2 (Nat.le_refl _) (by simp); have B2 := B1.trans (k2.mono B1.size); have okh_2 := okh_1.on k2; have rh_2 := rh_1.on k2; clear okh_1 rh_1)
    | ((with_reducible refine wpList_at ⟨some 16, _, _, _, _, _⟩ ?_); refine wpList_valueG rfl _ (by exact exec_loadH _ _ rfl (w.heap.size) rfl h H16.out rh_2) ?_))
  refine (dclone_any h _ okh_2 (HS0.out.symm ▸ HSM.out)).mono ?_
  rintro e w3 ⟨h1, rfl, hk3, hi3, hs3, h3⟩
  have B3 := B2.trans (h3.mono B2.size)
  have okh_3 := okh_2.on h3
  have rh_3 := rh_2.on h3
  have z6_3 := z6_2.on h3
  clear okh_2 rh_2 z6_2
  have HS1 := Lib.hid hs3
  clear hs3
  go_wp2_with ((with_reducible refine wpList_at ⟨none, .store _ (.tmp 3) _, _, _, _, _⟩ ?_); refine wpList_store_all rfl _ _ _ rfl (w.heap.size) rfl _ _ rh_3 (h1.cs) rfl (Hw.cs_one _) (by rw [Hw.cs_len H16.out, Hw.cs_len hk3.h16]) (hw_size hk3.h16) ?_; intro wS rS gS)
  have l6 := z6_3.lt
  have z6S := z6_3.kept gS (by simp; omega)
  have lc := h3.size
  have in1 := hi3.and hk3.in_
  have hkS := hk3.apart in1 gS (by omega)
  have BS := below_kept B3 gS B3.size (by rintro q hq; cases hq; omega)
  have lS := gS.size
  clear z6_3 rh_3 okh_3 hk3
  go_loopg [9, 20] n (fun g s9 s20 wr => ∃ (i : Nat) (hw : Hw) (X : Nat → Prop) (rs : List DvR), Hid (i + g = n) ∧ i ≤ n ∧ s20 = .int .i64 (i : Int) ∧ Hid (R = dvAll hw.s rs (l.drop i) (fl.drop i)) ∧ Row wr w.heap.size 31 hw.cs ∧ Row wr w1.heap.size 31 zeroH ∧ HwOK wr hw ∧ HwIn X hw ∧ (¬ X w.heap.size ∧ ¬ X w1.heap.size ∧ ∀ q, X q → q < wr.heap.size) ∧ Hid (dvSm hw.s) ∧ wr.ownsRow w.heap.size 40 2 s9 rs.length (rs.flatMap DvR.cs) ∧ (∀ k, s9.ownBlock = some k → ¬ X k) ∧ Hid (rs.length = i) ∧ Below w.heap.size w wr)
  case atStart => exact ⟨0, h1, _, [], by show _ = _; omega, by omega, rfl, by show _ = _; rw [HR.out, HS1.out, HS0.out]; rfl, rS, z6S, hkS, in1, ⟨by omega, by omega, fun q hq => by omega⟩, by rw [HS1.out, HS0.out]; exact HSM, World.ownsRow_nil _ _ _ _, fun k hk => by simp [Value.ownBlock] at hk, Lib.hid rfl, BS⟩
  case round =>
    obtain ⟨i, hw, X, rs, HI, hi, rfl, HINV, rh, z6, hk, hin, hX, HM, ow, hob, HRL, hB⟩ := hrel
    have hcl : dvErr hw.s = dvErr hw.s := rfl
    have H16w := Lib.hid hk.h16
    have lr := rh.lt
    have l6r := z6.lt
    by_cases hlt : i < n
    · obtain ⟨a, hai⟩ : ∃ a, l[i]? = some a := ⟨_, List.getElem?_eq_getElem (by rw [HLN.out]; exact hlt)⟩
      obtain ⟨ad, rfl, hlta, hca⟩ := hr.elem DvA.cs_len hai hlt
      have HCA := Lib.hid hca
      have HFA := fun W h1 => Lib.hid (faultAt_any9 B m d fl i W h1)
      have hfr := hf
      have HST := fun W h1 => Lib.hid (step_any9 X hw a (dvFl fl i) W hin h1 HM.out)
      clear hca
      by_cases he : dvErr hw.s a = 0
      rotate_left
      · have HEND : Hid (R = (hw.s, rs, dvErr hw.s a)) := Lib.hid (by rw [HINV.out]; exact dvAt_err hai he)
        have hq : (dvErr hw.s a != 0) = true := by simpa using he
        generalize dvErr hw.s a = E at *
        clear he hai
        go_wp2_with (first
          | ((with_reducible refine wpList_at ⟨some 24, _, _, _, _, _⟩ ?_); refine wpList_valueG rfl _ (by exact exec_load _ 33 _ rfl (ad.add (i * 4)) rfl a.cs (fun j u hu => (hB.cell (by rw [block_of_add, block_of_add]; exact hlta)).trans (HCA.out j u hu)) _ Try.underlying33 rfl (by kernel_rfl)) ?_)
          | (with_reducible refine wpList_alloc_row (o := ⟨some 11, _, _, _, _, _⟩) rfl _ rfl zeroA zero_ac ?_; intro w101 r101 s101 g101)
          | ((with_reducible refine wpList_at ⟨none, .store _ (.tmp 11) _, _, _, _, _⟩ ?_); refine wpList_store_all rfl _ _ _ rfl wr.heap.size rfl _ _ r101 (a.cs) rfl (a.cs_one) rfl (by kernel_rfl) ?_; intro w102 ra_102 g102; have k102 : Below wr.heap.size wr w102 := below_kept (grown_below g101 (Nat.le_refl _) (by simp)) g102 (Nat.le_of_lt s101) (by rintro q hq; cases hq; exact Nat.le_refl _); have B102 : Below wr.heap.size wr w102 := k102; have hk_102 := hk.on k102; have rh_102 := rh.on k102; have z6_102 := z6.on k102; have ow_102 := own_below ow k102; clear r101 g101 g102; have s102 := ra_102.lt))
        refine ((HFA _ ((hfr.below (hB.trans (B102.mono hB.size))).more (Nat.le_trans hB.size B102.size))).out).mono ?_
        rintro e w103 ⟨rfl, h103⟩
        have B103 := B102.trans (h103.mono B102.size)
        have hk_103 := hk_102.on h103
        have rh_103 := rh_102.on h103
        have z6_103 := z6_102.on h103
        have ra_103 := ra_102.on h103
        clear hk_102 rh_102 z6_102 ra_102
        have ow_103 := own_below ow_102 h103
        have wb103 := B103.size
        go_wp2_with (first
          | (with_reducible refine wpList_alloc_row (o := ⟨some 12, _, _, _, _, _⟩) rfl _ rfl zeroT zero_ft ?_; intro w104 r104 s104 g104)
          | ((with_reducible refine wpList_at ⟨none, .store _ (.tmp 12) _, _, _, _, _⟩ ?_); refine wpList_store_all rfl _ _ _ rfl w103.heap.size rfl _ _ r104 ((dvFl fl i).cs) rfl ((dvFl fl i).cs_one) rfl (by kernel_rfl) ?_; intro w105 rf_105 g105; have k105 : Below w103.heap.size w103 w105 := below_kept (grown_below g104 (Nat.le_refl _) (by simp)) g105 (Nat.le_of_lt s104) (by rintro q hq; cases hq; exact Nat.le_refl _); have B105 := B103.trans (k105.mono B103.size); have hk_105 := hk_103.on k105; have rh_105 := rh_103.on k105; have z6_105 := z6_103.on k105; have ra_105 := ra_103.on k105; clear hk_103 rh_103 z6_103 ra_103; have ow_105 := own_below ow_103 k105; clear r104 g104 g105; have s105 := rf_105.lt)
          | ((with_reducible refine wpList_at ⟨some 29, _, _, _, _, _⟩ ?_); refine wpList_valueG rfl _ (by exact exec_loadH _ _ rfl (w.heap.size) rfl hw H16w.out rh_105) ?_)
          | ((with_reducible refine wpList_at ⟨some 30, _, _, _, _, _⟩ ?_); refine wpList_valueG rfl _ (by exact exec_loadA _ _ rfl (wr.heap.size) rfl a ra_105) ?_)
          | ((with_reducible refine wpList_at ⟨some 31, _, _, _, _, _⟩ ?_); refine wpList_valueG rfl _ (by exact exec_loadT _ _ rfl (w103.heap.size) rfl (dvFl fl i) rf_105) ?_))
        refine ((HST _ hk_105).out).mono ?_
        rintro e w106 ⟨h2, rfl, hkb106, hib106, hsb106, h106⟩
        have B106 := B105.trans (h106.mono B105.size)
        have hk_106 := hk_105.on h106
        have rh_106 := rh_105.on h106
        have z6_106 := z6_105.on h106
        have ra_106 := ra_105.on h106
        have rf_106 := rf_105.on h106
        clear hk_105 rh_105 z6_105 ra_105 rf_105
        have ow_106 := own_below ow_105 h106
        have HS2 := Lib.hid hsb106
        clear hsb106
        have in2 := hib106.and hkb106.in_
        have H16b := Lib.hid hkb106.h16
        have lc106 := h106.size
        have wb106 := B106.size
        go_wp2_with (first
          | (with_reducible refine wpList_alloc_row (o := ⟨some 13, _, _, _, _, _⟩) rfl _ rfl zeroH zero_hw ?_; intro w107 r107 s107 g107)
          | (with_reducible refine wpList_alloc_row (o := ⟨some 14, _, _, _, _, _⟩) rfl _ rfl zeroR zero_rs ?_; intro w108 r108 s108 g108; have q108 := r107.kept g108 (by simp); have k108 := below_kept (grown_below g107 (Nat.le_refl _) (by simp)) g108 (Nat.le_of_lt s107) (by simp))
          | ((with_reducible refine wpList_at ⟨none, .store _ (.tmp 13) _, _, _, _, _⟩ ?_); refine wpList_store_all rfl _ _ _ rfl w106.heap.size rfl _ _ q108 (h2.cs) rfl (h2.cs_one) (hw_zl H16b.out) (hw_size H16b.out) ?_; intro w109 t109 g109; have q109 := r108.kept g109 (by simp; omega); have k109 := below_kept k108 g109 k108.size (by rintro q hq; cases hq; exact Nat.le_refl _))
          | ((with_reducible refine wpList_at ⟨none, .store _ (.tmp 14) _, _, _, _, _⟩ ?_); refine wpList_store_all rfl _ _ _ rfl w107.heap.size rfl _ _ q109 ((dvRs hw.s a (dvFl fl i)).cs) rfl ((dvRs hw.s a (dvFl fl i)).cs_one) rfl (by kernel_rfl) ?_; intro w110 rr_110 g110; have k110 : Below w106.heap.size w106 w110 := below_kept k109 g110 k109.size (by rintro q hq; cases hq; exact Nat.le_of_lt s107); have rn_110 := t109.kept g110 (by simp; omega); have B110 := B106.trans (k110.mono B106.size); have hk_110 := hk_106.on k110; have rh_110 := rh_106.on k110; have z6_110 := z6_106.on k110; have ra_110 := ra_106.on k110; have rf_110 := rf_106.on k110; have hk2_110 := hkb106.on k110; clear hk_106 rh_106 z6_106 ra_106 rf_106; have ow_110 := own_below ow_106 k110; have s110 := rn_110.lt; have v110 := rr_110.lt; clear r107 r108 q108 q109 t109 g107 g108 g109 g110 k108 k109)
          | ((with_reducible refine wpList_at ⟨some 38, _, _, _, _, _⟩ ?_); refine wpList_valueG rfl _ (by exact exec_loadH _ _ rfl (w.heap.size) rfl hw H16w.out rh_110) ?_)
          | ((with_reducible refine wpList_at ⟨none, .store _ (.tmp 6) _, _, _, _, _⟩ ?_); refine wpList_store_all rfl _ _ _ rfl (w1.heap.size) rfl _ _ z6_110 (hw).cs rfl (Hw.cs_one _) (hw_zl H16w.out) (hw_size H16w.out) ?_; intro wY rY gY))
        have hkY := hk_110.apart hin gY hX.2.1
        have owY := ow_110.kept gY (.inr (z6_110.not_row7 (by decide) ow_110).symm)
        obtain ⟨AY, cY, rfl, _, _, rdY⟩ := own_form owY
        refine bodyPost_ret (results_c3 Try.results16 _ _ _ _ rfl (load_hw rY H16w.out)) rfl ⟨hw, AY, rs.length, cY, by rw [HEND.out]; rfl, hkY, by rw [HEND.out], by rw [HEND.out]; exact rdY, by rw [HEND.out], below_kept (hB.trans (B110.mono hB.size)) gY (hB.trans (B110.mono hB.size)).size (by rintro q hq; cases hq; omega)⟩
      · cases hc : (dvFl fl i).cut with
        | true =>
          have HEND : Hid (R = (dvSt hw.s a (dvFl fl i), rs, 0)) := Lib.hid (by rw [HINV.out]; exact dvAt_cut hai he hc)
          rw [he] at HST
          clear he hai
          go_wp2_with (first
            | ((with_reducible refine wpList_at ⟨some 24, _, _, _, _, _⟩ ?_); refine wpList_valueG rfl _ (by exact exec_load _ 33 _ rfl (ad.add (i * 4)) rfl a.cs (fun j u hu => (hB.cell (by rw [block_of_add, block_of_add]; exact hlta)).trans (HCA.out j u hu)) _ Try.underlying33 rfl (by kernel_rfl)) ?_)
            | (with_reducible refine wpList_alloc_row (o := ⟨some 11, _, _, _, _, _⟩) rfl _ rfl zeroA zero_ac ?_; intro w101 r101 s101 g101)
            | ((with_reducible refine wpList_at ⟨none, .store _ (.tmp 11) _, _, _, _, _⟩ ?_); refine wpList_store_all rfl _ _ _ rfl wr.heap.size rfl _ _ r101 (a.cs) rfl (a.cs_one) rfl (by kernel_rfl) ?_; intro w102 ra_102 g102; have k102 : Below wr.heap.size wr w102 := below_kept (grown_below g101 (Nat.le_refl _) (by simp)) g102 (Nat.le_of_lt s101) (by rintro q hq; cases hq; exact Nat.le_refl _); have B102 : Below wr.heap.size wr w102 := k102; have hk_102 := hk.on k102; have rh_102 := rh.on k102; have z6_102 := z6.on k102; have ow_102 := own_below ow k102; clear r101 g101 g102; have s102 := ra_102.lt))
          refine ((HFA _ ((hfr.below (hB.trans (B102.mono hB.size))).more (Nat.le_trans hB.size B102.size))).out).mono ?_
          rintro e w103 ⟨rfl, h103⟩
          have B103 := B102.trans (h103.mono B102.size)
          have hk_103 := hk_102.on h103
          have rh_103 := rh_102.on h103
          have z6_103 := z6_102.on h103
          have ra_103 := ra_102.on h103
          clear hk_102 rh_102 z6_102 ra_102
          have ow_103 := own_below ow_102 h103
          have wb103 := B103.size
          go_wp2_with (first
            | (with_reducible refine wpList_alloc_row (o := ⟨some 12, _, _, _, _, _⟩) rfl _ rfl zeroT zero_ft ?_; intro w104 r104 s104 g104)
            | ((with_reducible refine wpList_at ⟨none, .store _ (.tmp 12) _, _, _, _, _⟩ ?_); refine wpList_store_all rfl _ _ _ rfl w103.heap.size rfl _ _ r104 ((dvFl fl i).cs) rfl ((dvFl fl i).cs_one) rfl (by kernel_rfl) ?_; intro w105 rf_105 g105; have k105 : Below w103.heap.size w103 w105 := below_kept (grown_below g104 (Nat.le_refl _) (by simp)) g105 (Nat.le_of_lt s104) (by rintro q hq; cases hq; exact Nat.le_refl _); have B105 := B103.trans (k105.mono B103.size); have hk_105 := hk_103.on k105; have rh_105 := rh_103.on k105; have z6_105 := z6_103.on k105; have ra_105 := ra_103.on k105; clear hk_103 rh_103 z6_103 ra_103; have ow_105 := own_below ow_103 k105; clear r104 g104 g105; have s105 := rf_105.lt)
            | ((with_reducible refine wpList_at ⟨some 29, _, _, _, _, _⟩ ?_); refine wpList_valueG rfl _ (by exact exec_loadH _ _ rfl (w.heap.size) rfl hw H16w.out rh_105) ?_)
            | ((with_reducible refine wpList_at ⟨some 30, _, _, _, _, _⟩ ?_); refine wpList_valueG rfl _ (by exact exec_loadA _ _ rfl (wr.heap.size) rfl a ra_105) ?_)
            | ((with_reducible refine wpList_at ⟨some 31, _, _, _, _, _⟩ ?_); refine wpList_valueG rfl _ (by exact exec_loadT _ _ rfl (w103.heap.size) rfl (dvFl fl i) rf_105) ?_))
          refine ((HST _ hk_105).out).mono ?_
          rintro e w106 ⟨h2, rfl, hkb106, hib106, hsb106, h106⟩
          have B106 := B105.trans (h106.mono B105.size)
          have hk_106 := hk_105.on h106
          have rh_106 := rh_105.on h106
          have z6_106 := z6_105.on h106
          have ra_106 := ra_105.on h106
          have rf_106 := rf_105.on h106
          clear hk_105 rh_105 z6_105 ra_105 rf_105
          have ow_106 := own_below ow_105 h106
          have HS2 := Lib.hid hsb106
          clear hsb106
          have in2 := hib106.and hkb106.in_
          have H16b := Lib.hid hkb106.h16
          have lc106 := h106.size
          have wb106 := B106.size
          go_wp2_with (first
            | (with_reducible refine wpList_alloc_row (o := ⟨some 13, _, _, _, _, _⟩) rfl _ rfl zeroH zero_hw ?_; intro w107 r107 s107 g107)
            | (with_reducible refine wpList_alloc_row (o := ⟨some 14, _, _, _, _, _⟩) rfl _ rfl zeroR zero_rs ?_; intro w108 r108 s108 g108; have q108 := r107.kept g108 (by simp); have k108 := below_kept (grown_below g107 (Nat.le_refl _) (by simp)) g108 (Nat.le_of_lt s107) (by simp))
            | ((with_reducible refine wpList_at ⟨none, .store _ (.tmp 13) _, _, _, _, _⟩ ?_); refine wpList_store_all rfl _ _ _ rfl w106.heap.size rfl _ _ q108 (h2.cs) rfl (h2.cs_one) (hw_zl H16b.out) (hw_size H16b.out) ?_; intro w109 t109 g109; have q109 := r108.kept g109 (by simp; omega); have k109 := below_kept k108 g109 k108.size (by rintro q hq; cases hq; exact Nat.le_refl _))
            | ((with_reducible refine wpList_at ⟨none, .store _ (.tmp 14) _, _, _, _, _⟩ ?_); refine wpList_store_all rfl _ _ _ rfl w107.heap.size rfl _ _ q109 ((dvRs hw.s a (dvFl fl i)).cs) rfl ((dvRs hw.s a (dvFl fl i)).cs_one) rfl (by kernel_rfl) ?_; intro w110 rr_110 g110; have k110 : Below w106.heap.size w106 w110 := below_kept k109 g110 k109.size (by rintro q hq; cases hq; exact Nat.le_of_lt s107); have rn_110 := t109.kept g110 (by simp; omega); have B110 := B106.trans (k110.mono B106.size); have hk_110 := hk_106.on k110; have rh_110 := rh_106.on k110; have z6_110 := z6_106.on k110; have ra_110 := ra_106.on k110; have rf_110 := rf_106.on k110; have hk2_110 := hkb106.on k110; clear hk_106 rh_106 z6_106 ra_106 rf_106; have ow_110 := own_below ow_106 k110; have s110 := rn_110.lt; have v110 := rr_110.lt; clear r107 r108 q108 q109 t109 g107 g108 g109 g110 k108 k109)
            | ((with_reducible refine wpList_at ⟨some 41, _, _, _, _, _⟩ ?_); refine wpList_valueG rfl _ (by exact exec_loadH _ _ rfl (w106.heap.size) rfl h2 H16b.out rn_110) ?_)
            | ((with_reducible refine wpList_at ⟨none, .store _ (.tmp 3) _, _, _, _, _⟩ ?_); refine wpList_store_all rfl _ _ _ rfl w.heap.size rfl _ _ rh_110 (h2.cs) rfl (Hw.cs_one _) (by rw [Hw.cs_len H16w.out, Hw.cs_len H16b.out]) (hw_size H16b.out) ?_; intro wS2 rhS2 gS2; have z6S2 := z6_110.kept gS2 (by simp; omega); have rrS2 := rr_110.kept gS2 (by simp; have := rr_110.lt; omega); have rfS2 := rf_110.kept gS2 (by simp; omega); have cf0 := rfS2.cell (j := 0) rfl)
            | ((with_reducible refine wpList_at ⟨some 49, _, _, _, _, _⟩ ?_); refine wpList_valueG rfl _ (by exact exec_loadH _ _ rfl w.heap.size rfl h2 H16b.out rhS2) ?_)
            | ((with_reducible refine wpList_at ⟨none, .store _ (.tmp 6) _, _, _, _, _⟩ ?_); refine wpList_store_all rfl _ _ _ rfl (w1.heap.size) rfl _ _ z6S2 (h2.cs) rfl (Hw.cs_one _) (hw_zl H16b.out) (hw_size H16b.out) ?_; intro wY rY gY))
          have owS2 := ow_110.kept gS2 (.inr (rh_110.not_row7 (by decide) ow_110).symm)
          have nX2 : ∀ q, ¬ X q → q < w105.heap.size → ¬ ((X q ∨ w105.heap.size ≤ q) ∧ q < w106.heap.size) := fun q h1 h2 h3 => by rcases h3.1 with h4 | h4; exact h1 h4; omega
          have wle := B110.size
          have hkS2 := hk2_110.apart in2 gS2 (nX2 _ hX.1 (by omega))
          have BS2 := below_kept (hB.trans (B110.mono hB.size)) gS2 (Nat.le_trans hB.size B110.size) (by rintro q hq; cases hq; exact Nat.le_refl _)
          have lS2 := gS2.size
          have hkY := hkS2.apart in2 gY (nX2 _ hX.2.1 (by omega))
          have owY := owS2.kept gY (.inr (z6S2.not_row7 (by decide) owS2).symm)
          obtain ⟨AY, cY, rfl, _, _, rdY⟩ := own_form owY
          refine bodyPost_ret (results_c3 Try.results16 _ _ _ _ rfl (load_hw rY H16b.out)) rfl ⟨h2, AY, rs.length, cY, by rw [HEND.out]; rfl, hkY, by rw [HEND.out]; exact HS2.out, by rw [HEND.out]; exact rdY, by rw [HEND.out], below_kept BS2 gY BS2.size (by rintro q hq; cases hq; omega)⟩
        | false =>
          have HEND : Hid (R = dvAll (dvSt hw.s a (dvFl fl i)) (rs ++ [dvRs hw.s a (dvFl fl i)]) (l.drop (i + 1)) (fl.drop (i + 1))) := Lib.hid (by rw [HINV.out]; exact dvAt_go hai he hc)
          rw [he] at HST
          clear he hai
          go_wp2_with (first
            | ((with_reducible refine wpList_at ⟨some 24, _, _, _, _, _⟩ ?_); refine wpList_valueG rfl _ (by exact exec_load _ 33 _ rfl (ad.add (i * 4)) rfl a.cs (fun j u hu => (hB.cell (by rw [block_of_add, block_of_add]; exact hlta)).trans (HCA.out j u hu)) _ Try.underlying33 rfl (by kernel_rfl)) ?_)
            | (with_reducible refine wpList_alloc_row (o := ⟨some 11, _, _, _, _, _⟩) rfl _ rfl zeroA zero_ac ?_; intro w101 r101 s101 g101)
            | ((with_reducible refine wpList_at ⟨none, .store _ (.tmp 11) _, _, _, _, _⟩ ?_); refine wpList_store_all rfl _ _ _ rfl wr.heap.size rfl _ _ r101 (a.cs) rfl (a.cs_one) rfl (by kernel_rfl) ?_; intro w102 ra_102 g102; have k102 : Below wr.heap.size wr w102 := below_kept (grown_below g101 (Nat.le_refl _) (by simp)) g102 (Nat.le_of_lt s101) (by rintro q hq; cases hq; exact Nat.le_refl _); have B102 : Below wr.heap.size wr w102 := k102; have hk_102 := hk.on k102; have rh_102 := rh.on k102; have z6_102 := z6.on k102; have ow_102 := own_below ow k102; clear r101 g101 g102; have s102 := ra_102.lt))
          refine ((HFA _ ((hfr.below (hB.trans (B102.mono hB.size))).more (Nat.le_trans hB.size B102.size))).out).mono ?_
          rintro e w103 ⟨rfl, h103⟩
          have B103 := B102.trans (h103.mono B102.size)
          have hk_103 := hk_102.on h103
          have rh_103 := rh_102.on h103
          have z6_103 := z6_102.on h103
          have ra_103 := ra_102.on h103
          clear hk_102 rh_102 z6_102 ra_102
          have ow_103 := own_below ow_102 h103
          have wb103 := B103.size
          go_wp2_with (first
            | (with_reducible refine wpList_alloc_row (o := ⟨some 12, _, _, _, _, _⟩) rfl _ rfl zeroT zero_ft ?_; intro w104 r104 s104 g104)
            | ((with_reducible refine wpList_at ⟨none, .store _ (.tmp 12) _, _, _, _, _⟩ ?_); refine wpList_store_all rfl _ _ _ rfl w103.heap.size rfl _ _ r104 ((dvFl fl i).cs) rfl ((dvFl fl i).cs_one) rfl (by kernel_rfl) ?_; intro w105 rf_105 g105; have k105 : Below w103.heap.size w103 w105 := below_kept (grown_below g104 (Nat.le_refl _) (by simp)) g105 (Nat.le_of_lt s104) (by rintro q hq; cases hq; exact Nat.le_refl _); have B105 := B103.trans (k105.mono B103.size); have hk_105 := hk_103.on k105; have rh_105 := rh_103.on k105; have z6_105 := z6_103.on k105; have ra_105 := ra_103.on k105; clear hk_103 rh_103 z6_103 ra_103; have ow_105 := own_below ow_103 k105; clear r104 g104 g105; have s105 := rf_105.lt)
            | ((with_reducible refine wpList_at ⟨some 29, _, _, _, _, _⟩ ?_); refine wpList_valueG rfl _ (by exact exec_loadH _ _ rfl (w.heap.size) rfl hw H16w.out rh_105) ?_)
            | ((with_reducible refine wpList_at ⟨some 30, _, _, _, _, _⟩ ?_); refine wpList_valueG rfl _ (by exact exec_loadA _ _ rfl (wr.heap.size) rfl a ra_105) ?_)
            | ((with_reducible refine wpList_at ⟨some 31, _, _, _, _, _⟩ ?_); refine wpList_valueG rfl _ (by exact exec_loadT _ _ rfl (w103.heap.size) rfl (dvFl fl i) rf_105) ?_))
          refine ((HST _ hk_105).out).mono ?_
          rintro e w106 ⟨h2, rfl, hkb106, hib106, hsb106, h106⟩
          have B106 := B105.trans (h106.mono B105.size)
          have hk_106 := hk_105.on h106
          have rh_106 := rh_105.on h106
          have z6_106 := z6_105.on h106
          have ra_106 := ra_105.on h106
          have rf_106 := rf_105.on h106
          clear hk_105 rh_105 z6_105 ra_105 rf_105
          have ow_106 := own_below ow_105 h106
          have HS2 := Lib.hid hsb106
          clear hsb106
          have in2 := hib106.and hkb106.in_
          have H16b := Lib.hid hkb106.h16
          have lc106 := h106.size
          have wb106 := B106.size
          go_wp2_with (first
            | (with_reducible refine wpList_alloc_row (o := ⟨some 13, _, _, _, _, _⟩) rfl _ rfl zeroH zero_hw ?_; intro w107 r107 s107 g107)
            | (with_reducible refine wpList_alloc_row (o := ⟨some 14, _, _, _, _, _⟩) rfl _ rfl zeroR zero_rs ?_; intro w108 r108 s108 g108; have q108 := r107.kept g108 (by simp); have k108 := below_kept (grown_below g107 (Nat.le_refl _) (by simp)) g108 (Nat.le_of_lt s107) (by simp))
            | ((with_reducible refine wpList_at ⟨none, .store _ (.tmp 13) _, _, _, _, _⟩ ?_); refine wpList_store_all rfl _ _ _ rfl w106.heap.size rfl _ _ q108 (h2.cs) rfl (h2.cs_one) (hw_zl H16b.out) (hw_size H16b.out) ?_; intro w109 t109 g109; have q109 := r108.kept g109 (by simp; omega); have k109 := below_kept k108 g109 k108.size (by rintro q hq; cases hq; exact Nat.le_refl _))
            | ((with_reducible refine wpList_at ⟨none, .store _ (.tmp 14) _, _, _, _, _⟩ ?_); refine wpList_store_all rfl _ _ _ rfl w107.heap.size rfl _ _ q109 ((dvRs hw.s a (dvFl fl i)).cs) rfl ((dvRs hw.s a (dvFl fl i)).cs_one) rfl (by kernel_rfl) ?_; intro w110 rr_110 g110; have k110 : Below w106.heap.size w106 w110 := below_kept k109 g110 k109.size (by rintro q hq; cases hq; exact Nat.le_of_lt s107); have rn_110 := t109.kept g110 (by simp; omega); have B110 := B106.trans (k110.mono B106.size); have hk_110 := hk_106.on k110; have rh_110 := rh_106.on k110; have z6_110 := z6_106.on k110; have ra_110 := ra_106.on k110; have rf_110 := rf_106.on k110; have hk2_110 := hkb106.on k110; clear hk_106 rh_106 z6_106 ra_106 rf_106; have ow_110 := own_below ow_106 k110; have s110 := rn_110.lt; have v110 := rr_110.lt; clear r107 r108 q108 q109 t109 g107 g108 g109 g110 k108 k109)
            | ((with_reducible refine wpList_at ⟨some 41, _, _, _, _, _⟩ ?_); refine wpList_valueG rfl _ (by exact exec_loadH _ _ rfl (w106.heap.size) rfl h2 H16b.out rn_110) ?_)
            | ((with_reducible refine wpList_at ⟨none, .store _ (.tmp 3) _, _, _, _, _⟩ ?_); refine wpList_store_all rfl _ _ _ rfl w.heap.size rfl _ _ rh_110 (h2.cs) rfl (Hw.cs_one _) (by rw [Hw.cs_len H16w.out, Hw.cs_len H16b.out]) (hw_size H16b.out) ?_; intro wS2 rhS2 gS2; have z6S2 := z6_110.kept gS2 (by simp; omega); have rrS2 := rr_110.kept gS2 (by simp; have := rr_110.lt; omega); have rfS2 := rf_110.kept gS2 (by simp; omega); have cf0 := rfS2.cell (j := 0) rfl)
            | ((with_reducible refine wpList_at ⟨some 45, _, _, _, _, _⟩ ?_); refine wpList_valueG rfl _ (by exact exec_loadR _ _ rfl (w107.heap.size) rfl (dvRs hw.s a (dvFl fl i)) rrS2) ?_)
            | (refine wpList_valueW (o := ⟨some 46, _, _, _, _, _⟩) rfl _ (by exact exec_slice1 _ 50 40 _ rfl Try.underlying50 i0 _ hi0 hz0 (dvRs hw.s a (dvFl fl i)).cs (by rw [hz1]; rfl) (by show 0 < 2; decide) (by show 2 ≤ 1000; decide) rfl) ?_)
            | (at_builtin; have bx : Below wS2.heap.size wS2 (wS2.alloc (.cells (dvRs hw.s a (dvFl fl i)).cs.toArray 40)) := (Below.refl _ _).alloc (Nat.le_refl _) _; have owx := own_below (ow_110.kept gS2 (.inr (rh_110.not_row7 (by decide) ow_110).symm)) bx; have rhx := rhS2.on bx; have z6x := z6S2.on bx; refine wpList_append_at9 rfl (.tmp 44) (.tmp 46) _ _ rfl w.heap.size 40 i0 _ 2 24 Try.underlying50 hi0 hz0 hz1 hz2 rfl _ _ _ rfl owx 1 (dvRs hw.s a (dvFl fl i)).cs (boxRow9 Try.underlying50 _ _ _ 2 rfl (DvR.cs_one _) _) (by unfold maxLen; have := HRL.out; omega) (by have := HRL.out; omega) (by have := rhx.lt; omega) ?_; intro vA wA owA gA obA; have rhA := rhx.kept gA (rhx.not_row7 (by decide) owx); have z6A := z6x.kept gA (z6x.not_row7 (by decide) owx)))
          have owS2 := ow_110.kept gS2 (.inr (rh_110.not_row7 (by decide) ow_110).symm)
          have nX2 : ∀ q, ¬ X q → q < w105.heap.size → ¬ ((X q ∨ w105.heap.size ≤ q) ∧ q < w106.heap.size) := fun q h1 h2 h3 => by rcases h3.1 with h4 | h4; exact h1 h4; omega
          have wle := B110.size
          have hkS2 := hk2_110.apart in2 gS2 (nX2 _ hX.1 (by omega))
          have BS2 := below_kept (hB.trans (B110.mono hB.size)) gS2 (Nat.le_trans hB.size B110.size) (by rintro q hq; cases hq; exact Nat.le_refl _)
          have lS2 := gS2.size
          have hkx := hkS2.on bx
          have hbx := bx.size
          have nOW : ∀ k, u9.ownBlock = some k → ¬ ((X k ∨ w105.heap.size ≤ k) ∧ k < w106.heap.size) := fun k hk0 => nX2 k (hob k hk0) (by have := (ow.lt k hk0).2; omega)
          have hkA := hkx.apartO in2 gA (fun k hk0 => nOW k hk0)
          have BA := below_kept (BS2.trans (bx.mono BS2.size)) gA (Nat.le_trans BS2.size hbx) (by rintro q hq; exact (ow.lt q hq).1)
          have lA := gA.size
          go_roundg (gk - 1)
          case measure => have := HI.out; omega
          case rel => exact ⟨i + 1, h2, _, rs ++ [dvRs hw.s a (dvFl fl i)], by have := HI.out; show _ = _; omega, by omega, by go_num, by show _ = _; rw [HEND.out, HS2.out], rhA, z6A, hkA, in2, ⟨nX2 _ hX.1 (by omega), nX2 _ hX.2.1 (by omega), fun q hq => by omega⟩, by show dvSm _; rw [HS2.out]; exact dvSt_sm HM.out, by rw [List.length_append, List.flatMap_append]; simpa using owA, fun k hk0 => by rcases obA with e | e; exact nOW k (e.symm.trans hk0); (rw [e] at hk0; cases hk0; omega), by show _ = _; rw [List.length_append, HRL.out]; rfl, BA⟩
    · have hin2 : i = n := by omega
      have HEND : Hid (R = (hw.s, rs, 0)) := Lib.hid (by rw [HINV.out]; exact dvAt_end (by rw [HLN.out]; omega))
      go_wp2_with (first
        | ((with_reducible refine wpList_at ⟨some 49, _, _, _, _, _⟩ ?_); refine wpList_valueG rfl _ (by exact exec_loadH _ _ rfl (w.heap.size) rfl hw H16w.out rh) ?_)
        | ((with_reducible refine wpList_at ⟨none, .store _ (.tmp 6) _, _, _, _, _⟩ ?_); refine wpList_store_all rfl _ _ _ rfl (w1.heap.size) rfl _ _ z6 (hw).cs rfl (Hw.cs_one _) (hw_zl H16w.out) (hw_size H16w.out) ?_; intro wY rY gY))
      have hkY := hk.apart hin gY hX.2.1
      have owY := ow.kept gY (.inr (z6.not_row7 (by decide) ow).symm)
      obtain ⟨AY, cY, rfl, _, _, rdY⟩ := own_form owY
      refine bodyPost_ret (results_c3 Try.results16 _ _ _ _ rfl (load_hw rY H16w.out)) rfl ⟨hw, AY, rs.length, cY, by rw [HEND.out]; rfl, hkY, by rw [HEND.out], by rw [HEND.out]; exact rdY, by rw [HEND.out], below_kept hB gY hB.size (by rintro q hq; cases hq; omega)⟩

end Go.Proofs.Ytkepmhkakkkliaa

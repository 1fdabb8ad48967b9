/-
  What the reference's GetDigests returns: contracts by walks.
-/
import Derived.Test.YtooiedomcdmefaaRefInts
namespace Go.Proofs.Ytooiedomcdmefaa
open Go.RowKit

/-- A block that is known whole. -/
def Blk (w : World) (g : Nat) (t : TypeId) (cs : Array Value) : Prop := w.heap[g]? = some (.cells cs t (0, 0))
theorem Blk.cell {w : World} {g : Nat} {t : TypeId} {cs : Array Value} (h : Blk w g t cs) (i : Nat) : w.cell? ⟨g, i, none⟩ = cs[i]? := cell_of_row w g i cs t (0, 0) h
theorem Blk.frozen {w : World} {g : Nat} {t : TypeId} {cs : Array Value} (h : Blk w g t cs) (i : Nat) : w.frozen? ⟨g, i, none⟩ = false := by
  unfold Blk at h
  simp [World.frozen?, h]
theorem Blk.set_ {w : World} {g : Nat} {t : TypeId} {cs : Array Value} (h : Blk w g t cs) (i : Nat) (u : Value) : Blk (w.setCell ⟨g, i, none⟩ u) g t (cs.setIfInBounds i u) := by
  unfold Blk at h ⊢
  simp [World.setCell, Array.getElem?_modify, h]

/-- Zeros, the first j of them replaced by d's bytes. -/
def filled (d : List UInt8) (j : Nat) : Array Value := (bvs (d.take j) ++ List.replicate (16 - j) (Value.int .u8 0)).toArray
theorem filled_zero (d : List UInt8) : filled d 0 = #[Value.int IntKind.u8 0, Value.int IntKind.u8 0, Value.int IntKind.u8 0, Value.int IntKind.u8 0, Value.int IntKind.u8 0, Value.int IntKind.u8 0, Value.int IntKind.u8 0, Value.int IntKind.u8 0, Value.int IntKind.u8 0, Value.int IntKind.u8 0, Value.int IntKind.u8 0, Value.int IntKind.u8 0, Value.int IntKind.u8 0, Value.int IntKind.u8 0, Value.int IntKind.u8 0, Value.int IntKind.u8 0] := rfl
theorem filled_set (d : List UInt8) (j : Nat) (hj : j < 16) (hd : d.length = 16) (x : UInt8) (hx : d[j]? = some x) : (filled d j).setIfInBounds j (bv x) = filled d (j + 1) := by
  unfold filled
  rw [List.setIfInBounds_toArray]
  congr 1
  have hl : (bvs (d.take j)).length = j := by rw [bvs_length, List.length_take]; omega
  rw [List.set_append_right _ _ (by omega), hl, Nat.sub_self, show 16 - j = (16 - (j + 1)) + 1 from by omega, List.replicate_succ, List.set_cons_zero, List.take_add_one, hx]
  unfold bvs
  simp
theorem filled_size (d : List UInt8) (j : Nat) (hj : j ≤ 16) (hd : d.length = 16) : (filled d j).size = 16 := by
  unfold filled
  simp [bvs_length]
  omega
theorem filled_all (d : List UInt8) (hd : d.length = 16) : filled d 16 = (bvs d).toArray := by
  unfold filled
  rw [List.take_of_length_le (by omega)]
  simp

set_option maxRecDepth 100000 in
set_option maxHeartbeats 4000000 in
theorem refGetDigests_any (A : Option Addr) (c : Nat) (l : List UInt8) (n : Nat) (w : World) (hl : Reads w w.heap.size 1 A n (bvs l)) (hn : n ≤ 1000000000) (hc : n ≤ c) :
    Calls Try.prog 29 #[.slice A n c] w (GivesD (getDigs l) w) := by
  have HL := Lib.hid hl.bytes_len
  obtain ⟨i0, hi0, hz0, hz1, hz2⟩ := info_parts info_dig
  have hok := getLen_ok l 16 (by omega)
  obtain ⟨m, u, e, hr⟩ : ∃ m u e, getLen l 16 = (m, u, e) := ⟨_, _, _, rfl⟩
  rw [hr] at hok
  have HR := Lib.hid hr
  have hcon := refCount_any A c l n 16 w hl hn hc (by omega) (by omega)
  rw [hr] at hcon
  unfold RetsB at hcon
  have HC := Lib.hid hcon
  clear hr hcon
  rcases hok with ⟨he, hm, hu0, hu10, hum⟩ | he | he
  · simp only at he hm hu0 hu10 hum
    subst he
    rw [HL.out] at hum
    obtain ⟨k, rfl⟩ := Int.eq_ofNat_of_zero_le hm
    rw [Int.toNat_natCast] at hum
    have HE : Hid (getDigs l = getDigsGo k u l []) := by show _ = _; unfold getDigs; rw [HR.out]; rfl
    go_enter Try.func29, Try.ntmps29
    go_wp2_with fail
    refine HC.out.mono ?_
    rintro e w1 ⟨rfl, hb1⟩
    go_wp2_with fail
    have hk : k ≤ n := by omega
    go_loopg [6, 8, 9] k (fun g s6 s8 s9 wr => ∃ (j at0 : Nat) (acc : List (List UInt8)), Hid (j + g = k) ∧ j ≤ k ∧ at0 + g * 16 ≤ n ∧ Hid (acc.length = j) ∧ Hid (Len16 acc) ∧ s9 = .int .i64 j ∧ s6 = .int .i64 at0 ∧ wr.ownsRow w.heap.size 51 16 s8 acc.length (bvs acc.flatten) ∧ Below w.heap.size w wr ∧ Hid (getDigs l = getDigsGo g at0 l acc))
    case atStart => exact ⟨0, u, [], by show _ = _; omega, by omega, by omega, rfl, fun d hd => absurd hd (by simp), rfl, rfl, World.ownsRow_nil _ _ _ _, hb1, HE⟩
    case round =>
      obtain ⟨j, at0, acc, HJ, hj, hat, HA, H16, rfl, rfl, hown, hbel, HG⟩ := hrel
      by_cases hlt : j < k
      · obtain ⟨g, rfl⟩ : ∃ g, gk = g + 1 := ⟨gk - 1, by have := HJ.out; omega⟩
        have hd : ((l.drop at0).take 16).length = 16 := by rw [List.length_take, List.length_drop, HL.out]; omega
        have hdl : ∀ i x, i < 16 → ((l.drop at0).take 16)[i]? = some x → l[at0 + i]? = some x := by
          intro i x hi hx
          rw [List.getElem?_take_of_lt hi, List.getElem?_drop] at hx
          exact hx
        have HE2 : Hid (getDigs l = getDigsGo g (at0 + 16) l (acc ++ [(l.drop at0).take 16])) := by
          show _ = _
          rw [HG.out, getDigsGo]
        generalize (l.drop at0).take 16 = d at *
        have HD := Lib.hid hd
        have HDL := Lib.hid hdl
        have HBL : Hid ((bvs d).length = 16) := by show _ = _; rw [bvs_length, hd]
        clear hd hdl
        have hal : acc.length ≤ n := by have := HA.out; omega
        have hat2 : at0 + 16 ≤ n := by omega
        have hbs := hbel.size
        obtain ⟨wo, rfl⟩ : ∃ wo : World, wo = wr := ⟨_, rfl⟩
        obtain ⟨g0, rfl⟩ : ∃ g0 : Nat, g0 = g := ⟨_, rfl⟩
        go_wp2_with fail
        go_loopg [11] 16 (fun g2 s11 wi => ∃ i : Nat, Hid (i + g2 = 16) ∧ i ≤ 16 ∧ s11 = .int .i64 i ∧ Blk wi wo.heap.size 51 (filled d i) ∧ Below wo.heap.size wo wi ∧ wo.heap.size + 1 ≤ wi.heap.size)
        case atStart => exact ⟨0, by show _ = _; omega, by omega, rfl, (by rw [filled_zero]; exact Go.heap_alloc_new _ _), (Below.refl _ _).alloc (Nat.le_refl _) _, by simp⟩
        case round =>
          obtain ⟨i, HI, hi, rfl, hblk, hb2, hsz2⟩ := hrel
          by_cases hi16 : i < 16
          · have hid : i < d.length := by rw [HD.out]; exact hi16
            have hxl := HDL.out i d[i] hi16 (List.getElem?_eq_getElem hid)
            obtain ⟨ad, x, hA, hab, hx, hcx⟩ := (hl.below (hbel.trans (hb2.mono hbs))).byte_at (show at0 + i < n by omega)
            have hxe : d[i]? = some x := by rw [List.getElem?_eq_getElem hid]; rw [hxl] at hx; exact hx
            subst hA
            have hcb := hblk.cell i
            obtain ⟨y, hy⟩ : ∃ y, (filled d i)[i]? = some y := ⟨_, Array.getElem?_eq_getElem (by rw [filled_size d i hi HD.out]; exact hi16)⟩
            rw [hy] at hcb
            have hfz := hblk.frozen i
            have hfs := Lib.hid (filled_set d i hi16 HD.out x hxe)
            have hset := hblk.set_ i (bv x)
            rw [hfs.out] at hset
            unfold bv at hset
            clear hxl hx hxe hy
            go_wp2_with fail
            go_roundg (gk - 1)
            case measure => have := HI.out; omega
            case rel =>
              exact ⟨i + 1, by have := HI.out; show _ = _; omega, by omega, by go_num, hset, hb2.setCell (Nat.le_refl _) _, by simpa using hsz2⟩
          · have hblk2 : Blk wr wo.heap.size 51 (bvs d).toArray := by
              rw [show i = 16 from by omega, filled_all d HD.out] at hblk
              exact hblk
            have hown2 := own_below hown hb2
            have hb3 : Below w.heap.size w wr := hbel.trans (hb2.mono hbs)
            have hcells : ∀ j u, (bvs d)[j]? = some u → wr.cell? ((⟨wo.heap.size, 0, none⟩ : Addr).add j) = some u := fun j u hu => World.news_of_block (show wr.heap[wo.heap.size]? = some (.cells (bvs d).toArray 51 (0, 0)) from hblk2) j u (by simpa using hu)
            have HCL := Lib.hid hcells
            clear hblk hblk2 hcells
            go_wp2_with (first
              | (with_reducible refine wpList_load_at (o := ⟨some 39, _, _, _, _, _⟩) rfl _ _ rfl _ rfl (bvs d) HCL.out _ Try.underlying51 rfl (dig_size HD.out) ?_)
              | (refine wpList_valueW (o := ⟨some 40, _, _, _, _, _⟩) rfl _ (by exact exec_slice1 _ 23 51 _ rfl Try.underlying23 i0 _ hi0 hz0 (bvs d) (by rw [hz1, HBL.out]) (by rw [HBL.out]; omega) (by rw [HBL.out]; omega) rfl) ?_)
              | (at_builtin
                 refine wpList_append_src _ rfl (.tmp 38) (.tmp 40) _ _ rfl w.heap.size 51 i0 _ 16 16 Try.underlying23 hi0 hz0 hz1 hz2 rfl _ _ _ rfl (hown2.alloc _) 1 (bvs d) (Src.boxRow Try.underlying23 _ _ _ 16 HBL.out (bvs_one d) _) (by unfold maxLen; omega) (by omega) (by simp; omega) ?_
                 intro v2 w4 hown4 hbel4))
            go_roundg g0
            case measure => omega
            case rel =>
              refine ⟨j + 1, at0 + 16, acc ++ [d], by have := HJ.out; show _ = _; omega, by omega, by omega, ?_, ?_, by go_num, by go_num, ?_, ((hb3.alloc (by omega) _).trans hbel4), HE2⟩
              · show _ = _; rw [List.length_append, HA.out]; rfl
              · intro x hx
                rcases List.mem_append.1 hx with h | h
                · exact H16.out x h
                · simp at h; rw [h]; exact HD.out
              · rw [List.length_append, List.flatten_append, bvs_append]
                simpa using hown4
      · obtain rfl : gk = 0 := by have := HJ.out; omega
        have hkj : k ≤ j := by omega
        have HE2 : Hid (getDigs l = (acc, at0, 0)) := HG
        go_wp2_with fail
        go_ret3
        exact ⟨_, by rw [HE2.out]; rfl, by rw [HE2.out]; exact hown, hbel⟩
  · injection he with h1 h2
    injection h2 with h2 h3
    subst h1 h2 h3
    have HE : Hid (getDigs l = ([], 0, 6)) := by show _ = _; unfold getDigs; rw [HR.out]; rfl
    go_enter Try.func29, Try.ntmps29
    go_wp2_with fail
    refine HC.out.mono ?_
    rintro e w1 ⟨rfl, hb1⟩
    go_wp2_with fail
    go_ret3
    exact ⟨_, by rw [HE.out]; rfl, by rw [HE.out]; exact World.ownsRow_nil _ _ _ _, hb1⟩
  · injection he with h1 h2
    injection h2 with h2 h3
    subst h1 h2 h3
    have HE : Hid (getDigs l = ([], 0, 7)) := by show _ = _; unfold getDigs; rw [HR.out]; rfl
    go_enter Try.func29, Try.ntmps29
    go_wp2_with fail
    refine HC.out.mono ?_
    rintro e w1 ⟨rfl, hb1⟩
    go_wp2_with fail
    go_ret3
    exact ⟨_, by rw [HE.out]; rfl, by rw [HE.out]; exact World.ownsRow_nil _ _ _ _, hb1⟩
end Go.Proofs.Ytooiedomcdmefaa

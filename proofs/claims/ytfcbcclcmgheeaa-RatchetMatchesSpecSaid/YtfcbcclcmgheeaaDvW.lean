/-
  Words of layer 9: the values of devices, accesses, faults and results; whole and single loads of them. No condition.
-/
import Derived.Test.YtfcbcclcmgheeaaProg
import Derived.Test.YtfcbcclcmgheeaaDvM
import Derived.Test.YtfcbcclcmgheeaaBase
import Derived.Test.YtfcbcclcmgheeaaFuP
import Derived.Test.YtfcbcclcmgheeaaFlG
namespace Go.Proofs.Ytfcbcclcmgheeaa
open Go.RowKit


/-- The walk of what is quiet stands at this operation. -/
theorem wpQuiet_at {P : Program} {ops : Array Oper} {C : World → Prop} {Q : Act → Prop} {rest : List Oper} (o : Oper) {a : Act} (h : wpQuiet P ops C Q (o :: rest) a) : wpQuiet P ops C Q (o :: rest) a := h
/-- A device as it lies in memory. -/
structure Hw where
  A : Option Addr
  n : Nat
  c : Nat
  ps : List Part
  B : Option Addr
  m : Nat
  d : Nat
  fs : List ByteArray
  rt : List UInt8
def Hw.cs (h : Hw) : List Value := .slice h.A h.n h.c :: .slice h.B h.m h.d :: bvs h.rt
def Hw.v (h : Hw) : Value := .agg h.cs.toArray
def Hw.s (h : Hw) : DvS := ⟨bk h.ps, h.fs, h.rt⟩
def HwOK (w : World) (h : Hw) : Prop := FuOK w h.A h.n h.c h.ps ∧ FlOK w h.B h.m h.d h.fs ∧ h.rt.length = 16
/-- The blocks in which a device's slices lie. -/
def HwIn (X : Nat → Prop) (h : Hw) : Prop := FuIn X h.A h.n h.ps ∧ LIn X h.B h.m
def DvA.cs (a : DvA) : List Value := [.int .i64 a.k, .int .i64 a.b, .int .i64 a.c, .string a.s]
def DvA.v (a : DvA) : Value := .agg a.cs.toArray
def DvF.cs (f : DvF) : List Value := [.bool f.cut, .int .i64 f.n, .bool f.noise]
def DvF.v (f : DvF) : Value := .agg f.cs.toArray
def DvR.cs (r : DvR) : List Value := [.int .i64 r.x, .string r.s]
def DvR.v (r : DvR) : Value := .agg r.cs.toArray
theorem bvs_one' (l : List UInt8) : ∀ u ∈ bvs l, u.oneCell' = true := bvs_one l
theorem Hw.cs_one (h : Hw) : ∀ u ∈ h.cs, u.oneCell' = true := by
  intro u hu
  unfold Hw.cs at hu
  simp only [List.mem_cons] at hu
  rcases hu with rfl | rfl | hu
  · rfl
  · rfl
  · exact bvs_one _ u hu
theorem DvA.cs_one (a : DvA) : ∀ u ∈ a.cs, u.oneCell' = true := by intro u hu; unfold DvA.cs at hu; simp at hu; rcases hu with rfl | rfl | rfl | rfl <;> rfl
theorem DvF.cs_one (a : DvF) : ∀ u ∈ a.cs, u.oneCell' = true := by intro u hu; unfold DvF.cs at hu; simp at hu; rcases hu with rfl | rfl | rfl <;> rfl
theorem DvR.cs_one (a : DvR) : ∀ u ∈ a.cs, u.oneCell' = true := by intro u hu; unfold DvR.cs at hu; simp at hu; rcases hu with rfl | rfl <;> rfl
theorem Hw.cs_len {h : Hw} (h16 : h.rt.length = 16) : h.cs.length = 18 := by unfold Hw.cs; rw [List.length_cons, List.length_cons, bvs_length, h16]
/-- The zero device. -/
def hw0 : Hw := ⟨none, 0, 0, [], none, 0, 0, [], List.replicate 16 0⟩
def zeroH : List Value := .slice none 0 0 :: .slice none 0 0 :: List.replicate 16 (.int .u8 0)
def zeroA : List Value := [.int .i64 0, .int .i64 0, .int .i64 0, .string ⟨#[]⟩]
def zeroT : List Value := [.bool false, .int .i64 0, .bool false]
def zeroR : List Value := [.int .i64 0, .string ⟨#[]⟩]
def zeroF : List Value := [.slice none 0 0]
def zeros16 : List Value := List.replicate 16 (.int .u8 0)
theorem hw0_cs : hw0.cs = zeroH := by kernel_rfl
theorem hw0_ok (w : World) : HwOK w hw0 := ⟨⟨⟨Reads.nil_, fun p hp => by cases hp⟩, Nat.le_refl _, fun p hp => by cases hp⟩, ⟨Reads.nil_, Nat.le_refl _, Nat.zero_le _, fun s hs => by cases hs⟩, rfl⟩
theorem hw0_in (X : Nat → Prop) : HwIn X hw0 := ⟨FuIn.nil_, LIn.nil_⟩
theorem zero_hw : (Try.prog.info? 64).map (fun i => i.zero.map (·.cells)) = some (some zeroH.toArray) := by kernel_rfl
theorem zero_ac : (Try.prog.info? 27).map (fun i => i.zero.map (·.cells)) = some (some zeroA.toArray) := by kernel_rfl
theorem zero_ft : (Try.prog.info? 75).map (fun i => i.zero.map (·.cells)) = some (some zeroT.toArray) := by kernel_rfl
theorem zero_rs : (Try.prog.info? 78).map (fun i => i.zero.map (·.cells)) = some (some zeroR.toArray) := by kernel_rfl
theorem zero_fu : (Try.prog.info? 40).map (fun i => i.zero.map (·.cells)) = some (some zeroF.toArray) := by kernel_rfl
theorem zero_fl : (Try.prog.info? 60).map (fun i => i.zero.map (·.cells)) = some (some zeroF.toArray) := by kernel_rfl
theorem hw_size {h : Hw} (h16 : h.rt.length = 16) : (Try.prog.info? 64).map (·.size) = some h.cs.length := by rw [Hw.cs_len h16]; kernel_rfl
theorem hw_zl {h : Hw} (h16 : h.rt.length = 16) : zeroH.length = h.cs.length := by rw [Hw.cs_len h16]; rfl
theorem b16_size (l : List UInt8) (h : l.length = 16) : (Try.prog.info? 62).map (·.size) = some (bvs l).length := by rw [bvs_length, h]; kernel_rfl
theorem b16_zeros (l : List UInt8) (h : l.length = 16) : zeros16.length = (bvs l).length := by rw [bvs_length, h]; rfl
theorem size_u8 (w : World) : (sizeOf 5).run Try.prog w = .ok 1 w := by kernel_rfl
theorem dig_guard : Try.prog.eqGuardType Try.prog.depth 62 = false := by kernel_rfl
section
variable {w w' : World} {h : Hw}
theorem HwOK.on (hk : HwOK w h) (hb : Below w.heap.size w w') : HwOK w' h := ⟨hk.1.on hb, hk.2.1.on hb, hk.2.2⟩
theorem HwOK.h16 (hk : HwOK w h) : h.rt.length = 16 := hk.2.2
theorem HwOK.sm1 (hk : HwOK w h) (hs : dvSm h.s) : h.n ≤ 100 := by rw [← hk.1.1.len, ← bk_len]; exact hs.1
theorem HwOK.sm2 (hk : HwOK w h) (hs : dvSm h.s) : ∀ p ∈ h.ps, p.n ≤ 1000 := fun p hp => by
  have := (hk.1.1.2 p hp).1.bytes_len
  rw [← this]
  exact hs.2.1 _ (List.mem_map.2 ⟨p, hp, rfl⟩)
theorem HwOK.sm3 (hk : HwOK w h) (hs : dvSm h.s) : h.m ≤ 1000000 := by rw [← hk.2.1.len]; exact hs.2.2
theorem HwIn.weak {X Y : Nat → Prop} (hx : HwIn X h) (hy : ∀ b, X b → Y b) : HwIn Y h := ⟨hx.1.weak hy, hx.2.weak hy⟩
/-- A store into a block in which nothing of the slices lies. -/
theorem Reads.apart {size n : Nat} {A : Option Addr} {xs : List Value} {X : Nat → Prop} {g : Nat} (hr : Reads w w.heap.size size A n xs) (hx : 0 < n → ∀ ad, A = some ad → X ad.block) (hg : w.grownBy w' (some g)) (hn : ¬ X g) : Reads w' w'.heap.size size A n xs :=
  ⟨hr.1, fun h0 => by
    obtain ⟨ad, e, hb, hc⟩ := hr.2 h0
    refine ⟨ad, e, Nat.lt_of_lt_of_le hb hg.size, fun j u hu => ?_⟩
    have hxa := hx h0 ad e
    exact (World.cell?_of_block (hg.block (ad.add j).block (by rw [block_of_add]; exact hb) (fun e' => by rw [block_of_add] at e'; cases e'; exact hn hxa))).trans (hc j u hu)⟩
theorem FuOK.apart {A : Option Addr} {n c : Nat} {ps : List Part} {X : Nat → Prop} {g : Nat} (hk : FuOK w A n c ps) (hx : FuIn X A n ps) (hg : w.grownBy w' (some g)) (hn : ¬ X g) : FuOK w' A n c ps :=
  ⟨⟨hk.1.1.apart hx.1 hg hn, fun p hp => ⟨(hk.1.2 p hp).1.apart (hx.2 p hp) hg hn, (hk.1.2 p hp).2⟩⟩, hk.2⟩
theorem FlOK.apart {A : Option Addr} {n c : Nat} {fs : List ByteArray} {X : Nat → Prop} {g : Nat} (hk : FlOK w A n c fs) (hx : LIn X A n) (hg : w.grownBy w' (some g)) (hn : ¬ X g) : FlOK w' A n c fs := ⟨hk.1.apart hx hg hn, hk.2⟩
theorem HwOK.apart {X : Nat → Prop} {g : Nat} (hk : HwOK w h) (hx : HwIn X h) (hg : w.grownBy w' (some g)) (hn : ¬ X g) : HwOK w' h := ⟨hk.1.apart hx.1 hg hn, hk.2.1.apart hx.2 hg hn, hk.2.2⟩
theorem FuOK.in_ {A : Option Addr} {n c : Nat} {ps : List Part} (hk : FuOK w A n c ps) : FuIn (fun b => b < w.heap.size) A n ps :=
  ⟨fun h0 ad e => by obtain ⟨ad', e', hb, _⟩ := hk.1.1.2 h0; rw [e'] at e; cases e; exact hb, fun p hp h0 ad e => by obtain ⟨ad', e', hb, _⟩ := (hk.1.2 p hp).1.2 h0; rw [e'] at e; cases e; exact hb⟩
theorem FlOK.in_ {A : Option Addr} {n c : Nat} {fs : List ByteArray} (hk : FlOK w A n c fs) : LIn (fun b => b < w.heap.size) A n := fun h0 ad e => by obtain ⟨ad', e', hb, _⟩ := hk.1.2 h0; rw [e'] at e; cases e; exact hb
theorem HwOK.in_ (hk : HwOK w h) : HwIn (fun b => b < w.heap.size) h := ⟨hk.1.in_, hk.2.1.in_⟩
theorem FuIn.and {X Y : Nat → Prop} {A : Option Addr} {n : Nat} {ps : List Part} (h : FuIn X A n ps) (k : FuIn Y A n ps) : FuIn (fun b => X b ∧ Y b) A n ps := ⟨fun h0 ad e => ⟨h.1 h0 ad e, k.1 h0 ad e⟩, fun p hp h0 ad e => ⟨h.2 p hp h0 ad e, k.2 p hp h0 ad e⟩⟩
theorem HwIn.and {X Y : Nat → Prop} (hx : HwIn X h) (hy : HwIn Y h) : HwIn (fun b => X b ∧ Y b) h := ⟨hx.1.and hy.1, fun h0 ad e => ⟨hx.2 h0 ad e, hy.2 h0 ad e⟩⟩
end
/-- A device, a result and an error come back; the device lies in blocks of X or in new ones. -/
def GivesD (X : Nat → Prop) (s : DvS) (r : DvR) (x : Int) (w : World) (e : Ending) (w' : World) : Prop :=
  ∃ h : Hw, e = .returned (.tuple #[h.v, r.v, .int .i64 x]) ∧ HwOK w' h ∧ HwIn (fun b => X b ∨ w.heap.size ≤ b) h ∧ h.s = s ∧ Below w.heap.size w w'
/-- A device and an error come back. -/
def GivesE (X : Nat → Prop) (s : DvS) (x : Int) (w : World) (e : Ending) (w' : World) : Prop :=
  ∃ h : Hw, e = .returned (.tuple #[h.v, .int .i64 x]) ∧ HwOK w' h ∧ HwIn (fun b => X b ∨ w.heap.size ≤ b) h ∧ h.s = s ∧ Below w.heap.size w w'
def GivesH (s : DvS) (w : World) (e : Ending) (w' : World) : Prop :=
  ∃ h : Hw, e = .returned h.v ∧ HwOK w' h ∧ HwIn (fun b => w.heap.size ≤ b) h ∧ h.s = s ∧ Below w.heap.size w w'

theorem Row.part {w : World} {g : Nat} {e : TypeId} {cs : List Value} (h : Row w g e cs) {pre mid post : List Value} (hcs : cs = pre ++ (mid ++ post)) {o : Nat} (ho : pre.length = o) : ∀ j u, mid[j]? = some u → w.cell? ((⟨g, o, none⟩ : Addr).add j) = some u := by
  intro j u hj
  rw [Addr.add_lit]
  refine h.cell ?_
  rw [hcs, List.getElem?_append_right (by omega), List.getElem?_append_left (by have := (List.getElem?_eq_some_iff.1 hj).1; omega), show o + j - pre.length = j by omega]
  exact hj
section
variable {ρ : Operand → Value} {o : Oper}
theorem exec_loadH (w : World) (x : Operand) (ho : o.op = .load 64 x) (g : Nat) (hx : ρ x = .pointer (some ⟨g, 0, none⟩)) (h : Hw) (h16 : h.rt.length = 16) {e : TypeId} (hr : Row w g e h.cs) :
    (execOp ρ o).run Try.prog w = .ok (.value h.v) w := exec_load w _ x ho ⟨g, 0, none⟩ hx h.cs hr.cells _ Try.underlying64 rfl (hw_size h16)
theorem exec_loadHF (w : World) (x : Operand) (ho : o.op = .load 40 x) (g : Nat) (hx : ρ x = .pointer (some ⟨g, 0, none⟩)) (h : Hw) {e : TypeId} (hr : Row w g e h.cs) :
    (execOp ρ o).run Try.prog w = .ok (.value (fuv h.A h.n h.c)) w := exec_load w _ x ho ⟨g, 0, none⟩ hx [.slice h.A h.n h.c] (Row.part hr (pre := []) rfl rfl) _ Try.underlying40 rfl (by kernel_rfl)
theorem exec_loadHL (w : World) (x : Operand) (ho : o.op = .load 60 x) (g : Nat) (hx : ρ x = .pointer (some ⟨g, 1, none⟩)) (h : Hw) {e : TypeId} (hr : Row w g e h.cs) :
    (execOp ρ o).run Try.prog w = .ok (.value (flv h.B h.m h.d)) w := exec_load w _ x ho ⟨g, 1, none⟩ hx [.slice h.B h.m h.d] (Row.part hr (pre := [.slice h.A h.n h.c]) rfl rfl) _ Try.underlying60 rfl (by kernel_rfl)
theorem exec_loadHR (w : World) (x : Operand) (ho : o.op = .load 62 x) (g : Nat) (hx : ρ x = .pointer (some ⟨g, 2, none⟩)) (h : Hw) (h16 : h.rt.length = 16) {e : TypeId} (hr : Row w g e h.cs) :
    (execOp ρ o).run Try.prog w = .ok (.value (.agg (bvs h.rt).toArray)) w := exec_load w _ x ho ⟨g, 2, none⟩ hx (bvs h.rt) (Row.part hr (pre := [.slice h.A h.n h.c, .slice h.B h.m h.d]) (post := []) (by rw [List.append_nil]; rfl) rfl) _ Try.underlying62 rfl (b16_size _ h16)
theorem exec_loadA (w : World) (x : Operand) (ho : o.op = .load 27 x) (g : Nat) (hx : ρ x = .pointer (some ⟨g, 0, none⟩)) (a : DvA) {e : TypeId} (hr : Row w g e a.cs) :
    (execOp ρ o).run Try.prog w = .ok (.value a.v) w := exec_load w _ x ho ⟨g, 0, none⟩ hx a.cs hr.cells _ Try.underlying27 rfl (by kernel_rfl)
theorem exec_loadT (w : World) (x : Operand) (ho : o.op = .load 75 x) (g : Nat) (hx : ρ x = .pointer (some ⟨g, 0, none⟩)) (a : DvF) {e : TypeId} (hr : Row w g e a.cs) :
    (execOp ρ o).run Try.prog w = .ok (.value a.v) w := exec_load w _ x ho ⟨g, 0, none⟩ hx a.cs hr.cells _ Try.underlying75 rfl (by kernel_rfl)
theorem exec_loadR (w : World) (x : Operand) (ho : o.op = .load 78 x) (g : Nat) (hx : ρ x = .pointer (some ⟨g, 0, none⟩)) (a : DvR) {e : TypeId} (hr : Row w g e a.cs) :
    (execOp ρ o).run Try.prog w = .ok (.value a.v) w := exec_load w _ x ho ⟨g, 0, none⟩ hx a.cs hr.cells _ Try.underlying78 rfl (by kernel_rfl)
theorem exec_load16 (w : World) (x : Operand) (ho : o.op = .load 62 x) (ad : Addr) (hx : ρ x = .pointer (some ad)) (d : List UInt8) (hd : d.length = 16) (hc : ∀ j u, (bvs d)[j]? = some u → w.cell? (ad.add j) = some u) :
    (execOp ρ o).run Try.prog w = .ok (.value (.agg (bvs d).toArray)) w := exec_load w _ x ho ad hx (bvs d) hc _ Try.underlying62 rfl (b16_size _ hd)
theorem exec_neq16 (w : World) (x y : Operand) (ho : o.op = .binOp .neq 62 x y 62) (xs ys : List UInt8) (hx : xs.length = 16) (hy : ys.length = 16) (h1 : ρ x = .agg (bvs xs).toArray) (h2 : ρ y = .agg (bvs ys).toArray) :
    (execOp ρ o).run Try.prog w = .ok (.value (.bool (!(xs == ys)))) w := exec_neq_bytes w _ _ 5 16 x y ho Try.underlying62 Try.underlying5 size_u8 dig_guard xs ys hx hy h1 h2
theorem exec_eql16 (w : World) (x y : Operand) (ho : o.op = .binOp .eql 62 x y 62) (xs ys : List UInt8) (hx : xs.length = 16) (hy : ys.length = 16) (h1 : ρ x = .agg (bvs xs).toArray) (h2 : ρ y = .agg (bvs ys).toArray) :
    (execOp ρ o).run Try.prog w = .ok (.value (.bool (xs == ys))) w := exec_eql_bytes w _ _ 5 16 x y ho Try.underlying62 Try.underlying5 size_u8 dig_guard xs ys hx hy h1 h2
end
end Go.Proofs.Ytfcbcclcmgheeaa

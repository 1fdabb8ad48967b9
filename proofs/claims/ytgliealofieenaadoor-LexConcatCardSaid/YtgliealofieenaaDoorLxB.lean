/-
  What strings.Builder's WriteByte, WriteString and String return: the library's contracts laid at this program. No condition.
-/
import Derived.Test.YtgliealofieenaaDoorProg
import Derived.Shelf.Strings.BuilderK
set_option linter.unusedSimpArgs false
set_option linter.unusedVariables false
namespace Go.Proofs.YtgliealofieenaaDoor
open Go.RowKit

/-- The library's numbers at this program. -/
def bldRen : Go.Shelf.Ren :=
  ⟨fun n => match n with | 166 => 24 | 167 => 23 | 169 => 25 | 240 => 31 | 276 => 32 | n => n,
   fun n => match n with | 0 => 0 | 3 => 3 | 4 => 4 | 5 => 5 | 9 => 9 | 20 => 20 | 37 => 46 | 70 => 45 | 72 => 48 | 75 => 50 | 76 => 52 | 80 => 54 | 127 => 60 | 164 => 62 | n => n, fun n => n⟩
set_option maxRecDepth 1000000 in
theorem laysWS : Lays.n166 Tryd.prog bldRen :=
  { mixed := by kernel_rfl,
    f166 := by kernel_rfl,
    f240 := by kernel_rfl,
    f276 := by kernel_rfl,
    t0 := by kernel_rfl,
    a0 := fun w => by kernel_rfl,
    z0 := fun w => by kernel_rfl,
    v0 := fun w => by kernel_rfl,
    t3 := by kernel_rfl,
    a3 := fun w => by kernel_rfl,
    z3 := fun w => by kernel_rfl,
    v3 := fun w => by kernel_rfl,
    t4 := by kernel_rfl,
    a4 := fun w => by kernel_rfl,
    z4 := fun w => by kernel_rfl,
    v4 := fun w => by kernel_rfl,
    t9 := by kernel_rfl,
    a9 := fun w => by kernel_rfl,
    z9 := fun w => by kernel_rfl,
    v9 := fun w => by kernel_rfl,
    t20 := by kernel_rfl,
    a20 := fun w => by kernel_rfl,
    z20 := fun w => by kernel_rfl,
    v20 := fun w => by kernel_rfl,
    t37 := by kernel_rfl,
    a37 := fun w => by kernel_rfl,
    z37 := fun w => by kernel_rfl,
    v37 := fun w => by kernel_rfl,
    t70 := by kernel_rfl,
    a70 := fun w => by kernel_rfl,
    z70 := fun w => by kernel_rfl,
    v70 := fun w => by kernel_rfl,
    t72 := by kernel_rfl,
    a72 := fun w => by kernel_rfl,
    z72 := fun w => by kernel_rfl,
    v72 := fun w => by kernel_rfl,
    t75 := by kernel_rfl,
    a75 := fun w => by kernel_rfl,
    z75 := fun w => by kernel_rfl,
    v75 := fun w => by kernel_rfl,
    t164 := by kernel_rfl,
    a164 := fun w => by kernel_rfl,
    z164 := fun w => by kernel_rfl,
    v164 := fun w => by kernel_rfl }
set_option maxRecDepth 1000000 in
theorem laysWB : Lays.n167 Tryd.prog bldRen :=
  { mixed := by kernel_rfl,
    f167 := by kernel_rfl,
    f240 := by kernel_rfl,
    f276 := by kernel_rfl,
    t0 := by kernel_rfl,
    a0 := fun w => by kernel_rfl,
    z0 := fun w => by kernel_rfl,
    v0 := fun w => by kernel_rfl,
    t4 := by kernel_rfl,
    a4 := fun w => by kernel_rfl,
    z4 := fun w => by kernel_rfl,
    v4 := fun w => by kernel_rfl,
    t5 := by kernel_rfl,
    a5 := fun w => by kernel_rfl,
    z5 := fun w => by kernel_rfl,
    v5 := fun w => by kernel_rfl,
    t9 := by kernel_rfl,
    a9 := fun w => by kernel_rfl,
    z9 := fun w => by kernel_rfl,
    v9 := fun w => by kernel_rfl,
    t20 := by kernel_rfl,
    a20 := fun w => by kernel_rfl,
    z20 := fun w => by kernel_rfl,
    v20 := fun w => by kernel_rfl,
    t37 := by kernel_rfl,
    a37 := fun w => by kernel_rfl,
    z37 := fun w => by kernel_rfl,
    v37 := fun w => by kernel_rfl,
    t70 := by kernel_rfl,
    a70 := fun w => by kernel_rfl,
    z70 := fun w => by kernel_rfl,
    v70 := fun w => by kernel_rfl,
    t72 := by kernel_rfl,
    a72 := fun w => by kernel_rfl,
    z72 := fun w => by kernel_rfl,
    v72 := fun w => by kernel_rfl,
    t75 := by kernel_rfl,
    a75 := fun w => by kernel_rfl,
    z75 := fun w => by kernel_rfl,
    v75 := fun w => by kernel_rfl,
    t164 := by kernel_rfl,
    a164 := fun w => by kernel_rfl,
    z164 := fun w => by kernel_rfl,
    v164 := fun w => by kernel_rfl }
set_option maxRecDepth 1000000 in
theorem laysSt : Lays.n169 Tryd.prog bldRen :=
  { mixed := by kernel_rfl,
    f169 := by kernel_rfl,
    t0 := by kernel_rfl,
    a0 := fun w => by kernel_rfl,
    z0 := fun w => by kernel_rfl,
    v0 := fun w => by kernel_rfl,
    t3 := by kernel_rfl,
    a3 := fun w => by kernel_rfl,
    z3 := fun w => by kernel_rfl,
    v3 := fun w => by kernel_rfl,
    t9 := by kernel_rfl,
    a9 := fun w => by kernel_rfl,
    z9 := fun w => by kernel_rfl,
    v9 := fun w => by kernel_rfl,
    t37 := by kernel_rfl,
    a37 := fun w => by kernel_rfl,
    z37 := fun w => by kernel_rfl,
    v37 := fun w => by kernel_rfl,
    t70 := by kernel_rfl,
    a70 := fun w => by kernel_rfl,
    z70 := fun w => by kernel_rfl,
    v70 := fun w => by kernel_rfl,
    t72 := by kernel_rfl,
    a72 := fun w => by kernel_rfl,
    z72 := fun w => by kernel_rfl,
    v72 := fun w => by kernel_rfl,
    t127 := by kernel_rfl,
    a127 := fun w => by kernel_rfl,
    z127 := fun w => by kernel_rfl,
    v127 := fun w => by kernel_rfl }
set_option maxRecDepth 1000000 in
theorem extraBld : Builder.Extra Tryd.prog bldRen :=
  { sizeBuilder := by kernel_rfl, liesBuilder := by kernel_rfl, t5 := by kernel_rfl, a5 := fun w => by kernel_rfl, z5 := fun w => by kernel_rfl, v5 := fun w => by kernel_rfl, infoByte := by kernel_rfl, cellsByte := by kernel_rfl, sizeByte := by kernel_rfl, neB5 := by decide }
def IsBld (B b : Nat) (l : List UInt8) (w : World) : Prop := Lib.IsBuilderF 48 5 B b (Lib.byteCells l) w
/-- What is neither the builder nor bytes stands. -/
def BldKept (b : Nat) (w w' : World) : Prop := Lib.OthersKept 5 (some b) w w'
theorem bld_below1 {T e : TypeId} {B b : Nat} {p : Value} {bs : List Value} {W W' : World} (h : Lib.BuilderAtF T e B b p bs W) (hb : Below W.heap.size W W') : Lib.BuilderAtF T e B b p bs W' := by
  have hlt := h.lt
  obtain ⟨hB, v, hv, hown, hne⟩ := h
  exact ⟨hB, v, (hb.block b hlt).trans hv, hown.kept (row := none) ⟨hb.os, hb.tape, hb.output, hb.size, fun k hk _ => hb.block k hk⟩ (Classical.em _), hne⟩
theorem IsBld.on {B b : Nat} {l : List UInt8} {w w' : World} (h : IsBld B b l w) (hb : Below w.heap.size w w') : IsBld B b l w' :=
  h.elim (fun x => .inl (bld_below1 x hb)) (fun x => .inr (bld_below1 x hb))
theorem IsBld.lt {B b : Nat} {l : List UInt8} {w : World} (h : IsBld B b l w) : b < w.heap.size := h.elim (fun x => x.lt) (fun x => x.lt)
theorem bld_fresh (w : World) : IsBld w.heap.size w.heap.size [] (w.alloc (.cells #[.pointer none, .slice none 0 0] 48)) := Lib.IsBuilderF.of (Lib.fresh_isBuilder _ _ w)
theorem wbyte_any (B b : Nat) (l : List UInt8) (x : UInt8) (w : World) (h : IsBld B b l w) (hl : l.length ≤ 100000000) (hB : B ≤ w.heap.size) :
    Calls Tryd.prog 23 #[.pointer (some ⟨b, 0, none⟩), .int .u8 (x.toNat : Int)] w fun e w' => e = .returned .nilIface ∧ IsBld B b (l ++ [x]) w' ∧ Below B w w' ∧ BldKept b w w' := by
  refine (Any.Builder_WriteByte_k laysWB extraBld B b (Lib.byteCells l) (x.toNat : Int) w h (by rw [Lib.byteCells_length]; omega) hB).mono ?_
  rintro e w' ⟨rfl, h1, h2, h3⟩
  exact ⟨rfl, .inr (by rw [Lib.byteCells_append]; exact h1), h2, h3⟩
theorem wstr_any (B b : Nat) (l : List UInt8) (s : ByteArray) (w : World) (h : IsBld B b l w) (hl : l.length + s.size ≤ 100000000) (hB : B ≤ w.heap.size) :
    Calls Tryd.prog 24 #[.pointer (some ⟨b, 0, none⟩), .string s] w fun e w' => ∃ v, e = .returned v ∧ IsBld B b (l ++ s.data.toList) w' ∧ Below B w w' ∧ BldKept b w w' := by
  refine (Any.Builder_WriteString_k laysWS extraBld B b (Lib.byteCells l) s w h (by rw [Lib.byteCells_length]; omega) hB).mono ?_
  rintro e w' ⟨rfl, h1, h2, h3⟩
  exact ⟨_, rfl, .inr (by rw [Lib.byteCells_append]; exact h1), h2, h3⟩
theorem bstr_any (B b : Nat) (l : List UInt8) (w : World) (h : IsBld B b l w) (hB : B ≤ w.heap.size) :
    Calls Tryd.prog 25 #[.pointer (some ⟨b, 0, none⟩)] w fun e w' => e = .returned (.string ⟨l.toArray⟩) ∧ Below B w w' :=
  (Any.Builder_String_any_k laysSt extraBld B b l w h hB).mono fun _ _ ⟨he, _, h2, _⟩ => ⟨he, h2⟩
end Go.Proofs.YtgliealofieenaaDoor

/-
  What strings.Repeat returns at 256 zero bytes: the library's contract laid at this program. No condition.
-/
import Derived.Test.YtkepmhkakkkliaaFlK
import Derived.Shelf.Strings.Repeat
namespace Go.Proofs.Ytkepmhkakkkliaa
open Go.RowKit

/-- The library's numbers at this program. -/
def repRen : Go.Shelf.Ren :=
  ⟨fun n => match n with | 99 => 56 | 105 => 44 | 165 => 57 | 166 => 58 | 169 => 60 | 170 => 59 | 206 => 68 | 212 => 55 | 240 => 69 | 241 => 70 | 263 => 66 | 264 => 67 | 276 => 75 | 277 => 76 | n => n,
   fun n => match n with | 0 => 0 | 3 => 3 | 4 => 4 | 5 => 5 | 9 => 9 | 20 => 20 | 37 => 56 | 46 => 92 | 51 => 107 | 53 => 110 | 70 => 96 | 72 => 98 | 75 => 101 | 76 => 102 | 80 => 105 | 109 => 93 | 127 => 113 | 146 => 108 | 148 => 111 | 164 => 119 | n => n, fun n => n⟩
set_option maxRecDepth 1000000 in
theorem laysRep : Lays.n105 Try.prog repRen :=
  { mixed := by kernel_rfl,
    f99 := by kernel_rfl,
    f105 := by kernel_rfl,
    f165 := by kernel_rfl,
    f166 := by kernel_rfl,
    f169 := by kernel_rfl,
    f170 := by kernel_rfl,
    f206 := by kernel_rfl,
    f212 := by kernel_rfl,
    f240 := by kernel_rfl,
    f241 := by kernel_rfl,
    f263 := by kernel_rfl,
    f264 := by kernel_rfl,
    f276 := by kernel_rfl,
    f277 := by kernel_rfl,
    t0 := by kernel_rfl,
    a0 := fun w => by kernel_rfl,
    z0 := fun w => by kernel_rfl,
    v0 := fun w => by kernel_rfl,
    t3 := by kernel_rfl,
    a3 := fun w => by kernel_rfl,
    z3 := fun w => by kernel_rfl,
    v3 := fun w => by kernel_rfl,
    t4 := by kernel_rfl,
    a4 := fun w => by kernel_rfl,
    z4 := fun w => by kernel_rfl,
    v4 := fun w => by kernel_rfl,
    t5 := by kernel_rfl,
    a5 := fun w => by kernel_rfl,
    z5 := fun w => by kernel_rfl,
    v5 := fun w => by kernel_rfl,
    t9 := by kernel_rfl,
    a9 := fun w => by kernel_rfl,
    z9 := fun w => by kernel_rfl,
    v9 := fun w => by kernel_rfl,
    t20 := by kernel_rfl,
    a20 := fun w => by kernel_rfl,
    z20 := fun w => by kernel_rfl,
    v20 := fun w => by kernel_rfl,
    t37 := by kernel_rfl,
    a37 := fun w => by kernel_rfl,
    z37 := fun w => by kernel_rfl,
    v37 := fun w => by kernel_rfl,
    t46 := by kernel_rfl,
    a46 := fun w => by kernel_rfl,
    z46 := fun w => by kernel_rfl,
    v46 := fun w => by kernel_rfl,
    t51 := by kernel_rfl,
    a51 := fun w => by kernel_rfl,
    z51 := fun w => by kernel_rfl,
    v51 := fun w => by kernel_rfl,
    t53 := by kernel_rfl,
    a53 := fun w => by kernel_rfl,
    z53 := fun w => by kernel_rfl,
    v53 := fun w => by kernel_rfl,
    t70 := by kernel_rfl,
    a70 := fun w => by kernel_rfl,
    z70 := fun w => by kernel_rfl,
    v70 := fun w => by kernel_rfl,
    t72 := by kernel_rfl,
    a72 := fun w => by kernel_rfl,
    z72 := fun w => by kernel_rfl,
    v72 := fun w => by kernel_rfl,
    t75 := by kernel_rfl,
    a75 := fun w => by kernel_rfl,
    z75 := fun w => by kernel_rfl,
    v75 := fun w => by kernel_rfl,
    t76 := by kernel_rfl,
    a76 := fun w => by kernel_rfl,
    z76 := fun w => by kernel_rfl,
    v76 := fun w => by kernel_rfl,
    t109 := by kernel_rfl,
    a109 := fun w => by kernel_rfl,
    z109 := fun w => by kernel_rfl,
    v109 := fun w => by kernel_rfl,
    t127 := by kernel_rfl,
    a127 := fun w => by kernel_rfl,
    z127 := fun w => by kernel_rfl,
    v127 := fun w => by kernel_rfl,
    t146 := by kernel_rfl,
    a146 := fun w => by kernel_rfl,
    z146 := fun w => by kernel_rfl,
    v146 := fun w => by kernel_rfl,
    t148 := by kernel_rfl,
    a148 := fun w => by kernel_rfl,
    z148 := fun w => by kernel_rfl,
    v148 := fun w => by kernel_rfl,
    t164 := by kernel_rfl,
    a164 := fun w => by kernel_rfl,
    z164 := fun w => by kernel_rfl,
    v164 := fun w => by kernel_rfl }
set_option maxRecDepth 1000000 in
theorem extraRep : Builder.Extra Try.prog repRen :=
  { sizeBuilder := by kernel_rfl, liesBuilder := by kernel_rfl, t5 := by kernel_rfl, a5 := fun w => by kernel_rfl, z5 := fun w => by kernel_rfl, v5 := fun w => by kernel_rfl, infoByte := by kernel_rfl, cellsByte := by kernel_rfl, sizeByte := by kernel_rfl, neB5 := by decide }
theorem zeros_any (w : World) : Calls Try.prog 44 #[.string ⟨#[0]⟩, .int .i64 256] w (TellsS (fullS 0) w) := by
  refine (Any.strings_Repeat laysRep extraRep ⟨#[0]⟩ 256 w (by omega) (by decide)).mono ?_
  rintro e w' ⟨rfl, h⟩
  refine ⟨?_, h⟩
  have e1 : Lib.repeatL [0] 256 = List.replicate 256 0 := Lib.repeatL_replicate 0 1 256
  rw [show (ByteArray.mk #[(0 : UInt8)]).data.toList = [0] from rfl, e1]
  rfl
end Go.Proofs.Ytkepmhkakkkliaa

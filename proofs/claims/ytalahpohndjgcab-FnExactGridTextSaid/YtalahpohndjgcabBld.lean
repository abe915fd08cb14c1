/- strings.Builder's WriteByte and String at this program. -/
import Derived.Shelf.Strings.Builder1
import Derived.Test.YtalahpohndjgcabImplL
namespace Go.Proofs.Ytalahpohndjgcab
open Go.RowKit
set_option linter.unusedVariables false

def lays167_ren : Go.Shelf.Ren := ⟨fun | 167 => 81 | 240 => 86 | 276 => 87 | n => n, fun | 0 => 0 | 4 => 4 | 5 => 5 | 9 => 9 | 20 => 20 | 37 => 65 | 70 => 66 | 72 => 68 | 75 => 70 | 164 => 75 | 80 => 60 | n => n, fun n => n⟩
theorem lays167 : Lays.n167 Try.prog lays167_ren := {
  mixed := by kernel_rfl,
  f167 := Try.func81.trans (congrArg some (by kernel_rfl)),
  f240 := Try.func86.trans (congrArg some (by kernel_rfl)),
  f276 := Try.func87.trans (congrArg some (by kernel_rfl)),
  t0 := Try.underlying0,
  a0 := Try.isAgg0,
  z0 := Try.sizeOf0,
  v0 := Try.zeroValue0,
  t4 := Try.underlying4,
  a4 := Try.isAgg4,
  z4 := Try.sizeOf4,
  v4 := Try.zeroValue4,
  t5 := Try.underlying5,
  a5 := Try.isAgg5,
  z5 := Try.sizeOf5,
  v5 := Try.zeroValue5,
  t9 := Try.underlying9,
  a9 := Try.isAgg9,
  z9 := Try.sizeOf9,
  v9 := Try.zeroValue9,
  t20 := Try.underlying20,
  a20 := Try.isAgg20,
  z20 := Try.sizeOf20,
  v20 := Try.zeroValue20,
  t37 := Try.underlying65,
  a37 := Try.isAgg65,
  z37 := Try.sizeOf65,
  v37 := Try.zeroValue65,
  t70 := Try.underlying66,
  a70 := Try.isAgg66,
  z70 := Try.sizeOf66,
  v70 := Try.zeroValue66,
  t72 := Try.underlying68,
  a72 := Try.isAgg68,
  z72 := Try.sizeOf68,
  v72 := Try.zeroValue68,
  t75 := Try.underlying70,
  a75 := Try.isAgg70,
  z75 := Try.sizeOf70,
  v75 := Try.zeroValue70,
  t164 := Try.underlying75,
  a164 := Try.isAgg75,
  z164 := Try.sizeOf75,
  v164 := Try.zeroValue75 }
theorem builderExtra167 : Builder.Extra Try.prog lays167_ren := {
  sizeBuilder := by kernel_rfl,
  liesBuilder := by kernel_rfl,
  t5 := Try.underlying5,
  a5 := Try.isAgg5,
  z5 := Try.sizeOf5,
  v5 := Try.zeroValue5,
  infoByte := by kernel_rfl,
  cellsByte := by kernel_rfl,
  sizeByte := by kernel_rfl,
  neB5 := by decide }

def lays169_ren : Go.Shelf.Ren := ⟨fun | 169 => 82 | n => n, fun | 0 => 0 | 3 => 3 | 9 => 9 | 37 => 65 | 70 => 66 | 72 => 68 | 127 => 74 | 5 => 5 | n => n, fun n => n⟩
theorem lays169 : Lays.n169 Try.prog lays169_ren := {
  mixed := by kernel_rfl,
  f169 := Try.func82.trans (congrArg some (by kernel_rfl)),
  t0 := Try.underlying0,
  a0 := Try.isAgg0,
  z0 := Try.sizeOf0,
  v0 := Try.zeroValue0,
  t3 := Try.underlying3,
  a3 := Try.isAgg3,
  z3 := Try.sizeOf3,
  v3 := Try.zeroValue3,
  t9 := Try.underlying9,
  a9 := Try.isAgg9,
  z9 := Try.sizeOf9,
  v9 := Try.zeroValue9,
  t37 := Try.underlying65,
  a37 := Try.isAgg65,
  z37 := Try.sizeOf65,
  v37 := Try.zeroValue65,
  t70 := Try.underlying66,
  a70 := Try.isAgg66,
  z70 := Try.sizeOf66,
  v70 := Try.zeroValue66,
  t72 := Try.underlying68,
  a72 := Try.isAgg68,
  z72 := Try.sizeOf68,
  v72 := Try.zeroValue68,
  t127 := Try.underlying74,
  a127 := Try.isAgg74,
  z127 := Try.sizeOf74,
  v127 := Try.zeroValue74 }
theorem builderExtra169 : Builder.Extra Try.prog lays169_ren := {
  sizeBuilder := by kernel_rfl,
  liesBuilder := by kernel_rfl,
  t5 := Try.underlying5,
  a5 := Try.isAgg5,
  z5 := Try.sizeOf5,
  v5 := Try.zeroValue5,
  infoByte := by kernel_rfl,
  cellsByte := by kernel_rfl,
  sizeByte := by kernel_rfl,
  neB5 := by decide }

theorem writeByte_any (B b : Nat) (bs : List Value) (c : Int) (w : World) (h : Lib.IsBuilder 68 5 B b bs w) (hlen : bs.length + 1 ≤ 140737488355328) (hBw : B ≤ w.heap.size) :
    Calls Try.prog 81 #[.pointer (some ⟨b, 0, none⟩), .int .u8 c] w fun e w' => e = .returned .nilIface ∧ (Lib.BuilderAt 68 5 B b (.pointer (some ⟨b, 0, none⟩)) (bs ++ [.int .u8 c]) w' ∧ Below B w w') :=
  Any.Builder_WriteByte lays167 builderExtra167 B b bs c w h hlen hBw

theorem string_any (B b : Nat) (l : List UInt8) (w : World) (h : Lib.IsBuilder 68 5 B b (Lib.byteCells l) w) (hBw : B ≤ w.heap.size) :
    Calls Try.prog 82 #[.pointer (some ⟨b, 0, none⟩)] w fun e w' => e = .returned (.string ⟨l.toArray⟩) ∧ Below B w w' :=
  Any.Builder_String_any lays169 builderExtra169 B b l w h hBw

end Go.Proofs.Ytalahpohndjgcab

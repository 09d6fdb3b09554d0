/- The library's contracts that this claim uses, laid at this program: each is one application of a theorem of the library. -/
import Derived.Shelf.Strings.Builder1
import Derived.Shelf.Strings.Trim
import Derived.Shelf.Small.Utf8
import Derived.Shelf.Small.Strs
import Derived.Shelf.Strings.BuilderF
import Derived.Shelf.Strings.BuilderK
import Derived.Shelf.Strings.BuilderRune
import Derived.Shelf.Utf8.AppendRune
import Derived.Shelf.Utf8.AppendRunePlain
import Derived.Shelf.Strings.Search1
import Derived.Shelf.Unicode.Decode
import Derived.Shelf.Strings.Runes
import Derived.Shelf.Strings.AsciiSet
import Derived.Shelf.Bits.Mul64
import Derived.Shelf.Unicode.DecodeSlow
import Derived.Shelf.Unicode.DecodeAny
import Derived.Shelf.Unicode.DecodeLast
import Derived.Shelf.Strings.BuilderCap
import Derived.Shelf.Slices.Equal
import Derived.Shelf.Slices.Empties2
import Derived.Test.YtinhmklpnkikgaaDoorProg
import Derived.Test.YtinhmklpnkikgaaDoorPartD
import Derived.Laws.MakeOwn
import Derived.Deep.RegionLaw
import Derived.Lib.LaidU8
import Derived.Deep.Strs
import Derived.Deep.Slices
import Derived.ChangeSlices
import Derived.SizedLaws
import Derived.Lib.SmallJoins
import Derived.Lib.Small
import Derived.Laws.ResultCell
import Derived.BigQuiet
import Derived.Deep.MidRow
import Derived.Lib.OthersKept
namespace Go.Proofs
open Go.Shelf
def Tryd.lays169_ren : Go.Shelf.Ren := ⟨fun | 169 => 52 | n => n, fun | 70 => 78 | 9 => 9 | 0 => 0 | 72 => 81 | 37 => 79 | 127 => 105 | 3 => 3 | 5 => 5 | n => n, fun | n => n⟩
theorem Tryd.lays169 : Go.Proofs.Lays.n169 Tryd.prog Tryd.lays169_ren := {
  mixed := by kernel_rfl
  f169 := Tryd.func52.trans (congrArg some (by kernel_rfl))
  t0 := Tryd.underlying0
  a0 := Tryd.isAgg0
  z0 := Tryd.sizeOf0
  v0 := Tryd.zeroValue0
  t3 := Tryd.underlying3
  a3 := Tryd.isAgg3
  z3 := Tryd.sizeOf3
  v3 := Tryd.zeroValue3
  t9 := Tryd.underlying9
  a9 := Tryd.isAgg9
  z9 := Tryd.sizeOf9
  v9 := Tryd.zeroValue9
  t37 := Tryd.underlying79
  a37 := Tryd.isAgg79
  z37 := Tryd.sizeOf79
  v37 := Tryd.zeroValue79
  t70 := Tryd.underlying78
  a70 := Tryd.isAgg78
  z70 := Tryd.sizeOf78
  v70 := Tryd.zeroValue78
  t72 := Tryd.underlying81
  a72 := Tryd.isAgg81
  z72 := Tryd.sizeOf81
  v72 := Tryd.zeroValue81
  t127 := Tryd.underlying105
  a127 := Tryd.isAgg105
  z127 := Tryd.sizeOf105
  v127 := Tryd.zeroValue105 }
theorem Tryd.Builder_Extra_169 : Builder.Extra Tryd.prog Tryd.lays169_ren := {
  sizeBuilder := by kernel_rfl
  liesBuilder := by kernel_rfl
  t5 := Tryd.underlying5
  a5 := Tryd.isAgg5
  z5 := Tryd.sizeOf5
  v5 := Tryd.zeroValue5
  infoByte := by kernel_rfl
  cellsByte := by kernel_rfl
  sizeByte := by kernel_rfl
  neB5 := by decide }
open Go.RowKit in
theorem Tryd.Builder_String (B b : Nat) (l : List UInt8) (w : World) (h : Lib.IsBuilder 81 5 B b (Lib.byteCells l) w) (h0 : l ≠ []) :
    Calls Tryd.prog 52 #[.pointer (some ⟨b, 0, none⟩)] w fun e w' => e = .returned (.string ⟨l.toArray⟩) ∧ Below B w w' := Any.Builder_String Tryd.lays169 Tryd.Builder_Extra_169 B b l w h h0
open Go.RowKit in
theorem Tryd.Builder_String_empty (B b : Nat) (w : World) (h : Lib.IsBuilder 81 5 B b [] w) (hBw : B ≤ w.heap.size) :
    Calls Tryd.prog 52 #[.pointer (some ⟨b, 0, none⟩)] w fun e w' => e = .returned (.string ⟨#[]⟩) ∧ Below B w w' := Any.Builder_String_empty Tryd.lays169 Tryd.Builder_Extra_169 B b w h hBw
open Go.RowKit in
theorem Tryd.Builder_String_any (B b : Nat) (l : List UInt8) (w : World) (h : Lib.IsBuilder 81 5 B b (Lib.byteCells l) w) (hBw : B ≤ w.heap.size) :
    Calls Tryd.prog 52 #[.pointer (some ⟨b, 0, none⟩)] w fun e w' => e = .returned (.string ⟨l.toArray⟩) ∧ Below B w w' := Any.Builder_String_any Tryd.lays169 Tryd.Builder_Extra_169 B b l w h hBw
def Tryd.lays232_ren : Go.Shelf.Ren := ⟨fun | 232 => 60 | n => n, fun | 9 => 9 | 5 => 5 | 3 => 3 | 4 => 4 | n => n, fun | n => n⟩
theorem Tryd.lays232 : Go.Proofs.Lays.n232 Tryd.prog Tryd.lays232_ren := {
  mixed := by kernel_rfl
  f232 := Tryd.func60.trans (congrArg some (by kernel_rfl))
  t3 := Tryd.underlying3
  a3 := Tryd.isAgg3
  z3 := Tryd.sizeOf3
  v3 := Tryd.zeroValue3
  t4 := Tryd.underlying4
  a4 := Tryd.isAgg4
  z4 := Tryd.sizeOf4
  v4 := Tryd.zeroValue4
  t5 := Tryd.underlying5
  a5 := Tryd.isAgg5
  z5 := Tryd.sizeOf5
  v5 := Tryd.zeroValue5
  t9 := Tryd.underlying9
  a9 := Tryd.isAgg9
  z9 := Tryd.sizeOf9
  v9 := Tryd.zeroValue9 }
open Go.RowKit in
theorem Tryd.strings_trimRightByte (s : ByteArray) (c : UInt8) (w : World) (hs : s.size ≤ 9223372036854775807) :
    Calls Tryd.prog 60 #[.string s, .int .u8 c.toNat] w fun e w' => e = .returned (.string ⟨(Lib.trimRightB s.data.toList c).toArray⟩) ∧ w' = w := Any.strings_trimRightByte Tryd.lays232 s c w hs
def Tryd.lays162_ren : Go.Shelf.Ren := ⟨fun | 162 => 51 | 232 => 60 | 227 => 61 | 234 => 62 | 236 => 63 | 228 => 68 | 271 => 69 | 151 => 70 | 120 => 71 | 197 => 72 | 152 => 73 | 260 => 74 | 137 => 75 | 119 => 76 | 224 => 77 | 225 => 78 | 217 => 79 | 266 => 80 | n => n, fun | 9 => 9 | 4 => 4 | 3 => 3 | 5 => 5 | 117 => 101 | 116 => 100 | 0 => 0 | 124 => 104 | 21 => 21 | 105 => 115 | 46 => 89 | 119 => 122 | 139 => 125 | 138 => 124 | n => n, fun | 3 => 1 | 4 => 2 | n => n⟩
theorem Tryd.lays162 : Go.Proofs.Lays.n162 Tryd.prog Tryd.lays162_ren := {
  mixed := by kernel_rfl
  f119 := Tryd.func76.trans (congrArg some (by kernel_rfl))
  f120 := Tryd.func71.trans (congrArg some (by kernel_rfl))
  f137 := Tryd.func75.trans (congrArg some (by kernel_rfl))
  f151 := Tryd.func70.trans (congrArg some (by kernel_rfl))
  f152 := Tryd.func73.trans (congrArg some (by kernel_rfl))
  f162 := Tryd.func51.trans (congrArg some (by kernel_rfl))
  f197 := Tryd.func72.trans (congrArg some (by kernel_rfl))
  f217 := Tryd.func79.trans (congrArg some (by kernel_rfl))
  f224 := Tryd.func77.trans (congrArg some (by kernel_rfl))
  f225 := Tryd.func78.trans (congrArg some (by kernel_rfl))
  f227 := Tryd.func61.trans (congrArg some (by kernel_rfl))
  f228 := Tryd.func68.trans (congrArg some (by kernel_rfl))
  f232 := Tryd.func60.trans (congrArg some (by kernel_rfl))
  f234 := Tryd.func62.trans (congrArg some (by kernel_rfl))
  f236 := Tryd.func63.trans (congrArg some (by kernel_rfl))
  f260 := Tryd.func74.trans (congrArg some (by kernel_rfl))
  f266 := Tryd.func80.trans (congrArg some (by kernel_rfl))
  f271 := Tryd.func69.trans (congrArg some (by kernel_rfl))
  t0 := Tryd.underlying0
  a0 := Tryd.isAgg0
  z0 := Tryd.sizeOf0
  v0 := Tryd.zeroValue0
  t3 := Tryd.underlying3
  a3 := Tryd.isAgg3
  z3 := Tryd.sizeOf3
  v3 := Tryd.zeroValue3
  t4 := Tryd.underlying4
  a4 := Tryd.isAgg4
  z4 := Tryd.sizeOf4
  v4 := Tryd.zeroValue4
  t5 := Tryd.underlying5
  a5 := Tryd.isAgg5
  z5 := Tryd.sizeOf5
  v5 := Tryd.zeroValue5
  t9 := Tryd.underlying9
  a9 := Tryd.isAgg9
  z9 := Tryd.sizeOf9
  v9 := Tryd.zeroValue9
  t21 := Tryd.underlying21
  a21 := Tryd.isAgg21
  z21 := Tryd.sizeOf21
  v21 := Tryd.zeroValue21
  t46 := Tryd.underlying89
  a46 := Tryd.isAgg89
  z46 := Tryd.sizeOf89
  v46 := Tryd.zeroValue89
  t105 := Tryd.underlying115
  a105 := Tryd.isAgg115
  z105 := Tryd.sizeOf115
  v105 := Tryd.zeroValue115
  t116 := Tryd.underlying100
  a116 := Tryd.isAgg100
  z116 := Tryd.sizeOf100
  t117 := Tryd.underlying101
  a117 := Tryd.isAgg101
  z117 := Tryd.sizeOf101
  v117 := Tryd.zeroValue101
  t119 := Tryd.underlying122
  a119 := Tryd.isAgg122
  z119 := Tryd.sizeOf122
  t124 := Tryd.underlying104
  a124 := Tryd.isAgg104
  z124 := Tryd.sizeOf104
  v124 := Tryd.zeroValue104
  t138 := Tryd.underlying124
  a138 := Tryd.isAgg124
  z138 := Tryd.sizeOf124
  v138 := Tryd.zeroValue124
  t139 := Tryd.underlying125
  a139 := Tryd.isAgg125
  z139 := Tryd.sizeOf125
  v139 := Tryd.zeroValue125
  g3 := by kernel_rfl
  g4 := by kernel_rfl }
open Go.RowKit in
theorem Tryd.strings_TrimRight_one (s : ByteArray) (c : UInt8) (hc : c.toNat < 128) (w : World) (hs : s.size ≤ 9223372036854775807) :
    Calls Tryd.prog 51 #[.string s, .string ⟨#[c]⟩] w fun e w' => e = .returned (.string ⟨(Lib.trimRightB s.data.toList c).toArray⟩) ∧ w' = w := Any.strings_TrimRight_one Tryd.lays162 s c hc w hs
def Tryd.lays119_ren : Go.Shelf.Ren := ⟨fun | 119 => 76 | n => n, fun | 21 => 21 | 4 => 4 | n => n, fun | n => n⟩
theorem Tryd.lays119 : Go.Proofs.Lays.n119 Tryd.prog Tryd.lays119_ren := {
  mixed := by kernel_rfl
  f119 := Tryd.func76.trans (congrArg some (by kernel_rfl))
  t4 := Tryd.underlying4
  a4 := Tryd.isAgg4
  z4 := Tryd.sizeOf4
  v4 := Tryd.zeroValue4
  t21 := Tryd.underlying21
  a21 := Tryd.isAgg21
  z21 := Tryd.sizeOf21
  v21 := Tryd.zeroValue21 }
theorem Tryd.utf8_ValidRune (r : Int) (w : World) :
    Calls Tryd.prog 76 #[.int .i32 r] w fun e w' => e = .returned (.bool (Lib.validRune r)) ∧ w' = w := Any.utf8_ValidRune Tryd.lays119 r w
def Tryd.lays120_ren : Go.Shelf.Ren := ⟨fun | 120 => 71 | n => n, fun | 5 => 5 | 4 => 4 | n => n, fun | n => n⟩
theorem Tryd.lays120 : Go.Proofs.Lays.n120 Tryd.prog Tryd.lays120_ren := {
  mixed := by kernel_rfl
  f120 := Tryd.func71.trans (congrArg some (by kernel_rfl))
  t4 := Tryd.underlying4
  a4 := Tryd.isAgg4
  z4 := Tryd.sizeOf4
  v4 := Tryd.zeroValue4
  t5 := Tryd.underlying5
  a5 := Tryd.isAgg5
  z5 := Tryd.sizeOf5
  v5 := Tryd.zeroValue5 }
theorem Tryd.utf8_RuneStart (b : Int) (w : World) (h0 : 0 ≤ b) (h1 : b < 256) :
    Calls Tryd.prog 71 #[.int .u8 b] w fun e w' => e = .returned (.bool (Lib.runeStart b)) ∧ w' = w := Any.utf8_RuneStart Tryd.lays120 b w h0 h1
def Tryd.lays137_ren : Go.Shelf.Ren := ⟨fun | 137 => 75 | 217 => 79 | 266 => 80 | n => n, fun | 9 => 9 | 5 => 5 | 3 => 3 | n => n, fun | n => n⟩
theorem Tryd.lays137 : Go.Proofs.Lays.n137 Tryd.prog Tryd.lays137_ren := {
  mixed := by kernel_rfl
  f137 := Tryd.func75.trans (congrArg some (by kernel_rfl))
  f217 := Tryd.func79.trans (congrArg some (by kernel_rfl))
  f266 := Tryd.func80.trans (congrArg some (by kernel_rfl))
  t3 := Tryd.underlying3
  a3 := Tryd.isAgg3
  z3 := Tryd.sizeOf3
  v3 := Tryd.zeroValue3
  t5 := Tryd.underlying5
  a5 := Tryd.isAgg5
  z5 := Tryd.sizeOf5
  v5 := Tryd.zeroValue5
  t9 := Tryd.underlying9
  a9 := Tryd.isAgg9
  z9 := Tryd.sizeOf9
  v9 := Tryd.zeroValue9 }
open Go.RowKit in
theorem Tryd.strings_IndexByte (s : ByteArray) (c : Int) (w : World) :
    Calls Tryd.prog 75 #[.string s, .int .u8 c] w fun e w' => e = .returned (.int .i64 (Lib.indexByte s.data.toList c.toNat.toUInt8)) ∧ w' = w := Any.strings_IndexByte Tryd.lays137 s c w
open Go.RowKit in
theorem Tryd.Builder_String_f (B b : Nat) (l : List UInt8) (w : World) (h : Lib.IsBuilderF 81 5 B b (Lib.byteCells l) w) (h0 : l ≠ []) :
    Calls Tryd.prog 52 #[.pointer (some ⟨b, 0, none⟩)] w fun e w' => e = .returned (.string ⟨l.toArray⟩) ∧ (Lib.IsBuilderF 81 5 B b (Lib.byteCells l) w' ∧ Below B w w') := Any.Builder_String_f Tryd.lays169 Tryd.Builder_Extra_169 B b l w h h0
open Go.RowKit in
theorem Tryd.Builder_String_empty_f (B b : Nat) (w : World) (h : Lib.IsBuilderF 81 5 B b [] w) (hBw : B ≤ w.heap.size) :
    Calls Tryd.prog 52 #[.pointer (some ⟨b, 0, none⟩)] w fun e w' => e = .returned (.string ⟨#[]⟩) ∧ (Lib.IsBuilderF 81 5 B b [] w' ∧ Below B w w') := Any.Builder_String_empty_f Tryd.lays169 Tryd.Builder_Extra_169 B b w h hBw
open Go.RowKit in
theorem Tryd.Builder_String_any_f (B b : Nat) (l : List UInt8) (w : World) (h : Lib.IsBuilderF 81 5 B b (Lib.byteCells l) w) (hBw : B ≤ w.heap.size) :
    Calls Tryd.prog 52 #[.pointer (some ⟨b, 0, none⟩)] w fun e w' => e = .returned (.string ⟨l.toArray⟩) ∧ (Lib.IsBuilderF 81 5 B b (Lib.byteCells l) w' ∧ Below B w w') := Any.Builder_String_any_f Tryd.lays169 Tryd.Builder_Extra_169 B b l w h hBw
open Go.RowKit in
theorem Tryd.Builder_String_k (B b : Nat) (l : List UInt8) (w : World) (h : Lib.IsBuilderF 81 5 B b (Lib.byteCells l) w) (h0 : l ≠ []) :
    Calls Tryd.prog 52 #[.pointer (some ⟨b, 0, none⟩)] w fun e w' => e = .returned (.string ⟨l.toArray⟩) ∧ (Lib.IsBuilderF 81 5 B b (Lib.byteCells l) w' ∧ Below B w w' ∧ Lib.OthersKept 5 (some b) w w') := Any.Builder_String_k Tryd.lays169 Tryd.Builder_Extra_169 B b l w h h0
open Go.RowKit in
theorem Tryd.Builder_String_empty_k (B b : Nat) (w : World) (h : Lib.IsBuilderF 81 5 B b [] w) (hBw : B ≤ w.heap.size) :
    Calls Tryd.prog 52 #[.pointer (some ⟨b, 0, none⟩)] w fun e w' => e = .returned (.string ⟨#[]⟩) ∧ (Lib.IsBuilderF 81 5 B b [] w' ∧ Below B w w' ∧ Lib.OthersKept 5 (some b) w w') := Any.Builder_String_empty_k Tryd.lays169 Tryd.Builder_Extra_169 B b w h hBw
open Go.RowKit in
theorem Tryd.Builder_String_any_k (B b : Nat) (l : List UInt8) (w : World) (h : Lib.IsBuilderF 81 5 B b (Lib.byteCells l) w) (hBw : B ≤ w.heap.size) :
    Calls Tryd.prog 52 #[.pointer (some ⟨b, 0, none⟩)] w fun e w' => e = .returned (.string ⟨l.toArray⟩) ∧ (Lib.IsBuilderF 81 5 B b (Lib.byteCells l) w' ∧ Below B w w' ∧ Lib.OthersKept 5 (some b) w w') := Any.Builder_String_any_k Tryd.lays169 Tryd.Builder_Extra_169 B b l w h hBw
def Tryd.lays278_ren : Go.Shelf.Ren := ⟨fun | 278 => 67 | n => n, fun | 37 => 79 | 21 => 21 | 51 => 106 | 4 => 4 | 46 => 89 | 5 => 5 | n => n, fun | n => n⟩
theorem Tryd.lays278 : Go.Proofs.Lays.n278 Tryd.prog Tryd.lays278_ren := {
  mixed := by kernel_rfl
  f278 := Tryd.func67.trans (congrArg some (by kernel_rfl))
  t4 := Tryd.underlying4
  a4 := Tryd.isAgg4
  z4 := Tryd.sizeOf4
  v4 := Tryd.zeroValue4
  t5 := Tryd.underlying5
  a5 := Tryd.isAgg5
  z5 := Tryd.sizeOf5
  v5 := Tryd.zeroValue5
  t21 := Tryd.underlying21
  a21 := Tryd.isAgg21
  z21 := Tryd.sizeOf21
  v21 := Tryd.zeroValue21
  t37 := Tryd.underlying79
  a37 := Tryd.isAgg79
  z37 := Tryd.sizeOf79
  v37 := Tryd.zeroValue79
  t46 := Tryd.underlying89
  a46 := Tryd.isAgg89
  z46 := Tryd.sizeOf89
  v46 := Tryd.zeroValue89
  t51 := Tryd.underlying106
  a51 := Tryd.isAgg106
  z51 := Tryd.sizeOf106
  v51 := Tryd.zeroValue106 }
open Go.RowKit in
theorem Tryd.utf8_appendRuneNonASCII_row (B : Nat) (v : Value) (n : Nat) (xs : List Value) (r : Int) (hr0 : -2147483648 ≤ r) (hr1 : r ≤ 2147483647) (hna : r < 0 ∨ 128 ≤ r) (w : World) (hown : w.ownsRowF B 5 1 v n xs) (hlen : n + 4 ≤ 140737488355328) (hBw : B ≤ w.heap.size) :
    Calls Tryd.prog 67 #[v, .int .i32 r] w fun e w' => ∃ v', e = .returned v' ∧ w'.ownsRowF B 5 1 v' (n + (Lib.runeCells r).length) (xs ++ Lib.runeCells r) ∧ ∃ o, (w.alloc o).grownBy w' v.ownBlock := Any.utf8_appendRuneNonASCII_row Tryd.lays278 (by kernel_rfl) B v n xs r hr0 hr1 hna w hown hlen hBw
def Tryd.lays242_ren : Go.Shelf.Ren := ⟨fun | 242 => 59 | 278 => 67 | n => n, fun | 37 => 79 | 21 => 21 | 51 => 106 | 4 => 4 | 5 => 5 | 46 => 89 | n => n, fun | n => n⟩
theorem Tryd.lays242 : Go.Proofs.Lays.n242 Tryd.prog Tryd.lays242_ren := {
  mixed := by kernel_rfl
  f242 := Tryd.func59.trans (congrArg some (by kernel_rfl))
  f278 := Tryd.func67.trans (congrArg some (by kernel_rfl))
  t4 := Tryd.underlying4
  a4 := Tryd.isAgg4
  z4 := Tryd.sizeOf4
  v4 := Tryd.zeroValue4
  t5 := Tryd.underlying5
  a5 := Tryd.isAgg5
  z5 := Tryd.sizeOf5
  v5 := Tryd.zeroValue5
  t21 := Tryd.underlying21
  a21 := Tryd.isAgg21
  z21 := Tryd.sizeOf21
  v21 := Tryd.zeroValue21
  t37 := Tryd.underlying79
  a37 := Tryd.isAgg79
  z37 := Tryd.sizeOf79
  v37 := Tryd.zeroValue79
  t46 := Tryd.underlying89
  a46 := Tryd.isAgg89
  z46 := Tryd.sizeOf89
  v46 := Tryd.zeroValue89
  t51 := Tryd.underlying106
  a51 := Tryd.isAgg106
  z51 := Tryd.sizeOf106
  v51 := Tryd.zeroValue106 }
open Go.RowKit in
theorem Tryd.utf8_AppendRune_row (B : Nat) (v : Value) (n : Nat) (xs : List Value) (r : Int) (hr0 : -2147483648 ≤ r) (hr1 : r ≤ 2147483647) (w : World) (hown : w.ownsRowF B 5 1 v n xs) (hlen : n + 4 ≤ 140737488355328) (hBw : B ≤ w.heap.size) :
    Calls Tryd.prog 59 #[v, .int .i32 r] w fun e w' => ∃ v', e = .returned v' ∧ w'.ownsRowF B 5 1 v' (n + (Lib.runeCells r).length) (xs ++ Lib.runeCells r) ∧ ∃ o, (w.alloc o).grownBy w' v.ownBlock := Any.utf8_AppendRune_row Tryd.lays242 (by kernel_rfl) B v n xs r hr0 hr1 w hown hlen hBw
open Go.RowKit in
theorem Tryd.utf8_appendRuneNonASCII_plain (B : Nat) (v : Value) (n : Nat) (xs : List Value) (r : Int) (hr0 : -2147483648 ≤ r) (hr1 : r ≤ 2147483647) (hna : r < 0 ∨ 128 ≤ r) (w : World) (hown : w.ownsRow B 5 1 v n xs) (hlen : n + 4 ≤ 140737488355328) (hBw : B ≤ w.heap.size) :
    Calls Tryd.prog 67 #[v, .int .i32 r] w fun e w' => ∃ v', e = .returned v' ∧ w'.ownsRow B 5 1 v' (n + (Lib.runeCells r).length) (xs ++ Lib.runeCells r) ∧ ∃ o, (w.alloc o).grownBy w' v.ownBlock := Any.utf8_appendRuneNonASCII_plain Tryd.lays278 (by kernel_rfl) B v n xs r hr0 hr1 hna w hown hlen hBw
open Go.RowKit in
theorem Tryd.utf8_AppendRune_plain (B : Nat) (v : Value) (n : Nat) (xs : List Value) (r : Int) (hr0 : -2147483648 ≤ r) (hr1 : r ≤ 2147483647) (w : World) (hown : w.ownsRow B 5 1 v n xs) (hlen : n + 4 ≤ 140737488355328) (hBw : B ≤ w.heap.size) :
    Calls Tryd.prog 59 #[v, .int .i32 r] w fun e w' => ∃ v', e = .returned v' ∧ w'.ownsRow B 5 1 v' (n + (Lib.runeCells r).length) (xs ++ Lib.runeCells r) ∧ ∃ o, (w.alloc o).grownBy w' v.ownBlock := Any.utf8_AppendRune_plain Tryd.lays242 (by kernel_rfl) B v n xs r hr0 hr1 w hown hlen hBw
def Tryd.lays217_ren : Go.Shelf.Ren := ⟨fun | 217 => 79 | 266 => 80 | n => n, fun | 9 => 9 | 5 => 5 | 3 => 3 | n => n, fun | n => n⟩
theorem Tryd.lays217 : Go.Proofs.Lays.n217 Tryd.prog Tryd.lays217_ren := {
  mixed := by kernel_rfl
  f217 := Tryd.func79.trans (congrArg some (by kernel_rfl))
  f266 := Tryd.func80.trans (congrArg some (by kernel_rfl))
  t3 := Tryd.underlying3
  a3 := Tryd.isAgg3
  z3 := Tryd.sizeOf3
  v3 := Tryd.zeroValue3
  t5 := Tryd.underlying5
  a5 := Tryd.isAgg5
  z5 := Tryd.sizeOf5
  v5 := Tryd.zeroValue5
  t9 := Tryd.underlying9
  a9 := Tryd.isAgg9
  z9 := Tryd.sizeOf9
  v9 := Tryd.zeroValue9 }
open Go.RowKit Go.Lib in
theorem Tryd.stringslite_IndexByte (s : ByteArray) (c : Int) (w : World) :
    Calls Tryd.prog 79 #[.string s, .int .u8 c] w fun e w' => e = .returned (.int .i64 (Lib.indexByte s.data.toList c.toNat.toUInt8)) ∧ w' = w := Any.stringslite_IndexByte Tryd.lays217 s c w
def Tryd.lays224_ren : Go.Shelf.Ren := ⟨fun | 224 => 77 | n => n, fun | 3 => 3 | n => n, fun | n => n⟩
theorem Tryd.lays224 : Go.Proofs.Lays.n224 Tryd.prog Tryd.lays224_ren := {
  mixed := by kernel_rfl
  f224 := Tryd.func77.trans (congrArg some (by kernel_rfl))
  t3 := Tryd.underlying3
  a3 := Tryd.isAgg3
  z3 := Tryd.sizeOf3
  v3 := Tryd.zeroValue3 }
open Go.RowKit Go.Lib in
theorem Tryd.bytealg_Cutover (n : Int) (h0 : 0 ≤ n) (h1 : n < 4611686018427387904) (w : World) :
    Calls Tryd.prog 77 #[.int .i64 n] w fun e w' => e = .returned (.int .i64 ((n + 16) / 8)) ∧ w' = w := Any.bytealg_Cutover Tryd.lays224 n h0 h1 w
def Tryd.lays197_ren : Go.Shelf.Ren := ⟨fun | 197 => 72 | 260 => 74 | n => n, fun | 9 => 9 | 21 => 21 | 3 => 3 | 4 => 4 | 5 => 5 | 105 => 115 | 119 => 122 | 0 => 0 | 46 => 89 | 139 => 125 | 138 => 124 | n => n, fun | 3 => 1 | 4 => 2 | n => n⟩
theorem Tryd.lays197 : Go.Proofs.Lays.n197 Tryd.prog Tryd.lays197_ren := {
  mixed := by kernel_rfl
  f197 := Tryd.func72.trans (congrArg some (by kernel_rfl))
  f260 := Tryd.func74.trans (congrArg some (by kernel_rfl))
  t0 := Tryd.underlying0
  a0 := Tryd.isAgg0
  z0 := Tryd.sizeOf0
  v0 := Tryd.zeroValue0
  t3 := Tryd.underlying3
  a3 := Tryd.isAgg3
  z3 := Tryd.sizeOf3
  v3 := Tryd.zeroValue3
  t4 := Tryd.underlying4
  a4 := Tryd.isAgg4
  z4 := Tryd.sizeOf4
  v4 := Tryd.zeroValue4
  t5 := Tryd.underlying5
  a5 := Tryd.isAgg5
  z5 := Tryd.sizeOf5
  v5 := Tryd.zeroValue5
  t9 := Tryd.underlying9
  a9 := Tryd.isAgg9
  z9 := Tryd.sizeOf9
  v9 := Tryd.zeroValue9
  t21 := Tryd.underlying21
  a21 := Tryd.isAgg21
  z21 := Tryd.sizeOf21
  v21 := Tryd.zeroValue21
  t46 := Tryd.underlying89
  a46 := Tryd.isAgg89
  z46 := Tryd.sizeOf89
  v46 := Tryd.zeroValue89
  t105 := Tryd.underlying115
  a105 := Tryd.isAgg115
  z105 := Tryd.sizeOf115
  v105 := Tryd.zeroValue115
  t119 := Tryd.underlying122
  a119 := Tryd.isAgg122
  z119 := Tryd.sizeOf122
  t138 := Tryd.underlying124
  a138 := Tryd.isAgg124
  z138 := Tryd.sizeOf124
  v138 := Tryd.zeroValue124
  t139 := Tryd.underlying125
  a139 := Tryd.isAgg125
  z139 := Tryd.sizeOf125
  v139 := Tryd.zeroValue125
  g3 := by kernel_rfl
  g4 := by kernel_rfl }
open Go.RowKit Go.Lib in
theorem Tryd.utf8_DecodeRuneInString_ascii (s : ByteArray) (x : UInt8) (w : World) (h0 : s.data.toList[0]? = some x) (hx : x.toNat < 128) :
    Calls Tryd.prog 72 #[.string s] w fun e w' => e = .returned (.tuple #[.int .i32 x.toNat, .int .i64 1]) ∧ w' = w := Any.utf8_DecodeRuneInString_ascii Tryd.lays197 s x w h0 hx
def Tryd.lays152_ren : Go.Shelf.Ren := ⟨fun | 152 => 73 | 137 => 75 | 119 => 76 | 224 => 77 | 225 => 78 | 217 => 79 | 266 => 80 | n => n, fun | 9 => 9 | 21 => 21 | 3 => 3 | 4 => 4 | 5 => 5 | 0 => 0 | 46 => 89 | n => n, fun | n => n⟩
theorem Tryd.lays152 : Go.Proofs.Lays.n152 Tryd.prog Tryd.lays152_ren := {
  mixed := by kernel_rfl
  f119 := Tryd.func76.trans (congrArg some (by kernel_rfl))
  f137 := Tryd.func75.trans (congrArg some (by kernel_rfl))
  f152 := Tryd.func73.trans (congrArg some (by kernel_rfl))
  f217 := Tryd.func79.trans (congrArg some (by kernel_rfl))
  f224 := Tryd.func77.trans (congrArg some (by kernel_rfl))
  f225 := Tryd.func78.trans (congrArg some (by kernel_rfl))
  f266 := Tryd.func80.trans (congrArg some (by kernel_rfl))
  t0 := Tryd.underlying0
  a0 := Tryd.isAgg0
  z0 := Tryd.sizeOf0
  v0 := Tryd.zeroValue0
  t3 := Tryd.underlying3
  a3 := Tryd.isAgg3
  z3 := Tryd.sizeOf3
  v3 := Tryd.zeroValue3
  t4 := Tryd.underlying4
  a4 := Tryd.isAgg4
  z4 := Tryd.sizeOf4
  v4 := Tryd.zeroValue4
  t5 := Tryd.underlying5
  a5 := Tryd.isAgg5
  z5 := Tryd.sizeOf5
  v5 := Tryd.zeroValue5
  t9 := Tryd.underlying9
  a9 := Tryd.isAgg9
  z9 := Tryd.sizeOf9
  v9 := Tryd.zeroValue9
  t21 := Tryd.underlying21
  a21 := Tryd.isAgg21
  z21 := Tryd.sizeOf21
  v21 := Tryd.zeroValue21
  t46 := Tryd.underlying89
  a46 := Tryd.isAgg89
  z46 := Tryd.sizeOf89
  v46 := Tryd.zeroValue89 }
open Go.RowKit Go.Lib in
theorem Tryd.strings_IndexRune_ascii (s : ByteArray) (r : Int) (w : World) (h0 : 0 ≤ r) (h1 : r < 128) :
    Calls Tryd.prog 73 #[.string s, .int .i32 r] w fun e w' => e = .returned (.int .i64 (Lib.indexByte s.data.toList r.toNat.toUInt8)) ∧ w' = w := Any.strings_IndexRune_ascii Tryd.lays152 s r w h0 h1
def Tryd.lays151_ren : Go.Shelf.Ren := ⟨fun | 151 => 70 | 152 => 73 | 137 => 75 | 119 => 76 | 224 => 77 | 225 => 78 | 217 => 79 | 266 => 80 | n => n, fun | 9 => 9 | 21 => 21 | 4 => 4 | 3 => 3 | 5 => 5 | 0 => 0 | 46 => 89 | n => n, fun | n => n⟩
theorem Tryd.lays151 : Go.Proofs.Lays.n151 Tryd.prog Tryd.lays151_ren := {
  mixed := by kernel_rfl
  f119 := Tryd.func76.trans (congrArg some (by kernel_rfl))
  f137 := Tryd.func75.trans (congrArg some (by kernel_rfl))
  f151 := Tryd.func70.trans (congrArg some (by kernel_rfl))
  f152 := Tryd.func73.trans (congrArg some (by kernel_rfl))
  f217 := Tryd.func79.trans (congrArg some (by kernel_rfl))
  f224 := Tryd.func77.trans (congrArg some (by kernel_rfl))
  f225 := Tryd.func78.trans (congrArg some (by kernel_rfl))
  f266 := Tryd.func80.trans (congrArg some (by kernel_rfl))
  t0 := Tryd.underlying0
  a0 := Tryd.isAgg0
  z0 := Tryd.sizeOf0
  v0 := Tryd.zeroValue0
  t3 := Tryd.underlying3
  a3 := Tryd.isAgg3
  z3 := Tryd.sizeOf3
  v3 := Tryd.zeroValue3
  t4 := Tryd.underlying4
  a4 := Tryd.isAgg4
  z4 := Tryd.sizeOf4
  v4 := Tryd.zeroValue4
  t5 := Tryd.underlying5
  a5 := Tryd.isAgg5
  z5 := Tryd.sizeOf5
  v5 := Tryd.zeroValue5
  t9 := Tryd.underlying9
  a9 := Tryd.isAgg9
  z9 := Tryd.sizeOf9
  v9 := Tryd.zeroValue9
  t21 := Tryd.underlying21
  a21 := Tryd.isAgg21
  z21 := Tryd.sizeOf21
  v21 := Tryd.zeroValue21
  t46 := Tryd.underlying89
  a46 := Tryd.isAgg89
  z46 := Tryd.sizeOf89
  v46 := Tryd.zeroValue89 }
open Go.RowKit Go.Lib in
theorem Tryd.strings_ContainsRune_ascii (s : ByteArray) (r : Int) (w : World) (h0 : 0 ≤ r) (h1 : r < 128) :
    Calls Tryd.prog 70 #[.string s, .int .i32 r] w fun e w' => e = .returned (.bool (decide (0 ≤ Lib.indexByte s.data.toList r.toNat.toUInt8))) ∧ w' = w := Any.strings_ContainsRune_ascii Tryd.lays151 s r w h0 h1
def Tryd.lays227_ren : Go.Shelf.Ren := ⟨fun | 227 => 61 | n => n, fun | 9 => 9 | 116 => 100 | 4 => 4 | 0 => 0 | 3 => 3 | 5 => 5 | n => n, fun | n => n⟩
theorem Tryd.lays227 : Go.Proofs.Lays.n227 Tryd.prog Tryd.lays227_ren := {
  mixed := by kernel_rfl
  f227 := Tryd.func61.trans (congrArg some (by kernel_rfl))
  t0 := Tryd.underlying0
  a0 := Tryd.isAgg0
  z0 := Tryd.sizeOf0
  v0 := Tryd.zeroValue0
  t3 := Tryd.underlying3
  a3 := Tryd.isAgg3
  z3 := Tryd.sizeOf3
  v3 := Tryd.zeroValue3
  t4 := Tryd.underlying4
  a4 := Tryd.isAgg4
  z4 := Tryd.sizeOf4
  v4 := Tryd.zeroValue4
  t5 := Tryd.underlying5
  a5 := Tryd.isAgg5
  z5 := Tryd.sizeOf5
  v5 := Tryd.zeroValue5
  t9 := Tryd.underlying9
  a9 := Tryd.isAgg9
  z9 := Tryd.sizeOf9
  v9 := Tryd.zeroValue9
  t116 := Tryd.underlying100
  a116 := Tryd.isAgg100
  z116 := Tryd.sizeOf100 }
open Go.RowKit Go.Lib in
theorem Tryd.strings_makeASCIISet (hv116 : ∀ w, (zeroValue 100).run Tryd.prog w = .ok (.agg (Array.replicate 256 (.bool false))) w) (chars : ByteArray) (w : World) (hs : chars.size < 4294967281) (hascii : ∀ (j : Nat) b, chars.data.toList[j]? = some b → b.toNat < 128) :
    Calls Tryd.prog 61 #[.string chars] w fun e w' => e = .returned (.tuple #[.agg (Lib.setCells chars.data.toList), .bool true]) ∧ w' = w.alloc (.cells (Lib.setCells chars.data.toList) 100) := Any.strings_makeASCIISet Tryd.lays227 hv116 (by kernel_rfl) chars w hs hascii
def Tryd.lays228_ren : Go.Shelf.Ren := ⟨fun | 228 => 68 | n => n, fun | 124 => 104 | 5 => 5 | 4 => 4 | 0 => 0 | 116 => 100 | n => n, fun | n => n⟩
theorem Tryd.lays228 : Go.Proofs.Lays.n228 Tryd.prog Tryd.lays228_ren := {
  mixed := by kernel_rfl
  f228 := Tryd.func68.trans (congrArg some (by kernel_rfl))
  t0 := Tryd.underlying0
  a0 := Tryd.isAgg0
  z0 := Tryd.sizeOf0
  v0 := Tryd.zeroValue0
  t4 := Tryd.underlying4
  a4 := Tryd.isAgg4
  z4 := Tryd.sizeOf4
  v4 := Tryd.zeroValue4
  t5 := Tryd.underlying5
  a5 := Tryd.isAgg5
  z5 := Tryd.sizeOf5
  v5 := Tryd.zeroValue5
  t116 := Tryd.underlying100
  a116 := Tryd.isAgg100
  z116 := Tryd.sizeOf100
  t124 := Tryd.underlying104
  a124 := Tryd.isAgg104
  z124 := Tryd.sizeOf104
  v124 := Tryd.zeroValue104 }
open Go.RowKit Go.Lib in
theorem Tryd.asciiSet_contains (b : Nat) (x : UInt8) (v : Bool) (w : World) (hc : w.cell? ⟨b, x.toNat, none⟩ = some (.bool v)) :
    Calls Tryd.prog 68 #[.pointer (some ⟨b, 0, none⟩), .int .u8 x.toNat] w fun e w' => e = .returned (.bool v) ∧ w' = w := Any.asciiSet_contains Tryd.lays228 b x v w hc
def Tryd.lays264_ren : Go.Shelf.Ren := ⟨fun | 264 => 65 | n => n, fun | 53 => 109 | 46 => 89 | n => n, fun | n => n⟩
theorem Tryd.lays264 : Go.Proofs.Lays.n264 Tryd.prog Tryd.lays264_ren := {
  mixed := by kernel_rfl
  f264 := Tryd.func65.trans (congrArg some (by kernel_rfl))
  t46 := Tryd.underlying89
  a46 := Tryd.isAgg89
  z46 := Tryd.sizeOf89
  v46 := Tryd.zeroValue89
  t53 := Tryd.underlying109
  a53 := Tryd.isAgg109
  z53 := Tryd.sizeOf109
  v53 := Tryd.zeroValue109 }
open Go.RowKit Go.Lib in
theorem Tryd.bits_Mul64 (x y : Nat) (hx : x < 18446744073709551616) (hy : y < 18446744073709551616) (w : World) :
    Calls Tryd.prog 65 #[.int .u64 x, .int .u64 y] w fun e w' => e = .returned (.tuple #[.int .u64 ((x * y / 18446744073709551616 : Nat) : Int), .int .u64 ((x * y % 18446744073709551616 : Nat) : Int)]) ∧ w' = w := Any.bits_Mul64 Tryd.lays264 x y hx hy w
def Tryd.lays212_ren : Go.Shelf.Ren := ⟨fun | 212 => 54 | 263 => 64 | 264 => 65 | n => n, fun | 46 => 89 | 51 => 106 | 146 => 107 | 53 => 109 | 148 => 110 | n => n, fun | n => n⟩
theorem Tryd.lays212 : Go.Proofs.Lays.n212 Tryd.prog Tryd.lays212_ren := {
  mixed := by kernel_rfl
  f212 := Tryd.func54.trans (congrArg some (by kernel_rfl))
  f263 := Tryd.func64.trans (congrArg some (by kernel_rfl))
  f264 := Tryd.func65.trans (congrArg some (by kernel_rfl))
  t46 := Tryd.underlying89
  a46 := Tryd.isAgg89
  z46 := Tryd.sizeOf89
  v46 := Tryd.zeroValue89
  t51 := Tryd.underlying106
  a51 := Tryd.isAgg106
  z51 := Tryd.sizeOf106
  v51 := Tryd.zeroValue106
  t53 := Tryd.underlying109
  a53 := Tryd.isAgg109
  z53 := Tryd.sizeOf109
  v53 := Tryd.zeroValue109
  t146 := Tryd.underlying107
  a146 := Tryd.isAgg107
  z146 := Tryd.sizeOf107
  v146 := Tryd.zeroValue107
  t148 := Tryd.underlying110
  a148 := Tryd.isAgg110
  z148 := Tryd.sizeOf110
  v148 := Tryd.zeroValue110 }
open Go.RowKit Go.Lib in
theorem Tryd.bits_Mul (x y : Nat) (hx : x < 18446744073709551616) (hy : y < 18446744073709551616) (w : World) :
    Calls Tryd.prog 54 #[.int .u64 x, .int .u64 y] w fun e w' => e = .returned (.tuple #[.int .u64 ((x * y / 18446744073709551616 : Nat) : Int), .int .u64 ((x * y % 18446744073709551616 : Nat) : Int)]) ∧ w' = w := Any.bits_Mul Tryd.lays212 x y hx hy w
def Tryd.lays260_ren : Go.Shelf.Ren := ⟨fun | 260 => 74 | n => n, fun | 9 => 9 | 21 => 21 | 3 => 3 | 4 => 4 | 5 => 5 | 119 => 122 | 0 => 0 | 46 => 89 | 139 => 125 | 138 => 124 | n => n, fun | 3 => 1 | 4 => 2 | n => n⟩
theorem Tryd.lays260 : Go.Proofs.Lays.n260 Tryd.prog Tryd.lays260_ren := {
  mixed := by kernel_rfl
  f260 := Tryd.func74.trans (congrArg some (by kernel_rfl))
  t0 := Tryd.underlying0
  a0 := Tryd.isAgg0
  z0 := Tryd.sizeOf0
  v0 := Tryd.zeroValue0
  t3 := Tryd.underlying3
  a3 := Tryd.isAgg3
  z3 := Tryd.sizeOf3
  v3 := Tryd.zeroValue3
  t4 := Tryd.underlying4
  a4 := Tryd.isAgg4
  z4 := Tryd.sizeOf4
  v4 := Tryd.zeroValue4
  t5 := Tryd.underlying5
  a5 := Tryd.isAgg5
  z5 := Tryd.sizeOf5
  v5 := Tryd.zeroValue5
  t9 := Tryd.underlying9
  a9 := Tryd.isAgg9
  z9 := Tryd.sizeOf9
  v9 := Tryd.zeroValue9
  t21 := Tryd.underlying21
  a21 := Tryd.isAgg21
  z21 := Tryd.sizeOf21
  v21 := Tryd.zeroValue21
  t46 := Tryd.underlying89
  a46 := Tryd.isAgg89
  z46 := Tryd.sizeOf89
  v46 := Tryd.zeroValue89
  t119 := Tryd.underlying122
  a119 := Tryd.isAgg122
  z119 := Tryd.sizeOf122
  t138 := Tryd.underlying124
  a138 := Tryd.isAgg124
  z138 := Tryd.sizeOf124
  v138 := Tryd.zeroValue124
  t139 := Tryd.underlying125
  a139 := Tryd.isAgg125
  z139 := Tryd.sizeOf125
  v139 := Tryd.zeroValue125
  g3 := by kernel_rfl
  g4 := by kernel_rfl }
open Go.RowKit Go.Lib in
theorem Tryd.utf8_decodeRuneInStringSlow (s : ByteArray) (w : World) (hT : Lib.Utf8Tabs 1 2 w) :
    Calls Tryd.prog 74 #[.string s] w fun e w' => e = .returned (.tuple #[.int .i32 (Lib.decodeGo s).1, .int .i64 (Lib.decodeGo s).2]) ∧ Below w.heap.size w w' := Any.utf8_decodeRuneInStringSlow Tryd.lays260 s w hT
open Go.RowKit Go.Lib in
theorem Tryd.utf8_DecodeRuneInString (s : ByteArray) (w : World) (hT : Lib.Utf8Tabs 1 2 w) :
    Calls Tryd.prog 72 #[.string s] w fun e w' => e = .returned (.tuple #[.int .i32 (Lib.decodeGo s).1, .int .i64 (Lib.decodeGo s).2]) ∧ Below w.heap.size w w' := Any.utf8_DecodeRuneInString Tryd.lays197 s w hT
def Tryd.lays271_ren : Go.Shelf.Ren := ⟨fun | 271 => 69 | 120 => 71 | 197 => 72 | 260 => 74 | n => n, fun | 9 => 9 | 21 => 21 | 3 => 3 | 4 => 4 | 5 => 5 | 105 => 115 | 119 => 122 | 0 => 0 | 46 => 89 | 139 => 125 | 138 => 124 | n => n, fun | 3 => 1 | 4 => 2 | n => n⟩
theorem Tryd.lays271 : Go.Proofs.Lays.n271 Tryd.prog Tryd.lays271_ren := {
  mixed := by kernel_rfl
  f120 := Tryd.func71.trans (congrArg some (by kernel_rfl))
  f197 := Tryd.func72.trans (congrArg some (by kernel_rfl))
  f260 := Tryd.func74.trans (congrArg some (by kernel_rfl))
  f271 := Tryd.func69.trans (congrArg some (by kernel_rfl))
  t0 := Tryd.underlying0
  a0 := Tryd.isAgg0
  z0 := Tryd.sizeOf0
  v0 := Tryd.zeroValue0
  t3 := Tryd.underlying3
  a3 := Tryd.isAgg3
  z3 := Tryd.sizeOf3
  v3 := Tryd.zeroValue3
  t4 := Tryd.underlying4
  a4 := Tryd.isAgg4
  z4 := Tryd.sizeOf4
  v4 := Tryd.zeroValue4
  t5 := Tryd.underlying5
  a5 := Tryd.isAgg5
  z5 := Tryd.sizeOf5
  v5 := Tryd.zeroValue5
  t9 := Tryd.underlying9
  a9 := Tryd.isAgg9
  z9 := Tryd.sizeOf9
  v9 := Tryd.zeroValue9
  t21 := Tryd.underlying21
  a21 := Tryd.isAgg21
  z21 := Tryd.sizeOf21
  v21 := Tryd.zeroValue21
  t46 := Tryd.underlying89
  a46 := Tryd.isAgg89
  z46 := Tryd.sizeOf89
  v46 := Tryd.zeroValue89
  t105 := Tryd.underlying115
  a105 := Tryd.isAgg115
  z105 := Tryd.sizeOf115
  v105 := Tryd.zeroValue115
  t119 := Tryd.underlying122
  a119 := Tryd.isAgg122
  z119 := Tryd.sizeOf122
  t138 := Tryd.underlying124
  a138 := Tryd.isAgg124
  z138 := Tryd.sizeOf124
  v138 := Tryd.zeroValue124
  t139 := Tryd.underlying125
  a139 := Tryd.isAgg125
  z139 := Tryd.sizeOf125
  v139 := Tryd.zeroValue125
  g3 := by kernel_rfl
  g4 := by kernel_rfl }
open Go.RowKit Go.Lib in
theorem Tryd.utf8_DecodeLastRuneInString (s : ByteArray) (w : World) (hs : s.size ≤ 9223372036854775807) (hT : Lib.Utf8Tabs 1 2 w) :
    Calls Tryd.prog 69 #[.string s] w fun e w' => e = .returned (.tuple #[.int .i32 (Lib.decodeLastL s.data.toList).1, .int .i64 (Lib.decodeLastL s.data.toList).2]) ∧ Below w.heap.size w w' := Any.utf8_DecodeLastRuneInString Tryd.lays271 s w hs hT
def Tryd.lays193_ren : Go.Shelf.Ren := ⟨fun | 193 => 32 | n => n, fun | 31 => 60 | 9 => 9 | 4 => 4 | 3 => 3 | 0 => 0 | n => n, fun | n => n⟩
theorem Tryd.lays193 : Go.Proofs.Lays.n193 Tryd.prog Tryd.lays193_ren := {
  mixed := by kernel_rfl
  f193 := Tryd.func32.trans (congrArg some (by kernel_rfl))
  t0 := Tryd.underlying0
  a0 := Tryd.isAgg0
  z0 := Tryd.sizeOf0
  v0 := Tryd.zeroValue0
  t3 := Tryd.underlying3
  a3 := Tryd.isAgg3
  z3 := Tryd.sizeOf3
  v3 := Tryd.zeroValue3
  t4 := Tryd.underlying4
  a4 := Tryd.isAgg4
  z4 := Tryd.sizeOf4
  v4 := Tryd.zeroValue4
  t9 := Tryd.underlying9
  a9 := Tryd.isAgg9
  z9 := Tryd.sizeOf9
  v9 := Tryd.zeroValue9
  t31 := Tryd.underlying60
  a31 := Tryd.isAgg60
  z31 := Tryd.sizeOf60
  v31 := Tryd.zeroValue60 }
open Go.RowKit Go.Lib in
theorem Tryd.slices_Equal_string (b1 o1 n c b2 o2 m d : Nat) (xs ys : List ByteArray) (w : World) (hx : n ≤ xs.length) (hy : m ≤ ys.length) (hbig : n ≤ 9223372036854775807) (hbig2 : m ≤ 9223372036854775807) (hc1 : ∀ j, j < xs.length → w.cell? ⟨b1, o1 + j, none⟩ = some (.string (xs.getD j ByteArray.empty))) (hc2 : ∀ j, j < ys.length → w.cell? ⟨b2, o2 + j, none⟩ = some (.string (ys.getD j ByteArray.empty))) :
    Calls Tryd.prog 32 #[.slice (some ⟨b1, o1, none⟩) n c, .slice (some ⟨b2, o2, none⟩) m d] w fun e w' => e = .returned (.bool (decide (xs.take n = ys.take m))) ∧ ∃ q, w' = w.drewN q := Any.slices_Equal_string Tryd.lays193 b1 o1 n c b2 o2 m d xs ys w hx hy hbig hbig2 hc1 hc2
open Go.RowKit Go.Lib in
theorem Tryd.slices_Equal_string_empty (a1 a2 : Option Addr) (c m d : Nat) (w : World) (hbig2 : m ≤ 9223372036854775807) :
    Calls Tryd.prog 32 #[.slice a1 0 c, .slice a2 m d] w fun e w' => e = .returned (.bool (decide (m = 0))) ∧ w' = w := Any.slices_Equal_string_empty Tryd.lays193 a1 a2 c m d w hbig2
open Go.RowKit Go.Lib in
theorem Tryd.slices_Equal_string_lens (a1 a2 : Option Addr) (n c m d : Nat) (w : World) (hnm : n ≠ m) :
    Calls Tryd.prog 32 #[.slice a1 n c, .slice a2 m d] w fun e w' => e = .returned (.bool false) ∧ w' = w := Any.slices_Equal_string_lens Tryd.lays193 a1 a2 n c m d w hnm
end Go.Proofs

/- slices.Repeat of one cell. -/
namespace Go.Proofs.YtinhmklpnkikgaaDoor
open Go.ChangeShapes Go.WideShapes Go.ChangeAt Go.RowKit
namespace Grd
theorem step_copy_wide {P : Program} {ops : Array Oper} {o : Oper} {a : Act} {w : World} {K : Act → World → Prop} {Q : Exit → Act → World → Prop} {E : Prop} (hgd : o.guard = none) (d s : Operand) (dT sT : TypeId)
    (ho : o.op = .call { callee := .builtin .copy, args := #[d, s], argTypes := #[dT, sT] }) (elem : TypeId) (hu : P.underlying dT = some (.slice elem)) (k : Nat) (hsz : (P.info? elem).map (·.size) = some k)
    (g off dLen dCap : Nat) (ad : Addr) (sLen sCap : Nat) (hd : a.eval d = .slice (some ⟨g, off, none⟩) dLen dCap) (hs : a.eval s = .slice (some ad) sLen sCap)
    (cur : Array Value) (t : TypeId) (hg : w.heap[g]? = some (.cells cur t (0, 0))) (cs : List Value) (m : Nat) (hm : Nat.min sLen dLen = m) (hn : cs.length = m * k)
    (hsrc : ∀ j v, cs[j]? = some v → w.cell? (ad.add j) = some v) (hfit : off + cs.length ≤ cur.size) (h1 : ∀ v ∈ cs, v.oneCell' = true)
    (h : K (a.put o.dst (goInt m)) (w.setRow g (cur.toList.take off ++ (cs ++ cur.toList.drop (off + cs.length))).toArray)) :
    if Region.wanted o (yielded ops a.tmps) = true then Oper.wp P o a w K Q else E := by
  have hw : Region.wanted o (yielded ops a.tmps) = true := by simp [Region.wanted, hgd]
  rw [if_pos hw]
  have hrun := run_copy_wide (P := P) w dT sT o.type elem g off dLen dCap ad sLen sCap k cur t cs hu hsz hg (by rw [hm]; exact hn) hsrc hfit h1
  rw [hm] at hrun
  unfold Oper.wp
  simp [execOp, ho, resolve, invoke, builtin, hd, hs, hrun, Result.andThen, Oper.upon]
  simpa using h
theorem und_cells : Tryd.prog.underlying 22 = some (.slice 40) := by kernel_rfl
theorem size_cell : (Tryd.prog.info? 40).map (·.size) = some 4 := by kernel_rfl
theorem info_cell : (Tryd.prog.info? 40).map (fun i => (i.zero, i.size, i.bytes)) = some (some (.agg #[.int .i32 0, .int .i64 0, .int .i64 0, .int .i64 0]), 4, 32) := by kernel_rfl
theorem make_cells (N : Nat) (hN : N ≤ 1000000) (w : World) :
    (Instr.makeSlice 22 (.int .i64 (N : Int)) (.int .i64 (N : Int))).run Tryd.prog w = .ok (.slice (some ⟨w.heap.size, 0, none⟩) N N) (w.alloc (.cells (madeCells #[.int .i32 0, .int .i64 0, .int .i64 0, .int .i64 0] (N * 4)) 40)) := by
  obtain ⟨i, hi, hzz⟩ := Option.map_eq_some_iff.1 info_cell
  simp only [Prod.mk.injEq] at hzz
  obtain ⟨hz, hs, hb⟩ := hzz
  have hr := run_make (P := Tryd.prog) w 22 40 i _ und_cells hi hz .i64 .i64 N N (by omega) (Int.le_refl _) (by rw [hb]; omega) (by omega)
  simp only [Int.toNat_natCast, hs] at hr
  exact hr
theorem rep_add (c : C) (a b : Nat) : List.replicate a c ++ List.replicate b c = List.replicate (a + b) c := by simp
theorem copy_step (c : C) (m mn : Nat) (rest : List Value) : (flat (List.replicate m c) ++ rest).take (m * 4) ++ (flat (List.replicate mn c) ++ (flat (List.replicate m c) ++ rest).drop (m * 4 + (flat (List.replicate mn c)).length)) = flat (List.replicate (m + mn) c) ++ rest.drop (mn * 4) := by
  have hl : (flat (List.replicate m c)).length = m * 4 := by rw [flat_len]; simp
  have hl2 : (flat (List.replicate mn c)).length = mn * 4 := by rw [flat_len]; simp
  rw [List.take_left' hl, hl2, List.drop_append, ← rep_add, flat_append, List.append_assoc, List.drop_of_length_le (by rw [hl]; omega), hl, Nat.add_sub_cancel_left]
  rfl
theorem flat_src {w : World} {g : Nat} {cs : List C} {rest : List Value} {t : TypeId} (h : w.heap[g]? = some (.cells (flat cs ++ rest).toArray t (0, 0))) (ds : List Value) (hd : ∃ r, flat cs = ds ++ r) :
    ∀ j v, ds[j]? = some v → w.cell? ((⟨g, 0, none⟩ : Addr).add j) = some v := by
  intro j v hj
  obtain ⟨r, hr⟩ := hd
  have hlt := (List.getElem?_eq_some_iff.1 hj).1
  rw [add_plain, Nat.zero_add]
  unfold World.cell?
  rw [h, hr]
  simp [List.getElem?_append_left hlt, List.append_assoc, hj]
theorem copy_to {P : Program} (w : World) (dT sT ty elem : TypeId) (g o dLen dCap : Nat) (a : Addr) (sLen sCap k m : Nat) (L : List Value) (t : TypeId) (cs : List Value)
    (hu : P.underlying dT = some (.slice elem)) (hs : (P.info? elem).map (·.size) = some k)
    (hg : w.heap[g]? = some (.cells L.toArray t (0, 0))) (hm : Nat.min sLen dLen = m) (hn : cs.length = m * k)
    (hsrc : ∀ j v, cs[j]? = some v → w.cell? (a.add j) = some v) (hfit : o + cs.length ≤ L.length) (h1 : ∀ v ∈ cs, v.oneCell' = true) :
    ∃ W', (Builtin.copy_ #[dT, sT] ty #[.slice (some ⟨g, o, none⟩) dLen dCap, .slice (some a) sLen sCap]).run P w = .ok (.int .i64 (m : Int)) W' ∧
      W'.heap[g]? = some (.cells (L.take o ++ (cs ++ L.drop (o + cs.length))).toArray t (0, 0)) ∧ ∀ B w0, Below B w0 w → B ≤ g → Below B w0 W' := by
  have hrun := run_copy_wide (P := P) w dT sT ty elem g o dLen dCap a sLen sCap k L.toArray t cs hu hs hg (by rw [hm]; exact hn) hsrc (by simpa using hfit) h1
  rw [hm] at hrun
  refine ⟨_, hrun, ?_, fun B w0 hb hB => below_setRow hb hB _⟩
  simpa using setRow_heap w g _ _ t _ hg
set_option maxHeartbeats 2000000 in
set_option maxRecDepth 100000 in
theorem repeat_one (b o cx N : Nat) (c : C) (w : World) (hC : CellsAt w b o [c]) (h1 : 1 ≤ N) (hN : N ≤ 7200) :
    Calls Tryd.prog 35 #[.slice (some ⟨b, o, none⟩) 1 cx, .int .i64 (N : Int)] w fun e w' => ∃ v', e = .returned v' ∧ OwnG w' w.heap.size v' (List.replicate N c) ∧ Below w.heap.size w w' := by
  obtain ⟨h0, hf, hb, hx⟩ := hC 0 (by simp)
  have hmk := make_cells N (by omega)
  have hmul : Hid (Calls Tryd.prog 54 #[.int .u64 1, .int .u64 (N : Int)] w fun e w' => e = .returned (.tuple #[.int .u64 0, .int .u64 (N : Int)]) ∧ w = w') := by
    have := Tryd.bits_Mul 1 N (by omega) (by omega) w
    rw [Nat.one_mul, Nat.div_eq_of_lt (by omega), Nat.mod_eq_of_lt (by omega)] at this
    exact this.mono fun e w' ⟨he, hw⟩ => ⟨he, hw.symm⟩
  obtain ⟨A, hA⟩ : ∃ A, A = madeCells #[.int .i32 0, .int .i64 0, .int .i64 0, .int .i64 0] (N * 4) := ⟨_, rfl⟩
  have hAs : A.size = N * 4 := by rw [hA, size_madeCells]
  rw [← hA] at hmk
  clear hA hC
  have hmin : Nat.min 1 N = 1 := Nat.min_eq_left h1
  have hone : ∀ v ∈ words c, v.oneCell' = true := fun v hv => flat_one [c] v (by simpa [flat] using hv)
  have hfit : 0 + (words c).length ≤ A.size := by rw [hAs]; simp [words]; omega
  have hsrc : ∀ j v, (words c)[j]? = some v → (w.alloc (.cells A 40)).cell? ((⟨b, o, none⟩ : Addr).add j) = some v := fun j v hj => by
    have hlt := (List.getElem?_eq_some_iff.1 hj).1
    have kb : Below w.heap.size w (w.alloc (.cells A 40)) := (Below.refl _ _).alloc (Nat.le_refl _) _
    rw [add_plain]
    refine cell_keep kb ?_
    have hl4 : j < 4 := by simpa [words] using hlt
    have e : o + 0 * 4 = o := by omega
    rw [e] at h0 hf hb hx
    match j, hl4 with
    | 0, _ => rw [← hj]; exact h0
    | 1, _ => rw [← hj]; exact hf
    | 2, _ => rw [← hj]; exact hb
    | 3, _ => rw [← hj]; exact hx
  clear h0 hf hb hx
  obtain ⟨W2, hcp, hW2, hB2⟩ := copy_to (P := Tryd.prog) (w.alloc (.cells A 40)) 22 22 3 40 w.heap.size 0 N N ⟨b, o, none⟩ 1 cx 4 1 A.toList 40 (words c) und_cells size_cell (heap_alloc_new _ _) hmin rfl hsrc (by simpa using hfit) hone
  have k2 : Below w.heap.size w W2 := hB2 _ _ ((Below.refl _ _).alloc (Nat.le_refl _) _) (Nat.le_refl _)
  have hW : ∃ rest : List Value, rest.length = (N - 1) * 4 ∧ W2.heap[w.heap.size]? = some (.cells (flat (List.replicate 1 c) ++ rest).toArray 40 (0, 0)) := by
    refine ⟨A.toList.drop 4, by simp [hAs]; omega, ?_⟩
    rw [hW2]
    rfl
  clear hW2 hB2 hsrc hfit hone hmin
  go_enter Tryd.func35, Tryd.ntmps35
  go_wp2_with (first | (go_at_call 54; refine hmul.out.mono ?_; rintro e W1 ⟨rfl, rfl⟩))
  go_loopg [8] N (fun g n wr => ∃ (m : Nat) (rest : List Value), n = .int .i64 (m : Int) ∧ 1 ≤ m ∧ m ≤ N ∧ N - m ≤ g ∧ rest.length = (N - m) * 4 ∧ Below w.heap.size w wr ∧ wr.heap[w.heap.size]? = some (.cells (flat (List.replicate m c) ++ rest).toArray 40 (0, 0)))
  case atStart =>
    obtain ⟨rest, hr, hh⟩ := hW
    exact ⟨1, rest, rfl, by omega, by omega, by omega, hr, k2, hh⟩
  case round =>
    obtain ⟨m, rest, rfl, hm1, hmN, hg, hr, hb, hh⟩ := hrel
    clear hW hcp k2 hmk
    by_cases hlt : m < N
    · obtain ⟨mn, hmn⟩ : ∃ mn, Nat.min m (N - m) = mn := ⟨_, rfl⟩
      have hle : mn ≤ m ∧ mn ≤ N - m ∧ 1 ≤ mn := by
        have e : Nat.min m (N - m) = min m (N - m) := rfl
        rw [e] at hmn
        omega
      obtain ⟨hl1, hl2, hl3⟩ := hle
      have hmn' : Nat.min m (N - m) = mn := hmn
      obtain ⟨W3, hcp, hW3, hB3⟩ := copy_to (P := Tryd.prog) wr.drew 22 22 3 40 w.heap.size (m * 4) (N - m) (N - m) ⟨w.heap.size, 0, none⟩ m N 4 mn (flat (List.replicate m c) ++ rest) 40 (flat (List.replicate mn c)) und_cells size_cell hh hmn' (by rw [flat_len]; simp) (flat_src (w := wr.drew) hh _ ⟨flat (List.replicate (m - mn) c), by rw [← flat_append, rep_add, Nat.add_sub_cancel' hl1]⟩) (by rw [List.length_append, flat_len, flat_len]; simp; omega) (flat_one _)
      rw [copy_step] at hW3
      have k3 : Below w.heap.size w W3 := hB3 _ _ hb.drew (Nat.le_refl _)
      clear hmn hmn' hB3
      go_wp2_with fail
      go_region
      go_wp2_with fail
      go_roundg (N - (m + mn))
      case measure => omega
      case rel => exact ⟨m + mn, rest.drop (mn * 4), by simp, by omega, by omega, by omega, by rw [List.length_drop, hr]; omega, k3, hW3⟩
    · have hmE : m = N := by omega
      subst hmE
      go_wp2_with fail
      go_ret
      refine ⟨_, rfl, ⟨w.heap.size, m, rest, ⟨40, rfl⟩, ?_, Nat.le_refl _, by simp, by omega, hh⟩, hb⟩
      simp
end Grd
end Go.Proofs.YtinhmklpnkikgaaDoor

/- A grid, a cell, a rectangle out of what the row reads. -/
namespace Go.Proofs.YtinhmklpnkikgaaDoor
open Go.ChangeShapes Go.WideShapes Go.ChangeAt Go.RowKit
namespace Grd
theorem i64_in {x : Int} (h : (Lit.int .i64 x).wf = true) : -9223372036854775808 ≤ x ∧ x ≤ 9223372036854775807 := by
  have e1 : IntKind.i64.min = -9223372036854775808 := rfl
  have e2 : IntKind.i64.max = 9223372036854775807 := rfl
  simpa [Lit.wf, e1, e2] using h
theorem i32_in {x : Int} (h : (Lit.int .i32 x).wf = true) : -2147483648 ≤ x ∧ x ≤ 2147483647 := by
  have e1 : IntKind.i32.min = -2147483648 := rfl
  have e2 : IntKind.i32.max = 2147483647 := rfl
  simpa [Lit.wf, e1, e2] using h
def CIn (c : C) : Prop := (-2147483648 ≤ c.1 ∧ c.1 ≤ 2147483647) ∧ (-9223372036854775808 ≤ c.2.1 ∧ c.2.1 ≤ 9223372036854775807) ∧ (-9223372036854775808 ≤ c.2.2.1 ∧ c.2.2.1 ≤ 9223372036854775807) ∧ (-9223372036854775808 ≤ c.2.2.2 ∧ c.2.2.2 ≤ 9223372036854775807)
section
variable {H : Type} {enc : TypeId × Value → H} {W : World} {base : Nat} {spare : Nat → Bool} {held : Bool}
theorem open_style {fuel : Nat} {vs : List Value} {y : DataW H × List MemPlace} (h : DataW.trod enc Tryd.prog W base spare held fuel 38 vs = some y) :
    ∃ f b x : Int, vs = [.int .i64 f, .int .i64 b, .int .i64 x] ∧ (-9223372036854775808 ≤ f ∧ f ≤ 9223372036854775807) ∧ (-9223372036854775808 ≤ b ∧ b ≤ 9223372036854775807) ∧ (-9223372036854775808 ≤ x ∧ x ≤ 9223372036854775807) ∧ y.1 = .agg [.lit (.int .i64 f), .lit (.int .i64 b), .lit (.int .i64 x)] := by
  obtain ⟨y0, y1, y2, n, hy, hl, e0, e1, e2⟩ := Deep.trod_struct3 Tryd.underlying38 h
  rw [show Tryd.prog.cellsOf 38 = 3 by kernel_rfl] at hl
  simp only [show Tryd.prog.cellsOf 3 = 1 by kernel_rfl] at e0 e1 e2
  obtain ⟨f, k0, h0, w0⟩ := DataW.trod_int Tryd.underlying3 e0
  obtain ⟨b, k1, h1, w1⟩ := DataW.trod_int Tryd.underlying3 e1
  obtain ⟨x, k2, h2, w2⟩ := DataW.trod_int Tryd.underlying3 e2
  match vs, hl with
  | [a, b', c], _ =>
    simp at k0 k1 k2
    subst k0 k1 k2
    exact ⟨f, b, x, rfl, i64_in w0, i64_in w1, i64_in w2, by rw [hy, h0, h1, h2]⟩
theorem open_cell {fuel : Nat} {vs : List Value} {y : DataW H × List MemPlace} (h : DataW.trod enc Tryd.prog W base spare held fuel 40 vs = some y) :
    ∃ c : C, vs = words c ∧ CIn c ∧ y.1 = .agg [.lit (.int .i32 c.1), .agg [.lit (.int .i64 c.2.1), .lit (.int .i64 c.2.2.1), .lit (.int .i64 c.2.2.2)]] := by
  obtain ⟨y0, y1, n, hy, hl, e0, e1⟩ := trod_struct2 Tryd.underlying40 h
  rw [show Tryd.prog.cellsOf 40 = 4 by kernel_rfl] at hl
  simp only [show Tryd.prog.cellsOf 21 = 1 by kernel_rfl] at e0
  simp only [show Tryd.prog.cellsOf 38 = 3 by kernel_rfl] at e1
  obtain ⟨r, k0, h0, w0⟩ := DataW.trod_int Tryd.underlying21 e0
  obtain ⟨f, b, x, k1, wf, wb, wx, h1⟩ := open_style e1
  match vs, hl with
  | [a, b', c, d], _ =>
    simp at k0 k1
    obtain ⟨rfl, rfl, rfl⟩ := k1
    subst k0
    exact ⟨(r, f, b, x), rfl, ⟨i32_in w0, wf, wb, wx⟩, by rw [hy, h0, h1]⟩
/-- A slice of cells, out of what the row reads. -/
theorem open_cells {fuel : Nat} {v : Value} {y : DataW H × List MemPlace} (h : DataW.trod enc Tryd.prog W 0 (fun _ => true) true fuel 22 [v] = some y) :
    ∃ cs : List C, SliceAt W v cs ∧ (∀ c ∈ cs, CIn c) ∧ (cs = [] ∨ ∃ elems sp, y.1 = .slice elems sp ∧ cs.length = elems.length) := by
  rcases Deep.open_slice und_cells h with ⟨hcs, _⟩ | ⟨a, len, cap, m, n, D, Pl, hcs, _, hl, hm, hmm, rfl, hx⟩
  · simp at hcs
    subst hcs
    exact ⟨[], .inl ⟨rfl, _, _, rfl⟩, by simp, .inl rfl⟩
  · simp at hcs
    subst hcs
    simp only [if_true] at hmm
    rw [show Tryd.prog.cellsOf 40 = 4 by kernel_rfl] at hx
    obtain ⟨f, hf⟩ := Deep.choose_lt (α := C) (p := fun i c => (∀ j, j < 4 → W.cell? ((a.add (i * 4)).add j) = (words c)[j]?) ∧ CIn c) (n := len) (fun i hi => by
      obtain ⟨cs', h1, h2⟩ := hx i (by omega)
      obtain ⟨_, _, hc⟩ := World.cells?_some h1
      obtain ⟨c, rfl, hin, _⟩ := open_cell h2
      exact ⟨c, hc, hin⟩)
    refine ⟨(List.range len).map f, ?_, ?_, .inr ⟨_, _, rfl, by simp⟩⟩
    · by_cases h0 : len = 0
      · subst h0
        exact .inl ⟨by simp, _, _, rfl⟩
      · obtain ⟨b, off, spot⟩ := a
        have hspot : spot = none := by
          have := (hf 0 (by omega)).1 0 (by omega)
          simpa [Addr.add] using World.cell?_spot this
        subst hspot
        have hlen : ((List.range len).map f).length = len := by simp
        refine .inr ⟨fun e => by rw [e] at hlen; simp at hlen; omega, b, off, cap, by rw [hlen], by omega, by unfold maxLen at hm; omega, fun j hj => ?_⟩
        rw [hlen] at hj
        have hg : ((List.range len).map f).getD j z0 = f j := by simp [List.getD, hj]
        rw [hg]
        have hc := (hf j hj).1
        have c0 := hc 0 (by omega)
        have c1 := hc 1 (by omega)
        have c2 := hc 2 (by omega)
        have c3 := hc 3 (by omega)
        rw [add_plain, add_plain] at c0 c1 c2 c3
        exact ⟨c0, c1, c2, c3⟩
    · intro c hc
      simp only [List.mem_map, List.mem_range] at hc
      obtain ⟨i, hi, rfl⟩ := hc
      exact (hf i hi).2
set_option maxRecDepth 100000 in
theorem open_grid {r : Reach} {b0 : Nat} {v : Value} {d : DataW H} {p : List MemPlace} (hv : Value.okWide Tryd.prog W r b0 24 v) (h : DataW.Trod enc Tryd.prog W 0 (fun _ => true) true 24 v d p) :
    ∃ (a q : Int) (u : Value) (cs : List C), v = .agg #[.int .i64 a, .int .i64 q, u] ∧ (-9223372036854775808 ≤ a ∧ a ≤ 9223372036854775807) ∧ (-9223372036854775808 ≤ q ∧ q ≤ 9223372036854775807) ∧ SliceAt W u cs ∧ (∀ c ∈ cs, CIn c) ∧ (cs = [] ∨ ∃ d0 d1 elems sp, d = .agg [d0, d1, .slice elems sp] ∧ cs.length = elems.length) := by
  obtain ⟨e0, e1, e2, y0, y1, y2, n, rfl, hd, _, t0, t1, t2⟩ := Joins.open_agg3 Tryd.underlying24 (by kernel_rfl) (by kernel_rfl) hv h
  obtain ⟨a, k0, _, w0⟩ := DataW.trod_int Tryd.underlying3 t0
  obtain ⟨q, k1, _, w1⟩ := DataW.trod_int Tryd.underlying3 t1
  obtain ⟨cs, hs, hin, hz⟩ := open_cells t2
  obtain rfl : e0 = _ := by simpa using k0
  obtain rfl : e1 = _ := by simpa using k1
  refine ⟨a, q, e2, cs, rfl, i64_in w0, i64_in w1, hs, hin, ?_⟩
  rcases hz with h | ⟨el, sp, hy, hl⟩
  · exact .inl h
  · exact .inr ⟨_, _, el, sp, by rw [hd, hy], hl⟩
theorem sized_grid {ts : List TypeId} {ds : List (DataW H)} {j : Nat} {d : DataW H} {cs : List C} (h : (DataW.weightsEach Tryd.prog ts ds).all (· ≤ reachBytes) = true) (ht : ts[j]? = some 24) (hd : ds[j]? = some d) (hz : cs = [] ∨ ∃ d0 d1 elems sp, d = .agg [d0, d1, .slice elems sp] ∧ cs.length = elems.length) : cs.length * 32 ≤ 140737488351232 := by
  rcases hz with rfl | ⟨d0, d1, el, sp, rfl, hl⟩
  · simp
  · have hm : (el.length + sp.length) * Tryd.prog.bytesOf 40 ∈ (DataW.agg [d0, d1, .slice el sp] : DataW H).weights Tryd.prog 24 := by
      unfold DataW.weights
      rw [Tryd.underlying24]
      simp only [List.map_cons, List.map_nil, DataW.weightsEach, List.mem_append]
      right; right; left
      unfold DataW.weights
      rw [und_cells]
      exact List.mem_cons_self ..
    have := of_decide_eq_true (List.all_eq_true.1 h _ (DataW.weights_mem_each ht hd _ hm))
    rw [show Tryd.prog.bytesOf 40 = 32 by kernel_rfl, reachBytes] at this
    rw [hl]
    omega
set_option maxRecDepth 100000 in
theorem open_rect {r : Reach} {b0 : Nat} {v : Value} {d : DataW H} {p : List MemPlace} (hv : Value.okWide Tryd.prog W r b0 36 v) (h : DataW.Trod enc Tryd.prog W 0 (fun _ => true) true 36 v d p) :
    ∃ (a b c e : Int), v = .agg #[.int .i64 a, .int .i64 b, .int .i64 c, .int .i64 e] ∧ (-9223372036854775808 ≤ a ∧ a ≤ 9223372036854775807) ∧ (-9223372036854775808 ≤ b ∧ b ≤ 9223372036854775807) ∧ (-9223372036854775808 ≤ c ∧ c ≤ 9223372036854775807) ∧ (-9223372036854775808 ≤ e ∧ e ≤ 9223372036854775807) := by
  obtain ⟨e0, e1, e2, e3, y0, y1, y2, y3, n, rfl, hd, _, t0, t1, t2, t3⟩ := Joins.open_agg4 Tryd.underlying36 (by kernel_rfl) (by kernel_rfl) hv h
  obtain ⟨a, k0, _, w0⟩ := DataW.trod_int Tryd.underlying3 t0
  obtain ⟨b, k1, _, w1⟩ := DataW.trod_int Tryd.underlying3 t1
  obtain ⟨c, k2, _, w2⟩ := DataW.trod_int Tryd.underlying3 t2
  obtain ⟨e, k3, _, w3⟩ := DataW.trod_int Tryd.underlying3 t3
  obtain rfl : e0 = _ := by simpa using k0
  obtain rfl : e1 = _ := by simpa using k1
  obtain rfl : e2 = _ := by simpa using k2
  obtain rfl : e3 = _ := by simpa using k3
  exact ⟨a, b, c, e, rfl, i64_in w0, i64_in w1, i64_in w2, i64_in w3⟩
set_option maxRecDepth 100000 in
theorem open_cellV {r : Reach} {b0 : Nat} {v : Value} {d : DataW H} {p : List MemPlace} (hv : Value.okWide Tryd.prog W r b0 40 v) (h : DataW.Trod enc Tryd.prog W 0 (fun _ => true) true 40 v d p) :
    ∃ (a b c e : Int), v = .agg #[.int .i32 a, .int .i64 b, .int .i64 c, .int .i64 e] ∧ CIn (a, b, c, e) := by
  obtain ⟨cs, rfl, hsz⟩ := okWide_struct Tryd.underlying40 hv
  obtain ⟨fuel, hf⟩ := h
  obtain ⟨⟨a, b, c, e⟩, hcs, hin, _⟩ := open_cell hf
  refine ⟨a, b, c, e, ?_, hin⟩
  have : cs.toList = words (a, b, c, e) := hcs
  rw [← Array.toArray_toList (xs := cs), this]
  rfl
end
end Grd
end Go.Proofs.YtinhmklpnkikgaaDoor

/- The table of spans as the row lists it; a grid, a cell, a rectangle out of what the row reads. -/
namespace Go.Proofs.YtinhmklpnkikgaaDoor
open Go.ChangeShapes Go.WideShapes Go.ChangeAt Go.RowKit
namespace Txt
theorem slices3 : ∀ (l : List (Int × Int × Int)) (cs : List Value), cs.length = 3 * l.length → (∀ i x, l[i]? = some x → (cs.drop (i * 3)).take 3 = cell3 x) → cs = l.flatMap cell3
  | [], cs, hl, _ => by simpa using hl
  | x :: t, cs, hl, h => by
    have h0 := h 0 x rfl
    have ht := slices3 t (cs.drop 3) (by simp only [List.length_drop, List.length_cons] at hl ⊢; omega) (fun i y hy => by
      have := h (i + 1) y (by simpa using hy)
      rw [List.drop_drop]
      rwa [show 3 + i * 3 = (i + 1) * 3 from by omega])
    simp only [Nat.zero_mul, List.drop_zero] at h0
    rw [List.flatMap_cons, ← ht, ← h0, List.take_append_drop]
theorem laid_eq {H : Type} : (Rows.laid_trellis_text_spans : DataW H) = .agg (spans.map fun x => .agg [.lit (.int .i32 x.1), .lit (.int .i32 x.2.1), .lit (.int .i64 x.2.2)]) := rfl
theorem tab_of_reads {w : World} (h : Lib.VarReads Tryd.prog w "trellis/text.spans" Rows.laid_trellis_text_spans) : Tab w := by
  obtain ⟨g, t, cs, fuel, p, hg, hty, hvar, hd⟩ := h
  obtain rfl := Option.some.inj ((show Tryd.prog.globalNamed "trellis/text.spans" = some 0 by kernel_rfl).symm.trans hg)
  obtain rfl := Option.some.inj ((show (Tryd.prog.globals[0]?).map (fun x => x.type) = some 95 by kernel_rfl).symm.trans hty)
  have hlen : cs.toList.length = 63 := by
    obtain ⟨xs, m, _, _, hl, _, _⟩ := DataW.trod_array Tryd.underlying95 hd
    rw [hl]; kernel_rfl
  rw [laid_eq] at hd
  have hcs : cs.toList = spans.flatMap cell3 := by
    refine slices3 spans cs.toList (by rw [hlen]; rfl) (fun i x hx => ?_)
    have hi : i < 21 := (List.getElem?_eq_some_iff.1 hx).1
    obtain ⟨fuel', d, q, hdi, he⟩ := Lib.array_elem Tryd.underlying95 hd i hi
    rw [List.getElem?_map, hx] at hdi
    obtain rfl := Option.some.inj hdi
    rw [show Tryd.prog.cellsOf 94 = 3 by kernel_rfl] at he
    obtain ⟨y0, y1, y2, n, hy, hl, e0, e1, e2⟩ := Deep.trod_struct3 Tryd.underlying94 he
    rw [show Tryd.prog.cellsOf 94 = 3 by kernel_rfl] at hl
    generalize (cs.toList.drop (i * 3)).take 3 = c3 at *
    simp only [Prod.mk.injEq, DataW.agg.injEq, List.cons.injEq, and_true] at hy
    obtain ⟨⟨g0, g1, g2⟩, _⟩ := hy
    simp only [show Tryd.prog.cellsOf 21 = 1 by kernel_rfl, show Tryd.prog.cellsOf 3 = 1 by kernel_rfl] at e0 e1 e2
    obtain ⟨z0, k0, rfl, _⟩ := DataW.trod_int Tryd.underlying21 e0
    obtain ⟨z1, k1, rfl, _⟩ := DataW.trod_int Tryd.underlying21 e1
    obtain ⟨z2, k2, rfl, _⟩ := DataW.trod_int Tryd.underlying3 e2
    match c3, hl with
    | [a, b, c], _ =>
      simp at k0 k1 k2 g0 g1 g2
      subst k0 k1 k2 g0 g1 g2
      rfl
  unfold World.var? at hvar
  rw [hg] at hvar
  simp only [Option.bind_some] at hvar
  split at hvar
  · rename_i c tt fr hh
    obtain rfl := Option.some.inj hvar
    have hc : c = spanCells := by unfold spanCells; rw [← hcs]
    exact ⟨tt, fr, by rw [hh, hc]⟩
  · cases hvar
theorem first_eq : Lib.firstData = Rows.laid_unicode_utf8_first := by kernel_rfl
def firstCells : Array Value := (Go.Pinned.utf8FirstZ.map fun (z : Nat) => Value.int .u8 (z : Int)).toArray
theorem accept_eq : Lib.acceptData = Rows.laid_unicode_utf8_acceptRanges := by kernel_rfl
def acceptCells : Array Value := ((List.range 16).flatMap fun i => [Value.int .u8 (Lib.accLo i : Int), Value.int .u8 (Lib.accHi i : Int)]).toArray
end Txt
end Go.Proofs.YtinhmklpnkikgaaDoor

/- grid.New and the reference's NewGrid. -/
namespace Go.Proofs.YtinhmklpnkikgaaDoor
open Go.ChangeShapes Go.WideShapes Go.ChangeAt Go.RowKit
namespace Grd
def blank : C := (32, 0, 0, 0)
theorem results_row_tmp {P : Program} {fn : Func} {p u : Tmp} {ty : TypeId} (h : fn.results = #[.cell p ty, .tmp u]) (tmps : Array Value) (w : World) (g : Nat) (t : TypeId) (cs : Array Value) (fr : Nat × Nat) (d : TypeDesc)
    (hp : tmps.getD p undef = .pointer (some ⟨g, 0, none⟩)) (hg : w.heap[g]? = some (.cells cs t fr))
    (hu : P.underlying ty = some d) (hd : (match d with | .struct _ | .array _ _ => true | _ => false) = true) (hi : (P.info? ty).map (·.size) = some cs.size) (v : Value) (hv : tmps.getD u undef = v) :
    (results fn tmps).run P w = .ok (.tuple #[.agg cs, v]) w := by
  rw [results_cell_tmp h, hp, hv]
  simp [asAddr, run_loadVar_row w g t ty cs fr d hg hu hd hi, Result.andThen]
theorem one3v (a b : Int) (x : Option Addr) (n c : Nat) : (#[.int .i64 a, .int .i64 b, .slice x n c] : Array Value).all (·.oneCell') = true := by simp [Value.oneCell']
set_option maxHeartbeats 1000000 in
theorem new_bad (a h : Int) (w : World) (hs : isSize a h = false) :
    Calls Tryd.prog 9 #[.int .i64 a, .int .i64 h] w fun e w' => e = .returned (.tuple #[.agg #[.int .i64 0, .int .i64 0, .slice none 0 0], .int .i64 3]) ∧ Below w.heap.size w w' := by
  have H : Hid (isSize a h = false) := hs
  clear hs
  go_enter Tryd.func9, Tryd.ntmps9
  go_wp2_with (go_at_call 34; refine (isSize_to a h _ H.out _).mono ?_; rintro e W1 ⟨rfl, rfl⟩)
  refine bodyPost_ret (v := .tuple #[.agg #[.int .i64 0, .int .i64 0, .slice none 0 0], .int .i64 3]) ?_ rfl ⟨rfl, (Below.refl _ _).alloc (Nat.le_refl _) _⟩
  exact results_row_tmp rfl _ _ w.heap.size _ _ _ _ rfl (heap_alloc_new _ _) Tryd.underlying24 rfl (by kernel_rfl) _ rfl
set_option maxHeartbeats 1000000 in
theorem new_good (a q : Int) (w : World) (hs : isSize a q = true) :
    Calls Tryd.prog 9 #[.int .i64 a, .int .i64 q] w fun e w' => ∃ v, e = .returned (.tuple #[.agg #[.int .i64 a, .int .i64 q, v], .int .i64 0]) ∧ OwnG w' w.heap.size v (List.replicate (a * q).toNat blank) ∧ Below w.heap.size w w' := by
  have H : Hid (isSize a q = true) := hs
  have ⟨p0, p1, p2, p3, p4, p5⟩ := prod_in a q hs
  clear hs
  obtain ⟨N, hN⟩ := Int.eq_ofNat_of_zero_le p0
  have hN1 : 1 ≤ N := by
    have : 1 * 1 ≤ a * q := Int.mul_le_mul p2 p4 (by omega) (by omega)
    omega
  have hN2 : N ≤ 7200 := by omega
  clear p0 p1
  go_enter Tryd.func9, Tryd.ntmps9
  have hk : Below w.heap.size w ((w.alloc (.cells #[.int .i64 0, .int .i64 0, .slice none 0 0] 24)).alloc (.cells #[.int .i32 32, .int .i64 0, .int .i64 0, .int .i64 0] 40)) := ((Below.refl _ _).alloc (Nat.le_refl _) _).alloc (by simp) _
  have hcl : CellsAt ((w.alloc (.cells #[.int .i64 0, .int .i64 0, .slice none 0 0] 24)).alloc (.cells #[.int .i32 32, .int .i64 0, .int .i64 0, .int .i64 0] 40)) (w.heap.size + 1) 0 [blank] := by
    refine cellsAt_flat (rest := []) (t := 40) ?_
    exact heap_alloc2_new w _ _
  have hbk : ((w.alloc (.cells #[.int .i64 0, .int .i64 0, .slice none 0 0] 24)).alloc (.cells #[.int .i32 32, .int .i64 0, .int .i64 0, .int .i64 0] 40)).heap[w.heap.size]? = some (.cells #[.int .i64 0, .int .i64 0, .slice none 0 0] 24 (0, 0)) := (Below.heap_alloc _ _ _ (by simp)).trans (heap_alloc_new _ _)
  have HK := repeat_one (w.heap.size + 1) 0 1 N blank _ hcl hN1 hN2
  generalize hW0 : ((w.alloc (.cells #[.int .i64 0, .int .i64 0, .slice none 0 0] 24)).alloc (.cells #[.int .i32 32, .int .i64 0, .int .i64 0, .int .i64 0] 40)) = W0 at HK hk hbk hcl
  have HK' : Hid (Calls Tryd.prog 35 #[.slice (some ⟨w.heap.size + 1, 0, none⟩) 1 1, .int .i64 (N : Int)] W0 fun e w' => ∃ v', e = .returned v' ∧ OwnG w' W0.heap.size v' (List.replicate N blank) ∧ Below W0.heap.size W0 w') := HK
  have HW0 : Hid (((w.alloc (.cells #[.int .i64 0, .int .i64 0, .slice none 0 0] 24)).alloc (.cells #[.int .i32 32, .int .i64 0, .int .i64 0, .int .i64 0] 40)) = W0) := hW0
  clear HK hcl hW0
  go_wp2_with (first
    | (go_at_call 34; refine (isSize_to a q _ H.out _).mono ?_; rintro e W1 ⟨rfl, rfl⟩)
    | (go_at_call 35; rw [HW0.out]; refine HK'.out.mono ?_; rintro e W2 ⟨v, rfl, ⟨g, cap, rest, t, rfl, hgb, hlc, hcm, hgh⟩, b2⟩; have hr := carry hbk b2)
    | (refine wpList_store_row rfl 24 (.tmp 4) _ rfl w.heap.size #[.int .i64 a, .int .i64 q, .slice (some ⟨g, 0, none⟩) N cap] rfl rfl _ _ hr (by kernel_rfl) rfl (one3v _ _ _ _ _) ?_))
  (try simp only [Exit.inBlock, Exit.then])
  have hl : (List.replicate N blank).length = N := by simp
  rw [hl] at hlc
  refine bodyPost_ret (v := .tuple #[.agg #[.int .i64 a, .int .i64 q, .slice (some ⟨g, 0, none⟩) N cap], .int .i64 0]) ?_ rfl ⟨_, rfl, ⟨g, cap, rest, t, by rw [hN, Int.toNat_natCast, hl], by have := hk.size; omega, by rw [hN, Int.toNat_natCast, hl]; exact hlc, hcm, ?_⟩, below_setRow (hk.trans (b2.mono hk.size)) (Nat.le_refl _) _⟩
  · exact results_row_tmp rfl _ _ w.heap.size _ _ _ _ rfl (setRow_heap _ _ _ _ _ _ hr) Tryd.underlying24 rfl (by kernel_rfl) _ rfl
  · rw [hN, Int.toNat_natCast, setRow_other _ _ _ _ (by have := hk.size; have := blk_lt hbk; omega)]
    exact hgh
end Grd
end Go.Proofs.YtinhmklpnkikgaaDoor

/- The reference's NewGrid; noGrid, size. -/
namespace Go.Proofs.YtinhmklpnkikgaaDoor
open Go.ChangeShapes Go.WideShapes Go.ChangeAt Go.RowKit
namespace Grd
set_option maxHeartbeats 1000000 in
theorem newGrid_any (a q : Int) (w : World) (hs : isSize a q = true) :
    Calls Tryd.prog 16 #[.int .i64 a, .int .i64 q] w fun e w' => ∃ v, e = .returned (.agg #[.int .i64 a, .int .i64 q, v]) ∧ OwnG w' w.heap.size v (List.replicate (a * q).toNat blank) ∧ Below w.heap.size w w' := by
  have ⟨p0, p1, p2, p3, p4, p5⟩ := prod_in a q hs
  clear hs
  obtain ⟨N, hN⟩ := Int.eq_ofNat_of_zero_le p0
  have hN1 : 1 ≤ N := by
    have : 1 * 1 ≤ a * q := Int.mul_le_mul p2 p4 (by omega) (by omega)
    omega
  have hN2 : N ≤ 7200 := by omega
  clear p0 p1
  go_enter Tryd.func16, Tryd.ntmps16
  have hk : Below w.heap.size w ((w.alloc (.cells #[.int .i64 0, .int .i64 0, .slice none 0 0] 24)).alloc (.cells #[.int .i32 32, .int .i64 0, .int .i64 0, .int .i64 0] 40)) := ((Below.refl _ _).alloc (Nat.le_refl _) _).alloc (by simp) _
  have hcl : CellsAt ((w.alloc (.cells #[.int .i64 0, .int .i64 0, .slice none 0 0] 24)).alloc (.cells #[.int .i32 32, .int .i64 0, .int .i64 0, .int .i64 0] 40)) (w.heap.size + 1) 0 [blank] := by
    refine cellsAt_flat (rest := []) (t := 40) ?_
    exact heap_alloc2_new w _ _
  have hbk : ((w.alloc (.cells #[.int .i64 0, .int .i64 0, .slice none 0 0] 24)).alloc (.cells #[.int .i32 32, .int .i64 0, .int .i64 0, .int .i64 0] 40)).heap[w.heap.size]? = some (.cells #[.int .i64 0, .int .i64 0, .slice none 0 0] 24 (0, 0)) := (Below.heap_alloc _ _ _ (by simp)).trans (heap_alloc_new _ _)
  have HK := repeat_one (w.heap.size + 1) 0 1 N blank _ hcl hN1 hN2
  generalize hW0 : ((w.alloc (.cells #[.int .i64 0, .int .i64 0, .slice none 0 0] 24)).alloc (.cells #[.int .i32 32, .int .i64 0, .int .i64 0, .int .i64 0] 40)) = W0 at HK hk hbk hcl
  have HK' : Hid (Calls Tryd.prog 35 #[.slice (some ⟨w.heap.size + 1, 0, none⟩) 1 1, .int .i64 (N : Int)] W0 fun e w' => ∃ v', e = .returned v' ∧ OwnG w' W0.heap.size v' (List.replicate N blank) ∧ Below W0.heap.size W0 w') := HK
  have HW0 : Hid (((w.alloc (.cells #[.int .i64 0, .int .i64 0, .slice none 0 0] 24)).alloc (.cells #[.int .i32 32, .int .i64 0, .int .i64 0, .int .i64 0] 40)) = W0) := hW0
  clear HK hcl hW0
  go_wp2_with (first
    | (go_at_call 35; rw [HW0.out]; refine HK'.out.mono ?_; rintro e W2 ⟨v, rfl, ⟨g, cap, rest, t, rfl, hgb, hlc, hcm, hgh⟩, b2⟩; have hr := carry hbk b2)
    | (refine wpList_store_row rfl 24 (.tmp 4) _ rfl w.heap.size #[.int .i64 a, .int .i64 q, .slice (some ⟨g, 0, none⟩) N cap] rfl rfl _ _ hr (by kernel_rfl) rfl (one3v _ _ _ _ _) ?_))
  (try simp only [Exit.inBlock, Exit.then])
  have hl : (List.replicate N blank).length = N := by simp
  rw [hl] at hlc
  refine bodyPost_ret (v := .agg #[.int .i64 a, .int .i64 q, .slice (some ⟨g, 0, none⟩) N cap]) ?_ rfl ⟨_, rfl, ⟨g, cap, rest, t, by rw [hN, Int.toNat_natCast, hl], by have := hk.size; omega, by rw [hN, Int.toNat_natCast, hl]; exact hlc, hcm, ?_⟩, below_setRow (hk.trans (b2.mono hk.size)) (Nat.le_refl _) _⟩
  · exact results_cell_row rfl _ _ w.heap.size _ _ _ _ rfl (setRow_heap _ _ _ _ _ _ hr) Tryd.underlying24 rfl (by kernel_rfl)
  · rw [hN, Int.toNat_natCast, setRow_other _ _ _ _ (by have := hk.size; have := blk_lt hbk; omega)]
    exact hgh
theorem size_any (a b : Int) (w : World) :
    Calls Tryd.prog 13 #[.int .i64 a, .int .i64 b] w fun e w' => e = .returned (.bool (isSize a b)) ∧ w = w' := by
  go_enter Tryd.func13, Tryd.ntmps13
  go_wp2
  all_goals (go_ret; exact ⟨Sty.ret_bool (by rw [Bool.eq_iff_iff]; simp [isSize]; try omega), rfl⟩)
set_option maxHeartbeats 1000000 in
theorem noGrid_none (w : World) :
    Calls Tryd.prog 14 #[.agg #[.int .i64 0, .int .i64 0, .slice none 0 0]] w fun e w' => e = .returned (.bool true) ∧ Below w.heap.size w w' := by
  go_enter Tryd.func14, Tryd.ntmps14
  go_wp2_with fail
  go_ret
  exact ⟨rfl, (Below.refl _ _).alloc (Nat.le_refl _) _⟩
end Grd
end Go.Proofs.YtinhmklpnkikgaaDoor

/- slices.Equal of cells that read alike; SameGrid. -/
namespace Go.Proofs.YtinhmklpnkikgaaDoor
open Go.ChangeShapes Go.WideShapes Go.ChangeAt Go.RowKit
namespace Grd
theorem neq_cell (r f b x : Int) (w : World) : (binOp .neq 40 (.agg #[.int .i32 r, .int .i64 f, .int .i64 b, .int .i64 x]) (.agg #[.int .i32 r, .int .i64 f, .int .i64 b, .int .i64 x])).run Tryd.prog w = .ok (.bool false) w := by
  go_simp
set_option maxHeartbeats 1000000 in
theorem equal_cells (b1 o1 c1 b2 o2 c2 : Nat) (cs : List C) (w : World) (h1 : CellsAt w b1 o1 cs) (h2 : CellsAt w b2 o2 cs) (hn : cs.length ≤ 1000000) :
    Calls Tryd.prog 38 #[.slice (some ⟨b1, o1, none⟩) cs.length c1, .slice (some ⟨b2, o2, none⟩) cs.length c2] w fun e w' => e = .returned (.bool true) ∧ Below w.heap.size w w' := by
  have H1 : Hid (CellsAt w b1 o1 cs) := h1
  have H2 : Hid (CellsAt w b2 o2 cs) := h2
  clear h1 h2
  generalize hl : cs.length = L at *
  have HL : Hid (cs.length = L) := hl
  clear hl
  have ne : ((L : Int) != (L : Int)) = false := by simp
  go_enter Tryd.func38, Tryd.ntmps38
  go_wp2_with fail
  go_loopg [13] L (fun g i wr => ∃ k : Nat, i = .int .i64 (k : Int) ∧ k ≤ L ∧ L - k ≤ g ∧ Below w.heap.size w wr)
  case atStart => exact ⟨0, rfl, by omega, by omega, Below.refl _ _⟩
  case round =>
    obtain ⟨k, rfl, hk, hg, hb⟩ := hrel
    by_cases hlt : k < L
    · have lt1 : ((k : Int) < (L : Int)) := by omega
      obtain ⟨p0, p1, p2, p3⟩ := H1.out.below hb k (by rw [HL.out]; exact hlt)
      obtain ⟨q0, q1, q2, q3⟩ := H2.out.below hb k (by rw [HL.out]; exact hlt)
      rcases hc : cs.getD k z0 with ⟨r, f, bk, x⟩
      rw [hc] at p0 p1 p2 p3 q0 q1 q2 q3
      dsimp only at p0 p1 p2 p3 q0 q1 q2 q3
      clear hc
      have nq := neq_cell r f bk x
      go_wp2_with fail
      go_region
      go_wp2_with fail
      go_roundg (L - (k + 1))
      case measure => omega
      case rel => exact ⟨k + 1, rfl, by omega, by omega, hb.drew⟩
    · have lt1 : ¬ ((k : Int) < (L : Int)) := by omega
      go_wp2_with fail
      go_ret
      exact ⟨rfl, hb⟩
set_option maxHeartbeats 1000000 in
theorem equal_empty (a1 a2 : Option Addr) (c1 c2 : Nat) (w : World) :
    Calls Tryd.prog 38 #[.slice a1 0 c1, .slice a2 0 c2] w fun e w' => e = .returned (.bool true) ∧ Below w.heap.size w w' := by
  go_enter Tryd.func38, Tryd.ntmps38
  go_wp2_with fail
  go_loopg [13] 1 (fun g i wr => i = .int .i64 0 ∧ wr = w)
  case atStart => exact ⟨rfl, rfl⟩
  case round =>
    obtain ⟨rfl, rfl⟩ := hrel
    go_wp2_with fail
    go_ret
    exact ⟨rfl, Below.refl _ _⟩
theorem equal_slices (v1 v2 : Value) (cs : List C) (w : World) (h1 : SliceAt w v1 cs) (h2 : SliceAt w v2 cs) (hn : cs.length ≤ 1000000) :
    Calls Tryd.prog 38 #[v1, v2] w fun e w' => e = .returned (.bool true) ∧ Below w.heap.size w w' := by
  rcases h1 with ⟨rfl, a1, c1, rfl⟩ | ⟨h0, b1, o1, c1, rfl, _, _, hC1⟩
  · rcases h2 with ⟨_, a2, c2, rfl⟩ | ⟨h0, _⟩
    · exact equal_empty a1 a2 c1 c2 w
    · exact absurd rfl h0
  · rcases h2 with ⟨rfl, _⟩ | ⟨_, b2, o2, c2, rfl, _, _, hC2⟩
    · exact absurd rfl h0
    · exact equal_cells b1 o1 c1 b2 o2 c2 cs w hC1 hC2 hn
set_option maxHeartbeats 1000000 in
/-- SameGrid of two grids that read alike. -/
theorem same_any (a h : Int) (v1 v2 : Value) (cs : List C) (w : World) (h1 : SliceAt w v1 cs) (h2 : SliceAt w v2 cs) (hn : cs.length ≤ 1000000) :
    Calls Tryd.prog 15 #[.agg #[.int .i64 a, .int .i64 h, v1], .agg #[.int .i64 a, .int .i64 h, v2]] w fun e w' => e = .returned (.bool true) ∧ Below w.heap.size w w' := by
  have H1 : Hid (SliceAt w v1 cs) := h1
  have H2 : Hid (SliceAt w v2 cs) := h2
  clear h1 h2
  have kk : Below w.heap.size w ((w.alloc (.cells #[.int .i64 a, .int .i64 h, v1] 24)).alloc (.cells #[.int .i64 a, .int .i64 h, v2] 24)) := ((Below.refl _ _).alloc (Nat.le_refl _) _).alloc (by simp) _
  have aa : (a == a) = true := by simp
  have ee : (h == h) = true := by simp
  go_enter Tryd.func15, Tryd.ntmps15
  go_wp2_with (first | (go_at_call 38; refine (equal_slices v1 v2 cs _ (H1.out.below kk) (H2.out.below kk) hn).mono ?_; rintro e W1 ⟨rfl, b1⟩))
  go_ret
  exact ⟨rfl, kk.trans (b1.mono kk.size)⟩
end Grd
end Go.Proofs.YtinhmklpnkikgaaDoor

/- What a call that writes into some blocks of its caller's own leaves as it was. -/
namespace Go.Proofs.YtinhmklpnkikgaaDoor
open Go.ChangeShapes Go.WideShapes Go.ChangeAt Go.RowKit
namespace Grd
/-- Below N all is as it was; of the blocks that were there only those of S may have turned. -/
def Apart (N : Nat) (S : List Nat) (w w' : World) : Prop := Below N w w' ∧ ∀ k, k ∉ S → k < w.heap.size → w'.heap[k]? = w.heap[k]?
theorem Apart.size {N : Nat} {S : List Nat} {w w' : World} (h : Apart N S w w') : w.heap.size ≤ w'.heap.size := h.1.size
theorem Apart.refl (N : Nat) (S : List Nat) (w : World) : Apart N S w w := ⟨Below.refl _ _, fun _ _ _ => rfl⟩
theorem Apart.trans {N : Nat} {S : List Nat} {a b c : World} (h : Apart N S a b) (k : Apart N S b c) : Apart N S a c :=
  ⟨h.1.trans k.1, fun i hi hl => (k.2 i hi (Nat.lt_of_lt_of_le hl h.size)).trans (h.2 i hi hl)⟩
theorem Apart.mono {N M : Nat} {S T : List Nat} {a b : World} (h : Apart N S a b) (hN : M ≤ N) (hS : ∀ k, k ∈ S → k ∈ T) : Apart M T a b :=
  ⟨h.1.mono hN, fun i hi hl => h.2 i (fun q => hi (hS i q)) hl⟩
theorem Apart.of {N : Nat} {S : List Nat} {a b : World} (h : Below a.heap.size a b) (hN : N ≤ a.heap.size) : Apart N S a b := ⟨h.mono hN, fun i _ hl => h.block i hl⟩
theorem Apart.step {N : Nat} {S : List Nat} {a b c : World} (h : Apart N S a b) (k : Below b.heap.size b c) (hN : N ≤ b.heap.size) : Apart N S a c := h.trans (.of k hN)
theorem Apart.setCell {N : Nat} {S : List Nat} {a b : World} (h : Apart N S a b) (g o : Nat) (v : Value) (hg : g ∈ S) (hN : N ≤ g) : Apart N S a (b.setCell ⟨g, o, none⟩ v) :=
  h.trans ⟨(Below.refl _ _).setCell hN v, fun i hi _ => heap_setCell_other _ _ _ _ (fun e => hi (by rw [e]; exact hg))⟩
theorem heap_setCells_ne (g k : Nat) (hne : k ≠ g) : ∀ (vs : List Value) (o : Nat) (w : World), (w.setCells g o vs).heap[k]? = w.heap[k]?
  | [], _, _ => rfl
  | v :: r, o, w => by
    show ((w.setCell ⟨g, o, none⟩ v).setCells g (o + 1) r).heap[k]? = _
    rw [heap_setCells_ne g k hne r (o + 1) _, heap_setCell_other _ _ _ _ hne]
theorem size_setCells (g : Nat) : ∀ (vs : List Value) (o : Nat) (w : World), (w.setCells g o vs).heap.size = w.heap.size
  | [], _, _ => rfl
  | v :: r, o, w => by
    show ((w.setCell ⟨g, o, none⟩ v).setCells g (o + 1) r).heap.size = _
    rw [size_setCells g r (o + 1) _]; simp
theorem below_cells {B g : Nat} {a : World} (hb : B ≤ g) : ∀ (vs : List Value) (o : Nat) (w : World), Below B a w → Below B a (w.setCells g o vs)
  | [], _, _, h => h
  | v :: r, o, _, h => below_cells hb r (o + 1) _ (h.setCell hb v)
theorem Apart.setCells {N : Nat} {S : List Nat} {a b : World} (h : Apart N S a b) (g o : Nat) (vs : List Value) (hg : g ∈ S) (hN : N ≤ g) : Apart N S a (b.setCells g o vs) :=
  h.trans ⟨below_cells hN _ _ _ (Below.refl _ _), fun i hi _ => heap_setCells_ne _ _ (fun e => hi (by rw [e]; exact hg)) _ _ _⟩
theorem Apart.iterAt {N : Nat} {S : List Nat} {a b : World} (h : Apart N S a b) (g : Nat) (s : ByteArray) (p : Nat) (hg : g ∈ S) (hN : N ≤ g) : Apart N S a (b.iterAt g s p) :=
  h.trans ⟨Lib.below_iterAt (Below.refl _ _) hN s p, fun i hi _ => Lib.iterAt_other _ _ _ _ _ (fun e => hi (by rw [e]; exact hg))⟩
theorem Apart.alloc {N : Nat} {S : List Nat} {a b : World} (h : Apart N S a b) (o : Obj) (hN : N ≤ b.heap.size) : Apart N S a (b.alloc o) :=
  h.step ((Below.refl _ _).alloc (Nat.le_refl _) o) hN
theorem Apart.drew {N : Nat} {S : List Nat} {a b : World} (h : Apart N S a b) : Apart N S a b.drew := ⟨h.1.drew, h.2⟩
/-- A block that was there, and is none of S, is as it was. -/
theorem Apart.carry {N : Nat} {S : List Nat} {a b : World} (h : Apart N S a b) {k : Nat} {o : Obj} (hk : a.heap[k]? = some o) (hS : k ∉ S) : b.heap[k]? = some o :=
  (h.2 k hS (blk_lt hk)).trans hk
end Grd
end Go.Proofs.YtinhmklpnkikgaaDoor

/- The walk of isParted, where it says no. -/
namespace Go.Proofs.YtinhmklpnkikgaaDoor
open Go.ChangeShapes Go.WideShapes Go.ChangeAt Go.RowKit
namespace Grd
open Txt (wd)
set_option maxHeartbeats 1000000 in
theorem parted_thin (b o c : Nat) (cs : List C) (x : Nat) (r : Int) (w : World) (hT : Txt.Tab w) (hx : x < cs.length)
    (h0 : w.cell? ⟨b, o + x * 4, none⟩ = some (.int .i32 r)) (hw : wd r ≠ 2) :
    Calls Tryd.prog 57 #[.slice (some ⟨b, o, none⟩) cs.length c, .int .i64 (x : Int)] w fun e w' => e = .returned (.bool false) ∧ Below w.heap.size w w' := by
  have HT : Hid (Txt.Tab w) := hT
  have nw : (wd r == 2) = false := by simpa using hw
  have y0 : ∀ d os, (Sort.grow (redrawn w d) os).cell? ⟨b, o + x * 4, none⟩ = some (.int .i32 r) := fun d os => cell_regrown h0 d os
  have K4 : Hid (∀ d os, Calls Tryd.prog 40 #[.int .i32 r] (Sort.grow (redrawn w d) os) fun e w'' => e = .returned (.int .i64 (wd r)) ∧ ∃ p : Regrown, w'' = Sort.grow (redrawn w p.d) p.os) := fun d os => Calls.regrown_of (Txt.width_any r _ (Tab.next HT.out (below_regrown w d os)))
  clear hT hw h0
  generalize wd r = v at *
  go_enter Tryd.func57, Tryd.ntmps57
  go_wp2_with fail
  refine wp_region_quiet_below (by kernel_rfl) (by kernel_rfl) ?_
  repeat (first | go_big_quiet_skip | quiet_step (first | (go_at_call 40; exact K4.out _ _)))
  refine wpQuiet_nil ?_
  intro _ hw'
  obtain ⟨⟨dq, os⟩, hw''⟩ := hw'
  subst hw''
  have k3 : Below w.heap.size w (Sort.grow (redrawn w dq) os) := below_regrown w dq os
  generalize Sort.grow (redrawn w dq) os = W3 at *
  go_wp2_with fail
  go_ret
  exact ⟨rfl, k3⟩
set_option maxHeartbeats 1000000 in
theorem parted_same (b o c : Nat) (cs : List C) (x : Nat) (r f bk xx : Int) (w : World) (hT : Txt.Tab w) (hx : x + 1 < cs.length) (hn : cs.length ≤ 1000000)
    (h0 : w.cell? ⟨b, o + x * 4, none⟩ = some (.int .i32 r)) (h1 : w.cell? ⟨b, o + x * 4 + 1, none⟩ = some (.int .i64 f)) (h2 : w.cell? ⟨b, o + x * 4 + 2, none⟩ = some (.int .i64 bk)) (h3 : w.cell? ⟨b, o + x * 4 + 3, none⟩ = some (.int .i64 xx))
    (p1 : w.cell? ⟨b, o + (x + 1) * 4 + 1, none⟩ = some (.int .i64 f)) (p2 : w.cell? ⟨b, o + (x + 1) * 4 + 2, none⟩ = some (.int .i64 bk)) (p3 : w.cell? ⟨b, o + (x + 1) * 4 + 3, none⟩ = some (.int .i64 xx)) (hw : wd r = 2) :
    Calls Tryd.prog 57 #[.slice (some ⟨b, o, none⟩) cs.length c, .int .i64 (x : Int)] w fun e w' => e = .returned (.bool false) ∧ Below w.heap.size w w' := by
  have HT : Hid (Txt.Tab w) := hT
  have hx0 : x < cs.length := by omega
  have hwr : IntKind.i64.wrap ((x : Int) + 1) = (x : Int) + 1 := by unfold IntKind.wrap; simp [IntKind.bits, IntKind.signed]; omega
  have hx1 : (0 : Int) ≤ (x : Int) + 1 := by omega
  have hx2 : (x : Int) + 1 < (cs.length : Int) := by omega
  have hx3 : ((x : Int) + 1).toNat = x + 1 := by omega
  have nq : ∀ w, (binOp .neq 38 (.agg #[.int .i64 f, .int .i64 bk, .int .i64 xx]) (.agg #[.int .i64 f, .int .i64 bk, .int .i64 xx])).run Tryd.prog w = .ok (.bool false) w := fun w => by rw [Sty.neq_agg]; simp
  have y0 : ∀ d os, (Sort.grow (redrawn w d) os).cell? ⟨b, o + x * 4, none⟩ = some (.int .i32 r) := fun d os => cell_regrown h0 d os
  have y1 : ∀ d os, (Sort.grow (redrawn w d) os).cell? ⟨b, o + x * 4 + 1, none⟩ = some (.int .i64 f) := fun d os => cell_regrown h1 d os
  have y2 : ∀ d os, (Sort.grow (redrawn w d) os).cell? ⟨b, o + x * 4 + 2, none⟩ = some (.int .i64 bk) := fun d os => cell_regrown h2 d os
  have y3 : ∀ d os, (Sort.grow (redrawn w d) os).cell? ⟨b, o + x * 4 + 3, none⟩ = some (.int .i64 xx) := fun d os => cell_regrown h3 d os
  have u1 : ∀ d os, (Sort.grow (redrawn w d) os).cell? ⟨b, o + (x + 1) * 4 + 1, none⟩ = some (.int .i64 f) := fun d os => cell_regrown p1 d os
  have u2 : ∀ d os, (Sort.grow (redrawn w d) os).cell? ⟨b, o + (x + 1) * 4 + 2, none⟩ = some (.int .i64 bk) := fun d os => cell_regrown p2 d os
  have u3 : ∀ d os, (Sort.grow (redrawn w d) os).cell? ⟨b, o + (x + 1) * 4 + 3, none⟩ = some (.int .i64 xx) := fun d os => cell_regrown p3 d os
  have K4 : Hid (∀ d os, Calls Tryd.prog 40 #[.int .i32 r] (Sort.grow (redrawn w d) os) fun e w'' => e = .returned (.int .i64 2) ∧ ∃ p : Regrown, w'' = Sort.grow (redrawn w p.d) p.os) := fun d os => Calls.regrown_of (width_to r _ (Tab.next HT.out (below_regrown w d os)) 2 hw)
  clear hT hw h0 h1 h2 h3 p1 p2 p3
  go_enter Tryd.func57, Tryd.ntmps57
  go_wp2_with fail
  refine wp_region_quiet_below (by kernel_rfl) (by kernel_rfl) ?_
  repeat (first | go_big_quiet_skip | quiet_step (first | (go_at_call 40; exact K4.out _ _)))
  refine wpQuiet_nil ?_
  intro _ hw'
  obtain ⟨⟨dq, os⟩, hw''⟩ := hw'
  subst hw''
  have k3 : Below w.heap.size w (Sort.grow (redrawn w dq) os) := below_regrown w dq os
  generalize Sort.grow (redrawn w dq) os = W3 at *
  go_wp2_with fail
  go_ret
  exact ⟨rfl, k3⟩
/-- A cell that isn't loose, and looks as the one behind it where it is wide. -/
theorem parted_of (b o c : Nat) (cs : List C) (x : Nat) (w : World) (hT : Txt.Tab w) (hC : CellsAt w b o cs) (hx : x < cs.length) (hn : cs.length ≤ 1000000) (hl : loose cs x = false) (hA : x + 1 < cs.length → wd (cs.getD x z0).1 = 2 → (cs.getD (x + 1) z0).1 = 0 → (cs.getD x z0).2 = (cs.getD (x + 1) z0).2) :
    Calls Tryd.prog 57 #[.slice (some ⟨b, o, none⟩) cs.length c, .int .i64 (x : Int)] w fun e w' => e = .returned (.bool false) ∧ Below w.heap.size w w' := by
  obtain ⟨h0, h1, h2, h3⟩ := hC x hx
  by_cases hw : wd (cs.getD x z0).1 = 2
  · have hn0 : ¬ (cs.getD x z0).1 = 0 := by intro e; rw [e] at hw; exact absurd hw (by decide +kernel)
    unfold loose at hl
    rw [if_neg hn0] at hl
    simp only [hw, decide_true, Bool.true_and, Bool.or_eq_false_iff, decide_eq_false_iff_not, Decidable.not_not] at hl
    have hx1 : x + 1 < cs.length := by omega
    have e := hA hx1 hw hl.2
    obtain ⟨-, p1, p2, p3⟩ := hC (x + 1) hx1
    rw [← e] at p1 p2 p3
    exact parted_same b o c cs x _ _ _ _ w hT hx1 hn h0 h1 h2 h3 p1 p2 p3 hw
  · exact parted_thin b o c cs x _ w hT hx h0 hw
end Grd
end Go.Proofs.YtinhmklpnkikgaaDoor

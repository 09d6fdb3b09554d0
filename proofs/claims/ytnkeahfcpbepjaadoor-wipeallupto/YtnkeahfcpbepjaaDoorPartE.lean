/- The library's contracts that this claim uses, laid at this program: each is one application of a theorem of the library. -/
import Derived.Shelf.Strings.Builder1
import Derived.Shelf.Strings.Trim
import Derived.Shelf.Small.Utf8
import Derived.Shelf.Small.Strs
import Derived.Shelf.Strings.BuilderF
import Derived.Shelf.Strings.BuilderK
import Derived.Shelf.Strings.BuilderRune
import Derived.Shelf.Utf8.AppendRune
import Derived.Shelf.Utf8.AppendRunePlain
import Derived.Shelf.Utf8.RuneCount
import Derived.Shelf.LaysM
import Derived.Shelf.Strconv.Clone
import Derived.Shelf.Strings.Search1
import Derived.Shelf.Unicode.Decode
import Derived.Shelf.Strings.Runes
import Derived.Shelf.Strings.RuneCount
import Derived.Shelf.Strings.AsciiSet
import Derived.Shelf.Bits.Mul64
import Derived.Shelf.Unicode.DecodeSlow
import Derived.Shelf.Unicode.DecodeAny
import Derived.Shelf.Unicode.DecodeLast
import Derived.Shelf.Strings.BuilderCap
import Derived.Ground.SlgnProg
import Derived.Shelf.SlicesE.Clone
import Derived.Test.YtnkeahfcpbepjaaDoorProg
import Derived.Test.YtnkeahfcpbepjaaDoorPartD
import Derived.Laws.MakeOwn
import Derived.Deep.RegionLaw
import Derived.Lib.LaidU8
import Derived.Deep.Strs
import Derived.Deep.Slices
import Derived.ChangeSlices
import Derived.SizedLaws
import Derived.Lib.SmallJoins
import Derived.Lib.Small
import Derived.Lib.OthersKept
import Derived.Lib.DecodeN
import Derived.Lib.Strings
namespace Go.Proofs
open Go.Shelf
def Tryd.lays169_ren : Go.Shelf.Ren := ⟨fun | 169 => 69 | n => n, fun | 70 => 97 | 9 => 9 | 0 => 0 | 72 => 100 | 37 => 98 | 127 => 134 | 3 => 3 | 5 => 5 | n => n, fun | n => n⟩
theorem Tryd.lays169 : Go.Proofs.Lays.n169 Tryd.prog Tryd.lays169_ren := {
  mixed := by kernel_rfl
  f169 := Tryd.func69.trans (congrArg some (by kernel_rfl))
  t0 := Tryd.underlying0
  a0 := Tryd.isAgg0
  z0 := Tryd.sizeOf0
  v0 := Tryd.zeroValue0
  t3 := Tryd.underlying3
  a3 := Tryd.isAgg3
  z3 := Tryd.sizeOf3
  v3 := Tryd.zeroValue3
  t9 := Tryd.underlying9
  a9 := Tryd.isAgg9
  z9 := Tryd.sizeOf9
  v9 := Tryd.zeroValue9
  t37 := Tryd.underlying98
  a37 := Tryd.isAgg98
  z37 := Tryd.sizeOf98
  v37 := Tryd.zeroValue98
  t70 := Tryd.underlying97
  a70 := Tryd.isAgg97
  z70 := Tryd.sizeOf97
  v70 := Tryd.zeroValue97
  t72 := Tryd.underlying100
  a72 := Tryd.isAgg100
  z72 := Tryd.sizeOf100
  v72 := Tryd.zeroValue100
  t127 := Tryd.underlying134
  a127 := Tryd.isAgg134
  z127 := Tryd.sizeOf134
  v127 := Tryd.zeroValue134 }
theorem Tryd.Builder_Extra_169 : Builder.Extra Tryd.prog Tryd.lays169_ren := {
  sizeBuilder := by kernel_rfl
  liesBuilder := by kernel_rfl
  t5 := Tryd.underlying5
  a5 := Tryd.isAgg5
  z5 := Tryd.sizeOf5
  v5 := Tryd.zeroValue5
  infoByte := by kernel_rfl
  cellsByte := by kernel_rfl
  sizeByte := by kernel_rfl
  neB5 := by decide }
open Go.RowKit in
theorem Tryd.Builder_String (B b : Nat) (l : List UInt8) (w : World) (h : Lib.IsBuilder 100 5 B b (Lib.byteCells l) w) (h0 : l ≠ []) :
    Calls Tryd.prog 69 #[.pointer (some ⟨b, 0, none⟩)] w fun e w' => e = .returned (.string ⟨l.toArray⟩) ∧ Below B w w' := Any.Builder_String Tryd.lays169 Tryd.Builder_Extra_169 B b l w h h0
open Go.RowKit in
theorem Tryd.Builder_String_empty (B b : Nat) (w : World) (h : Lib.IsBuilder 100 5 B b [] w) (hBw : B ≤ w.heap.size) :
    Calls Tryd.prog 69 #[.pointer (some ⟨b, 0, none⟩)] w fun e w' => e = .returned (.string ⟨#[]⟩) ∧ Below B w w' := Any.Builder_String_empty Tryd.lays169 Tryd.Builder_Extra_169 B b w h hBw
open Go.RowKit in
theorem Tryd.Builder_String_any (B b : Nat) (l : List UInt8) (w : World) (h : Lib.IsBuilder 100 5 B b (Lib.byteCells l) w) (hBw : B ≤ w.heap.size) :
    Calls Tryd.prog 69 #[.pointer (some ⟨b, 0, none⟩)] w fun e w' => e = .returned (.string ⟨l.toArray⟩) ∧ Below B w w' := Any.Builder_String_any Tryd.lays169 Tryd.Builder_Extra_169 B b l w h hBw
def Tryd.lays232_ren : Go.Shelf.Ren := ⟨fun | 232 => 117 | n => n, fun | 9 => 9 | 5 => 5 | 3 => 3 | 4 => 4 | n => n, fun | n => n⟩
theorem Tryd.lays232 : Go.Proofs.Lays.n232 Tryd.prog Tryd.lays232_ren := {
  mixed := by kernel_rfl
  f232 := Tryd.func117.trans (congrArg some (by kernel_rfl))
  t3 := Tryd.underlying3
  a3 := Tryd.isAgg3
  z3 := Tryd.sizeOf3
  v3 := Tryd.zeroValue3
  t4 := Tryd.underlying4
  a4 := Tryd.isAgg4
  z4 := Tryd.sizeOf4
  v4 := Tryd.zeroValue4
  t5 := Tryd.underlying5
  a5 := Tryd.isAgg5
  z5 := Tryd.sizeOf5
  v5 := Tryd.zeroValue5
  t9 := Tryd.underlying9
  a9 := Tryd.isAgg9
  z9 := Tryd.sizeOf9
  v9 := Tryd.zeroValue9 }
open Go.RowKit in
theorem Tryd.strings_trimRightByte (s : ByteArray) (c : UInt8) (w : World) (hs : s.size ≤ 9223372036854775807) :
    Calls Tryd.prog 117 #[.string s, .int .u8 c.toNat] w fun e w' => e = .returned (.string ⟨(Lib.trimRightB s.data.toList c).toArray⟩) ∧ w' = w := Any.strings_trimRightByte Tryd.lays232 s c w hs
def Tryd.lays162_ren : Go.Shelf.Ren := ⟨fun | 162 => 70 | 232 => 117 | 227 => 118 | 234 => 119 | 236 => 120 | 228 => 144 | 271 => 145 | 151 => 146 | 120 => 160 | 197 => 161 | 152 => 162 | 260 => 166 | 137 => 167 | 119 => 168 | 224 => 169 | 225 => 170 | 217 => 172 | 266 => 173 | n => n, fun | 9 => 9 | 4 => 4 | 3 => 3 | 5 => 5 | 117 => 138 | 116 => 137 | 0 => 0 | 124 => 141 | 21 => 21 | 105 => 165 | 46 => 96 | 119 => 92 | 139 => 95 | 138 => 94 | n => n, fun | 3 => 0 | 4 => 1 | n => n⟩
theorem Tryd.lays162 : Go.Proofs.Lays.n162 Tryd.prog Tryd.lays162_ren := {
  mixed := by kernel_rfl
  f119 := Tryd.func168.trans (congrArg some (by kernel_rfl))
  f120 := Tryd.func160.trans (congrArg some (by kernel_rfl))
  f137 := Tryd.func167.trans (congrArg some (by kernel_rfl))
  f151 := Tryd.func146.trans (congrArg some (by kernel_rfl))
  f152 := Tryd.func162.trans (congrArg some (by kernel_rfl))
  f162 := Tryd.func70.trans (congrArg some (by kernel_rfl))
  f197 := Tryd.func161.trans (congrArg some (by kernel_rfl))
  f217 := Tryd.func172.trans (congrArg some (by kernel_rfl))
  f224 := Tryd.func169.trans (congrArg some (by kernel_rfl))
  f225 := Tryd.func170.trans (congrArg some (by kernel_rfl))
  f227 := Tryd.func118.trans (congrArg some (by kernel_rfl))
  f228 := Tryd.func144.trans (congrArg some (by kernel_rfl))
  f232 := Tryd.func117.trans (congrArg some (by kernel_rfl))
  f234 := Tryd.func119.trans (congrArg some (by kernel_rfl))
  f236 := Tryd.func120.trans (congrArg some (by kernel_rfl))
  f260 := Tryd.func166.trans (congrArg some (by kernel_rfl))
  f266 := Tryd.func173.trans (congrArg some (by kernel_rfl))
  f271 := Tryd.func145.trans (congrArg some (by kernel_rfl))
  t0 := Tryd.underlying0
  a0 := Tryd.isAgg0
  z0 := Tryd.sizeOf0
  v0 := Tryd.zeroValue0
  t3 := Tryd.underlying3
  a3 := Tryd.isAgg3
  z3 := Tryd.sizeOf3
  v3 := Tryd.zeroValue3
  t4 := Tryd.underlying4
  a4 := Tryd.isAgg4
  z4 := Tryd.sizeOf4
  v4 := Tryd.zeroValue4
  t5 := Tryd.underlying5
  a5 := Tryd.isAgg5
  z5 := Tryd.sizeOf5
  v5 := Tryd.zeroValue5
  t9 := Tryd.underlying9
  a9 := Tryd.isAgg9
  z9 := Tryd.sizeOf9
  v9 := Tryd.zeroValue9
  t21 := Tryd.underlying21
  a21 := Tryd.isAgg21
  z21 := Tryd.sizeOf21
  v21 := Tryd.zeroValue21
  t46 := Tryd.underlying96
  a46 := Tryd.isAgg96
  z46 := Tryd.sizeOf96
  v46 := Tryd.zeroValue96
  t105 := Tryd.underlying165
  a105 := Tryd.isAgg165
  z105 := Tryd.sizeOf165
  v105 := Tryd.zeroValue165
  t116 := Tryd.underlying137
  a116 := Tryd.isAgg137
  z116 := Tryd.sizeOf137
  t117 := Tryd.underlying138
  a117 := Tryd.isAgg138
  z117 := Tryd.sizeOf138
  v117 := Tryd.zeroValue138
  t119 := Tryd.underlying92
  a119 := Tryd.isAgg92
  z119 := Tryd.sizeOf92
  t124 := Tryd.underlying141
  a124 := Tryd.isAgg141
  z124 := Tryd.sizeOf141
  v124 := Tryd.zeroValue141
  t138 := Tryd.underlying94
  a138 := Tryd.isAgg94
  z138 := Tryd.sizeOf94
  v138 := Tryd.zeroValue94
  t139 := Tryd.underlying95
  a139 := Tryd.isAgg95
  z139 := Tryd.sizeOf95
  v139 := Tryd.zeroValue95
  g3 := by kernel_rfl
  g4 := by kernel_rfl }
open Go.RowKit in
theorem Tryd.strings_TrimRight_one (s : ByteArray) (c : UInt8) (hc : c.toNat < 128) (w : World) (hs : s.size ≤ 9223372036854775807) :
    Calls Tryd.prog 70 #[.string s, .string ⟨#[c]⟩] w fun e w' => e = .returned (.string ⟨(Lib.trimRightB s.data.toList c).toArray⟩) ∧ w' = w := Any.strings_TrimRight_one Tryd.lays162 s c hc w hs
def Tryd.lays119_ren : Go.Shelf.Ren := ⟨fun | 119 => 168 | n => n, fun | 21 => 21 | 4 => 4 | n => n, fun | n => n⟩
theorem Tryd.lays119 : Go.Proofs.Lays.n119 Tryd.prog Tryd.lays119_ren := {
  mixed := by kernel_rfl
  f119 := Tryd.func168.trans (congrArg some (by kernel_rfl))
  t4 := Tryd.underlying4
  a4 := Tryd.isAgg4
  z4 := Tryd.sizeOf4
  v4 := Tryd.zeroValue4
  t21 := Tryd.underlying21
  a21 := Tryd.isAgg21
  z21 := Tryd.sizeOf21
  v21 := Tryd.zeroValue21 }
theorem Tryd.utf8_ValidRune (r : Int) (w : World) :
    Calls Tryd.prog 168 #[.int .i32 r] w fun e w' => e = .returned (.bool (Lib.validRune r)) ∧ w' = w := Any.utf8_ValidRune Tryd.lays119 r w
def Tryd.lays120_ren : Go.Shelf.Ren := ⟨fun | 120 => 160 | n => n, fun | 5 => 5 | 4 => 4 | n => n, fun | n => n⟩
theorem Tryd.lays120 : Go.Proofs.Lays.n120 Tryd.prog Tryd.lays120_ren := {
  mixed := by kernel_rfl
  f120 := Tryd.func160.trans (congrArg some (by kernel_rfl))
  t4 := Tryd.underlying4
  a4 := Tryd.isAgg4
  z4 := Tryd.sizeOf4
  v4 := Tryd.zeroValue4
  t5 := Tryd.underlying5
  a5 := Tryd.isAgg5
  z5 := Tryd.sizeOf5
  v5 := Tryd.zeroValue5 }
theorem Tryd.utf8_RuneStart (b : Int) (w : World) (h0 : 0 ≤ b) (h1 : b < 256) :
    Calls Tryd.prog 160 #[.int .u8 b] w fun e w' => e = .returned (.bool (Lib.runeStart b)) ∧ w' = w := Any.utf8_RuneStart Tryd.lays120 b w h0 h1
def Tryd.lays137_ren : Go.Shelf.Ren := ⟨fun | 137 => 167 | 217 => 172 | 266 => 173 | n => n, fun | 9 => 9 | 5 => 5 | 3 => 3 | n => n, fun | n => n⟩
theorem Tryd.lays137 : Go.Proofs.Lays.n137 Tryd.prog Tryd.lays137_ren := {
  mixed := by kernel_rfl
  f137 := Tryd.func167.trans (congrArg some (by kernel_rfl))
  f217 := Tryd.func172.trans (congrArg some (by kernel_rfl))
  f266 := Tryd.func173.trans (congrArg some (by kernel_rfl))
  t3 := Tryd.underlying3
  a3 := Tryd.isAgg3
  z3 := Tryd.sizeOf3
  v3 := Tryd.zeroValue3
  t5 := Tryd.underlying5
  a5 := Tryd.isAgg5
  z5 := Tryd.sizeOf5
  v5 := Tryd.zeroValue5
  t9 := Tryd.underlying9
  a9 := Tryd.isAgg9
  z9 := Tryd.sizeOf9
  v9 := Tryd.zeroValue9 }
open Go.RowKit in
theorem Tryd.strings_IndexByte (s : ByteArray) (c : Int) (w : World) :
    Calls Tryd.prog 167 #[.string s, .int .u8 c] w fun e w' => e = .returned (.int .i64 (Lib.indexByte s.data.toList c.toNat.toUInt8)) ∧ w' = w := Any.strings_IndexByte Tryd.lays137 s c w
open Go.RowKit in
theorem Tryd.Builder_String_f (B b : Nat) (l : List UInt8) (w : World) (h : Lib.IsBuilderF 100 5 B b (Lib.byteCells l) w) (h0 : l ≠ []) :
    Calls Tryd.prog 69 #[.pointer (some ⟨b, 0, none⟩)] w fun e w' => e = .returned (.string ⟨l.toArray⟩) ∧ (Lib.IsBuilderF 100 5 B b (Lib.byteCells l) w' ∧ Below B w w') := Any.Builder_String_f Tryd.lays169 Tryd.Builder_Extra_169 B b l w h h0
open Go.RowKit in
theorem Tryd.Builder_String_empty_f (B b : Nat) (w : World) (h : Lib.IsBuilderF 100 5 B b [] w) (hBw : B ≤ w.heap.size) :
    Calls Tryd.prog 69 #[.pointer (some ⟨b, 0, none⟩)] w fun e w' => e = .returned (.string ⟨#[]⟩) ∧ (Lib.IsBuilderF 100 5 B b [] w' ∧ Below B w w') := Any.Builder_String_empty_f Tryd.lays169 Tryd.Builder_Extra_169 B b w h hBw
open Go.RowKit in
theorem Tryd.Builder_String_any_f (B b : Nat) (l : List UInt8) (w : World) (h : Lib.IsBuilderF 100 5 B b (Lib.byteCells l) w) (hBw : B ≤ w.heap.size) :
    Calls Tryd.prog 69 #[.pointer (some ⟨b, 0, none⟩)] w fun e w' => e = .returned (.string ⟨l.toArray⟩) ∧ (Lib.IsBuilderF 100 5 B b (Lib.byteCells l) w' ∧ Below B w w') := Any.Builder_String_any_f Tryd.lays169 Tryd.Builder_Extra_169 B b l w h hBw
open Go.RowKit in
theorem Tryd.Builder_String_k (B b : Nat) (l : List UInt8) (w : World) (h : Lib.IsBuilderF 100 5 B b (Lib.byteCells l) w) (h0 : l ≠ []) :
    Calls Tryd.prog 69 #[.pointer (some ⟨b, 0, none⟩)] w fun e w' => e = .returned (.string ⟨l.toArray⟩) ∧ (Lib.IsBuilderF 100 5 B b (Lib.byteCells l) w' ∧ Below B w w' ∧ Lib.OthersKept 5 (some b) w w') := Any.Builder_String_k Tryd.lays169 Tryd.Builder_Extra_169 B b l w h h0
open Go.RowKit in
theorem Tryd.Builder_String_empty_k (B b : Nat) (w : World) (h : Lib.IsBuilderF 100 5 B b [] w) (hBw : B ≤ w.heap.size) :
    Calls Tryd.prog 69 #[.pointer (some ⟨b, 0, none⟩)] w fun e w' => e = .returned (.string ⟨#[]⟩) ∧ (Lib.IsBuilderF 100 5 B b [] w' ∧ Below B w w' ∧ Lib.OthersKept 5 (some b) w w') := Any.Builder_String_empty_k Tryd.lays169 Tryd.Builder_Extra_169 B b w h hBw
open Go.RowKit in
theorem Tryd.Builder_String_any_k (B b : Nat) (l : List UInt8) (w : World) (h : Lib.IsBuilderF 100 5 B b (Lib.byteCells l) w) (hBw : B ≤ w.heap.size) :
    Calls Tryd.prog 69 #[.pointer (some ⟨b, 0, none⟩)] w fun e w' => e = .returned (.string ⟨l.toArray⟩) ∧ (Lib.IsBuilderF 100 5 B b (Lib.byteCells l) w' ∧ Below B w w' ∧ Lib.OthersKept 5 (some b) w w') := Any.Builder_String_any_k Tryd.lays169 Tryd.Builder_Extra_169 B b l w h hBw
def Tryd.lays278_ren : Go.Shelf.Ren := ⟨fun | 278 => 143 | n => n, fun | 37 => 98 | 21 => 21 | 51 => 163 | 4 => 4 | 46 => 96 | 5 => 5 | n => n, fun | n => n⟩
theorem Tryd.lays278 : Go.Proofs.Lays.n278 Tryd.prog Tryd.lays278_ren := {
  mixed := by kernel_rfl
  f278 := Tryd.func143.trans (congrArg some (by kernel_rfl))
  t4 := Tryd.underlying4
  a4 := Tryd.isAgg4
  z4 := Tryd.sizeOf4
  v4 := Tryd.zeroValue4
  t5 := Tryd.underlying5
  a5 := Tryd.isAgg5
  z5 := Tryd.sizeOf5
  v5 := Tryd.zeroValue5
  t21 := Tryd.underlying21
  a21 := Tryd.isAgg21
  z21 := Tryd.sizeOf21
  v21 := Tryd.zeroValue21
  t37 := Tryd.underlying98
  a37 := Tryd.isAgg98
  z37 := Tryd.sizeOf98
  v37 := Tryd.zeroValue98
  t46 := Tryd.underlying96
  a46 := Tryd.isAgg96
  z46 := Tryd.sizeOf96
  v46 := Tryd.zeroValue96
  t51 := Tryd.underlying163
  a51 := Tryd.isAgg163
  z51 := Tryd.sizeOf163
  v51 := Tryd.zeroValue163 }
open Go.RowKit in
theorem Tryd.utf8_appendRuneNonASCII_row (B : Nat) (v : Value) (n : Nat) (xs : List Value) (r : Int) (hr0 : -2147483648 ≤ r) (hr1 : r ≤ 2147483647) (hna : r < 0 ∨ 128 ≤ r) (w : World) (hown : w.ownsRowF B 5 1 v n xs) (hlen : n + 4 ≤ 140737488355328) (hBw : B ≤ w.heap.size) :
    Calls Tryd.prog 143 #[v, .int .i32 r] w fun e w' => ∃ v', e = .returned v' ∧ w'.ownsRowF B 5 1 v' (n + (Lib.runeCells r).length) (xs ++ Lib.runeCells r) ∧ ∃ o, (w.alloc o).grownBy w' v.ownBlock := Any.utf8_appendRuneNonASCII_row Tryd.lays278 (by kernel_rfl) B v n xs r hr0 hr1 hna w hown hlen hBw
def Tryd.lays242_ren : Go.Shelf.Ren := ⟨fun | 242 => 116 | 278 => 143 | n => n, fun | 37 => 98 | 21 => 21 | 51 => 163 | 4 => 4 | 5 => 5 | 46 => 96 | n => n, fun | n => n⟩
theorem Tryd.lays242 : Go.Proofs.Lays.n242 Tryd.prog Tryd.lays242_ren := {
  mixed := by kernel_rfl
  f242 := Tryd.func116.trans (congrArg some (by kernel_rfl))
  f278 := Tryd.func143.trans (congrArg some (by kernel_rfl))
  t4 := Tryd.underlying4
  a4 := Tryd.isAgg4
  z4 := Tryd.sizeOf4
  v4 := Tryd.zeroValue4
  t5 := Tryd.underlying5
  a5 := Tryd.isAgg5
  z5 := Tryd.sizeOf5
  v5 := Tryd.zeroValue5
  t21 := Tryd.underlying21
  a21 := Tryd.isAgg21
  z21 := Tryd.sizeOf21
  v21 := Tryd.zeroValue21
  t37 := Tryd.underlying98
  a37 := Tryd.isAgg98
  z37 := Tryd.sizeOf98
  v37 := Tryd.zeroValue98
  t46 := Tryd.underlying96
  a46 := Tryd.isAgg96
  z46 := Tryd.sizeOf96
  v46 := Tryd.zeroValue96
  t51 := Tryd.underlying163
  a51 := Tryd.isAgg163
  z51 := Tryd.sizeOf163
  v51 := Tryd.zeroValue163 }
open Go.RowKit in
theorem Tryd.utf8_AppendRune_row (B : Nat) (v : Value) (n : Nat) (xs : List Value) (r : Int) (hr0 : -2147483648 ≤ r) (hr1 : r ≤ 2147483647) (w : World) (hown : w.ownsRowF B 5 1 v n xs) (hlen : n + 4 ≤ 140737488355328) (hBw : B ≤ w.heap.size) :
    Calls Tryd.prog 116 #[v, .int .i32 r] w fun e w' => ∃ v', e = .returned v' ∧ w'.ownsRowF B 5 1 v' (n + (Lib.runeCells r).length) (xs ++ Lib.runeCells r) ∧ ∃ o, (w.alloc o).grownBy w' v.ownBlock := Any.utf8_AppendRune_row Tryd.lays242 (by kernel_rfl) B v n xs r hr0 hr1 w hown hlen hBw
open Go.RowKit in
theorem Tryd.utf8_appendRuneNonASCII_plain (B : Nat) (v : Value) (n : Nat) (xs : List Value) (r : Int) (hr0 : -2147483648 ≤ r) (hr1 : r ≤ 2147483647) (hna : r < 0 ∨ 128 ≤ r) (w : World) (hown : w.ownsRow B 5 1 v n xs) (hlen : n + 4 ≤ 140737488355328) (hBw : B ≤ w.heap.size) :
    Calls Tryd.prog 143 #[v, .int .i32 r] w fun e w' => ∃ v', e = .returned v' ∧ w'.ownsRow B 5 1 v' (n + (Lib.runeCells r).length) (xs ++ Lib.runeCells r) ∧ ∃ o, (w.alloc o).grownBy w' v.ownBlock := Any.utf8_appendRuneNonASCII_plain Tryd.lays278 (by kernel_rfl) B v n xs r hr0 hr1 hna w hown hlen hBw
open Go.RowKit in
theorem Tryd.utf8_AppendRune_plain (B : Nat) (v : Value) (n : Nat) (xs : List Value) (r : Int) (hr0 : -2147483648 ≤ r) (hr1 : r ≤ 2147483647) (w : World) (hown : w.ownsRow B 5 1 v n xs) (hlen : n + 4 ≤ 140737488355328) (hBw : B ≤ w.heap.size) :
    Calls Tryd.prog 116 #[v, .int .i32 r] w fun e w' => ∃ v', e = .returned v' ∧ w'.ownsRow B 5 1 v' (n + (Lib.runeCells r).length) (xs ++ Lib.runeCells r) ∧ ∃ o, (w.alloc o).grownBy w' v.ownBlock := Any.utf8_AppendRune_plain Tryd.lays242 (by kernel_rfl) B v n xs r hr0 hr1 w hown hlen hBw
def Tryd.lays195_ren : Go.Shelf.Ren := ⟨fun | 195 => 97 | n => n, fun | 9 => 9 | 3 => 3 | 0 => 0 | 4 => 4 | n => n, fun | n => n⟩
theorem Tryd.lays195 : Go.Proofs.Lays.n195 Tryd.prog Tryd.lays195_ren := {
  mixed := by kernel_rfl
  f195 := Tryd.func97.trans (congrArg some (by kernel_rfl))
  t0 := Tryd.underlying0
  a0 := Tryd.isAgg0
  z0 := Tryd.sizeOf0
  v0 := Tryd.zeroValue0
  t3 := Tryd.underlying3
  a3 := Tryd.isAgg3
  z3 := Tryd.sizeOf3
  v3 := Tryd.zeroValue3
  t4 := Tryd.underlying4
  a4 := Tryd.isAgg4
  z4 := Tryd.sizeOf4
  v4 := Tryd.zeroValue4
  t9 := Tryd.underlying9
  a9 := Tryd.isAgg9
  z9 := Tryd.sizeOf9
  v9 := Tryd.zeroValue9 }
open Go.RowKit in
theorem Tryd.utf8_RuneCountInString (s : ByteArray) (w : World) (hs : s.size < 9223372036854775807) :
    Calls Tryd.prog 97 #[.string s] w fun e w' => e = .returned (.int .i64 (Lib.runeCount s)) ∧ ∃ pos, w' = w.iter s pos := Any.utf8_RuneCountInString Tryd.lays195 s w hs
def Tryd.laysM316_ren : Go.Shelf.Ren := ⟨fun | 316 => 114 | n => n, fun | 9 => 9 | 3 => 3 | 4 => 4 | 37 => 98 | 0 => 0 | 127 => 134 | 5 => 5 | n => n, fun | n => n⟩
theorem Tryd.laysM316 : Go.Proofs.LaysM.n316 Tryd.prog Tryd.laysM316_ren := {
  mixed := by kernel_rfl
  f316 := Tryd.func114.trans (congrArg some (by kernel_rfl))
  t0 := Tryd.underlying0
  a0 := Tryd.isAgg0
  z0 := Tryd.sizeOf0
  v0 := Tryd.zeroValue0
  t3 := Tryd.underlying3
  a3 := Tryd.isAgg3
  z3 := Tryd.sizeOf3
  v3 := Tryd.zeroValue3
  t4 := Tryd.underlying4
  a4 := Tryd.isAgg4
  z4 := Tryd.sizeOf4
  v4 := Tryd.zeroValue4
  t9 := Tryd.underlying9
  a9 := Tryd.isAgg9
  z9 := Tryd.sizeOf9
  v9 := Tryd.zeroValue9
  t37 := Tryd.underlying98
  a37 := Tryd.isAgg98
  z37 := Tryd.sizeOf98
  v37 := Tryd.zeroValue98
  t127 := Tryd.underlying134
  a127 := Tryd.isAgg134
  z127 := Tryd.sizeOf134
  v127 := Tryd.zeroValue134
  t5 := Tryd.underlying5
  a5 := Tryd.isAgg5
  z5 := Tryd.sizeOf5
  v5 := Tryd.zeroValue5
  i0 := by kernel_rfl
  i3 := by kernel_rfl
  i4 := by kernel_rfl
  i5 := by kernel_rfl
  i9 := by kernel_rfl
  i37 := by kernel_rfl
  i127 := by kernel_rfl }
open Go.RowKit in
theorem Tryd.stringslite_Clone (s : ByteArray) (w : World) (hlim : s.size ≤ 281474976710656) :
    Calls Tryd.prog 114 #[.string s] w fun e w' => e = .returned (.string s) ∧ Below w.heap.size w w' := Any.stringslite_Clone Tryd.laysM316 s w hlim
def Tryd.lays217_ren : Go.Shelf.Ren := ⟨fun | 217 => 172 | 266 => 173 | n => n, fun | 9 => 9 | 5 => 5 | 3 => 3 | n => n, fun | n => n⟩
theorem Tryd.lays217 : Go.Proofs.Lays.n217 Tryd.prog Tryd.lays217_ren := {
  mixed := by kernel_rfl
  f217 := Tryd.func172.trans (congrArg some (by kernel_rfl))
  f266 := Tryd.func173.trans (congrArg some (by kernel_rfl))
  t3 := Tryd.underlying3
  a3 := Tryd.isAgg3
  z3 := Tryd.sizeOf3
  v3 := Tryd.zeroValue3
  t5 := Tryd.underlying5
  a5 := Tryd.isAgg5
  z5 := Tryd.sizeOf5
  v5 := Tryd.zeroValue5
  t9 := Tryd.underlying9
  a9 := Tryd.isAgg9
  z9 := Tryd.sizeOf9
  v9 := Tryd.zeroValue9 }
open Go.RowKit Go.Lib in
theorem Tryd.stringslite_IndexByte (s : ByteArray) (c : Int) (w : World) :
    Calls Tryd.prog 172 #[.string s, .int .u8 c] w fun e w' => e = .returned (.int .i64 (Lib.indexByte s.data.toList c.toNat.toUInt8)) ∧ w' = w := Any.stringslite_IndexByte Tryd.lays217 s c w
def Tryd.lays224_ren : Go.Shelf.Ren := ⟨fun | 224 => 169 | n => n, fun | 3 => 3 | n => n, fun | n => n⟩
theorem Tryd.lays224 : Go.Proofs.Lays.n224 Tryd.prog Tryd.lays224_ren := {
  mixed := by kernel_rfl
  f224 := Tryd.func169.trans (congrArg some (by kernel_rfl))
  t3 := Tryd.underlying3
  a3 := Tryd.isAgg3
  z3 := Tryd.sizeOf3
  v3 := Tryd.zeroValue3 }
open Go.RowKit Go.Lib in
theorem Tryd.bytealg_Cutover (n : Int) (h0 : 0 ≤ n) (h1 : n < 4611686018427387904) (w : World) :
    Calls Tryd.prog 169 #[.int .i64 n] w fun e w' => e = .returned (.int .i64 ((n + 16) / 8)) ∧ w' = w := Any.bytealg_Cutover Tryd.lays224 n h0 h1 w
def Tryd.lays197_ren : Go.Shelf.Ren := ⟨fun | 197 => 161 | 260 => 166 | n => n, fun | 9 => 9 | 21 => 21 | 3 => 3 | 4 => 4 | 5 => 5 | 105 => 165 | 119 => 92 | 0 => 0 | 46 => 96 | 139 => 95 | 138 => 94 | n => n, fun | 3 => 0 | 4 => 1 | n => n⟩
theorem Tryd.lays197 : Go.Proofs.Lays.n197 Tryd.prog Tryd.lays197_ren := {
  mixed := by kernel_rfl
  f197 := Tryd.func161.trans (congrArg some (by kernel_rfl))
  f260 := Tryd.func166.trans (congrArg some (by kernel_rfl))
  t0 := Tryd.underlying0
  a0 := Tryd.isAgg0
  z0 := Tryd.sizeOf0
  v0 := Tryd.zeroValue0
  t3 := Tryd.underlying3
  a3 := Tryd.isAgg3
  z3 := Tryd.sizeOf3
  v3 := Tryd.zeroValue3
  t4 := Tryd.underlying4
  a4 := Tryd.isAgg4
  z4 := Tryd.sizeOf4
  v4 := Tryd.zeroValue4
  t5 := Tryd.underlying5
  a5 := Tryd.isAgg5
  z5 := Tryd.sizeOf5
  v5 := Tryd.zeroValue5
  t9 := Tryd.underlying9
  a9 := Tryd.isAgg9
  z9 := Tryd.sizeOf9
  v9 := Tryd.zeroValue9
  t21 := Tryd.underlying21
  a21 := Tryd.isAgg21
  z21 := Tryd.sizeOf21
  v21 := Tryd.zeroValue21
  t46 := Tryd.underlying96
  a46 := Tryd.isAgg96
  z46 := Tryd.sizeOf96
  v46 := Tryd.zeroValue96
  t105 := Tryd.underlying165
  a105 := Tryd.isAgg165
  z105 := Tryd.sizeOf165
  v105 := Tryd.zeroValue165
  t119 := Tryd.underlying92
  a119 := Tryd.isAgg92
  z119 := Tryd.sizeOf92
  t138 := Tryd.underlying94
  a138 := Tryd.isAgg94
  z138 := Tryd.sizeOf94
  v138 := Tryd.zeroValue94
  t139 := Tryd.underlying95
  a139 := Tryd.isAgg95
  z139 := Tryd.sizeOf95
  v139 := Tryd.zeroValue95
  g3 := by kernel_rfl
  g4 := by kernel_rfl }
open Go.RowKit Go.Lib in
theorem Tryd.utf8_DecodeRuneInString_ascii (s : ByteArray) (x : UInt8) (w : World) (h0 : s.data.toList[0]? = some x) (hx : x.toNat < 128) :
    Calls Tryd.prog 161 #[.string s] w fun e w' => e = .returned (.tuple #[.int .i32 x.toNat, .int .i64 1]) ∧ w' = w := Any.utf8_DecodeRuneInString_ascii Tryd.lays197 s x w h0 hx
def Tryd.lays152_ren : Go.Shelf.Ren := ⟨fun | 152 => 162 | 137 => 167 | 119 => 168 | 224 => 169 | 225 => 170 | 217 => 172 | 266 => 173 | n => n, fun | 9 => 9 | 21 => 21 | 3 => 3 | 4 => 4 | 5 => 5 | 0 => 0 | 46 => 96 | n => n, fun | n => n⟩
theorem Tryd.lays152 : Go.Proofs.Lays.n152 Tryd.prog Tryd.lays152_ren := {
  mixed := by kernel_rfl
  f119 := Tryd.func168.trans (congrArg some (by kernel_rfl))
  f137 := Tryd.func167.trans (congrArg some (by kernel_rfl))
  f152 := Tryd.func162.trans (congrArg some (by kernel_rfl))
  f217 := Tryd.func172.trans (congrArg some (by kernel_rfl))
  f224 := Tryd.func169.trans (congrArg some (by kernel_rfl))
  f225 := Tryd.func170.trans (congrArg some (by kernel_rfl))
  f266 := Tryd.func173.trans (congrArg some (by kernel_rfl))
  t0 := Tryd.underlying0
  a0 := Tryd.isAgg0
  z0 := Tryd.sizeOf0
  v0 := Tryd.zeroValue0
  t3 := Tryd.underlying3
  a3 := Tryd.isAgg3
  z3 := Tryd.sizeOf3
  v3 := Tryd.zeroValue3
  t4 := Tryd.underlying4
  a4 := Tryd.isAgg4
  z4 := Tryd.sizeOf4
  v4 := Tryd.zeroValue4
  t5 := Tryd.underlying5
  a5 := Tryd.isAgg5
  z5 := Tryd.sizeOf5
  v5 := Tryd.zeroValue5
  t9 := Tryd.underlying9
  a9 := Tryd.isAgg9
  z9 := Tryd.sizeOf9
  v9 := Tryd.zeroValue9
  t21 := Tryd.underlying21
  a21 := Tryd.isAgg21
  z21 := Tryd.sizeOf21
  v21 := Tryd.zeroValue21
  t46 := Tryd.underlying96
  a46 := Tryd.isAgg96
  z46 := Tryd.sizeOf96
  v46 := Tryd.zeroValue96 }
open Go.RowKit Go.Lib in
theorem Tryd.strings_IndexRune_ascii (s : ByteArray) (r : Int) (w : World) (h0 : 0 ≤ r) (h1 : r < 128) :
    Calls Tryd.prog 162 #[.string s, .int .i32 r] w fun e w' => e = .returned (.int .i64 (Lib.indexByte s.data.toList r.toNat.toUInt8)) ∧ w' = w := Any.strings_IndexRune_ascii Tryd.lays152 s r w h0 h1
def Tryd.lays151_ren : Go.Shelf.Ren := ⟨fun | 151 => 146 | 152 => 162 | 137 => 167 | 119 => 168 | 224 => 169 | 225 => 170 | 217 => 172 | 266 => 173 | n => n, fun | 9 => 9 | 21 => 21 | 4 => 4 | 3 => 3 | 5 => 5 | 0 => 0 | 46 => 96 | n => n, fun | n => n⟩
theorem Tryd.lays151 : Go.Proofs.Lays.n151 Tryd.prog Tryd.lays151_ren := {
  mixed := by kernel_rfl
  f119 := Tryd.func168.trans (congrArg some (by kernel_rfl))
  f137 := Tryd.func167.trans (congrArg some (by kernel_rfl))
  f151 := Tryd.func146.trans (congrArg some (by kernel_rfl))
  f152 := Tryd.func162.trans (congrArg some (by kernel_rfl))
  f217 := Tryd.func172.trans (congrArg some (by kernel_rfl))
  f224 := Tryd.func169.trans (congrArg some (by kernel_rfl))
  f225 := Tryd.func170.trans (congrArg some (by kernel_rfl))
  f266 := Tryd.func173.trans (congrArg some (by kernel_rfl))
  t0 := Tryd.underlying0
  a0 := Tryd.isAgg0
  z0 := Tryd.sizeOf0
  v0 := Tryd.zeroValue0
  t3 := Tryd.underlying3
  a3 := Tryd.isAgg3
  z3 := Tryd.sizeOf3
  v3 := Tryd.zeroValue3
  t4 := Tryd.underlying4
  a4 := Tryd.isAgg4
  z4 := Tryd.sizeOf4
  v4 := Tryd.zeroValue4
  t5 := Tryd.underlying5
  a5 := Tryd.isAgg5
  z5 := Tryd.sizeOf5
  v5 := Tryd.zeroValue5
  t9 := Tryd.underlying9
  a9 := Tryd.isAgg9
  z9 := Tryd.sizeOf9
  v9 := Tryd.zeroValue9
  t21 := Tryd.underlying21
  a21 := Tryd.isAgg21
  z21 := Tryd.sizeOf21
  v21 := Tryd.zeroValue21
  t46 := Tryd.underlying96
  a46 := Tryd.isAgg96
  z46 := Tryd.sizeOf96
  v46 := Tryd.zeroValue96 }
open Go.RowKit Go.Lib in
theorem Tryd.strings_ContainsRune_ascii (s : ByteArray) (r : Int) (w : World) (h0 : 0 ≤ r) (h1 : r < 128) :
    Calls Tryd.prog 146 #[.string s, .int .i32 r] w fun e w' => e = .returned (.bool (decide (0 ≤ Lib.indexByte s.data.toList r.toNat.toUInt8))) ∧ w' = w := Any.strings_ContainsRune_ascii Tryd.lays151 s r w h0 h1
open Go.RowKit Go.Lib in
theorem Tryd.utf8_RuneCountInString_ascii (s : ByteArray) (w : World) (hs : s.size < 4294967281) (hascii : ∀ (j : Nat) b, s.data.toList[j]? = some b → b.toNat < 128) :
    Calls Tryd.prog 97 #[.string s] w fun e w' => e = .returned (.int .i64 s.size) ∧ w' = w.iter s s.size := Any.utf8_RuneCountInString_ascii Tryd.lays195 s w hs hascii
def Tryd.lays227_ren : Go.Shelf.Ren := ⟨fun | 227 => 118 | n => n, fun | 9 => 9 | 116 => 137 | 4 => 4 | 0 => 0 | 3 => 3 | 5 => 5 | n => n, fun | n => n⟩
theorem Tryd.lays227 : Go.Proofs.Lays.n227 Tryd.prog Tryd.lays227_ren := {
  mixed := by kernel_rfl
  f227 := Tryd.func118.trans (congrArg some (by kernel_rfl))
  t0 := Tryd.underlying0
  a0 := Tryd.isAgg0
  z0 := Tryd.sizeOf0
  v0 := Tryd.zeroValue0
  t3 := Tryd.underlying3
  a3 := Tryd.isAgg3
  z3 := Tryd.sizeOf3
  v3 := Tryd.zeroValue3
  t4 := Tryd.underlying4
  a4 := Tryd.isAgg4
  z4 := Tryd.sizeOf4
  v4 := Tryd.zeroValue4
  t5 := Tryd.underlying5
  a5 := Tryd.isAgg5
  z5 := Tryd.sizeOf5
  v5 := Tryd.zeroValue5
  t9 := Tryd.underlying9
  a9 := Tryd.isAgg9
  z9 := Tryd.sizeOf9
  v9 := Tryd.zeroValue9
  t116 := Tryd.underlying137
  a116 := Tryd.isAgg137
  z116 := Tryd.sizeOf137 }
open Go.RowKit Go.Lib in
theorem Tryd.strings_makeASCIISet (hv116 : ∀ w, (zeroValue 137).run Tryd.prog w = .ok (.agg (Array.replicate 256 (.bool false))) w) (chars : ByteArray) (w : World) (hs : chars.size < 4294967281) (hascii : ∀ (j : Nat) b, chars.data.toList[j]? = some b → b.toNat < 128) :
    Calls Tryd.prog 118 #[.string chars] w fun e w' => e = .returned (.tuple #[.agg (Lib.setCells chars.data.toList), .bool true]) ∧ w' = w.alloc (.cells (Lib.setCells chars.data.toList) 137) := Any.strings_makeASCIISet Tryd.lays227 hv116 (by kernel_rfl) chars w hs hascii
def Tryd.lays228_ren : Go.Shelf.Ren := ⟨fun | 228 => 144 | n => n, fun | 124 => 141 | 5 => 5 | 4 => 4 | 0 => 0 | 116 => 137 | n => n, fun | n => n⟩
theorem Tryd.lays228 : Go.Proofs.Lays.n228 Tryd.prog Tryd.lays228_ren := {
  mixed := by kernel_rfl
  f228 := Tryd.func144.trans (congrArg some (by kernel_rfl))
  t0 := Tryd.underlying0
  a0 := Tryd.isAgg0
  z0 := Tryd.sizeOf0
  v0 := Tryd.zeroValue0
  t4 := Tryd.underlying4
  a4 := Tryd.isAgg4
  z4 := Tryd.sizeOf4
  v4 := Tryd.zeroValue4
  t5 := Tryd.underlying5
  a5 := Tryd.isAgg5
  z5 := Tryd.sizeOf5
  v5 := Tryd.zeroValue5
  t116 := Tryd.underlying137
  a116 := Tryd.isAgg137
  z116 := Tryd.sizeOf137
  t124 := Tryd.underlying141
  a124 := Tryd.isAgg141
  z124 := Tryd.sizeOf141
  v124 := Tryd.zeroValue141 }
open Go.RowKit Go.Lib in
theorem Tryd.asciiSet_contains (b : Nat) (x : UInt8) (v : Bool) (w : World) (hc : w.cell? ⟨b, x.toNat, none⟩ = some (.bool v)) :
    Calls Tryd.prog 144 #[.pointer (some ⟨b, 0, none⟩), .int .u8 x.toNat] w fun e w' => e = .returned (.bool v) ∧ w' = w := Any.asciiSet_contains Tryd.lays228 b x v w hc
def Tryd.lays264_ren : Go.Shelf.Ren := ⟨fun | 264 => 150 | n => n, fun | 53 => 132 | 46 => 96 | n => n, fun | n => n⟩
theorem Tryd.lays264 : Go.Proofs.Lays.n264 Tryd.prog Tryd.lays264_ren := {
  mixed := by kernel_rfl
  f264 := Tryd.func150.trans (congrArg some (by kernel_rfl))
  t46 := Tryd.underlying96
  a46 := Tryd.isAgg96
  z46 := Tryd.sizeOf96
  v46 := Tryd.zeroValue96
  t53 := Tryd.underlying132
  a53 := Tryd.isAgg132
  z53 := Tryd.sizeOf132
  v53 := Tryd.zeroValue132 }
open Go.RowKit Go.Lib in
theorem Tryd.bits_Mul64 (x y : Nat) (hx : x < 18446744073709551616) (hy : y < 18446744073709551616) (w : World) :
    Calls Tryd.prog 150 #[.int .u64 x, .int .u64 y] w fun e w' => e = .returned (.tuple #[.int .u64 ((x * y / 18446744073709551616 : Nat) : Int), .int .u64 ((x * y % 18446744073709551616 : Nat) : Int)]) ∧ w' = w := Any.bits_Mul64 Tryd.lays264 x y hx hy w
def Tryd.lays212_ren : Go.Shelf.Ren := ⟨fun | 212 => 130 | 263 => 149 | 264 => 150 | n => n, fun | 46 => 96 | 51 => 163 | 146 => 172 | 53 => 132 | 148 => 174 | n => n, fun | n => n⟩
theorem Tryd.lays212 : Go.Proofs.Lays.n212 Tryd.prog Tryd.lays212_ren := {
  mixed := by kernel_rfl
  f212 := Tryd.func130.trans (congrArg some (by kernel_rfl))
  f263 := Tryd.func149.trans (congrArg some (by kernel_rfl))
  f264 := Tryd.func150.trans (congrArg some (by kernel_rfl))
  t46 := Tryd.underlying96
  a46 := Tryd.isAgg96
  z46 := Tryd.sizeOf96
  v46 := Tryd.zeroValue96
  t51 := Tryd.underlying163
  a51 := Tryd.isAgg163
  z51 := Tryd.sizeOf163
  v51 := Tryd.zeroValue163
  t53 := Tryd.underlying132
  a53 := Tryd.isAgg132
  z53 := Tryd.sizeOf132
  v53 := Tryd.zeroValue132
  t146 := Tryd.underlying172
  a146 := Tryd.isAgg172
  z146 := Tryd.sizeOf172
  v146 := Tryd.zeroValue172
  t148 := Tryd.underlying174
  a148 := Tryd.isAgg174
  z148 := Tryd.sizeOf174
  v148 := Tryd.zeroValue174 }
open Go.RowKit Go.Lib in
theorem Tryd.bits_Mul (x y : Nat) (hx : x < 18446744073709551616) (hy : y < 18446744073709551616) (w : World) :
    Calls Tryd.prog 130 #[.int .u64 x, .int .u64 y] w fun e w' => e = .returned (.tuple #[.int .u64 ((x * y / 18446744073709551616 : Nat) : Int), .int .u64 ((x * y % 18446744073709551616 : Nat) : Int)]) ∧ w' = w := Any.bits_Mul Tryd.lays212 x y hx hy w
def Tryd.lays260_ren : Go.Shelf.Ren := ⟨fun | 260 => 166 | n => n, fun | 9 => 9 | 21 => 21 | 3 => 3 | 4 => 4 | 5 => 5 | 119 => 92 | 0 => 0 | 46 => 96 | 139 => 95 | 138 => 94 | n => n, fun | 3 => 0 | 4 => 1 | n => n⟩
theorem Tryd.lays260 : Go.Proofs.Lays.n260 Tryd.prog Tryd.lays260_ren := {
  mixed := by kernel_rfl
  f260 := Tryd.func166.trans (congrArg some (by kernel_rfl))
  t0 := Tryd.underlying0
  a0 := Tryd.isAgg0
  z0 := Tryd.sizeOf0
  v0 := Tryd.zeroValue0
  t3 := Tryd.underlying3
  a3 := Tryd.isAgg3
  z3 := Tryd.sizeOf3
  v3 := Tryd.zeroValue3
  t4 := Tryd.underlying4
  a4 := Tryd.isAgg4
  z4 := Tryd.sizeOf4
  v4 := Tryd.zeroValue4
  t5 := Tryd.underlying5
  a5 := Tryd.isAgg5
  z5 := Tryd.sizeOf5
  v5 := Tryd.zeroValue5
  t9 := Tryd.underlying9
  a9 := Tryd.isAgg9
  z9 := Tryd.sizeOf9
  v9 := Tryd.zeroValue9
  t21 := Tryd.underlying21
  a21 := Tryd.isAgg21
  z21 := Tryd.sizeOf21
  v21 := Tryd.zeroValue21
  t46 := Tryd.underlying96
  a46 := Tryd.isAgg96
  z46 := Tryd.sizeOf96
  v46 := Tryd.zeroValue96
  t119 := Tryd.underlying92
  a119 := Tryd.isAgg92
  z119 := Tryd.sizeOf92
  t138 := Tryd.underlying94
  a138 := Tryd.isAgg94
  z138 := Tryd.sizeOf94
  v138 := Tryd.zeroValue94
  t139 := Tryd.underlying95
  a139 := Tryd.isAgg95
  z139 := Tryd.sizeOf95
  v139 := Tryd.zeroValue95
  g3 := by kernel_rfl
  g4 := by kernel_rfl }
open Go.RowKit Go.Lib in
theorem Tryd.utf8_decodeRuneInStringSlow (s : ByteArray) (w : World) (hT : Lib.Utf8Tabs 0 1 w) :
    Calls Tryd.prog 166 #[.string s] w fun e w' => e = .returned (.tuple #[.int .i32 (Lib.decodeGo s).1, .int .i64 (Lib.decodeGo s).2]) ∧ Below w.heap.size w w' := Any.utf8_decodeRuneInStringSlow Tryd.lays260 s w hT
open Go.RowKit Go.Lib in
theorem Tryd.utf8_DecodeRuneInString (s : ByteArray) (w : World) (hT : Lib.Utf8Tabs 0 1 w) :
    Calls Tryd.prog 161 #[.string s] w fun e w' => e = .returned (.tuple #[.int .i32 (Lib.decodeGo s).1, .int .i64 (Lib.decodeGo s).2]) ∧ Below w.heap.size w w' := Any.utf8_DecodeRuneInString Tryd.lays197 s w hT
def Tryd.lays271_ren : Go.Shelf.Ren := ⟨fun | 271 => 145 | 120 => 160 | 197 => 161 | 260 => 166 | n => n, fun | 9 => 9 | 21 => 21 | 3 => 3 | 4 => 4 | 5 => 5 | 105 => 165 | 119 => 92 | 0 => 0 | 46 => 96 | 139 => 95 | 138 => 94 | n => n, fun | 3 => 0 | 4 => 1 | n => n⟩
theorem Tryd.lays271 : Go.Proofs.Lays.n271 Tryd.prog Tryd.lays271_ren := {
  mixed := by kernel_rfl
  f120 := Tryd.func160.trans (congrArg some (by kernel_rfl))
  f197 := Tryd.func161.trans (congrArg some (by kernel_rfl))
  f260 := Tryd.func166.trans (congrArg some (by kernel_rfl))
  f271 := Tryd.func145.trans (congrArg some (by kernel_rfl))
  t0 := Tryd.underlying0
  a0 := Tryd.isAgg0
  z0 := Tryd.sizeOf0
  v0 := Tryd.zeroValue0
  t3 := Tryd.underlying3
  a3 := Tryd.isAgg3
  z3 := Tryd.sizeOf3
  v3 := Tryd.zeroValue3
  t4 := Tryd.underlying4
  a4 := Tryd.isAgg4
  z4 := Tryd.sizeOf4
  v4 := Tryd.zeroValue4
  t5 := Tryd.underlying5
  a5 := Tryd.isAgg5
  z5 := Tryd.sizeOf5
  v5 := Tryd.zeroValue5
  t9 := Tryd.underlying9
  a9 := Tryd.isAgg9
  z9 := Tryd.sizeOf9
  v9 := Tryd.zeroValue9
  t21 := Tryd.underlying21
  a21 := Tryd.isAgg21
  z21 := Tryd.sizeOf21
  v21 := Tryd.zeroValue21
  t46 := Tryd.underlying96
  a46 := Tryd.isAgg96
  z46 := Tryd.sizeOf96
  v46 := Tryd.zeroValue96
  t105 := Tryd.underlying165
  a105 := Tryd.isAgg165
  z105 := Tryd.sizeOf165
  v105 := Tryd.zeroValue165
  t119 := Tryd.underlying92
  a119 := Tryd.isAgg92
  z119 := Tryd.sizeOf92
  t138 := Tryd.underlying94
  a138 := Tryd.isAgg94
  z138 := Tryd.sizeOf94
  v138 := Tryd.zeroValue94
  t139 := Tryd.underlying95
  a139 := Tryd.isAgg95
  z139 := Tryd.sizeOf95
  v139 := Tryd.zeroValue95
  g3 := by kernel_rfl
  g4 := by kernel_rfl }
open Go.RowKit Go.Lib in
theorem Tryd.utf8_DecodeLastRuneInString (s : ByteArray) (w : World) (hs : s.size ≤ 9223372036854775807) (hT : Lib.Utf8Tabs 0 1 w) :
    Calls Tryd.prog 145 #[.string s] w fun e w' => e = .returned (.tuple #[.int .i32 (Lib.decodeLastL s.data.toList).1, .int .i64 (Lib.decodeLastL s.data.toList).2]) ∧ Below w.heap.size w w' := Any.utf8_DecodeLastRuneInString Tryd.lays271 s w hs hT
def Tryd.laysSlE041_f108_ren : Go.Shelf.Ren := ⟨fun | 41 => 108 | n => n, fun | 22 => 27 | 23 => 4 | 4 => 4 | n => n, fun | n => n⟩
theorem Tryd.laysSlE041_f108 : Go.Proofs.SlLaysE0.n41 Tryd.prog Tryd.laysSlE041_f108_ren := {
  mixed := by kernel_rfl
  f41 := ⟨Tryd.f108.name, by decide, Tryd.func108.trans (congrArg some (by kernel_rfl))⟩
  t4 := Tryd.underlying4
  a4 := Tryd.isAgg4
  z4 := Tryd.sizeOf4
  v4 := Tryd.zeroValue4
  t22 := Tryd.underlying27
  a22 := Tryd.isAgg27
  z22 := Tryd.sizeOf27
  v22 := Tryd.zeroValue27 }
open Go.RowKit Go.Lib in
theorem Tryd.slices_Clone (i0 : TypeInfo) (z : Value) (size bytes : Nat) (hi : Tryd.prog.info? 4 = some i0) (hz0 : i0.zero = some z) (hz1 : i0.size = size) (hz2 : i0.bytes = bytes) (hzs : z.cells.size = size) (hsz : 0 < size) (z23 : ∀ w, (Go.sizeOf 4).run Tryd.prog w = .ok size w) (b off n c : Nat) (news : List Value) (w : World) (hl : news.length = n * size) (hn : n ≤ maxLen) (hbig : n * bytes ≤ 140737488355328) (hc : ∀ j u, news[j]? = some u → w.cell? ⟨b, off + j, none⟩ = some u) (h1 : ∀ u ∈ news, u.oneCell' = true) :
    Calls Tryd.prog 108 #[.slice (some ⟨b, off, none⟩) n c] w fun e w' => ∃ v', e = .returned v' ∧ w'.ownsRow w.heap.size 4 size v' n news ∧ v' ≠ .slice none 0 0 ∧ Below w.heap.size w w' := AnyE.slices_Clone Tryd.laysSlE041_f108 i0 z size bytes hi hz0 hz1 hz2 hzs hsz z23 b off n c news w hl hn hbig hc h1
open Go.RowKit Go.Lib in
theorem Tryd.slices_Clone_nil (n c : Nat) (w : World) :
    Calls Tryd.prog 108 #[.slice none n c] w fun e w' => e = .returned (.slice none 0 0) ∧ w' = w := AnyE.slices_Clone_nil Tryd.laysSlE041_f108 n c w
end Go.Proofs

/- slices.Repeat of one cell. -/
namespace Go.Proofs.YtnkeahfcpbepjaaDoor
open Go.ChangeShapes Go.WideShapes Go.ChangeAt Go.RowKit
namespace Grd
theorem step_copy_wide {P : Program} {ops : Array Oper} {o : Oper} {a : Act} {w : World} {K : Act → World → Prop} {Q : Exit → Act → World → Prop} {E : Prop} (hgd : o.guard = none) (d s : Operand) (dT sT : TypeId)
    (ho : o.op = .call { callee := .builtin .copy, args := #[d, s], argTypes := #[dT, sT] }) (elem : TypeId) (hu : P.underlying dT = some (.slice elem)) (k : Nat) (hsz : (P.info? elem).map (·.size) = some k)
    (g off dLen dCap : Nat) (ad : Addr) (sLen sCap : Nat) (hd : a.eval d = .slice (some ⟨g, off, none⟩) dLen dCap) (hs : a.eval s = .slice (some ad) sLen sCap)
    (cur : Array Value) (t : TypeId) (hg : w.heap[g]? = some (.cells cur t (0, 0))) (cs : List Value) (m : Nat) (hm : Nat.min sLen dLen = m) (hn : cs.length = m * k)
    (hsrc : ∀ j v, cs[j]? = some v → w.cell? (ad.add j) = some v) (hfit : off + cs.length ≤ cur.size) (h1 : ∀ v ∈ cs, v.oneCell' = true)
    (h : K (a.put o.dst (goInt m)) (w.setRow g (cur.toList.take off ++ (cs ++ cur.toList.drop (off + cs.length))).toArray)) :
    if Region.wanted o (yielded ops a.tmps) = true then Oper.wp P o a w K Q else E := by
  have hw : Region.wanted o (yielded ops a.tmps) = true := by simp [Region.wanted, hgd]
  rw [if_pos hw]
  have hrun := run_copy_wide (P := P) w dT sT o.type elem g off dLen dCap ad sLen sCap k cur t cs hu hsz hg (by rw [hm]; exact hn) hsrc hfit h1
  rw [hm] at hrun
  unfold Oper.wp
  simp [execOp, ho, resolve, invoke, builtin, hd, hs, hrun, Result.andThen, Oper.upon]
  simpa using h
theorem und_cells : Tryd.prog.underlying 22 = some (.slice 63) := by kernel_rfl
theorem size_cell : (Tryd.prog.info? 63).map (·.size) = some 4 := by kernel_rfl
theorem info_cell : (Tryd.prog.info? 63).map (fun i => (i.zero, i.size, i.bytes)) = some (some (.agg #[.int .i32 0, .int .i64 0, .int .i64 0, .int .i64 0]), 4, 32) := by kernel_rfl
theorem make_cells (N : Nat) (hN : N ≤ 1000000) (w : World) :
    (Instr.makeSlice 22 (.int .i64 (N : Int)) (.int .i64 (N : Int))).run Tryd.prog w = .ok (.slice (some ⟨w.heap.size, 0, none⟩) N N) (w.alloc (.cells (madeCells #[.int .i32 0, .int .i64 0, .int .i64 0, .int .i64 0] (N * 4)) 63)) := by
  obtain ⟨i, hi, hzz⟩ := Option.map_eq_some_iff.1 info_cell
  simp only [Prod.mk.injEq] at hzz
  obtain ⟨hz, hs, hb⟩ := hzz
  have hr := run_make (P := Tryd.prog) w 22 63 i _ und_cells hi hz .i64 .i64 N N (by omega) (Int.le_refl _) (by rw [hb]; omega) (by omega)
  simp only [Int.toNat_natCast, hs] at hr
  exact hr
theorem rep_add (c : C) (a b : Nat) : List.replicate a c ++ List.replicate b c = List.replicate (a + b) c := by simp
theorem copy_step (c : C) (m mn : Nat) (rest : List Value) : (flat (List.replicate m c) ++ rest).take (m * 4) ++ (flat (List.replicate mn c) ++ (flat (List.replicate m c) ++ rest).drop (m * 4 + (flat (List.replicate mn c)).length)) = flat (List.replicate (m + mn) c) ++ rest.drop (mn * 4) := by
  have hl : (flat (List.replicate m c)).length = m * 4 := by rw [flat_len]; simp
  have hl2 : (flat (List.replicate mn c)).length = mn * 4 := by rw [flat_len]; simp
  rw [List.take_left' hl, hl2, List.drop_append, ← rep_add, flat_append, List.append_assoc, List.drop_of_length_le (by rw [hl]; omega), hl, Nat.add_sub_cancel_left]
  rfl
theorem flat_src {w : World} {g : Nat} {cs : List C} {rest : List Value} {t : TypeId} (h : w.heap[g]? = some (.cells (flat cs ++ rest).toArray t (0, 0))) (ds : List Value) (hd : ∃ r, flat cs = ds ++ r) :
    ∀ j v, ds[j]? = some v → w.cell? ((⟨g, 0, none⟩ : Addr).add j) = some v := by
  intro j v hj
  obtain ⟨r, hr⟩ := hd
  have hlt := (List.getElem?_eq_some_iff.1 hj).1
  rw [add_plain, Nat.zero_add]
  unfold World.cell?
  rw [h, hr]
  simp [List.getElem?_append_left hlt, List.append_assoc, hj]
theorem copy_to {P : Program} (w : World) (dT sT ty elem : TypeId) (g o dLen dCap : Nat) (a : Addr) (sLen sCap k m : Nat) (L : List Value) (t : TypeId) (cs : List Value)
    (hu : P.underlying dT = some (.slice elem)) (hs : (P.info? elem).map (·.size) = some k)
    (hg : w.heap[g]? = some (.cells L.toArray t (0, 0))) (hm : Nat.min sLen dLen = m) (hn : cs.length = m * k)
    (hsrc : ∀ j v, cs[j]? = some v → w.cell? (a.add j) = some v) (hfit : o + cs.length ≤ L.length) (h1 : ∀ v ∈ cs, v.oneCell' = true) :
    ∃ W', (Builtin.copy_ #[dT, sT] ty #[.slice (some ⟨g, o, none⟩) dLen dCap, .slice (some a) sLen sCap]).run P w = .ok (.int .i64 (m : Int)) W' ∧
      W'.heap[g]? = some (.cells (L.take o ++ (cs ++ L.drop (o + cs.length))).toArray t (0, 0)) ∧ ∀ B w0, Below B w0 w → B ≤ g → Below B w0 W' := by
  have hrun := run_copy_wide (P := P) w dT sT ty elem g o dLen dCap a sLen sCap k L.toArray t cs hu hs hg (by rw [hm]; exact hn) hsrc (by simpa using hfit) h1
  rw [hm] at hrun
  refine ⟨_, hrun, ?_, fun B w0 hb hB => below_setRow hb hB _⟩
  simpa using setRow_heap w g _ _ t _ hg
set_option maxHeartbeats 2000000 in
set_option maxRecDepth 100000 in
theorem repeat_one (b o cx N : Nat) (c : C) (w : World) (hC : CellsAt w b o [c]) (h1 : 1 ≤ N) (hN : N ≤ 7200) :
    Calls Tryd.prog 93 #[.slice (some ⟨b, o, none⟩) 1 cx, .int .i64 (N : Int)] w fun e w' => ∃ v', e = .returned v' ∧ OwnG w' w.heap.size v' (List.replicate N c) ∧ Below w.heap.size w w' := by
  obtain ⟨h0, hf, hb, hx⟩ := hC 0 (by simp)
  have hmk := make_cells N (by omega)
  have hmul : Hid (Calls Tryd.prog 130 #[.int .u64 1, .int .u64 (N : Int)] w fun e w' => e = .returned (.tuple #[.int .u64 0, .int .u64 (N : Int)]) ∧ w = w') := by
    have := Tryd.bits_Mul 1 N (by omega) (by omega) w
    rw [Nat.one_mul, Nat.div_eq_of_lt (by omega), Nat.mod_eq_of_lt (by omega)] at this
    exact this.mono fun e w' ⟨he, hw⟩ => ⟨he, hw.symm⟩
  obtain ⟨A, hA⟩ : ∃ A, A = madeCells #[.int .i32 0, .int .i64 0, .int .i64 0, .int .i64 0] (N * 4) := ⟨_, rfl⟩
  have hAs : A.size = N * 4 := by rw [hA, size_madeCells]
  rw [← hA] at hmk
  clear hA hC
  have hmin : Nat.min 1 N = 1 := Nat.min_eq_left h1
  have hone : ∀ v ∈ words c, v.oneCell' = true := fun v hv => flat_one [c] v (by simpa [flat] using hv)
  have hfit : 0 + (words c).length ≤ A.size := by rw [hAs]; simp [words]; omega
  have hsrc : ∀ j v, (words c)[j]? = some v → (w.alloc (.cells A 63)).cell? ((⟨b, o, none⟩ : Addr).add j) = some v := fun j v hj => by
    have hlt := (List.getElem?_eq_some_iff.1 hj).1
    have kb : Below w.heap.size w (w.alloc (.cells A 63)) := (Below.refl _ _).alloc (Nat.le_refl _) _
    rw [add_plain]
    refine cell_keep kb ?_
    have hl4 : j < 4 := by simpa [words] using hlt
    have e : o + 0 * 4 = o := by omega
    rw [e] at h0 hf hb hx
    match j, hl4 with
    | 0, _ => rw [← hj]; exact h0
    | 1, _ => rw [← hj]; exact hf
    | 2, _ => rw [← hj]; exact hb
    | 3, _ => rw [← hj]; exact hx
  clear h0 hf hb hx
  obtain ⟨W2, hcp, hW2, hB2⟩ := copy_to (P := Tryd.prog) (w.alloc (.cells A 63)) 22 22 3 63 w.heap.size 0 N N ⟨b, o, none⟩ 1 cx 4 1 A.toList 63 (words c) und_cells size_cell (heap_alloc_new _ _) hmin rfl hsrc (by simpa using hfit) hone
  have k2 : Below w.heap.size w W2 := hB2 _ _ ((Below.refl _ _).alloc (Nat.le_refl _) _) (Nat.le_refl _)
  have hW : ∃ rest : List Value, rest.length = (N - 1) * 4 ∧ W2.heap[w.heap.size]? = some (.cells (flat (List.replicate 1 c) ++ rest).toArray 63 (0, 0)) := by
    refine ⟨A.toList.drop 4, by simp [hAs]; omega, ?_⟩
    rw [hW2]
    rfl
  clear hW2 hB2 hsrc hfit hone hmin
  go_enter Tryd.func93, Tryd.ntmps93
  go_wp2_with (first | (go_at_call 130; refine hmul.out.mono ?_; rintro e W1 ⟨rfl, rfl⟩))
  go_loopg [8] N (fun g n wr => ∃ (m : Nat) (rest : List Value), n = .int .i64 (m : Int) ∧ 1 ≤ m ∧ m ≤ N ∧ N - m ≤ g ∧ rest.length = (N - m) * 4 ∧ Below w.heap.size w wr ∧ wr.heap[w.heap.size]? = some (.cells (flat (List.replicate m c) ++ rest).toArray 63 (0, 0)))
  case atStart =>
    obtain ⟨rest, hr, hh⟩ := hW
    exact ⟨1, rest, rfl, by omega, by omega, by omega, hr, k2, hh⟩
  case round =>
    obtain ⟨m, rest, rfl, hm1, hmN, hg, hr, hb, hh⟩ := hrel
    clear hW hcp k2 hmk
    by_cases hlt : m < N
    · obtain ⟨mn, hmn⟩ : ∃ mn, Nat.min m (N - m) = mn := ⟨_, rfl⟩
      have hle : mn ≤ m ∧ mn ≤ N - m ∧ 1 ≤ mn := by
        have e : Nat.min m (N - m) = min m (N - m) := rfl
        rw [e] at hmn
        omega
      obtain ⟨hl1, hl2, hl3⟩ := hle
      have hmn' : Nat.min m (N - m) = mn := hmn
      obtain ⟨W3, hcp, hW3, hB3⟩ := copy_to (P := Tryd.prog) wr.drew 22 22 3 63 w.heap.size (m * 4) (N - m) (N - m) ⟨w.heap.size, 0, none⟩ m N 4 mn (flat (List.replicate m c) ++ rest) 63 (flat (List.replicate mn c)) und_cells size_cell hh hmn' (by rw [flat_len]; simp) (flat_src (w := wr.drew) hh _ ⟨flat (List.replicate (m - mn) c), by rw [← flat_append, rep_add, Nat.add_sub_cancel' hl1]⟩) (by rw [List.length_append, flat_len, flat_len]; simp; omega) (flat_one _)
      rw [copy_step] at hW3
      have k3 : Below w.heap.size w W3 := hB3 _ _ hb.drew (Nat.le_refl _)
      clear hmn hmn' hB3
      go_wp2_with fail
      go_region
      go_wp2_with fail
      go_roundg (N - (m + mn))
      case measure => omega
      case rel => exact ⟨m + mn, rest.drop (mn * 4), by simp, by omega, by omega, by omega, by rw [List.length_drop, hr]; omega, k3, hW3⟩
    · have hmE : m = N := by omega
      subst hmE
      go_wp2_with fail
      go_ret
      refine ⟨_, rfl, ⟨w.heap.size, m, rest, ⟨63, rfl⟩, ?_, Nat.le_refl _, by simp, by omega, hh⟩, hb⟩
      simp
set_option maxHeartbeats 2000000 in
set_option maxRecDepth 100000 in
theorem repeat_zero (b o cx : Nat) (c : C) (w : World) (hC : CellsAt w b o [c]) :
    Calls Tryd.prog 93 #[.slice (some ⟨b, o, none⟩) 1 cx, .int .i64 0] w fun e w' => ∃ v', e = .returned v' ∧ OwnG w' w.heap.size v' [] ∧ Below w.heap.size w w' := by
  obtain ⟨h0, hf, hb, hx⟩ := hC 0 (by simp)
  have hmk := make_cells 0 (by omega)
  have hmul : Hid (Calls Tryd.prog 130 #[.int .u64 1, .int .u64 0] w fun e w' => e = .returned (.tuple #[.int .u64 0, .int .u64 0]) ∧ w = w') := by
    have := Tryd.bits_Mul 1 0 (by omega) (by omega) w
    exact this.mono fun e w' ⟨he, hw⟩ => ⟨he, hw.symm⟩
  obtain ⟨A, hA⟩ : ∃ A, A = madeCells #[.int .i32 0, .int .i64 0, .int .i64 0, .int .i64 0] (0 * 4) := ⟨_, rfl⟩
  have hAs : A.size = 0 * 4 := by rw [hA, size_madeCells]
  rw [← hA] at hmk
  replace hmk : ∀ w : World, (Instr.makeSlice 22 (.int .i64 0) (.int .i64 0)).run Tryd.prog w = .ok (.slice (some ⟨w.heap.size, 0, none⟩) 0 0) (w.alloc (.cells A 63)) := hmk
  clear hA hC h0 hf hb hx
  obtain ⟨W2, hcp, hW2, hB2⟩ := copy_to (P := Tryd.prog) (w.alloc (.cells A 63)) 22 22 3 63 w.heap.size 0 0 0 ⟨b, o, none⟩ 1 cx 4 0 A.toList 63 [] und_cells size_cell (heap_alloc_new _ _) rfl rfl (fun j v hj => by simp at hj) (by simp) (fun v hv => by simp at hv)
  have k2 : Below w.heap.size w W2 := hB2 _ _ ((Below.refl _ _).alloc (Nat.le_refl _) _) (Nat.le_refl _)
  have hW : ∃ rest : List Value, W2.heap[w.heap.size]? = some (.cells (flat [] ++ rest).toArray 63 (0, 0)) := ⟨A.toList, by rw [hW2]; simp [flat]⟩
  clear hW2 hB2
  go_enter Tryd.func93, Tryd.ntmps93
  go_wp2_with (first | (go_at_call 130; refine hmul.out.mono ?_; rintro e W1 ⟨rfl, rfl⟩))
  go_loopg [8] 0 (fun g n wr => n = .int .i64 0 ∧ Below w.heap.size w wr ∧ ∃ rest : List Value, wr.heap[w.heap.size]? = some (.cells (flat [] ++ rest).toArray 63 (0, 0)))
  case atStart => exact ⟨rfl, k2, hW⟩
  case round =>
    obtain ⟨rfl, hb, rest, hh⟩ := hrel
    clear hW hcp k2 hmk
    go_wp2_with fail
    go_ret
    exact ⟨_, rfl, ⟨w.heap.size, 0, rest, ⟨63, rfl⟩, rfl, Nat.le_refl _, by simp, by omega, hh⟩, hb⟩
end Grd
end Go.Proofs.YtnkeahfcpbepjaaDoor

/- A grid, a cell, a rectangle out of what the row reads. -/
namespace Go.Proofs.YtnkeahfcpbepjaaDoor
open Go.ChangeShapes Go.WideShapes Go.ChangeAt Go.RowKit
namespace Grd
theorem i64_in {x : Int} (h : (Lit.int .i64 x).wf = true) : -9223372036854775808 ≤ x ∧ x ≤ 9223372036854775807 := by
  have e1 : IntKind.i64.min = -9223372036854775808 := rfl
  have e2 : IntKind.i64.max = 9223372036854775807 := rfl
  simpa [Lit.wf, e1, e2] using h
theorem i32_in {x : Int} (h : (Lit.int .i32 x).wf = true) : -2147483648 ≤ x ∧ x ≤ 2147483647 := by
  have e1 : IntKind.i32.min = -2147483648 := rfl
  have e2 : IntKind.i32.max = 2147483647 := rfl
  simpa [Lit.wf, e1, e2] using h
def CIn (c : C) : Prop := (-2147483648 ≤ c.1 ∧ c.1 ≤ 2147483647) ∧ (-9223372036854775808 ≤ c.2.1 ∧ c.2.1 ≤ 9223372036854775807) ∧ (-9223372036854775808 ≤ c.2.2.1 ∧ c.2.2.1 ≤ 9223372036854775807) ∧ (-9223372036854775808 ≤ c.2.2.2 ∧ c.2.2.2 ≤ 9223372036854775807)
section
variable {H : Type} {enc : TypeId × Value → H} {W : World} {base : Nat} {spare : Nat → Bool} {held : Bool}
theorem open_style {fuel : Nat} {vs : List Value} {y : DataW H × List MemPlace} (h : DataW.trod enc Tryd.prog W base spare held fuel 26 vs = some y) :
    ∃ f b x : Int, vs = [.int .i64 f, .int .i64 b, .int .i64 x] ∧ (-9223372036854775808 ≤ f ∧ f ≤ 9223372036854775807) ∧ (-9223372036854775808 ≤ b ∧ b ≤ 9223372036854775807) ∧ (-9223372036854775808 ≤ x ∧ x ≤ 9223372036854775807) ∧ y.1 = .agg [.lit (.int .i64 f), .lit (.int .i64 b), .lit (.int .i64 x)] := by
  obtain ⟨y0, y1, y2, n, hy, hl, e0, e1, e2⟩ := Deep.trod_struct3 Tryd.underlying26 h
  rw [show Tryd.prog.cellsOf 26 = 3 by kernel_rfl] at hl
  simp only [show Tryd.prog.cellsOf 3 = 1 by kernel_rfl] at e0 e1 e2
  obtain ⟨f, k0, h0, w0⟩ := DataW.trod_int Tryd.underlying3 e0
  obtain ⟨b, k1, h1, w1⟩ := DataW.trod_int Tryd.underlying3 e1
  obtain ⟨x, k2, h2, w2⟩ := DataW.trod_int Tryd.underlying3 e2
  match vs, hl with
  | [a, b', c], _ =>
    simp at k0 k1 k2
    subst k0 k1 k2
    exact ⟨f, b, x, rfl, i64_in w0, i64_in w1, i64_in w2, by rw [hy, h0, h1, h2]⟩
theorem open_cell {fuel : Nat} {vs : List Value} {y : DataW H × List MemPlace} (h : DataW.trod enc Tryd.prog W base spare held fuel 63 vs = some y) :
    ∃ c : C, vs = words c ∧ CIn c ∧ y.1 = .agg [.lit (.int .i32 c.1), .agg [.lit (.int .i64 c.2.1), .lit (.int .i64 c.2.2.1), .lit (.int .i64 c.2.2.2)]] := by
  obtain ⟨y0, y1, n, hy, hl, e0, e1⟩ := trod_struct2 Tryd.underlying63 h
  rw [show Tryd.prog.cellsOf 63 = 4 by kernel_rfl] at hl
  simp only [show Tryd.prog.cellsOf 21 = 1 by kernel_rfl] at e0
  simp only [show Tryd.prog.cellsOf 26 = 3 by kernel_rfl] at e1
  obtain ⟨r, k0, h0, w0⟩ := DataW.trod_int Tryd.underlying21 e0
  obtain ⟨f, b, x, k1, wf, wb, wx, h1⟩ := open_style e1
  match vs, hl with
  | [a, b', c, d], _ =>
    simp at k0 k1
    obtain ⟨rfl, rfl, rfl⟩ := k1
    subst k0
    exact ⟨(r, f, b, x), rfl, ⟨i32_in w0, wf, wb, wx⟩, by rw [hy, h0, h1]⟩
/-- A slice of cells, out of what the row reads. -/
theorem open_cells {fuel : Nat} {v : Value} {y : DataW H × List MemPlace} (h : DataW.trod enc Tryd.prog W 0 (fun _ => true) true fuel 22 [v] = some y) :
    ∃ cs : List C, SliceAt W v cs ∧ (∀ c ∈ cs, CIn c) ∧ (cs = [] ∨ ∃ elems sp, y.1 = .slice elems sp ∧ cs.length = elems.length) := by
  rcases Deep.open_slice und_cells h with ⟨hcs, _⟩ | ⟨a, len, cap, m, n, D, Pl, hcs, _, hl, hm, hmm, rfl, hx⟩
  · simp at hcs
    subst hcs
    exact ⟨[], .inl ⟨rfl, _, _, rfl⟩, by simp, .inl rfl⟩
  · simp at hcs
    subst hcs
    simp only [if_true] at hmm
    rw [show Tryd.prog.cellsOf 63 = 4 by kernel_rfl] at hx
    obtain ⟨f, hf⟩ := Deep.choose_lt (α := C) (p := fun i c => (∀ j, j < 4 → W.cell? ((a.add (i * 4)).add j) = (words c)[j]?) ∧ CIn c) (n := len) (fun i hi => by
      obtain ⟨cs', h1, h2⟩ := hx i (by omega)
      obtain ⟨_, _, hc⟩ := World.cells?_some h1
      obtain ⟨c, rfl, hin, _⟩ := open_cell h2
      exact ⟨c, hc, hin⟩)
    refine ⟨(List.range len).map f, ?_, ?_, .inr ⟨_, _, rfl, by simp⟩⟩
    · by_cases h0 : len = 0
      · subst h0
        exact .inl ⟨by simp, _, _, rfl⟩
      · obtain ⟨b, off, spot⟩ := a
        have hspot : spot = none := by
          have := (hf 0 (by omega)).1 0 (by omega)
          simpa [Addr.add] using World.cell?_spot this
        subst hspot
        have hlen : ((List.range len).map f).length = len := by simp
        refine .inr ⟨fun e => by rw [e] at hlen; simp at hlen; omega, b, off, cap, by rw [hlen], by omega, by unfold maxLen at hm; omega, fun j hj => ?_⟩
        rw [hlen] at hj
        have hg : ((List.range len).map f).getD j z0 = f j := by simp [List.getD, hj]
        rw [hg]
        have hc := (hf j hj).1
        have c0 := hc 0 (by omega)
        have c1 := hc 1 (by omega)
        have c2 := hc 2 (by omega)
        have c3 := hc 3 (by omega)
        rw [add_plain, add_plain] at c0 c1 c2 c3
        exact ⟨c0, c1, c2, c3⟩
    · intro c hc
      simp only [List.mem_map, List.mem_range] at hc
      obtain ⟨i, hi, rfl⟩ := hc
      exact (hf i hi).2
set_option maxRecDepth 100000 in
theorem open_grid {r : Reach} {b0 : Nat} {v : Value} {d : DataW H} {p : List MemPlace} (hv : Value.okWide Tryd.prog W r b0 24 v) (h : DataW.Trod enc Tryd.prog W 0 (fun _ => true) true 24 v d p) :
    ∃ (a q : Int) (u : Value) (cs : List C), v = .agg #[.int .i64 a, .int .i64 q, u] ∧ (-9223372036854775808 ≤ a ∧ a ≤ 9223372036854775807) ∧ (-9223372036854775808 ≤ q ∧ q ≤ 9223372036854775807) ∧ SliceAt W u cs ∧ (∀ c ∈ cs, CIn c) ∧ (cs = [] ∨ ∃ d0 d1 elems sp, d = .agg [d0, d1, .slice elems sp] ∧ cs.length = elems.length) := by
  obtain ⟨e0, e1, e2, y0, y1, y2, n, rfl, hd, _, t0, t1, t2⟩ := Joins.open_agg3 Tryd.underlying24 (by kernel_rfl) (by kernel_rfl) hv h
  obtain ⟨a, k0, _, w0⟩ := DataW.trod_int Tryd.underlying3 t0
  obtain ⟨q, k1, _, w1⟩ := DataW.trod_int Tryd.underlying3 t1
  obtain ⟨cs, hs, hin, hz⟩ := open_cells t2
  obtain rfl : e0 = _ := by simpa using k0
  obtain rfl : e1 = _ := by simpa using k1
  refine ⟨a, q, e2, cs, rfl, i64_in w0, i64_in w1, hs, hin, ?_⟩
  rcases hz with h | ⟨el, sp, hy, hl⟩
  · exact .inl h
  · exact .inr ⟨_, _, el, sp, by rw [hd, hy], hl⟩
theorem sized_grid {ts : List TypeId} {ds : List (DataW H)} {j : Nat} {d : DataW H} {cs : List C} (h : (DataW.weightsEach Tryd.prog ts ds).all (· ≤ reachBytes) = true) (ht : ts[j]? = some 24) (hd : ds[j]? = some d) (hz : cs = [] ∨ ∃ d0 d1 elems sp, d = .agg [d0, d1, .slice elems sp] ∧ cs.length = elems.length) : cs.length * 32 ≤ 140737488351232 := by
  rcases hz with rfl | ⟨d0, d1, el, sp, rfl, hl⟩
  · simp
  · have hm : (el.length + sp.length) * Tryd.prog.bytesOf 63 ∈ (DataW.agg [d0, d1, .slice el sp] : DataW H).weights Tryd.prog 24 := by
      unfold DataW.weights
      rw [Tryd.underlying24]
      simp only [List.map_cons, List.map_nil, DataW.weightsEach, List.mem_append]
      right; right; left
      unfold DataW.weights
      rw [und_cells]
      exact List.mem_cons_self ..
    have := of_decide_eq_true (List.all_eq_true.1 h _ (DataW.weights_mem_each ht hd _ hm))
    rw [show Tryd.prog.bytesOf 63 = 32 by kernel_rfl, reachBytes] at this
    rw [hl]
    omega
set_option maxRecDepth 100000 in
set_option maxRecDepth 100000 in
theorem open_cellV {r : Reach} {b0 : Nat} {v : Value} {d : DataW H} {p : List MemPlace} (hv : Value.okWide Tryd.prog W r b0 63 v) (h : DataW.Trod enc Tryd.prog W 0 (fun _ => true) true 63 v d p) :
    ∃ (a b c e : Int), v = .agg #[.int .i32 a, .int .i64 b, .int .i64 c, .int .i64 e] ∧ CIn (a, b, c, e) := by
  obtain ⟨cs, rfl, hsz⟩ := okWide_struct Tryd.underlying63 hv
  obtain ⟨fuel, hf⟩ := h
  obtain ⟨⟨a, b, c, e⟩, hcs, hin, _⟩ := open_cell hf
  refine ⟨a, b, c, e, ?_, hin⟩
  have : cs.toList = words (a, b, c, e) := hcs
  rw [← Array.toArray_toList (xs := cs), this]
  rfl
end
end Grd
end Go.Proofs.YtnkeahfcpbepjaaDoor

/- Plain mathematics on the runes of a text, over the model's own decoding of UTF-8: no program is named. -/
namespace Go.Proofs.YtnkeahfcpbepjaaDoor
namespace Txt

/-- The runes of s from place pos on, each with how many bytes it takes; at most so many. -/
def rs (s : ByteArray) : Nat → Nat → List (Int × Nat)
  | 0, _ => []
  | f + 1, pos => if pos < s.size then (((Utf8.decode s pos).1 : Int), (Utf8.decode s pos).2) :: rs s f (pos + (Utf8.decode s pos).2) else []
def runes (s : ByteArray) : List (Int × Nat) := rs s s.size 0
def wideL : List (Int × Nat) → Int
  | [] => 0
  | x :: t => wd x.1 + wideL t
def wideS (s : ByteArray) : Int := wideL (runes s)
/-- How many bytes of a text's runes are left when it is cut: 'w' cells have been taken. -/
def cutL (n : Int) : List (Int × Nat) → Int → Nat
  | [], _ => 0
  | x :: t, w => if n < w + wd x.1 then 0 else x.2 + cutL n t (w + wd x.1)
def cutS (s : ByteArray) (n : Int) : List UInt8 := s.data.toList.take (cutL n (runes s) 0)

theorem width_pos (s : ByteArray) (pos : Nat) (h : pos < s.size) : 1 ≤ (Utf8.decode s pos).2 := by
  by_cases ha : (s[pos]'h).toNat < 128
  · rw [decode_ascii s pos h ha]
    exact Nat.le_refl _
  · exact (decode_high s pos h (by omega)).2
theorem rs_end (s : ByteArray) (f pos : Nat) (h : ¬ pos < s.size) : rs s f pos = [] := by
  cases f with
  | zero => rfl
  | succ f => simp [rs, h]
theorem rs_step (s : ByteArray) (f pos : Nat) (h : pos < s.size) : rs s (f + 1) pos = (((Utf8.decode s pos).1 : Int), (Utf8.decode s pos).2) :: rs s f (pos + (Utf8.decode s pos).2) := by
  simp [rs, h]
theorem decode_fits (s : ByteArray) (pos : Nat) (h : pos < s.size) : pos + (Utf8.decode s pos).2 ≤ s.size := by
  simp only [Utf8.decode]
  repeat' split
  all_goals simp_all
  all_goals omega
theorem wideL_range : ∀ l : List (Int × Nat), 0 ≤ wideL l ∧ wideL l ≤ 2 * l.length
  | [] => by simp [wideL]
  | x :: t => by
    have := wideL_range t
    have := wd_range x.1
    simp only [wideL, List.length_cons]
    omega
theorem rs_length (s : ByteArray) : ∀ f pos : Nat, pos ≤ s.size → (rs s f pos).length + pos ≤ s.size
  | 0, _, h => by simpa [rs] using h
  | f + 1, pos, h => by
    by_cases hp : pos < s.size
    · have h1 := rs_length s f (pos + (Utf8.decode s pos).2) (decode_fits s pos hp)
      have h2 := width_pos s pos hp
      rw [rs_step s f pos hp, List.length_cons]
      omega
    · rw [rs_end s _ pos hp]; simpa using h
theorem wideS_range (s : ByteArray) : 0 ≤ wideS s ∧ wideS s ≤ 2 * s.size := by
  have h1 := wideL_range (runes s)
  have h2 := rs_length s s.size 0 (Nat.zero_le _)
  unfold wideS
  unfold runes at h1 ⊢
  omega
end Txt
end Go.Proofs.YtnkeahfcpbepjaaDoor

/- The walk of text.Wide. -/
namespace Go.Proofs.YtnkeahfcpbepjaaDoor
open Go.ChangeShapes Go.WideShapes Go.ChangeAt Go.RowKit
namespace Txt

set_option maxHeartbeats 1000000 in
theorem wide_any (s : ByteArray) (w : World) (hT : Tab w) (hs : s.size ≤ 281474976710656) :
    Calls Tryd.prog 28 #[.string s] w fun e w' => e = .returned (.int .i64 (wideS s)) ∧ Below w.heap.size w w' := by
  have HP : Hid (2 < w.heap.size) := hT.pos
  have HT : Hid (Tab w) := hT
  clear hT
  go_enter Tryd.func28, Tryd.ntmps28
  go_wp2
  go_loopw [3] (fun a wr => ∃ (pos f : Nat) (c : Int), wr.heap[w.heap.size]? = some (.stringIter s pos) ∧ Below w.heap.size w wr ∧ a = .int .i64 c ∧ c + wideL (rs s f pos) = wideS s ∧ s.size ≤ pos + f ∧ 0 ≤ c ∧ c ≤ 2 * pos ∧ pos ≤ s.size) (fun _ wr => s.size - wr.iterPos w.heap.size)
  case atStart =>
    exact ⟨0, s.size, 0, World.iter_heap w s 0, (Below.refl _ w).alloc (Nat.le_refl _) _, rfl, by simp [wideS, runes], by omega, by omega, by omega, by omega⟩
  case round =>
    obtain ⟨pos, f, c, hit, hbw, rfl, hc, hf, hc0, hc1, hps⟩ := hrel
    have HC : Hid (c + wideL (rs s f pos) = wideS s) := hc
    clear hc
    have hsz : w.heap.size < wr.heap.size := (Array.getElem?_eq_some_iff.1 hit).1
    by_cases hp : pos < s.size
    · have hnx : ∀ ty, (Instr.next (.pointer (some ⟨w.heap.size, 0, none⟩)) true ty).run Tryd.prog wr = _ := fun ty => Lib.run_next_any_at wr w.heap.size s pos ty hit hp
      have hwd := width_pos s pos hp
      have hfit := decode_fits s pos hp
      obtain ⟨f, rfl⟩ : ∃ g, f = g + 1 := ⟨f - 1, by omega⟩
      have HR : Hid (rs s (f + 1) pos = (((Utf8.decode s pos).1 : Int), (Utf8.decode s pos).2) :: rs s f (pos + (Utf8.decode s pos).2)) := rs_step s f pos hp
      have hw := wd_range (Utf8.decode s pos).1
      have hit2 := Lib.iterAt_heap wr w.heap.size s pos (pos + (Utf8.decode s pos).2) hit
      have hbw2 := Lib.below_iterAt hbw (k := w.heap.size) (Nat.le_refl _) s (pos + (Utf8.decode s pos).2)
      have hsz2 : w.heap.size < (wr.iterAt w.heap.size s (pos + (Utf8.decode s pos).2)).heap.size := by rw [Lib.iterAt_size]; exact hsz
      have HI : Hid (wr.iterPos w.heap.size = pos) := by simp only [Hid, World.iterPos, hit]
      clear hit
      generalize Utf8.decode s pos = d at *
      go_wp2_with (go_at_call 45; refine (width_any _ _ (HT.out.below hbw2 (by have := HP.out; omega))).mono ?_)
      rintro e W1 ⟨rfl, b1⟩
      go_wp2
      go_roundw
      case rel =>
        refine ⟨pos + d.2, f, c + wd d.1, (b1.block _ hsz2).trans hit2, hbw2.trans (b1.mono (by omega)), rfl, ?_, by omega, by omega, by omega, by omega⟩
        have := HC.out; rw [HR.out] at this; simp only [wideL] at this; omega
      case measure =>
        rw [HI.out]
        simp only [World.iterPos, (b1.block _ hsz2).trans hit2]
        omega
    · have hnx : ∀ ty, (Instr.next (.pointer (some ⟨w.heap.size, 0, none⟩)) true ty).run Tryd.prog wr = _ := fun ty => Lib.run_next_end_at wr w.heap.size s pos ty hit hp
      go_wp2
      go_ret
      have := HC.out
      rw [rs_end s f pos hp] at this
      exact ⟨ret_int (by simpa [wideL] using this), hbw⟩

end Txt
end Go.Proofs.YtnkeahfcpbepjaaDoor

/- The walk of text.Cut. -/
namespace Go.Proofs.YtnkeahfcpbepjaaDoor
open Go.ChangeShapes Go.WideShapes Go.ChangeAt Go.RowKit
namespace Txt
theorem ret_str {a b : ByteArray} (h : a = b) : Ending.returned (.string a) = .returned (.string b) := by rw [h]

set_option maxHeartbeats 400000 in
theorem clone_any (s : ByteArray) (w : World) (hs : s.size ≤ 281474976710656) :
    Calls Tryd.prog 67 #[.string s] w fun e w' => e = .returned (.string s) ∧ Below w.heap.size w w' := by
  go_enter Tryd.func67, Tryd.ntmps67
  go_wp2_with (go_at_call 114; refine (Tryd.stringslite_Clone _ _ hs).mono ?_; rintro e W1 ⟨rfl, b1⟩)
  go_ret
  exact ⟨rfl, b1⟩
theorem extract_take (s : ByteArray) (k : Nat) : s.extract 0 k = ⟨(s.data.toList.take k).toArray⟩ := by
  rw [Lib.extract_eq]; simp
theorem extract_size_le (s : ByteArray) (k : Nat) : (s.extract 0 k).size ≤ s.size := by
  simp; omega

set_option maxHeartbeats 1000000 in
theorem cut_any (s : ByteArray) (n : Int) (w : World) (hT : Tab w) (hs : s.size ≤ 281474976710656) :
    Calls Tryd.prog 24 #[.string s, .int .i64 n] w fun e w' => e = .returned (.string ⟨(cutS s n).toArray⟩) ∧ Below w.heap.size w w' := by
  have HP : Hid (2 < w.heap.size) := hT.pos
  have HT : Hid (Tab w) := hT
  clear hT
  go_enter Tryd.func24, Tryd.ntmps24
  go_wp2
  go_loopw [5] (fun a wr => ∃ (pos f : Nat) (c : Int), wr.heap[w.heap.size]? = some (.stringIter s pos) ∧ Below w.heap.size w wr ∧ a = .int .i64 c ∧ pos + cutL n (rs s f pos) c = cutL n (runes s) 0 ∧ s.size ≤ pos + f ∧ 0 ≤ c ∧ c ≤ 2 * pos ∧ pos ≤ s.size) (fun _ wr => s.size - wr.iterPos w.heap.size)
  case atStart =>
    exact ⟨0, s.size, 0, World.iter_heap w s 0, (Below.refl _ w).alloc (Nat.le_refl _) _, rfl, by simp [runes], by omega, by omega, by omega, by omega⟩
  case round =>
    obtain ⟨pos, f, c, hit, hbw, rfl, hc, hf, hc0, hc1, hps⟩ := hrel
    have HC : Hid (pos + cutL n (rs s f pos) c = cutL n (runes s) 0) := hc
    clear hc
    have hsz : w.heap.size < wr.heap.size := (Array.getElem?_eq_some_iff.1 hit).1
    by_cases hp : pos < s.size
    · have hnx : ∀ ty, (Instr.next (.pointer (some ⟨w.heap.size, 0, none⟩)) true ty).run Tryd.prog wr = _ := fun ty => Lib.run_next_any_at wr w.heap.size s pos ty hit hp
      have hwd := width_pos s pos hp
      have hfit := decode_fits s pos hp
      obtain ⟨f, rfl⟩ : ∃ g, f = g + 1 := ⟨f - 1, by omega⟩
      have HR : Hid (rs s (f + 1) pos = (((Utf8.decode s pos).1 : Int), (Utf8.decode s pos).2) :: rs s f (pos + (Utf8.decode s pos).2)) := rs_step s f pos hp
      have hw := wd_range (Utf8.decode s pos).1
      have hit2 := Lib.iterAt_heap wr w.heap.size s pos (pos + (Utf8.decode s pos).2) hit
      have hbw2 := Lib.below_iterAt hbw (k := w.heap.size) (Nat.le_refl _) s (pos + (Utf8.decode s pos).2)
      have hsz2 : w.heap.size < (wr.iterAt w.heap.size s (pos + (Utf8.decode s pos).2)).heap.size := by rw [Lib.iterAt_size]; exact hsz
      have HI : Hid (wr.iterPos w.heap.size = pos) := by simp only [Hid, World.iterPos, hit]
      clear hit
      generalize Utf8.decode s pos = d at *
      by_cases hn : n < c + wd d.1
      · go_wp2_with (go_at_call 45; refine (width_any _ _ (HT.out.below hbw2 (by have := HP.out; omega))).mono ?_)
        rintro e W1 ⟨rfl, b1⟩
        have HS : Hid ((s.extract 0 pos).size ≤ 281474976710656) := Nat.le_trans (extract_size_le s pos) hs
        have HX : Hid (s.extract 0 pos = ⟨(s.data.toList.take pos).toArray⟩) := extract_take s pos
        go_wp2_with (go_at_call 67; refine (clone_any _ _ HS.out).mono ?_; rintro e W2 ⟨rfl, b2⟩)
        go_ret
        refine ⟨ret_str ?_, (hbw2.trans (b1.mono (by omega))).trans (b2.mono (by have := b1.size; omega))⟩
        rw [HX.out]
        have := HC.out
        rw [HR.out] at this
        simp only [cutL] at this
        rw [if_pos hn] at this
        unfold cutS
        rw [← this]
        rfl
      · have hn : c + wd d.1 ≤ n := by omega
        go_wp2_with (go_at_call 45; refine (width_any _ _ (HT.out.below hbw2 (by have := HP.out; omega))).mono ?_; rintro e W1 ⟨rfl, b1⟩)
        go_roundw
        case rel =>
          refine ⟨pos + d.2, f, c + wd d.1, (b1.block _ hsz2).trans hit2, hbw2.trans (b1.mono (by omega)), rfl, ?_, by omega, by omega, by omega, by omega⟩
          have := HC.out; rw [HR.out] at this; simp only [cutL] at this; rw [if_neg (by omega)] at this; omega
        case measure =>
          rw [HI.out]
          simp only [World.iterPos, (b1.block _ hsz2).trans hit2]
          omega
    · have hnx : ∀ ty, (Instr.next (.pointer (some ⟨w.heap.size, 0, none⟩)) true ty).run Tryd.prog wr = _ := fun ty => Lib.run_next_end_at wr w.heap.size s pos ty hit hp
      go_wp2_with (go_at_call 67; refine (clone_any _ _ hs).mono ?_; rintro e W2 ⟨rfl, b2⟩)
      go_ret
      refine ⟨ret_str ?_, hbw.trans (b2.mono (by omega))⟩
      have := HC.out
      rw [rs_end s f pos hp] at this
      simp only [cutL] at this
      unfold cutS
      rw [← this, List.take_of_length_le (by simp; omega)]
end Txt
end Go.Proofs.YtnkeahfcpbepjaaDoor

/- Plain mathematics on lists of bytes and their runes: cutting a text at the end of a rune. No program is named. -/
namespace Go.Proofs.YtnkeahfcpbepjaaDoor
namespace Txt

/-- The first rune of a list of bytes, and how many of them it takes. -/
def dec (l : List UInt8) : Nat × Nat := Lib.decodeN l.length (l.getD 0 0).toNat (l.getD 1 0).toNat (l.getD 2 0).toNat (l.getD 3 0).toNat

theorem get_drop (s : ByteArray) (i k : Nat) : s.get! (i + k) = (s.data.toList.drop i).getD k 0 := by
  show s.data[i + k]! = _
  rw [List.getD_eq_getElem?_getD, List.getElem?_drop, Array.getElem?_toList, getElem!_def]
  cases s.data[i + k]? <;> rfl
theorem decode_dec (s : ByteArray) (pos : Nat) : Utf8.decode s pos = dec (s.data.toList.drop pos) := by
  rw [Lib.decode_at]
  unfold dec
  rw [show s.get! pos = s.get! (pos + 0) from rfl, get_drop, get_drop, get_drop, get_drop]
  simp

/-- The runes of a list of bytes. -/
def rl : Nat → List UInt8 → List (Int × Nat)
  | 0, _ => []
  | f + 1, l => if l = [] then [] else (((dec l).1 : Int), (dec l).2) :: rl f (l.drop (dec l).2)
def rn (l : List UInt8) : List (Int × Nat) := rl l.length l

theorem rs_rl (s : ByteArray) : ∀ f pos : Nat, rs s f pos = rl f (s.data.toList.drop pos)
  | 0, _ => rfl
  | f + 1, pos => by
    by_cases h : pos < s.size
    · rw [rs_step s f pos h, rs_rl s f]
      have hne : s.data.toList.drop pos ≠ [] := by
        intro e
        have := congrArg List.length e
        simp at this
        omega
      simp only [rl, if_neg hne, ← decode_dec, List.drop_drop]
    · rw [rs_end s _ pos h]
      have he : s.data.toList.drop pos = [] := List.drop_eq_nil_iff.2 (by simp; omega)
      simp [rl, he]
theorem runes_rn (s : ByteArray) : runes s = rn s.data.toList := by
  unfold runes rn
  rw [rs_rl]
  simp

theorem decN_ascii (n b0 b1 b2 b3 : Nat) (h : b0 < 128) : Lib.decodeN n b0 b1 b2 b3 = (b0, 1) := by
  simp [Lib.decodeN, h]
theorem decN_one (b0 b1 b2 b3 n : Nat) (hn : n ≤ 1) (h : ¬ b0 < 128) : Lib.decodeN n b0 b1 b2 b3 = (65533, 1) := by
  have h1 : ¬ 1 < n := by omega
  simp [Lib.decodeN, h, h1]
theorem decN_pos (n b0 b1 b2 b3 : Nat) : 1 ≤ (Lib.decodeN n b0 b1 b2 b3).2 := by
  unfold Lib.decodeN
  repeat' split
  all_goals simp
theorem decN_le (n b0 b1 b2 b3 : Nat) (hn : 1 ≤ n) : (Lib.decodeN n b0 b1 b2 b3).2 ≤ n := by
  unfold Lib.decodeN
  repeat' split
  all_goals simp
  all_goals omega
theorem decN_mono (n n' b0 b1 b2 b3 c1 c2 c3 : Nat) (hn : n' ≤ n) (hp : 1 ≤ n') (h1 : 1 < n' → c1 = b1) (h2 : 2 < n' → c2 = b2) (h3 : 3 < n' → c3 = b3)
    (hk : (Lib.decodeN n b0 b1 b2 b3).2 ≤ n') : Lib.decodeN n' b0 c1 c2 c3 = Lib.decodeN n b0 b1 b2 b3 := by
  by_cases a : b0 < 128
  · rw [decN_ascii _ _ _ _ _ a, decN_ascii _ _ _ _ _ a]
  · unfold Lib.decodeN at hk ⊢
    rw [if_neg a] at hk
    rw [if_neg a, if_neg a]
    by_cases p2 : b0 / 32 = 6
    · have q3 : ¬ b0 / 16 = 14 := by omega
      have q4 : ¬ b0 / 8 = 30 := by omega
      simp only [p2, q3, q4, true_and, false_and, if_false] at hk ⊢
      by_cases k1 : 1 < n'
      · rw [h1 k1]
        simp [k1, show 1 < n by omega]
      · simp only [k1, false_and, if_false]
        split at hk
        · split at hk
          · exfalso; simp at hk; omega
          · rename_i e1 e2
            rw [if_pos e1, if_neg e2]
        · rename_i e1
          rw [if_neg e1]
    · by_cases p3 : b0 / 16 = 14
      · have q4 : ¬ b0 / 8 = 30 := by omega
        simp only [p2, p3, q4, true_and, false_and, if_false] at hk ⊢
        by_cases k2 : 2 < n'
        · rw [h1 (by omega), h2 k2]
          simp [k2, show 1 < n' by omega, show 1 < n by omega, show 2 < n by omega]
        · simp only [k2, false_and, and_false, if_false]
          split at hk
          · split at hk
            · exfalso; simp at hk; omega
            · rename_i e1 e2
              rw [if_pos e1, if_neg e2]
          · rename_i e1
            rw [if_neg e1]
      · by_cases p4 : b0 / 8 = 30
        · simp only [p2, p3, p4, true_and, false_and, if_false] at hk ⊢
          by_cases k3 : 3 < n'
          · rw [h1 (by omega), h2 (by omega), h3 k3]
            simp [k3, show 1 < n' by omega, show 2 < n' by omega, show 1 < n by omega, show 2 < n by omega, show 3 < n by omega]
          · simp only [k3, false_and, and_false, if_false]
            split at hk
            · split at hk
              · exfalso; simp at hk; omega
              · rename_i e1 e2
                rw [if_pos e1, if_neg e2]
            · rename_i e1
              rw [if_neg e1]
        · simp [p2, p3, p4]

theorem dec_pos (l : List UInt8) : 1 ≤ (dec l).2 := decN_pos _ _ _ _ _
theorem dec_le (l : List UInt8) (h : l ≠ []) : (dec l).2 ≤ l.length := decN_le _ _ _ _ _ (by cases l <;> simp_all)
/-- A list that goes on behind its first rune begins with that rune. -/
theorem dec_prefix (a b : List UInt8) (ha : a ≠ []) (h : (dec (a ++ b)).2 ≤ a.length) : dec a = dec (a ++ b) := by
  have hl : 1 ≤ a.length := by cases a <;> simp_all
  have hg : ∀ k, k < a.length → (a ++ b).getD k 0 = a.getD k 0 := by
    intro k hk
    rw [List.getD_eq_getElem?_getD, List.getD_eq_getElem?_getD, List.getElem?_append_left hk]
  unfold dec at h ⊢
  rw [hg 0 (by omega)] at h ⊢
  exact decN_mono _ _ _ _ _ _ _ _ _ (by simp) hl (fun k => by rw [hg 1 k]) (fun k => by rw [hg 2 k]) (fun k => by rw [hg 3 k]) h
end Txt
end Go.Proofs.YtnkeahfcpbepjaaDoor

/- Plain mathematics on cut texts: what is kept, what is left, blanks behind. No program is named. -/
namespace Go.Proofs.YtnkeahfcpbepjaaDoor
namespace Txt

theorem rl_nil (f : Nat) : rl f [] = [] := by cases f <;> rfl
theorem rl_cons (f : Nat) (l : List UInt8) (h : l ≠ []) : rl (f + 1) l = (((dec l).1 : Int), (dec l).2) :: rl f (l.drop (dec l).2) := by
  simp [rl, h]
theorem length_pos_of_ne {l : List UInt8} (h : l ≠ []) : 1 ≤ l.length := by cases l <;> simp_all
/-- How many rounds one allows makes no difference, if they are enough. -/
theorem rl_fuel : ∀ (f g : Nat) (l : List UInt8), l.length ≤ f → l.length ≤ g → rl f l = rl g l
  | f, g, [], _, _ => by rw [rl_nil, rl_nil]
  | 0, _, x :: t, hf, _ => by simp at hf
  | _ + 1, 0, x :: t, _, hg => by simp at hg
  | f + 1, g + 1, x :: t, hf, hg => by
    rw [rl_cons f _ (by simp), rl_cons g _ (by simp)]
    have hp := dec_pos (x :: t)
    rw [rl_fuel f g _ (by simp only [List.length_drop]; simp at hf ⊢; omega) (by simp only [List.length_drop]; simp at hg ⊢; omega)]
theorem rn_nil : rn [] = [] := rfl
theorem rn_cons (l : List UInt8) (h : l ≠ []) : rn l = (((dec l).1 : Int), (dec l).2) :: rn (l.drop (dec l).2) := by
  unfold rn
  have h1 := length_pos_of_ne h
  have hp := dec_pos l
  rw [show l.length = (l.length - 1) + 1 from by omega, rl_cons _ _ h]
  rw [rl_fuel (l.length - 1) (l.drop (dec l).2).length _ (by simp only [List.length_drop]; omega) (Nat.le_refl _)]

theorem wideL_append : ∀ a b : List (Int × Nat), wideL (a ++ b) = wideL a + wideL b
  | [], b => by simp [wideL]
  | x :: t, b => by simp only [List.cons_append, wideL, wideL_append t b]; omega

/-- The runes that are kept by a cut, and those that are left. -/
def keepL (n : Int) : List (Int × Nat) → Int → List (Int × Nat)
  | [], _ => []
  | x :: t, w => if n < w + wd x.1 then [] else x :: keepL n t (w + wd x.1)
def leftL (n : Int) : List (Int × Nat) → Int → List (Int × Nat)
  | [], _ => []
  | x :: t, w => if n < w + wd x.1 then x :: t else leftL n t (w + wd x.1)
theorem keep_left (n : Int) : ∀ (l : List (Int × Nat)) (w : Int), keepL n l w ++ leftL n l w = l
  | [], _ => rfl
  | x :: t, w => by
    unfold keepL leftL
    split
    · rfl
    · simp [keep_left n t]
theorem keep_wide (n : Int) : ∀ (l : List (Int × Nat)) (w : Int), w ≤ n → w + wideL (keepL n l w) ≤ n
  | [], w, h => by simpa [keepL, wideL] using h
  | x :: t, w, h => by
    unfold keepL
    split
    · simpa [wideL] using h
    · have := keep_wide n t (w + wd x.1) (by omega)
      simp only [wideL]
      omega
theorem keep_neg (n : Int) (h : n < 0) (l : List (Int × Nat)) : keepL n l 0 = [] ∧ cutL n l 0 = 0 := by
  cases l with
  | nil => exact ⟨rfl, rfl⟩
  | cons x t =>
    have := wd_range x.1
    unfold keepL cutL
    rw [if_pos (by omega), if_pos (by omega)]
    exact ⟨rfl, rfl⟩
theorem keep_again (n : Int) : ∀ (l : List (Int × Nat)) (w : Int), cutL n (keepL n l w) w = cutL n l w
  | [], _ => rfl
  | x :: t, w => by
    unfold keepL
    by_cases h : n < w + wd x.1
    · simp [cutL, h]
    · simp [cutL, h, keep_again n t]
theorem cut_le (n : Int) : ∀ (l : List UInt8) (w : Int), cutL n (rn l) w ≤ l.length := by
  intro l
  generalize hk : l.length = k
  induction k using Nat.strongRecOn generalizing l with
  | ind k ih =>
    intro w
    by_cases hl : l = []
    · subst hl; simp [rn_nil, cutL]
    · have h1 := dec_le l hl
      have h2 := dec_pos l
      rw [rn_cons l hl]
      unfold cutL
      split
      · omega
      · have := ih (l.drop (dec l).2).length (by simp only [List.length_drop]; omega) (l.drop (dec l).2) rfl (w + wd (dec l).1)
        simp only [List.length_drop] at this
        simp only
        omega
/-- A text that is cut has the runes that are kept; the rest has those that are left. -/
theorem cut_runes (n : Int) : ∀ (l : List UInt8) (w : Int), rn (l.take (cutL n (rn l) w)) = keepL n (rn l) w ∧ rn (l.drop (cutL n (rn l) w)) = leftL n (rn l) w := by
  intro l
  generalize hk : l.length = k
  induction k using Nat.strongRecOn generalizing l with
  | ind k ih =>
    intro w
    by_cases hl : l = []
    · subst hl; exact ⟨rfl, rfl⟩
    · have h1 := dec_le l hl
      have h2 := dec_pos l
      rw [rn_cons l hl]
      unfold cutL keepL leftL
      by_cases hn : n < w + wd (dec l).1
      · simp only [hn, if_true]
        refine ⟨by simp [rn_nil], ?_⟩
        rw [List.drop_zero, rn_cons l hl]
      · simp only [hn, if_false]
        have hi := ih (l.drop (dec l).2).length (by simp only [List.length_drop]; omega) (l.drop (dec l).2) rfl (w + wd (dec l).1)
        have hc := cut_le n (l.drop (dec l).2) (w + wd (dec l).1)
        generalize hq : cutL n (rn (l.drop (dec l).2)) (w + wd (dec l).1) = q at *
        have hd : dec (l.take ((dec l).2 + q)) = dec l := by
          have := dec_prefix (l.take ((dec l).2 + q)) (l.drop ((dec l).2 + q)) (by
            intro e
            have := congrArg List.length e
            simp only [List.length_take, List.length_nil] at this
            have := length_pos_of_ne hl
            omega) (by rw [List.take_append_drop]; simp only [List.length_take]; omega)
          rwa [List.take_append_drop] at this
        have hne : l.take ((dec l).2 + q) ≠ [] := by
          intro e
          have := congrArg List.length e
          simp only [List.length_take, List.length_nil] at this
          have := length_pos_of_ne hl
          omega
        constructor
        · rw [rn_cons _ hne, hd, ← hi.1, List.drop_take]
          rw [show (dec l).2 + q - (dec l).2 = q from by omega]
        · rw [← hi.2, List.drop_drop]

/-- Cutting twice is cutting once. -/
theorem cut_again (n : Int) (l : List UInt8) : (l.take (cutL n (rn l) 0)).take (cutL n (rn (l.take (cutL n (rn l) 0))) 0) = l.take (cutL n (rn l) 0) := by
  rw [(cut_runes n l 0).1, keep_again, List.take_take, Nat.min_self]

/-- Bytes below 128 behind a text: its last rune stays as it is. -/
theorem decN_behind (n m b0 b1 b2 b3 c1 c2 c3 : Nat) (hn : n ≤ m) (hp : 1 ≤ n) (h1 : 1 < n → c1 = b1) (h2 : 2 < n → c2 = b2) (h3 : 3 < n → c3 = b3)
    (g1 : ¬ 1 < n → c1 < 128) (g2 : ¬ 2 < n → c2 < 128) (g3 : ¬ 3 < n → c3 < 128) : Lib.decodeN m b0 c1 c2 c3 = Lib.decodeN n b0 b1 b2 b3 := by
  unfold Lib.decodeN
  by_cases a : b0 < 128
  · simp [a]
  · simp only [if_neg a]
    by_cases k1 : 1 < n
    · rw [h1 k1]
      by_cases k2 : 2 < n
      · rw [h2 k2]
        by_cases k3 : 3 < n
        · rw [h3 k3]
          simp only [k1, k2, k3, show 1 < m by omega, show 2 < m by omega, show 3 < m by omega]
        · have e3 : ¬ c3 / 64 = 2 := by have := g3 k3; omega
          simp only [k1, k2, k3, show 1 < m by omega, show 2 < m by omega, e3, false_and, and_false, if_false]
      · have e2 : ¬ c2 / 64 = 2 := by have := g2 k2; omega
        have k3 : ¬ 3 < n := by omega
        simp only [k1, k2, k3, show 1 < m by omega, e2, false_and, and_false, if_false]
    · have e1 : ¬ c1 / 64 = 2 := by have := g1 k1; omega
      have k2 : ¬ 2 < n := by omega
      have k3 : ¬ 3 < n := by omega
      simp only [k1, k2, k3, e1, false_and, and_false, if_false]
theorem dec_behind (a b : List UInt8) (ha : a ≠ []) (hb : ∀ x ∈ b, x.toNat < 128) : dec (a ++ b) = dec a := by
  have hl := length_pos_of_ne ha
  have hg : ∀ k, k < a.length → (a ++ b).getD k 0 = a.getD k 0 := by
    intro k hk
    rw [List.getD_eq_getElem?_getD, List.getD_eq_getElem?_getD, List.getElem?_append_left hk]
  have hs : ∀ k, ¬ k < a.length → ((a ++ b).getD k 0).toNat < 128 := by
    intro k hk
    rw [List.getD_eq_getElem?_getD, List.getElem?_append_right (by omega)]
    cases hq : b[k - a.length]? with
    | none => simp
    | some x => exact hb x (List.mem_of_getElem? hq)
  unfold dec
  rw [hg 0 (by omega)]
  exact decN_behind _ _ _ _ _ _ _ _ _ (by simp) hl (fun k => by rw [hg 1 k]) (fun k => by rw [hg 2 k]) (fun k => by rw [hg 3 k]) (hs 1) (hs 2) (hs 3)
theorem rn_behind : ∀ (a b : List UInt8), (∀ x ∈ b, x.toNat < 128) → rn (a ++ b) = rn a ++ rn b := by
  intro a
  generalize hk : a.length = k
  induction k using Nat.strongRecOn generalizing a with
  | ind k ih =>
    intro b hb
    by_cases ha : a = []
    · subst ha; simp [rn_nil]
    · have h1 := dec_le a ha
      have h2 := dec_pos a
      rw [rn_cons (a ++ b) (by simp [ha]), dec_behind a b ha hb, List.drop_append_of_le_length h1, rn_cons a ha]
      rw [ih (a.drop (dec a).2).length (by simp only [List.length_drop]; omega) (a.drop (dec a).2) rfl b hb]
      rfl
theorem rn_blank (k : Nat) : rn (List.replicate k 32) = List.replicate k (32, 1) := by
  induction k with
  | zero => rfl
  | succ k ih =>
    rw [List.replicate_succ, rn_cons _ (by simp)]
    have hd : dec (32 :: List.replicate k 32) = (32, 1) := by
      unfold dec
      rw [decN_ascii _ _ _ _ _ (by simp)]
      rfl
    rw [hd, List.replicate_succ]
    simp only [List.drop_succ_cons, List.drop_zero, ih]
    rfl
theorem wide_blank : ∀ k : Nat, wideL (List.replicate k ((32 : Int), 1)) = k
  | 0 => rfl
  | k + 1 => by
    rw [List.replicate_succ]
    simp only [wideL, wide_blank k]
    rw [show wd 32 = 1 from by decide]
    omega

/-- A text that is cut, then filled with blanks. -/
def fitL (l : List UInt8) (n : Int) : List UInt8 := l.take (cutL n (rn l) 0) ++ List.replicate (n - wideL (rn (l.take (cutL n (rn l) 0)))).toNat 32
theorem cut_wide (n : Int) (h : 0 ≤ n) (l : List UInt8) : 0 ≤ wideL (rn (l.take (cutL n (rn l) 0))) ∧ wideL (rn (l.take (cutL n (rn l) 0))) ≤ n := by
  rw [(cut_runes n l 0).1]
  have := keep_wide n (rn l) 0 h
  have := wideL_range (keepL n (rn l) 0)
  omega
theorem fit_wide (n : Int) (h : 0 ≤ n) (l : List UInt8) : wideL (rn (fitL l n)) = n := by
  unfold fitL
  rw [rn_behind _ _ (by intro x hx; rw [List.eq_of_mem_replicate hx]; decide), wideL_append, rn_blank, wide_blank]
  have := cut_wide n h l
  omega
/-- What fits wholly is not cut. -/
theorem cut_all (n : Int) : ∀ (l : List UInt8) (w : Int), w + wideL (rn l) ≤ n → cutL n (rn l) w = l.length := by
  intro l
  generalize hk : l.length = k
  induction k using Nat.strongRecOn generalizing l with
  | ind k ih =>
    intro w hw
    by_cases hl : l = []
    · subst hl; simp at hk; simp [rn_nil, cutL, hk]
    · have h1 := dec_le l hl
      have h2 := dec_pos l
      rw [rn_cons l hl] at hw ⊢
      simp only [wideL] at hw
      have hr := wideL_range (rn (l.drop (dec l).2))
      unfold cutL
      rw [if_neg (by simp only; omega)]
      have := ih (l.drop (dec l).2).length (by simp only [List.length_drop]; omega) (l.drop (dec l).2) rfl (w + wd (dec l).1) (by omega)
      simp only [List.length_drop] at this
      simp only
      omega
theorem fit_again (n : Int) (h : 0 ≤ n) (l : List UInt8) : (fitL l n).take (cutL n (rn (fitL l n)) 0) = fitL l n := by
  rw [cut_all n (fitL l n) 0 (by rw [fit_wide n h l]; omega), List.take_length]
theorem cut_parts (n : Int) (l : List UInt8) : wideL (rn (l.take (cutL n (rn l) 0))) + wideL (rn (l.drop (cutL n (rn l) 0))) = wideL (rn l) := by
  rw [(cut_runes n l 0).1, (cut_runes n l 0).2, ← wideL_append, keep_left]
theorem cut_small (n : Int) (l : List UInt8) : n < 0 ∨ wideL (rn (l.take (cutL n (rn l) 0))) ≤ n := by
  by_cases h : n < 0
  · exact Or.inl h
  · exact Or.inr (cut_wide n (by omega) l).2
end Txt
end Go.Proofs.YtnkeahfcpbepjaaDoor

/- The walks of text.Cut, text.Wide and text.Fit, said of lists of bytes; and of trellislaw.written. -/
namespace Go.Proofs.YtnkeahfcpbepjaaDoor
open Go.ChangeShapes Go.WideShapes Go.ChangeAt Go.RowKit
namespace Txt
def cutB (l : List UInt8) (n : Int) : List UInt8 := l.take (cutL n (rn l) 0)
def wideB (l : List UInt8) : Int := wideL (rn l)
def fitB (l : List UInt8) (n : Int) : List UInt8 := if n < 0 ∨ 120 < n then [] else fitL l n
def bs (l : List UInt8) : ByteArray := ⟨l.toArray⟩
theorem bs_size (l : List UInt8) : (bs l).size = l.length := by simp [bs, ByteArray.size]
theorem bs_data (l : List UInt8) : (bs l).data.toList = l := by simp [bs]
theorem bs_self (s : ByteArray) : bs s.data.toList = s := by cases s; simp [bs]
theorem bs_append (a b : List UInt8) : bs a ++ bs b = bs (a ++ b) := by
  apply ByteArray.ext
  simp [bs]
theorem cutB_length (l : List UInt8) (n : Int) : (cutB l n).length ≤ l.length := by simp [cutB]; omega

theorem cut_b (l : List UInt8) (n : Int) (w : World) (hT : Tab w) (hs : l.length ≤ 281474976710656) :
    Calls Tryd.prog 24 #[.string (bs l), .int .i64 n] w fun e w' => e = .returned (.string (bs (cutB l n))) ∧ Below w.heap.size w w' := by
  refine (cut_any (bs l) n w hT (by rw [bs_size]; exact hs)).mono fun e w' ⟨he, hb⟩ => ⟨?_, hb⟩
  rw [he]; unfold cutS; rw [runes_rn, bs_data]; rfl
theorem wide_b (l : List UInt8) (w : World) (hT : Tab w) (hs : l.length ≤ 281474976710656) :
    Calls Tryd.prog 28 #[.string (bs l)] w fun e w' => e = .returned (.int .i64 (wideB l)) ∧ Below w.heap.size w w' := by
  refine (wide_any (bs l) w hT (by rw [bs_size]; exact hs)).mono fun e w' ⟨he, hb⟩ => ⟨?_, hb⟩
  rw [he]; unfold wideS; rw [runes_rn, bs_data]; rfl
end Txt
end Go.Proofs.YtnkeahfcpbepjaaDoor

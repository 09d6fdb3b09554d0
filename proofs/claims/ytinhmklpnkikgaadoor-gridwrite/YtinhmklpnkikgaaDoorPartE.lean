/- The library's contracts that this claim uses, laid at this program: each is one application of a theorem of the library. -/
import Derived.Test.YtinhmklpnkikgaaDoorGridOpen
import Derived.Test.YtinhmklpnkikgaaDoorGridTab
import Derived.Test.YtinhmklpnkikgaaDoorShelf
import Derived.Test.YtinhmklpnkikgaaDoorGridRepeat
import Derived.Shelf.Strings.Builder1
import Derived.Shelf.Strings.Trim
import Derived.Shelf.Small.Utf8
import Derived.Shelf.Small.Strs
import Derived.Shelf.Strings.BuilderF
import Derived.Shelf.Strings.BuilderK
import Derived.Shelf.Strings.BuilderRune
import Derived.Shelf.Utf8.AppendRune
import Derived.Shelf.Utf8.AppendRunePlain
import Derived.Shelf.Strings.Search1
import Derived.Shelf.Unicode.Decode
import Derived.Shelf.Strings.Runes
import Derived.Shelf.Strings.AsciiSet
import Derived.Shelf.Bits.Mul64
import Derived.Shelf.Unicode.DecodeSlow
import Derived.Shelf.Unicode.DecodeAny
import Derived.Shelf.Unicode.DecodeLast
import Derived.Shelf.Strings.BuilderCap
import Derived.Shelf.Slices.Equal
import Derived.Shelf.Slices.Empties2
import Derived.Test.YtinhmklpnkikgaaDoorProg
import Derived.Test.YtinhmklpnkikgaaDoorPartD
import Derived.Laws.MakeOwn
import Derived.Deep.RegionLaw
import Derived.Lib.LaidU8
import Derived.Deep.Strs
import Derived.Deep.Slices
import Derived.ChangeSlices
import Derived.SizedLaws
import Derived.Lib.SmallJoins
import Derived.Lib.Small
import Derived.Laws.ResultCell
import Derived.BigQuiet
import Derived.Deep.MidRow
import Derived.Lib.OthersKept
namespace Go.Proofs
open Go.Shelf
def Tryd.lays169_ren : Go.Shelf.Ren := ⟨fun | 169 => 52 | n => n, fun | 70 => 78 | 9 => 9 | 0 => 0 | 72 => 81 | 37 => 79 | 127 => 105 | 3 => 3 | 5 => 5 | n => n, fun | n => n⟩
open Go.RowKit in
open Go.RowKit in
open Go.RowKit in
def Tryd.lays232_ren : Go.Shelf.Ren := ⟨fun | 232 => 60 | n => n, fun | 9 => 9 | 5 => 5 | 3 => 3 | 4 => 4 | n => n, fun | n => n⟩
open Go.RowKit in
def Tryd.lays162_ren : Go.Shelf.Ren := ⟨fun | 162 => 51 | 232 => 60 | 227 => 61 | 234 => 62 | 236 => 63 | 228 => 68 | 271 => 69 | 151 => 70 | 120 => 71 | 197 => 72 | 152 => 73 | 260 => 74 | 137 => 75 | 119 => 76 | 224 => 77 | 225 => 78 | 217 => 79 | 266 => 80 | n => n, fun | 9 => 9 | 4 => 4 | 3 => 3 | 5 => 5 | 117 => 101 | 116 => 100 | 0 => 0 | 124 => 104 | 21 => 21 | 105 => 115 | 46 => 89 | 119 => 122 | 139 => 125 | 138 => 124 | n => n, fun | 3 => 1 | 4 => 2 | n => n⟩
open Go.RowKit in
def Tryd.lays119_ren : Go.Shelf.Ren := ⟨fun | 119 => 76 | n => n, fun | 21 => 21 | 4 => 4 | n => n, fun | n => n⟩
def Tryd.lays120_ren : Go.Shelf.Ren := ⟨fun | 120 => 71 | n => n, fun | 5 => 5 | 4 => 4 | n => n, fun | n => n⟩
def Tryd.lays137_ren : Go.Shelf.Ren := ⟨fun | 137 => 75 | 217 => 79 | 266 => 80 | n => n, fun | 9 => 9 | 5 => 5 | 3 => 3 | n => n, fun | n => n⟩
open Go.RowKit in
open Go.RowKit in
open Go.RowKit in
open Go.RowKit in
open Go.RowKit in
open Go.RowKit in
open Go.RowKit in
def Tryd.lays278_ren : Go.Shelf.Ren := ⟨fun | 278 => 67 | n => n, fun | 37 => 79 | 21 => 21 | 51 => 106 | 4 => 4 | 46 => 89 | 5 => 5 | n => n, fun | n => n⟩
open Go.RowKit in
def Tryd.lays242_ren : Go.Shelf.Ren := ⟨fun | 242 => 59 | 278 => 67 | n => n, fun | 37 => 79 | 21 => 21 | 51 => 106 | 4 => 4 | 5 => 5 | 46 => 89 | n => n, fun | n => n⟩
open Go.RowKit in
open Go.RowKit in
open Go.RowKit in
def Tryd.lays217_ren : Go.Shelf.Ren := ⟨fun | 217 => 79 | 266 => 80 | n => n, fun | 9 => 9 | 5 => 5 | 3 => 3 | n => n, fun | n => n⟩
open Go.RowKit Go.Lib in
def Tryd.lays224_ren : Go.Shelf.Ren := ⟨fun | 224 => 77 | n => n, fun | 3 => 3 | n => n, fun | n => n⟩
open Go.RowKit Go.Lib in
def Tryd.lays197_ren : Go.Shelf.Ren := ⟨fun | 197 => 72 | 260 => 74 | n => n, fun | 9 => 9 | 21 => 21 | 3 => 3 | 4 => 4 | 5 => 5 | 105 => 115 | 119 => 122 | 0 => 0 | 46 => 89 | 139 => 125 | 138 => 124 | n => n, fun | 3 => 1 | 4 => 2 | n => n⟩
open Go.RowKit Go.Lib in
def Tryd.lays152_ren : Go.Shelf.Ren := ⟨fun | 152 => 73 | 137 => 75 | 119 => 76 | 224 => 77 | 225 => 78 | 217 => 79 | 266 => 80 | n => n, fun | 9 => 9 | 21 => 21 | 3 => 3 | 4 => 4 | 5 => 5 | 0 => 0 | 46 => 89 | n => n, fun | n => n⟩
open Go.RowKit Go.Lib in
def Tryd.lays151_ren : Go.Shelf.Ren := ⟨fun | 151 => 70 | 152 => 73 | 137 => 75 | 119 => 76 | 224 => 77 | 225 => 78 | 217 => 79 | 266 => 80 | n => n, fun | 9 => 9 | 21 => 21 | 4 => 4 | 3 => 3 | 5 => 5 | 0 => 0 | 46 => 89 | n => n, fun | n => n⟩
open Go.RowKit Go.Lib in
def Tryd.lays227_ren : Go.Shelf.Ren := ⟨fun | 227 => 61 | n => n, fun | 9 => 9 | 116 => 100 | 4 => 4 | 0 => 0 | 3 => 3 | 5 => 5 | n => n, fun | n => n⟩
open Go.RowKit Go.Lib in
def Tryd.lays228_ren : Go.Shelf.Ren := ⟨fun | 228 => 68 | n => n, fun | 124 => 104 | 5 => 5 | 4 => 4 | 0 => 0 | 116 => 100 | n => n, fun | n => n⟩
open Go.RowKit Go.Lib in
def Tryd.lays264_ren : Go.Shelf.Ren := ⟨fun | 264 => 65 | n => n, fun | 53 => 109 | 46 => 89 | n => n, fun | n => n⟩
open Go.RowKit Go.Lib in
def Tryd.lays212_ren : Go.Shelf.Ren := ⟨fun | 212 => 54 | 263 => 64 | 264 => 65 | n => n, fun | 46 => 89 | 51 => 106 | 146 => 107 | 53 => 109 | 148 => 110 | n => n, fun | n => n⟩
open Go.RowKit Go.Lib in
def Tryd.lays260_ren : Go.Shelf.Ren := ⟨fun | 260 => 74 | n => n, fun | 9 => 9 | 21 => 21 | 3 => 3 | 4 => 4 | 5 => 5 | 119 => 122 | 0 => 0 | 46 => 89 | 139 => 125 | 138 => 124 | n => n, fun | 3 => 1 | 4 => 2 | n => n⟩
open Go.RowKit Go.Lib in
open Go.RowKit Go.Lib in
def Tryd.lays271_ren : Go.Shelf.Ren := ⟨fun | 271 => 69 | 120 => 71 | 197 => 72 | 260 => 74 | n => n, fun | 9 => 9 | 21 => 21 | 3 => 3 | 4 => 4 | 5 => 5 | 105 => 115 | 119 => 122 | 0 => 0 | 46 => 89 | 139 => 125 | 138 => 124 | n => n, fun | 3 => 1 | 4 => 2 | n => n⟩
open Go.RowKit Go.Lib in
def Tryd.lays193_ren : Go.Shelf.Ren := ⟨fun | 193 => 32 | n => n, fun | 31 => 60 | 9 => 9 | 4 => 4 | 3 => 3 | 0 => 0 | n => n, fun | n => n⟩
open Go.RowKit Go.Lib in
open Go.RowKit Go.Lib in
open Go.RowKit Go.Lib in
end Go.Proofs

/- slices.Repeat of one cell. -/
namespace Go.Proofs.YtinhmklpnkikgaaDoor
open Go.ChangeShapes Go.WideShapes Go.ChangeAt Go.RowKit
namespace Grd
end Grd
end Go.Proofs.YtinhmklpnkikgaaDoor

/- A grid, a cell, a rectangle out of what the row reads. -/
namespace Go.Proofs.YtinhmklpnkikgaaDoor
open Go.ChangeShapes Go.WideShapes Go.ChangeAt Go.RowKit
namespace Grd
def CIn (c : C) : Prop := (-2147483648 ≤ c.1 ∧ c.1 ≤ 2147483647) ∧ (-9223372036854775808 ≤ c.2.1 ∧ c.2.1 ≤ 9223372036854775807) ∧ (-9223372036854775808 ≤ c.2.2.1 ∧ c.2.2.1 ≤ 9223372036854775807) ∧ (-9223372036854775808 ≤ c.2.2.2 ∧ c.2.2.2 ≤ 9223372036854775807)
section
variable {H : Type} {enc : TypeId × Value → H} {W : World} {base : Nat} {spare : Nat → Bool} {held : Bool}
/-- A slice of cells, out of what the row reads. -/
end
end Grd
end Go.Proofs.YtinhmklpnkikgaaDoor

/- The table of spans as the row lists it; a grid, a cell, a rectangle out of what the row reads. -/
namespace Go.Proofs.YtinhmklpnkikgaaDoor
open Go.ChangeShapes Go.WideShapes Go.ChangeAt Go.RowKit
namespace Txt
def firstCells : Array Value := (Go.Pinned.utf8FirstZ.map fun (z : Nat) => Value.int .u8 (z : Int)).toArray
def acceptCells : Array Value := ((List.range 16).flatMap fun i => [Value.int .u8 (Lib.accLo i : Int), Value.int .u8 (Lib.accHi i : Int)]).toArray
end Txt
end Go.Proofs.YtinhmklpnkikgaaDoor

/- grid.New and the reference's NewGrid. -/
namespace Go.Proofs.YtinhmklpnkikgaaDoor
open Go.ChangeShapes Go.WideShapes Go.ChangeAt Go.RowKit
namespace Grd
def blank : C := (32, 0, 0, 0)
theorem results_row_tmp {P : Program} {fn : Func} {p u : Tmp} {ty : TypeId} (h : fn.results = #[.cell p ty, .tmp u]) (tmps : Array Value) (w : World) (g : Nat) (t : TypeId) (cs : Array Value) (fr : Nat × Nat) (d : TypeDesc)
    (hp : tmps.getD p undef = .pointer (some ⟨g, 0, none⟩)) (hg : w.heap[g]? = some (.cells cs t fr))
    (hu : P.underlying ty = some d) (hd : (match d with | .struct _ | .array _ _ => true | _ => false) = true) (hi : (P.info? ty).map (·.size) = some cs.size) (v : Value) (hv : tmps.getD u undef = v) :
    (results fn tmps).run P w = .ok (.tuple #[.agg cs, v]) w := by
  rw [results_cell_tmp h, hp, hv]
  simp [asAddr, run_loadVar_row w g t ty cs fr d hg hu hd hi, Result.andThen]
theorem one3v (a b : Int) (x : Option Addr) (n c : Nat) : (#[.int .i64 a, .int .i64 b, .slice x n c] : Array Value).all (·.oneCell') = true := by simp [Value.oneCell']
set_option maxHeartbeats 1000000 in
theorem new_bad (a h : Int) (w : World) (hs : isSize a h = false) :
    Calls Tryd.prog 9 #[.int .i64 a, .int .i64 h] w fun e w' => e = .returned (.tuple #[.agg #[.int .i64 0, .int .i64 0, .slice none 0 0], .int .i64 3]) ∧ Below w.heap.size w w' := by
  have H : Hid (isSize a h = false) := hs
  clear hs
  go_enter Tryd.func9, Tryd.ntmps9
  go_wp2_with (go_at_call 34; refine (isSize_to a h _ H.out _).mono ?_; rintro e W1 ⟨rfl, rfl⟩)
  refine bodyPost_ret (v := .tuple #[.agg #[.int .i64 0, .int .i64 0, .slice none 0 0], .int .i64 3]) ?_ rfl ⟨rfl, (Below.refl _ _).alloc (Nat.le_refl _) _⟩
  exact results_row_tmp rfl _ _ w.heap.size _ _ _ _ rfl (heap_alloc_new _ _) Tryd.underlying24 rfl (by kernel_rfl) _ rfl
set_option maxHeartbeats 1000000 in
theorem new_good (a q : Int) (w : World) (hs : isSize a q = true) :
    Calls Tryd.prog 9 #[.int .i64 a, .int .i64 q] w fun e w' => ∃ v, e = .returned (.tuple #[.agg #[.int .i64 a, .int .i64 q, v], .int .i64 0]) ∧ OwnG w' w.heap.size v (List.replicate (a * q).toNat blank) ∧ Below w.heap.size w w' := by
  have H : Hid (isSize a q = true) := hs
  have ⟨p0, p1, p2, p3, p4, p5⟩ := prod_in a q hs
  clear hs
  obtain ⟨N, hN⟩ := Int.eq_ofNat_of_zero_le p0
  have hN1 : 1 ≤ N := by
    have : 1 * 1 ≤ a * q := Int.mul_le_mul p2 p4 (by omega) (by omega)
    omega
  have hN2 : N ≤ 7200 := by omega
  clear p0 p1
  go_enter Tryd.func9, Tryd.ntmps9
  have hk : Below w.heap.size w ((w.alloc (.cells #[.int .i64 0, .int .i64 0, .slice none 0 0] 24)).alloc (.cells #[.int .i32 32, .int .i64 0, .int .i64 0, .int .i64 0] 40)) := ((Below.refl _ _).alloc (Nat.le_refl _) _).alloc (by simp) _
  have hcl : CellsAt ((w.alloc (.cells #[.int .i64 0, .int .i64 0, .slice none 0 0] 24)).alloc (.cells #[.int .i32 32, .int .i64 0, .int .i64 0, .int .i64 0] 40)) (w.heap.size + 1) 0 [blank] := by
    refine cellsAt_flat (rest := []) (t := 40) ?_
    exact heap_alloc2_new w _ _
  have hbk : ((w.alloc (.cells #[.int .i64 0, .int .i64 0, .slice none 0 0] 24)).alloc (.cells #[.int .i32 32, .int .i64 0, .int .i64 0, .int .i64 0] 40)).heap[w.heap.size]? = some (.cells #[.int .i64 0, .int .i64 0, .slice none 0 0] 24 (0, 0)) := (Below.heap_alloc _ _ _ (by simp)).trans (heap_alloc_new _ _)
  have HK := repeat_one (w.heap.size + 1) 0 1 N blank _ hcl hN1 hN2
  generalize hW0 : ((w.alloc (.cells #[.int .i64 0, .int .i64 0, .slice none 0 0] 24)).alloc (.cells #[.int .i32 32, .int .i64 0, .int .i64 0, .int .i64 0] 40)) = W0 at HK hk hbk hcl
  have HK' : Hid (Calls Tryd.prog 35 #[.slice (some ⟨w.heap.size + 1, 0, none⟩) 1 1, .int .i64 (N : Int)] W0 fun e w' => ∃ v', e = .returned v' ∧ OwnG w' W0.heap.size v' (List.replicate N blank) ∧ Below W0.heap.size W0 w') := HK
  have HW0 : Hid (((w.alloc (.cells #[.int .i64 0, .int .i64 0, .slice none 0 0] 24)).alloc (.cells #[.int .i32 32, .int .i64 0, .int .i64 0, .int .i64 0] 40)) = W0) := hW0
  clear HK hcl hW0
  go_wp2_with (first
    | (go_at_call 34; refine (isSize_to a q _ H.out _).mono ?_; rintro e W1 ⟨rfl, rfl⟩)
    | (go_at_call 35; rw [HW0.out]; refine HK'.out.mono ?_; rintro e W2 ⟨v, rfl, ⟨g, cap, rest, t, rfl, hgb, hlc, hcm, hgh⟩, b2⟩; have hr := carry hbk b2)
    | (refine wpList_store_row rfl 24 (.tmp 4) _ rfl w.heap.size #[.int .i64 a, .int .i64 q, .slice (some ⟨g, 0, none⟩) N cap] rfl rfl _ _ hr (by kernel_rfl) rfl (one3v _ _ _ _ _) ?_))
  (try simp only [Exit.inBlock, Exit.then])
  have hl : (List.replicate N blank).length = N := by simp
  rw [hl] at hlc
  refine bodyPost_ret (v := .tuple #[.agg #[.int .i64 a, .int .i64 q, .slice (some ⟨g, 0, none⟩) N cap], .int .i64 0]) ?_ rfl ⟨_, rfl, ⟨g, cap, rest, t, by rw [hN, Int.toNat_natCast, hl], by have := hk.size; omega, by rw [hN, Int.toNat_natCast, hl]; exact hlc, hcm, ?_⟩, below_setRow (hk.trans (b2.mono hk.size)) (Nat.le_refl _) _⟩
  · exact results_row_tmp rfl _ _ w.heap.size _ _ _ _ rfl (setRow_heap _ _ _ _ _ _ hr) Tryd.underlying24 rfl (by kernel_rfl) _ rfl
  · rw [hN, Int.toNat_natCast, setRow_other _ _ _ _ (by have := hk.size; have := blk_lt hbk; omega)]
    exact hgh
end Grd
end Go.Proofs.YtinhmklpnkikgaaDoor

/- The reference's NewGrid; noGrid, size. -/
namespace Go.Proofs.YtinhmklpnkikgaaDoor
open Go.ChangeShapes Go.WideShapes Go.ChangeAt Go.RowKit
namespace Grd
set_option maxHeartbeats 1000000 in
theorem newGrid_any (a q : Int) (w : World) (hs : isSize a q = true) :
    Calls Tryd.prog 16 #[.int .i64 a, .int .i64 q] w fun e w' => ∃ v, e = .returned (.agg #[.int .i64 a, .int .i64 q, v]) ∧ OwnG w' w.heap.size v (List.replicate (a * q).toNat blank) ∧ Below w.heap.size w w' := by
  have ⟨p0, p1, p2, p3, p4, p5⟩ := prod_in a q hs
  clear hs
  obtain ⟨N, hN⟩ := Int.eq_ofNat_of_zero_le p0
  have hN1 : 1 ≤ N := by
    have : 1 * 1 ≤ a * q := Int.mul_le_mul p2 p4 (by omega) (by omega)
    omega
  have hN2 : N ≤ 7200 := by omega
  clear p0 p1
  go_enter Tryd.func16, Tryd.ntmps16
  have hk : Below w.heap.size w ((w.alloc (.cells #[.int .i64 0, .int .i64 0, .slice none 0 0] 24)).alloc (.cells #[.int .i32 32, .int .i64 0, .int .i64 0, .int .i64 0] 40)) := ((Below.refl _ _).alloc (Nat.le_refl _) _).alloc (by simp) _
  have hcl : CellsAt ((w.alloc (.cells #[.int .i64 0, .int .i64 0, .slice none 0 0] 24)).alloc (.cells #[.int .i32 32, .int .i64 0, .int .i64 0, .int .i64 0] 40)) (w.heap.size + 1) 0 [blank] := by
    refine cellsAt_flat (rest := []) (t := 40) ?_
    exact heap_alloc2_new w _ _
  have hbk : ((w.alloc (.cells #[.int .i64 0, .int .i64 0, .slice none 0 0] 24)).alloc (.cells #[.int .i32 32, .int .i64 0, .int .i64 0, .int .i64 0] 40)).heap[w.heap.size]? = some (.cells #[.int .i64 0, .int .i64 0, .slice none 0 0] 24 (0, 0)) := (Below.heap_alloc _ _ _ (by simp)).trans (heap_alloc_new _ _)
  have HK := repeat_one (w.heap.size + 1) 0 1 N blank _ hcl hN1 hN2
  generalize hW0 : ((w.alloc (.cells #[.int .i64 0, .int .i64 0, .slice none 0 0] 24)).alloc (.cells #[.int .i32 32, .int .i64 0, .int .i64 0, .int .i64 0] 40)) = W0 at HK hk hbk hcl
  have HK' : Hid (Calls Tryd.prog 35 #[.slice (some ⟨w.heap.size + 1, 0, none⟩) 1 1, .int .i64 (N : Int)] W0 fun e w' => ∃ v', e = .returned v' ∧ OwnG w' W0.heap.size v' (List.replicate N blank) ∧ Below W0.heap.size W0 w') := HK
  have HW0 : Hid (((w.alloc (.cells #[.int .i64 0, .int .i64 0, .slice none 0 0] 24)).alloc (.cells #[.int .i32 32, .int .i64 0, .int .i64 0, .int .i64 0] 40)) = W0) := hW0
  clear HK hcl hW0
  go_wp2_with (first
    | (go_at_call 35; rw [HW0.out]; refine HK'.out.mono ?_; rintro e W2 ⟨v, rfl, ⟨g, cap, rest, t, rfl, hgb, hlc, hcm, hgh⟩, b2⟩; have hr := carry hbk b2)
    | (refine wpList_store_row rfl 24 (.tmp 4) _ rfl w.heap.size #[.int .i64 a, .int .i64 q, .slice (some ⟨g, 0, none⟩) N cap] rfl rfl _ _ hr (by kernel_rfl) rfl (one3v _ _ _ _ _) ?_))
  (try simp only [Exit.inBlock, Exit.then])
  have hl : (List.replicate N blank).length = N := by simp
  rw [hl] at hlc
  refine bodyPost_ret (v := .agg #[.int .i64 a, .int .i64 q, .slice (some ⟨g, 0, none⟩) N cap]) ?_ rfl ⟨_, rfl, ⟨g, cap, rest, t, by rw [hN, Int.toNat_natCast, hl], by have := hk.size; omega, by rw [hN, Int.toNat_natCast, hl]; exact hlc, hcm, ?_⟩, below_setRow (hk.trans (b2.mono hk.size)) (Nat.le_refl _) _⟩
  · exact results_cell_row rfl _ _ w.heap.size _ _ _ _ rfl (setRow_heap _ _ _ _ _ _ hr) Tryd.underlying24 rfl (by kernel_rfl)
  · rw [hN, Int.toNat_natCast, setRow_other _ _ _ _ (by have := hk.size; have := blk_lt hbk; omega)]
    exact hgh
theorem size_any (a b : Int) (w : World) :
    Calls Tryd.prog 13 #[.int .i64 a, .int .i64 b] w fun e w' => e = .returned (.bool (isSize a b)) ∧ w = w' := by
  go_enter Tryd.func13, Tryd.ntmps13
  go_wp2
  all_goals (go_ret; exact ⟨Sty.ret_bool (by rw [Bool.eq_iff_iff]; simp [isSize]; try omega), rfl⟩)
set_option maxHeartbeats 1000000 in
theorem noGrid_none (w : World) :
    Calls Tryd.prog 14 #[.agg #[.int .i64 0, .int .i64 0, .slice none 0 0]] w fun e w' => e = .returned (.bool true) ∧ Below w.heap.size w w' := by
  go_enter Tryd.func14, Tryd.ntmps14
  go_wp2_with fail
  go_ret
  exact ⟨rfl, (Below.refl _ _).alloc (Nat.le_refl _) _⟩
end Grd
end Go.Proofs.YtinhmklpnkikgaaDoor

/- slices.Equal of cells that read alike; SameGrid. -/
namespace Go.Proofs.YtinhmklpnkikgaaDoor
open Go.ChangeShapes Go.WideShapes Go.ChangeAt Go.RowKit
namespace Grd
theorem neq_cell (r f b x : Int) (w : World) : (binOp .neq 40 (.agg #[.int .i32 r, .int .i64 f, .int .i64 b, .int .i64 x]) (.agg #[.int .i32 r, .int .i64 f, .int .i64 b, .int .i64 x])).run Tryd.prog w = .ok (.bool false) w := by
  go_simp
set_option maxHeartbeats 1000000 in
theorem equal_cells (b1 o1 c1 b2 o2 c2 : Nat) (cs : List C) (w : World) (h1 : CellsAt w b1 o1 cs) (h2 : CellsAt w b2 o2 cs) (hn : cs.length ≤ 1000000) :
    Calls Tryd.prog 38 #[.slice (some ⟨b1, o1, none⟩) cs.length c1, .slice (some ⟨b2, o2, none⟩) cs.length c2] w fun e w' => e = .returned (.bool true) ∧ Below w.heap.size w w' := by
  have H1 : Hid (CellsAt w b1 o1 cs) := h1
  have H2 : Hid (CellsAt w b2 o2 cs) := h2
  clear h1 h2
  generalize hl : cs.length = L at *
  have HL : Hid (cs.length = L) := hl
  clear hl
  have ne : ((L : Int) != (L : Int)) = false := by simp
  go_enter Tryd.func38, Tryd.ntmps38
  go_wp2_with fail
  go_loopg [13] L (fun g i wr => ∃ k : Nat, i = .int .i64 (k : Int) ∧ k ≤ L ∧ L - k ≤ g ∧ Below w.heap.size w wr)
  case atStart => exact ⟨0, rfl, by omega, by omega, Below.refl _ _⟩
  case round =>
    obtain ⟨k, rfl, hk, hg, hb⟩ := hrel
    by_cases hlt : k < L
    · have lt1 : ((k : Int) < (L : Int)) := by omega
      obtain ⟨p0, p1, p2, p3⟩ := H1.out.below hb k (by rw [HL.out]; exact hlt)
      obtain ⟨q0, q1, q2, q3⟩ := H2.out.below hb k (by rw [HL.out]; exact hlt)
      rcases hc : cs.getD k z0 with ⟨r, f, bk, x⟩
      rw [hc] at p0 p1 p2 p3 q0 q1 q2 q3
      dsimp only at p0 p1 p2 p3 q0 q1 q2 q3
      clear hc
      have nq := neq_cell r f bk x
      go_wp2_with fail
      go_region
      go_wp2_with fail
      go_roundg (L - (k + 1))
      case measure => omega
      case rel => exact ⟨k + 1, rfl, by omega, by omega, hb.drew⟩
    · have lt1 : ¬ ((k : Int) < (L : Int)) := by omega
      go_wp2_with fail
      go_ret
      exact ⟨rfl, hb⟩
set_option maxHeartbeats 1000000 in
theorem equal_empty (a1 a2 : Option Addr) (c1 c2 : Nat) (w : World) :
    Calls Tryd.prog 38 #[.slice a1 0 c1, .slice a2 0 c2] w fun e w' => e = .returned (.bool true) ∧ Below w.heap.size w w' := by
  go_enter Tryd.func38, Tryd.ntmps38
  go_wp2_with fail
  go_loopg [13] 1 (fun g i wr => i = .int .i64 0 ∧ wr = w)
  case atStart => exact ⟨rfl, rfl⟩
  case round =>
    obtain ⟨rfl, rfl⟩ := hrel
    go_wp2_with fail
    go_ret
    exact ⟨rfl, Below.refl _ _⟩
theorem equal_slices (v1 v2 : Value) (cs : List C) (w : World) (h1 : SliceAt w v1 cs) (h2 : SliceAt w v2 cs) (hn : cs.length ≤ 1000000) :
    Calls Tryd.prog 38 #[v1, v2] w fun e w' => e = .returned (.bool true) ∧ Below w.heap.size w w' := by
  rcases h1 with ⟨rfl, a1, c1, rfl⟩ | ⟨h0, b1, o1, c1, rfl, _, _, hC1⟩
  · rcases h2 with ⟨_, a2, c2, rfl⟩ | ⟨h0, _⟩
    · exact equal_empty a1 a2 c1 c2 w
    · exact absurd rfl h0
  · rcases h2 with ⟨rfl, _⟩ | ⟨_, b2, o2, c2, rfl, _, _, hC2⟩
    · exact absurd rfl h0
    · exact equal_cells b1 o1 c1 b2 o2 c2 cs w hC1 hC2 hn
set_option maxHeartbeats 1000000 in
/-- SameGrid of two grids that read alike. -/
theorem same_any (a h : Int) (v1 v2 : Value) (cs : List C) (w : World) (h1 : SliceAt w v1 cs) (h2 : SliceAt w v2 cs) (hn : cs.length ≤ 1000000) :
    Calls Tryd.prog 15 #[.agg #[.int .i64 a, .int .i64 h, v1], .agg #[.int .i64 a, .int .i64 h, v2]] w fun e w' => e = .returned (.bool true) ∧ Below w.heap.size w w' := by
  have H1 : Hid (SliceAt w v1 cs) := h1
  have H2 : Hid (SliceAt w v2 cs) := h2
  clear h1 h2
  have kk : Below w.heap.size w ((w.alloc (.cells #[.int .i64 a, .int .i64 h, v1] 24)).alloc (.cells #[.int .i64 a, .int .i64 h, v2] 24)) := ((Below.refl _ _).alloc (Nat.le_refl _) _).alloc (by simp) _
  have aa : (a == a) = true := by simp
  have ee : (h == h) = true := by simp
  go_enter Tryd.func15, Tryd.ntmps15
  go_wp2_with (first | (go_at_call 38; refine (equal_slices v1 v2 cs _ (H1.out.below kk) (H2.out.below kk) hn).mono ?_; rintro e W1 ⟨rfl, b1⟩))
  go_ret
  exact ⟨rfl, kk.trans (b1.mono kk.size)⟩
end Grd
end Go.Proofs.YtinhmklpnkikgaaDoor

/- What a call that writes into some blocks of its caller's own leaves as it was. -/
namespace Go.Proofs.YtinhmklpnkikgaaDoor
open Go.ChangeShapes Go.WideShapes Go.ChangeAt Go.RowKit
namespace Grd
/-- Below N all is as it was; of the blocks that were there only those of S may have turned. -/
def Apart (N : Nat) (S : List Nat) (w w' : World) : Prop := Below N w w' ∧ ∀ k, k ∉ S → k < w.heap.size → w'.heap[k]? = w.heap[k]?
theorem Apart.size {N : Nat} {S : List Nat} {w w' : World} (h : Apart N S w w') : w.heap.size ≤ w'.heap.size := h.1.size
theorem Apart.refl (N : Nat) (S : List Nat) (w : World) : Apart N S w w := ⟨Below.refl _ _, fun _ _ _ => rfl⟩
theorem Apart.trans {N : Nat} {S : List Nat} {a b c : World} (h : Apart N S a b) (k : Apart N S b c) : Apart N S a c :=
  ⟨h.1.trans k.1, fun i hi hl => (k.2 i hi (Nat.lt_of_lt_of_le hl h.size)).trans (h.2 i hi hl)⟩
theorem Apart.mono {N M : Nat} {S T : List Nat} {a b : World} (h : Apart N S a b) (hN : M ≤ N) (hS : ∀ k, k ∈ S → k ∈ T) : Apart M T a b :=
  ⟨h.1.mono hN, fun i hi hl => h.2 i (fun q => hi (hS i q)) hl⟩
theorem Apart.of {N : Nat} {S : List Nat} {a b : World} (h : Below a.heap.size a b) (hN : N ≤ a.heap.size) : Apart N S a b := ⟨h.mono hN, fun i _ hl => h.block i hl⟩
theorem Apart.step {N : Nat} {S : List Nat} {a b c : World} (h : Apart N S a b) (k : Below b.heap.size b c) (hN : N ≤ b.heap.size) : Apart N S a c := h.trans (.of k hN)
theorem Apart.setCell {N : Nat} {S : List Nat} {a b : World} (h : Apart N S a b) (g o : Nat) (v : Value) (hg : g ∈ S) (hN : N ≤ g) : Apart N S a (b.setCell ⟨g, o, none⟩ v) :=
  h.trans ⟨(Below.refl _ _).setCell hN v, fun i hi _ => heap_setCell_other _ _ _ _ (fun e => hi (by rw [e]; exact hg))⟩
theorem heap_setCells_ne (g k : Nat) (hne : k ≠ g) : ∀ (vs : List Value) (o : Nat) (w : World), (w.setCells g o vs).heap[k]? = w.heap[k]?
  | [], _, _ => rfl
  | v :: r, o, w => by
    show ((w.setCell ⟨g, o, none⟩ v).setCells g (o + 1) r).heap[k]? = _
    rw [heap_setCells_ne g k hne r (o + 1) _, heap_setCell_other _ _ _ _ hne]
theorem size_setCells (g : Nat) : ∀ (vs : List Value) (o : Nat) (w : World), (w.setCells g o vs).heap.size = w.heap.size
  | [], _, _ => rfl
  | v :: r, o, w => by
    show ((w.setCell ⟨g, o, none⟩ v).setCells g (o + 1) r).heap.size = _
    rw [size_setCells g r (o + 1) _]; simp
theorem below_cells {B g : Nat} {a : World} (hb : B ≤ g) : ∀ (vs : List Value) (o : Nat) (w : World), Below B a w → Below B a (w.setCells g o vs)
  | [], _, _, h => h
  | v :: r, o, _, h => below_cells hb r (o + 1) _ (h.setCell hb v)
theorem Apart.setCells {N : Nat} {S : List Nat} {a b : World} (h : Apart N S a b) (g o : Nat) (vs : List Value) (hg : g ∈ S) (hN : N ≤ g) : Apart N S a (b.setCells g o vs) :=
  h.trans ⟨below_cells hN _ _ _ (Below.refl _ _), fun i hi _ => heap_setCells_ne _ _ (fun e => hi (by rw [e]; exact hg)) _ _ _⟩
theorem Apart.iterAt {N : Nat} {S : List Nat} {a b : World} (h : Apart N S a b) (g : Nat) (s : ByteArray) (p : Nat) (hg : g ∈ S) (hN : N ≤ g) : Apart N S a (b.iterAt g s p) :=
  h.trans ⟨Lib.below_iterAt (Below.refl _ _) hN s p, fun i hi _ => Lib.iterAt_other _ _ _ _ _ (fun e => hi (by rw [e]; exact hg))⟩
theorem Apart.alloc {N : Nat} {S : List Nat} {a b : World} (h : Apart N S a b) (o : Obj) (hN : N ≤ b.heap.size) : Apart N S a (b.alloc o) :=
  h.step ((Below.refl _ _).alloc (Nat.le_refl _) o) hN
theorem Apart.drew {N : Nat} {S : List Nat} {a b : World} (h : Apart N S a b) : Apart N S a b.drew := ⟨h.1.drew, h.2⟩
/-- A block that was there, and is none of S, is as it was. -/
theorem Apart.carry {N : Nat} {S : List Nat} {a b : World} (h : Apart N S a b) {k : Nat} {o : Obj} (hk : a.heap[k]? = some o) (hS : k ∉ S) : b.heap[k]? = some o :=
  (h.2 k hS (blk_lt hk)).trans hk
end Grd
end Go.Proofs.YtinhmklpnkikgaaDoor

/- The walk of isParted, where it says no. -/
namespace Go.Proofs.YtinhmklpnkikgaaDoor
open Go.ChangeShapes Go.WideShapes Go.ChangeAt Go.RowKit
namespace Grd
open Txt (wd)
set_option maxHeartbeats 1000000 in
theorem parted_thin (b o c : Nat) (cs : List C) (x : Nat) (r : Int) (w : World) (hT : Txt.Tab w) (hx : x < cs.length)
    (h0 : w.cell? ⟨b, o + x * 4, none⟩ = some (.int .i32 r)) (hw : wd r ≠ 2) :
    Calls Tryd.prog 57 #[.slice (some ⟨b, o, none⟩) cs.length c, .int .i64 (x : Int)] w fun e w' => e = .returned (.bool false) ∧ Below w.heap.size w w' := by
  have HT : Hid (Txt.Tab w) := hT
  have nw : (wd r == 2) = false := by simpa using hw
  have y0 : ∀ d os, (Sort.grow (redrawn w d) os).cell? ⟨b, o + x * 4, none⟩ = some (.int .i32 r) := fun d os => cell_regrown h0 d os
  have K4 : Hid (∀ d os, Calls Tryd.prog 40 #[.int .i32 r] (Sort.grow (redrawn w d) os) fun e w'' => e = .returned (.int .i64 (wd r)) ∧ ∃ p : Regrown, w'' = Sort.grow (redrawn w p.d) p.os) := fun d os => Calls.regrown_of (Txt.width_any r _ (Tab.next HT.out (below_regrown w d os)))
  clear hT hw h0
  generalize wd r = v at *
  go_enter Tryd.func57, Tryd.ntmps57
  go_wp2_with fail
  refine wp_region_quiet_below (by kernel_rfl) (by kernel_rfl) ?_
  repeat (first | go_big_quiet_skip | quiet_step (first | (go_at_call 40; exact K4.out _ _)))
  refine wpQuiet_nil ?_
  intro _ hw'
  obtain ⟨⟨dq, os⟩, hw''⟩ := hw'
  subst hw''
  have k3 : Below w.heap.size w (Sort.grow (redrawn w dq) os) := below_regrown w dq os
  generalize Sort.grow (redrawn w dq) os = W3 at *
  go_wp2_with fail
  go_ret
  exact ⟨rfl, k3⟩
set_option maxHeartbeats 1000000 in
theorem parted_same (b o c : Nat) (cs : List C) (x : Nat) (r f bk xx : Int) (w : World) (hT : Txt.Tab w) (hx : x + 1 < cs.length) (hn : cs.length ≤ 1000000)
    (h0 : w.cell? ⟨b, o + x * 4, none⟩ = some (.int .i32 r)) (h1 : w.cell? ⟨b, o + x * 4 + 1, none⟩ = some (.int .i64 f)) (h2 : w.cell? ⟨b, o + x * 4 + 2, none⟩ = some (.int .i64 bk)) (h3 : w.cell? ⟨b, o + x * 4 + 3, none⟩ = some (.int .i64 xx))
    (p1 : w.cell? ⟨b, o + (x + 1) * 4 + 1, none⟩ = some (.int .i64 f)) (p2 : w.cell? ⟨b, o + (x + 1) * 4 + 2, none⟩ = some (.int .i64 bk)) (p3 : w.cell? ⟨b, o + (x + 1) * 4 + 3, none⟩ = some (.int .i64 xx)) (hw : wd r = 2) :
    Calls Tryd.prog 57 #[.slice (some ⟨b, o, none⟩) cs.length c, .int .i64 (x : Int)] w fun e w' => e = .returned (.bool false) ∧ Below w.heap.size w w' := by
  have HT : Hid (Txt.Tab w) := hT
  have hx0 : x < cs.length := by omega
  have hwr : IntKind.i64.wrap ((x : Int) + 1) = (x : Int) + 1 := by unfold IntKind.wrap; simp [IntKind.bits, IntKind.signed]; omega
  have hx1 : (0 : Int) ≤ (x : Int) + 1 := by omega
  have hx2 : (x : Int) + 1 < (cs.length : Int) := by omega
  have hx3 : ((x : Int) + 1).toNat = x + 1 := by omega
  have nq : ∀ w, (binOp .neq 38 (.agg #[.int .i64 f, .int .i64 bk, .int .i64 xx]) (.agg #[.int .i64 f, .int .i64 bk, .int .i64 xx])).run Tryd.prog w = .ok (.bool false) w := fun w => by rw [Sty.neq_agg]; simp
  have y0 : ∀ d os, (Sort.grow (redrawn w d) os).cell? ⟨b, o + x * 4, none⟩ = some (.int .i32 r) := fun d os => cell_regrown h0 d os
  have y1 : ∀ d os, (Sort.grow (redrawn w d) os).cell? ⟨b, o + x * 4 + 1, none⟩ = some (.int .i64 f) := fun d os => cell_regrown h1 d os
  have y2 : ∀ d os, (Sort.grow (redrawn w d) os).cell? ⟨b, o + x * 4 + 2, none⟩ = some (.int .i64 bk) := fun d os => cell_regrown h2 d os
  have y3 : ∀ d os, (Sort.grow (redrawn w d) os).cell? ⟨b, o + x * 4 + 3, none⟩ = some (.int .i64 xx) := fun d os => cell_regrown h3 d os
  have u1 : ∀ d os, (Sort.grow (redrawn w d) os).cell? ⟨b, o + (x + 1) * 4 + 1, none⟩ = some (.int .i64 f) := fun d os => cell_regrown p1 d os
  have u2 : ∀ d os, (Sort.grow (redrawn w d) os).cell? ⟨b, o + (x + 1) * 4 + 2, none⟩ = some (.int .i64 bk) := fun d os => cell_regrown p2 d os
  have u3 : ∀ d os, (Sort.grow (redrawn w d) os).cell? ⟨b, o + (x + 1) * 4 + 3, none⟩ = some (.int .i64 xx) := fun d os => cell_regrown p3 d os
  have K4 : Hid (∀ d os, Calls Tryd.prog 40 #[.int .i32 r] (Sort.grow (redrawn w d) os) fun e w'' => e = .returned (.int .i64 2) ∧ ∃ p : Regrown, w'' = Sort.grow (redrawn w p.d) p.os) := fun d os => Calls.regrown_of (width_to r _ (Tab.next HT.out (below_regrown w d os)) 2 hw)
  clear hT hw h0 h1 h2 h3 p1 p2 p3
  go_enter Tryd.func57, Tryd.ntmps57
  go_wp2_with fail
  refine wp_region_quiet_below (by kernel_rfl) (by kernel_rfl) ?_
  repeat (first | go_big_quiet_skip | quiet_step (first | (go_at_call 40; exact K4.out _ _)))
  refine wpQuiet_nil ?_
  intro _ hw'
  obtain ⟨⟨dq, os⟩, hw''⟩ := hw'
  subst hw''
  have k3 : Below w.heap.size w (Sort.grow (redrawn w dq) os) := below_regrown w dq os
  generalize Sort.grow (redrawn w dq) os = W3 at *
  go_wp2_with fail
  go_ret
  exact ⟨rfl, k3⟩
/-- A cell that isn't loose, and looks as the one behind it where it is wide. -/
theorem parted_of (b o c : Nat) (cs : List C) (x : Nat) (w : World) (hT : Txt.Tab w) (hC : CellsAt w b o cs) (hx : x < cs.length) (hn : cs.length ≤ 1000000) (hl : loose cs x = false) (hA : x + 1 < cs.length → wd (cs.getD x z0).1 = 2 → (cs.getD (x + 1) z0).1 = 0 → (cs.getD x z0).2 = (cs.getD (x + 1) z0).2) :
    Calls Tryd.prog 57 #[.slice (some ⟨b, o, none⟩) cs.length c, .int .i64 (x : Int)] w fun e w' => e = .returned (.bool false) ∧ Below w.heap.size w w' := by
  obtain ⟨h0, h1, h2, h3⟩ := hC x hx
  by_cases hw : wd (cs.getD x z0).1 = 2
  · have hn0 : ¬ (cs.getD x z0).1 = 0 := by intro e; rw [e] at hw; exact absurd hw (by decide +kernel)
    unfold loose at hl
    rw [if_neg hn0] at hl
    simp only [hw, decide_true, Bool.true_and, Bool.or_eq_false_iff, decide_eq_false_iff_not, Decidable.not_not] at hl
    have hx1 : x + 1 < cs.length := by omega
    have e := hA hx1 hw hl.2
    obtain ⟨-, p1, p2, p3⟩ := hC (x + 1) hx1
    rw [← e] at p1 p2 p3
    exact parted_same b o c cs x _ _ _ _ w hT hx1 hn h0 h1 h2 h3 p1 p2 p3 hw
  · exact parted_thin b o c cs x _ w hT hx h0 hw
end Grd
end Go.Proofs.YtinhmklpnkikgaaDoor

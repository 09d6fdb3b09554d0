/- sheet.Change: a screen, as a function makes it of its sheet. -/
import Derived.Test.YtnkeahfcpbepjaaGreatDoorPartH
import Derived.Test.YtnkeahfcpbepjaaGreatDoorPartG
import Derived.Test.YtnkeahfcpbepjaaGreatDoorPartE
import Derived.Test.YtnkeahfcpbepjaaGreatDoorRows
import Derived.Deep.Slices
import Derived.Deep.Cut
import Derived.Deep.CutRange
namespace Go.Proofs.YtnkeahfcpbepjaaGreatDoor
set_option linter.unusedVariables false
open Go.ChangeShapes Go.WideShapes Go.ChangeAt Go.RowKit
namespace Put
open Grd (C SliceAt CellsAt gridErr z0 nilV flat rowsL)
/-- A function that the program has. -/
def Plain (df : FuncId) : Prop := ∀ (args : Array Value) (W : World), (callFunc df args).run Tryz.prog W = .ok (.enter df args) W
/-- What a function does to a sheet. -/
def Does (df : FuncId) (caps : Array Value) (M : Nat) (w : World) (s s' : Scr) (rows rows' : List (List C)) : Prop :=
  ∀ W p, Below w.heap.size w W → ShAt 64 W M w.heap.size p s rows → Calls Tryz.prog df (#[.pointer (some ⟨p, 0, none⟩)] ++ caps) W fun e W' => e = .returned (.tuple #[]) ∧ ShAt 64 W' M w.heap.size p s' rows' ∧ Below w.heap.size W W'
/-- A sheet's rows: at least one, none empty. -/
structure RowsOk (s : Scr) (rows : List (List C)) : Prop where
  r1 : 0 < rows.length
  r2 : rows.length ≤ 60
  ne : ∀ i, i < rows.length → rows.getD i [] ≠ []
  cl : rows.flatten.length ≤ 1048576
  gl : s.gone.length ≤ 1048576
  gr : ∀ i, i < s.gone.length → (s.gone.getD i []).length ≤ 1048576
set_option maxHeartbeats 2000000 in
theorem change_bad (s : Scr) (ca ta ga : Option Addr) (cn cc tn tc gn gc : Nat) (er : Int) (he : er ≠ 0) (fv : Value) (w : World) :
    Calls Tryz.prog 33 #[.agg (scrA s (.slice ca cn cc) (.slice ta tn tc) (.slice ga gn gc)), .int .i64 er, fv] w fun e W' => e = .returned (.tuple #[.agg (scrA zScr (.slice none 0 0) (.slice none 0 0) (.slice none 0 0)), .int .i64 er]) ∧ Below w.heap.size w W' := by
  have he2 : (er != 0) = true := by simp [bne, he]
  have HE : Hid (er ≠ 0) := he
  clear he
  have HX1 : Hid (((w.alloc (.cells (scrA s (.slice ca cn cc) (.slice ta tn tc) (.slice ga gn gc)) 32)).alloc (.cells #[.int .i64 0, .int .i64 0, .slice none 0 0, .int .i64 0, .int .i64 0, .bool false, .int .i64 0, .int .i64 0, .int .i64 0, .int .i64 0, .int .i64 0, .int .i64 0, .slice none 0 0, .int .i64 0, .int .i64 0, .int .i64 0, .int .i64 0, .int .i64 0, .int .i64 0, .int .i32 0, .string ⟨#[]⟩, .slice none 0 0] 32)).heap[w.heap.size + 1]? = some (.cells #[.int .i64 0, .int .i64 0, .slice none 0 0, .int .i64 0, .int .i64 0, .bool false, .int .i64 0, .int .i64 0, .int .i64 0, .int .i64 0, .int .i64 0, .int .i64 0, .slice none 0 0, .int .i64 0, .int .i64 0, .int .i64 0, .int .i64 0, .int .i64 0, .int .i64 0, .int .i32 0, .string ⟨#[]⟩, .slice none 0 0] 32 (0, 0))) := heap_alloc2_new w _ _
  have HKB : Hid (Below w.heap.size w ((w.alloc (.cells (scrA s (.slice ca cn cc) (.slice ta tn tc) (.slice ga gn gc)) 32)).alloc (.cells #[.int .i64 0, .int .i64 0, .slice none 0 0, .int .i64 0, .int .i64 0, .bool false, .int .i64 0, .int .i64 0, .int .i64 0, .int .i64 0, .int .i64 0, .int .i64 0, .slice none 0 0, .int .i64 0, .int .i64 0, .int .i64 0, .int .i64 0, .int .i64 0, .int .i64 0, .int .i32 0, .string ⟨#[]⟩, .slice none 0 0] 32))) := ((Below.refl _ _).alloc (Nat.le_refl _) _).alloc (by simp) _
  go_enter Tryz.func33, Tryz.ntmps33
  go_wp2_with (refine wpList_store_row rfl 32 (.tmp 6) (.tmp 11) rfl (w.heap.size + 1) (scrA zScr (.slice none 0 0) (.slice none 0 0) (.slice none 0 0)) rfl rfl _ _ HX1.out (by kernel_rfl) rfl (scr_one zScr _ _ _ _ _ _ _ _ _) ?_)
  (try simp only [Exit.inBlock, Exit.then])
  refine bodyPost_ret (v := .tuple #[.agg (scrA zScr (.slice none 0 0) (.slice none 0 0) (.slice none 0 0)), .int .i64 er]) ?_ rfl ⟨rfl, below_setRow HKB.out (by omega) _⟩
  exact Grd.results_row_tmp rfl _ _ (w.heap.size + 1) _ _ _ _ rfl (setRow_heap _ _ _ _ _ _ HX1.out) Tryz.underlying32 rfl (by kernel_rfl) _ rfl
set_option maxHeartbeats 4000000 in
set_option maxRecDepth 100000 in
theorem change_good (n hh : Nat) (s s' : Scr) (rows' : List (List C)) (cv tv gv : Value) (df : FuncId) (hdf : Plain df) (caps : Array Value) (w0 w : World) (hV : ScrV w0 s cv tv gv) (hb0 : Below w0.heap.size w0 w) (hF : Fits s) (hw : s.w = n) (hh' : s.h = hh) (hz : gridErr n hh s.cs = 0)
    (hD : ∀ w1, Below w.heap.size w w1 → Does df caps w0.heap.size w1 s s' (rowsL n s.cs hh) rows') (hO : RowsOk s' rows') (cs' : List C) (hcs : rows'.flatten = cs') :
    Calls Tryz.prog 33 #[.agg (scrA s cv tv gv), .int .i64 0, .func (.func df) #[] caps] w fun e W' => ∃ cv' tv' gv', e = .returned (.tuple #[.agg (scrA { s' with cs := cs' } cv' tv' gv'), .int .i64 0]) ∧ ScrO W' 0 w.heap.size { s' with cs := cs' } cv' tv' gv' ∧ Below w.heap.size w W' := by
  obtain ⟨ca, cc, rfl⟩ := hV.c.shape
  obtain ⟨ta, tc, rfl⟩ := hV.t.slice
  obtain ⟨ga, gc, rfl⟩ := hV.g.slice
  have hx0 : ((w.alloc (.cells (scrA s (.slice ca s.cs.length cc) (.slice ta s.tabs.length tc) (.slice ga s.gone.length gc)) 32)).alloc (.cells #[.int .i64 0, .int .i64 0, .slice none 0 0, .int .i64 0, .int .i64 0, .bool false, .int .i64 0, .int .i64 0, .int .i64 0, .int .i64 0, .int .i64 0, .int .i64 0, .slice none 0 0, .int .i64 0, .int .i64 0, .int .i64 0, .int .i64 0, .int .i64 0, .int .i64 0, .int .i32 0, .string ⟨#[]⟩, .slice none 0 0] 32)).heap[w.heap.size]? = some (.cells (scrA s (.slice ca s.cs.length cc) (.slice ta s.tabs.length tc) (.slice ga s.gone.length gc)) 32 (0, 0)) := (Below.heap_alloc _ _ _ (by simp)).trans (heap_alloc_new _ _)
  have hx1 : ((w.alloc (.cells (scrA s (.slice ca s.cs.length cc) (.slice ta s.tabs.length tc) (.slice ga s.gone.length gc)) 32)).alloc (.cells #[.int .i64 0, .int .i64 0, .slice none 0 0, .int .i64 0, .int .i64 0, .bool false, .int .i64 0, .int .i64 0, .int .i64 0, .int .i64 0, .int .i64 0, .int .i64 0, .slice none 0 0, .int .i64 0, .int .i64 0, .int .i64 0, .int .i64 0, .int .i64 0, .int .i64 0, .int .i32 0, .string ⟨#[]⟩, .slice none 0 0] 32)).heap[w.heap.size + 1]? = some (.cells #[.int .i64 0, .int .i64 0, .slice none 0 0, .int .i64 0, .int .i64 0, .bool false, .int .i64 0, .int .i64 0, .int .i64 0, .int .i64 0, .int .i64 0, .int .i64 0, .slice none 0 0, .int .i64 0, .int .i64 0, .int .i64 0, .int .i64 0, .int .i64 0, .int .i64 0, .int .i32 0, .string ⟨#[]⟩, .slice none 0 0] 32 (0, 0)) := heap_alloc2_new w _ _
  have hsz : ((w.alloc (.cells (scrA s (.slice ca s.cs.length cc) (.slice ta s.tabs.length tc) (.slice ga s.gone.length gc)) 32)).alloc (.cells #[.int .i64 0, .int .i64 0, .slice none 0 0, .int .i64 0, .int .i64 0, .bool false, .int .i64 0, .int .i64 0, .int .i64 0, .int .i64 0, .int .i64 0, .int .i64 0, .slice none 0 0, .int .i64 0, .int .i64 0, .int .i64 0, .int .i64 0, .int .i64 0, .int .i64 0, .int .i32 0, .string ⟨#[]⟩, .slice none 0 0] 32)).heap.size = w.heap.size + 2 := by simp
  have hkb : Below w.heap.size w ((w.alloc (.cells (scrA s (.slice ca s.cs.length cc) (.slice ta s.tabs.length tc) (.slice ga s.gone.length gc)) 32)).alloc (.cells #[.int .i64 0, .int .i64 0, .slice none 0 0, .int .i64 0, .int .i64 0, .bool false, .int .i64 0, .int .i64 0, .int .i64 0, .int .i64 0, .int .i64 0, .int .i64 0, .slice none 0 0, .int .i64 0, .int .i64 0, .int .i64 0, .int .i64 0, .int .i64 0, .int .i64 0, .int .i32 0, .string ⟨#[]⟩, .slice none 0 0] 32)) := ((Below.refl _ _).alloc (Nat.le_refl _) _).alloc (by simp) _
  have HX0 : Hid _ := hx0
  have HX1 : Hid _ := hx1
  have HSZ : Hid _ := hsz
  have HKB : Hid _ := hkb
  have HO : Hid (RowsOk s' rows') := hO
  have HD : Hid (∀ w1, Below w.heap.size w w1 → Does df caps w0.heap.size w1 s s' (rowsL n s.cs hh) rows') := hD
  have HOP := open_any n hh s _ _ _ w0 ((w.alloc (.cells (scrA s (.slice ca s.cs.length cc) (.slice ta s.tabs.length tc) (.slice ga s.gone.length gc)) 32)).alloc (.cells #[.int .i64 0, .int .i64 0, .slice none 0 0, .int .i64 0, .int .i64 0, .bool false, .int .i64 0, .int .i64 0, .int .i64 0, .int .i64 0, .int .i64 0, .int .i64 0, .slice none 0 0, .int .i64 0, .int .i64 0, .int .i64 0, .int .i64 0, .int .i64 0, .int .i64 0, .int .i32 0, .string ⟨#[]⟩, .slice none 0 0] 32)) hV (hb0.trans (hkb.mono hb0.size)) hF hw hh' hz
  have hlc : cs'.length ≤ 1048576 := by rw [← hcs]; exact hO.cl
  have HCS : Hid (rows'.flatten = cs') := hcs
  unfold Plain at hdf
  have hM0 := hb0.size
  clear hx0 hx1 hsz hkb hV hF hw hh' hz hO hD hcs hb0
  go_enter Tryz.func33, Tryz.ntmps33
  go_wp2_with (refine wpList_load_row rfl 32 (.tmp 3) rfl w.heap.size rfl _ _ _ _ HX0.out Tryz.underlying32 rfl (by kernel_rfl) ?_)
  refine HOP.mono ?_
  rintro e W1 ⟨p, rfl, hS1, b1⟩
  have HB1 : Hid (Below w.heap.size w W1) := HKB.out.trans (b1.mono HKB.out.size)
  have HDO := HD.out _ HKB.out W1 p b1 hS1
  have HX2 : Hid _ := Grd.carry HX1.out b1
  clear HOP b1 hS1
  go_wp2_with fail
  refine HDO.mono ?_
  rintro e W2 ⟨rfl, hS2, b2⟩
  have hle : w.heap.size ≤ ((w.alloc (.cells (scrA s (.slice ca s.cs.length cc) (.slice ta s.tabs.length tc) (.slice ga s.gone.length gc)) 32)).alloc (.cells #[.int .i64 0, .int .i64 0, .slice none 0 0, .int .i64 0, .int .i64 0, .bool false, .int .i64 0, .int .i64 0, .int .i64 0, .int .i64 0, .int .i64 0, .int .i64 0, .slice none 0 0, .int .i64 0, .int .i64 0, .int .i64 0, .int .i64 0, .int .i64 0, .int .i64 0, .int .i32 0, .string ⟨#[]⟩, .slice none 0 0] 32)).heap.size := by rw [HSZ.out]; omega
  have HB2 : Hid (Below w.heap.size w W2) := HB1.out.trans (b2.mono hle)
  have HX3 : Hid (W2.heap[w.heap.size + 1]? = _) := (b2.block (w.heap.size + 1) (by rw [HSZ.out]; omega)).trans HX2.out
  have HWH := whole_any W2 _ _ p s' rows' hS2 HO.out.r1 HO.out.r2 HO.out.ne cs' HCS.out hlc HO.out.gl HO.out.gr
  have hlt : w.heap.size + 1 < ((w.alloc (.cells (scrA s (.slice ca s.cs.length cc) (.slice ta s.tabs.length tc) (.slice ga s.gone.length gc)) 32)).alloc (.cells #[.int .i64 0, .int .i64 0, .slice none 0 0, .int .i64 0, .int .i64 0, .bool false, .int .i64 0, .int .i64 0, .int .i64 0, .int .i64 0, .int .i64 0, .int .i64 0, .slice none 0 0, .int .i64 0, .int .i64 0, .int .i64 0, .int .i64 0, .int .i64 0, .int .i64 0, .int .i32 0, .string ⟨#[]⟩, .slice none 0 0] 32)).heap.size := by rw [HSZ.out]; omega
  generalize ((w.alloc (.cells (scrA s (.slice ca s.cs.length cc) (.slice ta s.tabs.length tc) (.slice ga s.gone.length gc)) 32)).alloc (.cells #[.int .i64 0, .int .i64 0, .slice none 0 0, .int .i64 0, .int .i64 0, .bool false, .int .i64 0, .int .i64 0, .int .i64 0, .int .i64 0, .int .i64 0, .int .i64 0, .slice none 0 0, .int .i64 0, .int .i64 0, .int .i64 0, .int .i64 0, .int .i64 0, .int .i64 0, .int .i32 0, .string ⟨#[]⟩, .slice none 0 0] 32)) = X at *
  clear HDO b2 hS2
  go_wp2_with fail
  refine HWH.mono ?_
  rintro e W3 ⟨cv', tv', gv', rfl, hV3, b3⟩
  obtain ⟨ca', cc', rfl⟩ := hV3.c.shape
  obtain ⟨ta', tc', rfl⟩ := own_slice hV3.t
  obtain ⟨ga', gc', rfl⟩ := hV3.scr.g.slice
  have HX4 : Hid (W3.heap[w.heap.size + 1]? = _) := (b3.block (w.heap.size + 1) hlt).trans HX3.out
  have HV3 : Hid (ScrO W3 0 _ { s' with cs := cs' } _ _ _) := hV3
  have HB3 : Hid (Below w.heap.size w W3) := HB2.out.trans (b3.mono hle)
  clear HWH hV3 b3
  go_wp2_with (refine wpList_store_row rfl 32 (.tmp 6) (.tmp 19) rfl (w.heap.size + 1) (scrA { s' with cs := cs' } (.slice ca' cs'.length cc') (.slice ta' s'.tabs.length tc') (.slice ga' s'.gone.length gc')) rfl rfl _ _ HX4.out (by kernel_rfl) rfl (scr_one _ _ _ _ _ _ _ _ _ _) ?_)
  (try simp only [Exit.inBlock, Exit.then])
  refine bodyPost_ret (v := .tuple #[.agg (scrA { s' with cs := cs' } (.slice ca' cs'.length cc') (.slice ta' s'.tabs.length tc') (.slice ga' s'.gone.length gc')), .int .i64 0]) ?_ rfl ⟨_, _, _, rfl, ?_, below_setRow HB3.out (by omega) _⟩
  · exact Grd.results_row_tmp rfl _ _ (w.heap.size + 1) _ _ _ _ rfl (setRow_heap _ _ _ _ _ _ HX4.out) Tryz.underlying32 rfl (by kernel_rfl) _ rfl
  · exact (ScrO.off HV3.out HX4.out screen_is (by omega) fun k hk => setRow_other _ _ _ _ hk).mono hle
end Put
end Go.Proofs.YtnkeahfcpbepjaaGreatDoor

/- What the calls that change a screen answer. -/
namespace Go.Proofs.YtnkeahfcpbepjaaGreatDoor
set_option linter.unusedVariables false
open Go.ChangeShapes Go.WideShapes Go.ChangeAt Go.RowKit
namespace Put
open Grd (C SliceAt CellsAt gridErr z0 nilV flat rowsL)
/-- A screen and an error are answered; the screen lies in memory of its own. -/
def Made (_w0 w : World) (s' : Scr) (er : Int) (e : Ending) (W' : World) : Prop := ∃ cv' tv' gv', e = .returned (.tuple #[.agg (scrA s' cv' tv' gv'), .int .i64 er]) ∧ ScrO W' 0 w.heap.size s' cv' tv' gv' ∧ Below w.heap.size w W'
theorem zScr_own (W : World) (M N : Nat) : ScrO W M N zScr (.slice none 0 0) (.slice none 0 0) (.slice none 0 0) :=
  ⟨.inl ⟨rfl, none, 0, rfl⟩, World.ownsRow_nil _ _ _ _, [], World.ownsRow_nil _ _ _ _, rfl, fun i hi => absurd hi (by simp [zScr])⟩
theorem ScrO.shapes {W : World} {M N : Nat} {s : Scr} {cv tv gv : Value} (h : ScrO W M N s cv tv gv) : ∃ a1 n1 c1 a2 n2 c2 a3 n3 c3, cv = .slice a1 n1 c1 ∧ tv = .slice a2 n2 c2 ∧ gv = .slice a3 n3 c3 := by
  obtain ⟨a1, c1, h1⟩ := h.c.shape
  obtain ⟨a2, c2, h2⟩ := own_slice h.t
  obtain ⟨gvs, h3, -⟩ := h.g
  obtain ⟨a3, c3, h3⟩ := own_slice h3
  exact ⟨a1, _, c1, a2, _, c2, a3, _, c3, h1, h2, h3⟩
theorem made_bad (s : Scr) (cv tv gv : Value) (er : Int) (he : er ≠ 0) (fv : Value) (w0 w : World) (hV : ScrV w0 s cv tv gv) : Calls Tryz.prog 33 #[.agg (scrA s cv tv gv), .int .i64 er, fv] w (Made w0 w zScr er) := by
  obtain ⟨ca, cc, rfl⟩ := hV.c.shape
  obtain ⟨ta, tc, rfl⟩ := hV.t.slice
  obtain ⟨ga, gc, rfl⟩ := hV.g.slice
  refine (change_bad s ca ta ga _ cc _ tc _ gc er he fv w).mono ?_
  rintro e W ⟨rfl, hb⟩
  exact ⟨_, _, _, rfl, zScr_own _ _ _, hb⟩
/-- A pointer to the 22 words of a screen that may be stored to. -/
def ScrPtr0 (W : World) (v : Value) : Prop := ∃ R cs t, v = .pointer (some ⟨R, 0, none⟩) ∧ W.heap[R]? = some (.cells cs t (0, 0)) ∧ cs.size = 22
theorem scrPtr0_of {W : World} {R : Nat} {t : TypeId} {A : Array Value} (h : W.heap[R]? = some (.cells A t (0, 0))) (hA : A.size = 22) : ScrPtr0 W (.pointer (some ⟨R, 0, none⟩)) := ⟨_, _, _, rfl, h, hA⟩
def IsScrS (v : Value) : Prop := ∃ s a1 n1 c1 a2 n2 c2 a3 n3 c3, v = .agg (scrA s (.slice a1 n1 c1) (.slice a2 n2 c2) (.slice a3 n3 c3))
theorem isScrS (s : Scr) (a1 a2 a3 : Option Addr) (n1 n2 n3 c1 c2 c3 : Nat) : IsScrS (.agg (scrA s (.slice a1 n1 c1) (.slice a2 n2 c2) (.slice a3 n3 c3))) := ⟨s, a1, n1, c1, a2, n2, c2, a3, n3, c3, rfl⟩
def ptrBlk (v : Value) : Nat := match v with
  | .pointer (some a) => a.block
  | _ => 0
theorem ptrBlk_at (a : Addr) : ptrBlk (.pointer (some a)) = a.block := rfl
def aggOf (v : Value) : Array Value := match v with
  | .agg cs => cs
  | _ => #[]
theorem aggOf_agg (cs : Array Value) : aggOf (.agg cs) = cs := rfl
theorem store_scr (a : Act) (dst : Option Tmp) (x y : Operand) (ty : TypeId) (pos : String) (after : Array Edge) (guard : Option (Nat × Bool)) (W : World) (h : ScrPtr0 W (a.eval x)) (hy : IsScrS (a.eval y)) :
    (execOp a.eval { dst, op := .store 32 x y, type := ty, pos, after, guard }).run Tryz.prog W = .ok .skip (W.setRow (ptrBlk (a.eval x)) (aggOf (a.eval y))) := by
  obtain ⟨R, cs, t, h0, h1, h2⟩ := h
  obtain ⟨s, a1, n1, c1, a2, n2, c2, a3, n3, c3, hy⟩ := hy
  have hi : (Tryz.prog.info? 32).map (·.size) = some 22 := by kernel_rfl
  have hr := run_storeVar_row (P := Tryz.prog) W R t 32 cs (scrA s (.slice a1 n1 c1) (.slice a2 n2 c2) (.slice a3 n3 c3)) h1 hi h2 (scr_one _ _ _ _ _ _ _ _ _ _)
  unfold execOp
  simp only [h0, hy, Instr.storeAt, Instr.sureAddr, Sem.run_bind, Sem.run_pure, Result.andThen_ok, hr, ptrBlk_at, aggOf_agg]
end Put
end Go.Proofs.YtnkeahfcpbepjaaGreatDoor

/- What a right screen is. -/
namespace Go.Proofs.YtnkeahfcpbepjaaGreatDoor
open Go.ChangeShapes Go.WideShapes Go.ChangeAt Go.RowKit
namespace Put
open Grd (C SliceAt CellsAt gridErr z0 nilV flat rowsL)
open Sty (isSt)
open Txt (wd)
structure RightS (s : Scr) (n hh : Nat) : Prop where
  w : s.w = n
  h : s.h = hh
  n1 : 1 ≤ n
  n2 : n ≤ 120
  h1 : 1 ≤ hh
  h2 : hh ≤ 60
  cl : s.cs.length = n * hh
  gz : gridErr n hh s.cs = 0
  x0 : 0 ≤ s.x
  x1 : s.x < n
  y0 : 0 ≤ s.y
  y1 : s.y < hh
  kx0 : 0 ≤ s.kx
  kx1 : s.kx < n
  ky0 : 0 ≤ s.ky
  ky1 : s.ky < hh
  t0 : 0 ≤ s.top
  t1 : s.top ≤ s.bot
  t2 : s.bot < hh
  t3 : s.top < s.bot ∨ hh = 1
  late : lateBad s = false
  looks : looksOk s = true
  tl : s.tabs.length = n
  la : s.last = 0 ∨ wd s.last ≠ 0
  ti : titleOk s.title = true
  gl : s.gone.length ≤ 50
  gr : ∀ row, row ∈ s.gone → gridErr row.length 1 row = 0
theorem right_of (s : Scr) (h : scrErr s = 0) : ∃ n hh : Nat, RightS s n hh := by
  unfold scrErr at h
  split at h
  · omega
  rename_i hz
  have hz : gridErr s.w s.h s.cs = 0 := by simpa using hz
  split at h
  · omega
  rename_i hp
  have hp : placeOk s = true := by simpa using hp
  split at h
  · omega
  rename_i hl
  have hl : lateBad s = false := by simpa using hl
  split at h
  · omega
  rename_i hk
  have hk : looksOk s = true := by simpa using hk
  split at h
  · omega
  rename_i hr
  have hr : restOk s = true := by simpa using hr
  obtain ⟨w1, w2, w3, w4⟩ := grid_size hz
  have ew : s.w = (s.w.toNat : Int) := by omega
  have eh : s.h = (s.h.toNat : Int) := by omega
  rw [ew, eh] at hz
  have hzz := (Grd.gridErr_zero _ _ _).1 hz
  simp only [placeOk, hasC, regionOk, Bool.and_eq_true, Bool.or_eq_true, decide_eq_true_eq] at hp
  simp only [restOk, Bool.and_eq_true, Bool.or_eq_true, Bool.not_eq_true', decide_eq_true_eq, decide_eq_false_iff_not] at hr
  unfold goneErr at h
  split at h
  · omega
  rename_i h50
  cases hg : goneBad s.gone with
  | true => rw [hg] at h; simp at h
  | false =>
    refine ⟨s.w.toNat, s.h.toNat, ew, eh, by omega, by omega, by omega, by omega, hzz.2.1, hz, by omega, by omega, by omega, by omega, by omega, by omega, by omega, by omega, by omega, by omega, by omega, by omega, hl, hk, by omega, hr.2.1, hr.2.2, by omega, ?_⟩
    intro row hrow
    unfold goneBad at hg
    rw [List.any_eq_false] at hg
    have := hg row hrow
    simpa using this
theorem rowsL_flatten (n : Nat) (cs : List C) : ∀ hh, (rowsL n cs hh).flatten = cs.take (hh * n)
  | 0 => by simp [rowsL]
  | hh + 1 => by
    rw [Grd.rowsL_succ, List.flatten_append, rowsL_flatten n cs hh, Grd.take_row]
    simp
theorem RightS.flatten {s : Scr} {n hh : Nat} (h : RightS s n hh) : (rowsL n s.cs hh).flatten = s.cs := by
  rw [rowsL_flatten, Nat.mul_comm, ← h.cl, List.take_length]
theorem RightS.gone_le {s : Scr} {n hh : Nat} (h : RightS s n hh) (i : Nat) (hi : i < s.gone.length) : (s.gone.getD i []).length ≤ 120 := by
  have hm : s.gone.getD i [] ∈ s.gone := by
    have e : s.gone.getD i [] = s.gone[i] := by simp [List.getD, hi]
    rw [e]
    exact List.getElem_mem hi
  have := (grid_size (h.gr _ hm)).2.1
  omega
theorem RightS.rows {s s' : Scr} {n hh : Nat} (h : RightS s n hh) (hg : s'.gone = s.gone) : RowsOk s' (rowsL n s.cs hh) := by
  have h1 := h.h1
  have h2 := h.h2
  have n1 := h.n1
  have n2 := h.n2
  refine ⟨by rw [Grd.rowsL_len]; omega, by rw [Grd.rowsL_len]; omega, fun i hi => ?_, ?_, by rw [hg]; have := h.gl; omega, fun i hi => ?_⟩
  · rw [Grd.rowsL_len] at hi
    have e2 : (rowsL n s.cs hh).getD i [] = Grd.rowAt n s.cs i := by simp [rowsL, List.getD, hi]
    have hle : i * n + n ≤ n * hh := by
      have : (i + 1) * n ≤ hh * n := Nat.mul_le_mul_right n hi
      rw [Nat.mul_comm n hh]
      rw [Nat.add_mul] at this
      omega
    have hlen : (Grd.rowAt n s.cs i).length = n := by
      unfold Grd.rowAt
      rw [List.length_take, List.length_drop, h.cl]
      omega
    rw [e2]
    intro e
    rw [e] at hlen
    simp at hlen
    omega
  · rw [h.flatten, h.cl]
    have := Nat.mul_le_mul n2 h2
    omega
  · rw [hg] at hi ⊢
    have := h.gone_le i hi
    omega
end Put
end Go.Proofs.YtnkeahfcpbepjaaGreatDoor

/- A screen out of what the row reads, and how many values it holds. -/
namespace Go.Proofs.YtnkeahfcpbepjaaGreatDoor
open Go.ChangeShapes Go.WideShapes Go.ChangeAt Go.RowKit
namespace Put
open Grd (C SliceAt CellsAt CIn i64_in i32_in)
section
variable {H : Type} {enc : TypeId × Value → H} {W : World}
theorem bulk_pos (d : DataW H) : 1 ≤ Rows.uptoBulk d := by
  cases d with
  | lit l => cases l <;> simp [Rows.uptoBulk]
  | _ => simp [Rows.uptoBulk]
theorem bulk_mem {d : DataW H} : ∀ {l : List (DataW H)}, d ∈ l → Rows.uptoBulk d ≤ Rows.uptoBulkAll l
  | x :: l, h => by
    rcases List.mem_cons.1 h with rfl | h
    · simp only [Rows.uptoBulkAll]; omega
    · have := bulk_mem h
      simp only [Rows.uptoBulkAll]; omega
theorem bulk_len : ∀ (l : List (DataW H)), l.length ≤ Rows.uptoBulkAll l
  | [] => by simp
  | x :: l => by
    have := bulk_len l
    have := bulk_pos x
    simp only [Rows.uptoBulkAll, List.length_cons]; omega
theorem trod_struct4 {P : Program} {base : Nat} {spare : Nat → Bool} {held : Bool} {t : TypeId} {f0 f1 f2 f3 : Field} {fuel : Nat} {cs : List Value} {x : DataW H × List MemPlace} (ht : P.underlying t = some (.struct #[f0, f1, f2, f3])) (h : DataW.trod enc P W base spare held fuel t cs = some x) :
    ∃ y0 y1 y2 y3 n, x.1 = .agg [y0.1, y1.1, y2.1, y3.1] ∧ cs.length = P.cellsOf t ∧ DataW.trod enc P W base spare held n f0.type ((cs.drop f0.offset).take (P.cellsOf f0.type)) = some y0 ∧
      DataW.trod enc P W base spare held n f1.type ((cs.drop f1.offset).take (P.cellsOf f1.type)) = some y1 ∧
      DataW.trod enc P W base spare held n f2.type ((cs.drop f2.offset).take (P.cellsOf f2.type)) = some y2 ∧
      DataW.trod enc P W base spare held n f3.type ((cs.drop f3.offset).take (P.cellsOf f3.type)) = some y3 := by
  obtain ⟨xs, n, _, rfl, hl, hlen, hf⟩ := DataW.trod_struct ht h
  match xs, hlen with
  | [y0, y1, y2, y3], _ => exact ⟨y0, y1, y2, y3, n, by simp, hl, by simpa using hf 0 f0 rfl, by simpa using hf 1 f1 rfl, by simpa using hf 2 f2 rfl, by simpa using hf 3 f3 rfl⟩
theorem trod_struct13 {P : Program} {base : Nat} {spare : Nat → Bool} {held : Bool} {t : TypeId} {f0 f1 f2 f3 f4 f5 f6 f7 f8 f9 f10 f11 f12 : Field} {fuel : Nat} {cs : List Value} {x : DataW H × List MemPlace} (ht : P.underlying t = some (.struct #[f0, f1, f2, f3, f4, f5, f6, f7, f8, f9, f10, f11, f12])) (h : DataW.trod enc P W base spare held fuel t cs = some x) :
    ∃ y0 y1 y2 y3 y4 y5 y6 y7 y8 y9 y10 y11 y12 n, x.1 = .agg [y0.1, y1.1, y2.1, y3.1, y4.1, y5.1, y6.1, y7.1, y8.1, y9.1, y10.1, y11.1, y12.1] ∧ cs.length = P.cellsOf t ∧ DataW.trod enc P W base spare held n f0.type ((cs.drop f0.offset).take (P.cellsOf f0.type)) = some y0 ∧
      DataW.trod enc P W base spare held n f1.type ((cs.drop f1.offset).take (P.cellsOf f1.type)) = some y1 ∧
      DataW.trod enc P W base spare held n f2.type ((cs.drop f2.offset).take (P.cellsOf f2.type)) = some y2 ∧
      DataW.trod enc P W base spare held n f3.type ((cs.drop f3.offset).take (P.cellsOf f3.type)) = some y3 ∧
      DataW.trod enc P W base spare held n f4.type ((cs.drop f4.offset).take (P.cellsOf f4.type)) = some y4 ∧
      DataW.trod enc P W base spare held n f5.type ((cs.drop f5.offset).take (P.cellsOf f5.type)) = some y5 ∧
      DataW.trod enc P W base spare held n f6.type ((cs.drop f6.offset).take (P.cellsOf f6.type)) = some y6 ∧
      DataW.trod enc P W base spare held n f7.type ((cs.drop f7.offset).take (P.cellsOf f7.type)) = some y7 ∧
      DataW.trod enc P W base spare held n f8.type ((cs.drop f8.offset).take (P.cellsOf f8.type)) = some y8 ∧
      DataW.trod enc P W base spare held n f9.type ((cs.drop f9.offset).take (P.cellsOf f9.type)) = some y9 ∧
      DataW.trod enc P W base spare held n f10.type ((cs.drop f10.offset).take (P.cellsOf f10.type)) = some y10 ∧
      DataW.trod enc P W base spare held n f11.type ((cs.drop f11.offset).take (P.cellsOf f11.type)) = some y11 ∧
      DataW.trod enc P W base spare held n f12.type ((cs.drop f12.offset).take (P.cellsOf f12.type)) = some y12 := by
  obtain ⟨xs, n, _, rfl, hl, hlen, hf⟩ := DataW.trod_struct ht h
  match xs, hlen with
  | [y0, y1, y2, y3, y4, y5, y6, y7, y8, y9, y10, y11, y12], _ => exact ⟨y0, y1, y2, y3, y4, y5, y6, y7, y8, y9, y10, y11, y12, n, by simp, hl, by simpa using hf 0 f0 rfl, by simpa using hf 1 f1 rfl, by simpa using hf 2 f2 rfl, by simpa using hf 3 f3 rfl, by simpa using hf 4 f4 rfl, by simpa using hf 5 f5 rfl, by simpa using hf 6 f6 rfl, by simpa using hf 7 f7 rfl, by simpa using hf 8 f8 rfl, by simpa using hf 9 f9 rfl, by simpa using hf 10 f10 rfl, by simpa using hf 11 f11 rfl, by simpa using hf 12 f12 rfl⟩
theorem cells_bulk {cs : List C} {d : DataW H} (h : cs = [] ∨ ∃ elems sp, d = .slice elems sp ∧ cs.length = elems.length) : cs.length ≤ Rows.uptoBulk d := by
  rcases h with rfl | ⟨el, sp, rfl, hl⟩
  · simp
  · have := bulk_len el
    rw [hl]
    simp only [Rows.uptoBulk]
    omega
/-- A slice of bools. -/
theorem open_bools {fuel : Nat} {v : Value} {y : DataW H × List MemPlace} (h : DataW.trod enc Tryz.prog W 0 (fun _ => true) true fuel 27 [v] = some y) :
    ∃ l : List Bool, BoolsV W v l ∧ l.length ≤ Rows.uptoBulk y.1 := by
  rcases Deep.open_slice und_bools h with ⟨hcs, _⟩ | ⟨a, len, cap, m, n, D, Pl, hcs, _, hl, hm, hmm, rfl, hx⟩
  · simp at hcs
    subst hcs
    exact ⟨[], .inl ⟨rfl, _, _, rfl⟩, by simp⟩
  · simp at hcs
    subst hcs
    simp only [if_true] at hmm
    rw [show Tryz.prog.cellsOf 4 = 1 by kernel_rfl] at hx
    obtain ⟨f, hf⟩ := Deep.choose_lt (α := Bool) (p := fun i c => W.cell? ((a.add (i * 1)).add 0) = some (.bool c)) (n := len) (fun i hi => by
      obtain ⟨cs', h1, h2⟩ := hx i (by omega)
      obtain ⟨_, _, hc⟩ := World.cells?_some h1
      obtain ⟨c, rfl, _⟩ := DataW.trod_bool Tryz.underlying4 h2
      exact ⟨c, hc 0 (by omega)⟩)
    have hlen : ((List.range len).map f).length = len := by simp
    refine ⟨(List.range len).map f, ?_, ?_⟩
    · by_cases h0 : len = 0
      · subst h0
        exact .inl ⟨by simp, _, _, rfl⟩
      · obtain ⟨b, off, spot⟩ := a
        have hspot : spot = none := by
          have := hf 0 (by omega)
          simpa [Addr.add] using World.cell?_spot this
        subst hspot
        refine .inr ⟨b, off, cap, by rw [hlen], by rw [hlen]; omega, by unfold maxLen at hm; omega, fun j hj => ?_⟩
        rw [hlen] at hj
        have hg : ((List.range len).map f).getD j false = f j := by simp [List.getD, hj]
        rw [hg]
        have hc := hf j hj
        rw [add_plain, add_plain] at hc
        simpa using hc
    · rw [hlen]
      have h := bulk_len ((List.range len).map D)
      rw [List.length_map, List.length_range] at h
      simp only [Rows.uptoBulk]
      omega
/-- A slice of rows. -/
theorem open_rows {fuel : Nat} {v : Value} {y : DataW H × List MemPlace} (h : DataW.trod enc Tryz.prog W 0 (fun _ => true) true fuel 30 [v] = some y) :
    ∃ l : List (List C), RowsV W v l ∧ l.length ≤ Rows.uptoBulk y.1 ∧ ∀ row ∈ l, row.length ≤ Rows.uptoBulk y.1 := by
  rcases Deep.open_slice und_rows h with ⟨hcs, _⟩ | ⟨a, len, cap, m, n, D, Pl, hcs, _, hl, hm, hmm, rfl, hx⟩
  · simp at hcs
    subst hcs
    exact ⟨[], .inl ⟨rfl, _, _, rfl⟩, by simp, by simp⟩
  · simp at hcs
    subst hcs
    simp only [if_true] at hmm
    rw [show Tryz.prog.cellsOf 22 = 1 by kernel_rfl] at hx
    obtain ⟨f, hf⟩ := Deep.choose_lt (α := List C) (p := fun i row => ∃ rv, W.cell? ((a.add (i * 1)).add 0) = some rv ∧ SliceAt W rv row ∧ row.length ≤ Rows.uptoBulk (D i)) (n := len) (fun i hi => by
      obtain ⟨cs', h1, h2⟩ := hx i (by omega)
      obtain ⟨hlen1, _, hc⟩ := World.cells?_some h1
      match cs', hlen1 with
      | [rv], _ =>
        obtain ⟨row, hs, -, hb⟩ := Grd.open_cells h2
        exact ⟨row, rv, hc 0 (by omega), hs, cells_bulk hb⟩)
    have hlen : ((List.range len).map f).length = len := by simp
    refine ⟨(List.range len).map f, ?_, ?_, ?_⟩
    · by_cases h0 : len = 0
      · subst h0
        exact .inl ⟨by simp, _, _, rfl⟩
      · obtain ⟨b, off, spot⟩ := a
        have hspot : spot = none := by
          obtain ⟨rv, hc, -⟩ := hf 0 (by omega)
          simpa [Addr.add] using World.cell?_spot hc
        subst hspot
        refine .inr ⟨b, off, cap, by rw [hlen], by rw [hlen]; omega, by unfold maxLen at hm; omega, fun j hj => ?_⟩
        rw [hlen] at hj
        have hg : ((List.range len).map f).getD j [] = f j := by simp [List.getD, hj]
        rw [hg]
        obtain ⟨rv, hc, hs, -⟩ := hf j hj
        rw [add_plain, add_plain] at hc
        exact ⟨rv, by simpa using hc, hs⟩
    · rw [hlen]
      have h := bulk_len ((List.range len).map D)
      rw [List.length_map, List.length_range] at h
      simp only [Rows.uptoBulk]
      omega
    · intro row hrow
      simp only [List.mem_map, List.mem_range] at hrow
      obtain ⟨i, hi, rfl⟩ := hrow
      obtain ⟨rv, -, -, hb⟩ := hf i hi
      have h1 : Rows.uptoBulk (D i) ≤ Rows.uptoBulkAll ((List.range len).map D) := bulk_mem (List.mem_map.2 ⟨i, List.mem_range.2 hi, rfl⟩)
      simp only [Rows.uptoBulk]
      omega
set_option maxRecDepth 100000 in
theorem open_kept {fuel : Nat} {vs : List Value} {y : DataW H × List MemPlace} (h : DataW.trod enc Tryz.prog W 0 (fun _ => true) true fuel 29 vs = some y) :
    ∃ x y' f b c m : Int, vs = [.int .i64 x, .int .i64 y', .int .i64 f, .int .i64 b, .int .i64 c, .int .i64 m] ∧ (-9223372036854775808 ≤ m ∧ m ≤ 9223372036854775807) := by
  obtain ⟨y0, y1, y2, y3, n, -, hl, e0, e1, e2, e3⟩ := trod_struct4 Tryz.underlying29 h
  rw [show Tryz.prog.cellsOf 29 = 6 by kernel_rfl] at hl
  match vs, hl with
  | [v0, v1, v2, v3, v4, v5], _ =>
    simp only [show Tryz.prog.cellsOf 3 = 1 by kernel_rfl, show Tryz.prog.cellsOf 26 = 3 by kernel_rfl] at e0 e1 e2 e3
    obtain ⟨a0, k0, _, w0⟩ := DataW.trod_int Tryz.underlying3 e0
    obtain ⟨a1, k1, _, w1⟩ := DataW.trod_int Tryz.underlying3 e1
    obtain ⟨f, b, x, k2, -⟩ := Grd.open_style e2
    obtain ⟨a3, k3, _, w3⟩ := DataW.trod_int Tryz.underlying3 e3
    obtain rfl : v0 = _ := by simpa using k0
    obtain rfl : v1 = _ := by simpa using k1
    obtain ⟨rfl, rfl, rfl⟩ : v2 = _ ∧ v3 = _ ∧ v4 = _ := by simpa using k2
    obtain rfl : v5 = _ := by simpa using k3
    exact ⟨a0, a1, f, b, x, a3, rfl, i64_in w3⟩
set_option maxRecDepth 100000 in
theorem open_grid3 {fuel : Nat} {vs : List Value} {y : DataW H × List MemPlace} (h : DataW.trod enc Tryz.prog W 0 (fun _ => true) true fuel 24 vs = some y) :
    ∃ (a b : Int) (u : Value) (cs : List C), vs = [.int .i64 a, .int .i64 b, u] ∧ SliceAt W u cs ∧ cs.length ≤ Rows.uptoBulk y.1 := by
  obtain ⟨y0, y1, y2, n, hy, hl, e0, e1, e2⟩ := Deep.trod_struct3 Tryz.underlying24 h
  rw [show Tryz.prog.cellsOf 24 = 3 by kernel_rfl] at hl
  match vs, hl with
  | [v0, v1, v2], _ =>
    simp only [show Tryz.prog.cellsOf 3 = 1 by kernel_rfl, show Tryz.prog.cellsOf 22 = 1 by kernel_rfl] at e0 e1 e2
    obtain ⟨a0, k0, _, w0⟩ := DataW.trod_int Tryz.underlying3 e0
    obtain ⟨a1, k1, _, w1⟩ := DataW.trod_int Tryz.underlying3 e1
    obtain ⟨cs, hs, -, hb⟩ := Grd.open_cells (show DataW.trod enc Tryz.prog W 0 (fun _ => true) true n 22 [v2] = some y2 from e2)
    obtain rfl : v0 = _ := by simpa using k0
    obtain rfl : v1 = _ := by simpa using k1
    refine ⟨a0, a1, v2, cs, rfl, hs, ?_⟩
    have h1 := cells_bulk hb
    rw [hy]
    simp only [Rows.uptoBulk, Rows.uptoBulkAll]
    omega
set_option maxRecDepth 100000 in
set_option maxHeartbeats 1000000 in
theorem open_screen {r : Reach} {b0 : Nat} {v : Value} {d : DataW H} {p : List MemPlace} (hv : Value.okWide Tryz.prog W r b0 32 v) (h : DataW.Trod enc Tryz.prog W 0 (fun _ => true) true 32 v d p) :
    ∃ (s : Scr) (cv tv gv : Value), v = .agg (scrA s cv tv gv) ∧ ScrV W s cv tv gv ∧ ((-9223372036854775808 ≤ s.modes ∧ s.modes ≤ 9223372036854775807) ∧ (-9223372036854775808 ≤ s.km ∧ s.km ≤ 9223372036854775807) ∧ (-2147483648 ≤ s.last ∧ s.last ≤ 2147483647)) ∧ s.title.size ≤ Rows.uptoBulk d ∧ s.gone.length ≤ Rows.uptoBulk d ∧ s.tabs.length ≤ Rows.uptoBulk d ∧ s.cs.length ≤ Rows.uptoBulk d ∧ ∀ row ∈ s.gone, row.length ≤ Rows.uptoBulk d := by
  obtain ⟨cs, rfl, hsz⟩ := okWide_struct Tryz.underlying32 hv
  obtain ⟨fuel, hf⟩ := h
  obtain ⟨y0, y1, y2, y3, y4, y5, y6, y7, y8, y9, y10, y11, y12, n, hx, hl, h0, h1, h2, h3, h4, h5, h6, h7, h8, h9, h10, h11, h12⟩ := trod_struct13 Tryz.underlying32 hf
  rw [show Tryz.prog.cellsOf 32 = 22 by kernel_rfl] at hl
  obtain ⟨l⟩ := cs
  match l, hl with
  | [c0, c1, c2, c3, c4, c5, c6, c7, c8, c9, c10, c11, c12, c13, c14, c15, c16, c17, c18, c19, c20, c21], _ =>
    simp only [show Tryz.prog.cellsOf 3 = 1 by kernel_rfl, show Tryz.prog.cellsOf 21 = 1 by kernel_rfl, show Tryz.prog.cellsOf 9 = 1 by kernel_rfl, show Tryz.prog.cellsOf 4 = 1 by kernel_rfl, show Tryz.prog.cellsOf 27 = 1 by kernel_rfl, show Tryz.prog.cellsOf 30 = 1 by kernel_rfl, show Tryz.prog.cellsOf 24 = 3 by kernel_rfl, show Tryz.prog.cellsOf 26 = 3 by kernel_rfl, show Tryz.prog.cellsOf 29 = 6 by kernel_rfl, Value.cells] at h0 h1 h2 h3 h4 h5 h6 h7 h8 h9 h10 h11 h12
    obtain ⟨a0, a1, u, gcs, k0, hs0, hb0⟩ := open_grid3 h0
    obtain ⟨a3, k1, _, w1⟩ := DataW.trod_int Tryz.underlying3 h1
    obtain ⟨a4, k2, _, w2⟩ := DataW.trod_int Tryz.underlying3 h2
    obtain ⟨a5, k3, _⟩ := DataW.trod_bool Tryz.underlying4 h3
    obtain ⟨f, b, x, k4, -⟩ := Grd.open_style h4
    obtain ⟨a9, k5, _, w5⟩ := DataW.trod_int Tryz.underlying3 h5
    obtain ⟨a10, k6, _, w6⟩ := DataW.trod_int Tryz.underlying3 h6
    obtain ⟨a11, k7, _, w7⟩ := DataW.trod_int Tryz.underlying3 h7
    obtain ⟨tl, hs8, hb8⟩ := open_bools (show DataW.trod enc Tryz.prog W 0 (fun _ => true) true n 27 [c12] = some y8 from h8)
    obtain ⟨b13, b14, b15, b16, b17, b18, k9, w9⟩ := open_kept h9
    obtain ⟨a19, k10, _, w10⟩ := DataW.trod_int Tryz.underlying21 h10
    obtain ⟨a20, k11, g11, w11⟩ := DataW.trod_string Tryz.underlying9 h11
    obtain ⟨gl, hs12, hb12, hr12⟩ := open_rows (show DataW.trod enc Tryz.prog W 0 (fun _ => true) true n 30 [c21] = some y12 from h12)
    obtain ⟨rfl, rfl, rfl⟩ : c0 = _ ∧ c1 = _ ∧ c2 = _ := by simpa using k0
    obtain rfl : c3 = _ := by simpa using k1
    obtain rfl : c4 = _ := by simpa using k2
    obtain rfl : c5 = _ := by simpa using k3
    obtain ⟨rfl, rfl, rfl⟩ : c6 = _ ∧ c7 = _ ∧ c8 = _ := by simpa using k4
    obtain rfl : c9 = _ := by simpa using k5
    obtain rfl : c10 = _ := by simpa using k6
    obtain rfl : c11 = _ := by simpa using k7
    obtain ⟨rfl, rfl, rfl, rfl, rfl, rfl⟩ : c13 = _ ∧ c14 = _ ∧ c15 = _ ∧ c16 = _ ∧ c17 = _ ∧ c18 = _ := by simpa using k9
    obtain rfl : c19 = _ := by simpa using k10
    obtain rfl : c20 = _ := by simpa using k11
    have hb : Rows.uptoBulk d = Rows.uptoBulk y0.1 + (Rows.uptoBulk y1.1 + (Rows.uptoBulk y2.1 + (Rows.uptoBulk y3.1 + (Rows.uptoBulk y4.1 + (Rows.uptoBulk y5.1 + (Rows.uptoBulk y6.1 + (Rows.uptoBulk y7.1 + (Rows.uptoBulk y8.1 + (Rows.uptoBulk y9.1 + (Rows.uptoBulk y10.1 + (Rows.uptoBulk y11.1 + (Rows.uptoBulk y12.1 + 0)))))))))))) + 1 := by
      rw [show d = _ from hx]
      simp only [Rows.uptoBulk, Rows.uptoBulkAll]
    have b11 : Rows.uptoBulk y11.1 = a20.data.toList.length + 1 := by rw [g11]; simp only [Rows.uptoBulk]
    have s11 : a20.size = a20.data.toList.length := by rw [Array.length_toList]; rfl
    exact ⟨⟨a0, a1, gcs, a3, a4, a5, f, b, x, a9, a10, a11, tl, b13, b14, b15, b16, b17, b18, a19, a20, gl⟩, c2, c12, c21, rfl, ⟨hs0, hs8, hs12⟩, ⟨i64_in w7, w9, i32_in w10⟩, by show a20.size ≤ _; omega, by show gl.length ≤ _; omega, by show tl.length ≤ _; omega, by show gcs.length ≤ _; omega, fun row hrow => by have := hr12 row hrow; omega⟩
theorem fits_of {s : Scr} {k : Nat} (h : (-9223372036854775808 ≤ s.modes ∧ s.modes ≤ 9223372036854775807) ∧ (-9223372036854775808 ≤ s.km ∧ s.km ≤ 9223372036854775807) ∧ (-2147483648 ≤ s.last ∧ s.last ≤ 2147483647)) (h1 : s.title.size ≤ k) (h2 : s.gone.length ≤ k) (h3 : s.tabs.length ≤ k) (hk : k ≤ 1048576) : Fits s := ⟨h.1.1, h.1.2, h.2.1.1, h.2.1.2, by omega, by omega, by omega⟩
end
end Put
end Go.Proofs.YtnkeahfcpbepjaaGreatDoor

/- SameScreen of two screens that read alike. -/
namespace Go.Proofs.YtnkeahfcpbepjaaGreatDoor
open Go.ChangeShapes Go.WideShapes Go.ChangeAt Go.RowKit
namespace Put
open Grd (C SliceAt CellsAt gridErr z0)
set_option maxHeartbeats 1000000 in
theorem equalB_empty (a1 a2 : Option Addr) (c1 c2 : Nat) (w : World) :
    Calls Tryz.prog 119 #[.slice a1 0 c1, .slice a2 0 c2] w fun e w' => e = .returned (.bool true) ∧ Below w.heap.size w w' := by
  go_enter Tryz.func119, Tryz.ntmps119
  go_wp2_with fail
  go_loopg [13] 0 (fun g i wr => i = .int .i64 0 ∧ Below w.heap.size w wr)
  case atStart => exact ⟨rfl, Below.refl _ _⟩
  case round =>
    obtain ⟨rfl, hb⟩ := hrel
    go_wp2_with fail
    go_ret
    exact ⟨rfl, hb⟩
set_option maxHeartbeats 1000000 in
theorem equalB_cells (b1 o1 c1 b2 o2 c2 : Nat) (l : List Bool) (w : World) (h1 : ∀ j, j < l.length → w.cell? ⟨b1, o1 + j, none⟩ = some (.bool (l.getD j false))) (h2 : ∀ j, j < l.length → w.cell? ⟨b2, o2 + j, none⟩ = some (.bool (l.getD j false))) (hn : l.length ≤ 4398046511104) :
    Calls Tryz.prog 119 #[.slice (some ⟨b1, o1, none⟩) l.length c1, .slice (some ⟨b2, o2, none⟩) l.length c2] w fun e w' => e = .returned (.bool true) ∧ Below w.heap.size w w' := by
  have H1 : Hid (∀ j, j < l.length → w.cell? ⟨b1, o1 + j, none⟩ = some (.bool (l.getD j false))) := h1
  have H2 : Hid (∀ j, j < l.length → w.cell? ⟨b2, o2 + j, none⟩ = some (.bool (l.getD j false))) := h2
  clear h1 h2
  generalize hl : l.length = L at *
  have HL : Hid (l.length = L) := hl
  clear hl
  have ne : ((L : Int) != (L : Int)) = false := by simp
  go_enter Tryz.func119, Tryz.ntmps119
  go_wp2_with fail
  go_loopg [13] L (fun g i wr => ∃ k : Nat, i = .int .i64 (k : Int) ∧ k ≤ L ∧ L - k ≤ g ∧ Below w.heap.size w wr)
  case atStart => exact ⟨0, rfl, by omega, by omega, Below.refl _ _⟩
  case round =>
    obtain ⟨k, rfl, hk, hg, hb⟩ := hrel
    by_cases hlt : k < L
    · have lt1 : ((k : Int) < (L : Int)) := by omega
      have p0 := Grd.cell_keep hb (H1.out k hlt)
      have q0 := Grd.cell_keep hb (H2.out k hlt)
      generalize l.getD k false = x at *
      have nq : (x != x) = false := by simp
      go_wp2_with fail
      go_region
      go_wp2_with fail
      go_roundg (L - (k + 1))
      case measure => omega
      case rel => exact ⟨k + 1, rfl, by omega, by omega, hb.drew⟩
    · have lt1 : ¬ ((k : Int) < (L : Int)) := by omega
      go_wp2_with fail
      go_ret
      exact ⟨rfl, hb⟩
theorem equalB_any (v1 v2 : Value) (l : List Bool) (w : World) (h1 : BoolsV w v1 l) (h2 : BoolsV w v2 l) (hn : l.length ≤ 4398046511104) :
    Calls Tryz.prog 119 #[v1, v2] w fun e w' => e = .returned (.bool true) ∧ Below w.heap.size w w' := by
  by_cases h0 : l = []
  · obtain ⟨a1, c1, rfl⟩ := h1.slice
    obtain ⟨a2, c2, rfl⟩ := h2.slice
    subst h0
    exact equalB_empty a1 a2 c1 c2 w
  · rcases h1 with ⟨h, -⟩ | ⟨b1, o1, c1, rfl, -, -, hc1⟩
    · exact absurd h h0
    · rcases h2 with ⟨h, -⟩ | ⟨b2, o2, c2, rfl, -, -, hc2⟩
      · exact absurd h h0
      · exact equalB_cells b1 o1 c1 b2 o2 c2 l w hc1 hc2 hn
set_option maxHeartbeats 1000000 in
theorem eqRows_empty (a1 a2 : Option Addr) (c1 c2 : Nat) (w : World) :
    Calls Tryz.prog 154 #[.slice a1 0 c1, .slice a2 0 c2, .func (.func 153) #[] #[]] w fun e w' => e = .returned (.bool true) ∧ Below w.heap.size w w' := by
  go_enter Tryz.func154, Tryz.ntmps154
  go_wp2_with fail
  go_loopg [17] 0 (fun g i wr => i = .int .i64 0 ∧ Below w.heap.size w wr)
  case atStart => exact ⟨rfl, Below.refl _ _⟩
  case round =>
    obtain ⟨rfl, hb⟩ := hrel
    go_wp2_with fail
    go_ret
    exact ⟨rfl, hb⟩
/-- The rows of two lists of rows that read alike. -/
def RowsA (w : World) (b o : Nat) (l : List (List C)) : Prop := ∀ j, j < l.length → ∃ rv, w.cell? ⟨b, o + j, none⟩ = some rv ∧ SliceAt w rv (l.getD j [])
set_option maxHeartbeats 2000000 in
theorem eqRows_cells (b1 o1 c1 b2 o2 c2 : Nat) (l : List (List C)) (w : World) (h1 : RowsA w b1 o1 l) (h2 : RowsA w b2 o2 l) (hn : l.length ≤ 4398046511104) (hr : ∀ row, row ∈ l → row.length ≤ 4398046511104) :
    Calls Tryz.prog 154 #[.slice (some ⟨b1, o1, none⟩) l.length c1, .slice (some ⟨b2, o2, none⟩) l.length c2, .func (.func 153) #[] #[]] w fun e w' => e = .returned (.bool true) ∧ Below w.heap.size w w' := by
  have H1 : Hid (RowsA w b1 o1 l) := h1
  have H2 : Hid (RowsA w b2 o2 l) := h2
  have HR : Hid (∀ k, k < l.length → (l.getD k []).length ≤ 4398046511104) := fun k hk => by
    rw [List.getD_eq_getElem?_getD, List.getElem?_eq_getElem hk]
    exact hr _ (List.getElem_mem hk)
  clear h1 h2 hr
  unfold RowsA at H1 H2
  generalize hl : l.length = L at *
  have HL : Hid (l.length = L) := hl
  clear hl
  have ne : ((L : Int) != (L : Int)) = false := by simp
  go_enter Tryz.func154, Tryz.ntmps154
  go_wp2_with fail
  go_loopg [17] L (fun g i wr => ∃ k : Nat, i = .int .i64 (k : Int) ∧ k ≤ L ∧ L - k ≤ g ∧ Below w.heap.size w wr)
  case atStart => exact ⟨0, rfl, by omega, by omega, Below.refl _ _⟩
  case round =>
    obtain ⟨k, rfl, hk, hg, hb⟩ := hrel
    by_cases hlt : k < L
    · have lt1 : ((k : Int) < (L : Int)) := by omega
      obtain ⟨r1, p0, s1⟩ := H1.out k hlt
      obtain ⟨r2, q0, s2⟩ := H2.out k hlt
      have p1 := Grd.cell_keep hb p0
      have q1 := Grd.cell_keep hb q0
      have HS1 : Hid (SliceAt wr r1 (l.getD k [])) := s1.below hb
      have HS2 : Hid (SliceAt wr r2 (l.getD k [])) := s2.below hb
      have HLN : Hid ((l.getD k []).length ≤ 4398046511104) := HR.out k hlt
      have HB : Hid (Below w.heap.size w wr) := hb
      obtain ⟨a1, d1, rfl⟩ := s1.shape
      obtain ⟨a2, d2, rfl⟩ := s2.shape
      clear p0 q0 s1 s2 hb
      generalize l.getD k [] = row at *
      go_wp2_with fail
      refine (Grd.equal_slices_big _ _ row _ HS1.out HS2.out HLN.out).mono ?_
      rintro e W1 ⟨rfl, b1⟩
      have HB1 : Hid (Below w.heap.size w W1) := HB.out.trans (b1.mono HB.out.size)
      clear b1 p1 q1
      go_wp2_with fail
      go_roundg (L - (k + 1))
      case measure => omega
      case rel => exact ⟨k + 1, rfl, by omega, by omega, HB1.out⟩
    · have lt1 : ¬ ((k : Int) < (L : Int)) := by omega
      go_wp2_with fail
      go_ret
      exact ⟨rfl, hb⟩
theorem eqRows_any (v1 v2 : Value) (l : List (List C)) (w : World) (h1 : RowsV w v1 l) (h2 : RowsV w v2 l) (hn : l.length ≤ 4398046511104) (hr : ∀ row, row ∈ l → row.length ≤ 4398046511104) :
    Calls Tryz.prog 154 #[v1, v2, .func (.func 153) #[] #[]] w fun e w' => e = .returned (.bool true) ∧ Below w.heap.size w w' := by
  by_cases h0 : l = []
  · obtain ⟨a1, c1, rfl⟩ := h1.slice
    obtain ⟨a2, c2, rfl⟩ := h2.slice
    subst h0
    exact eqRows_empty a1 a2 c1 c2 w
  · rcases h1 with ⟨h, -⟩ | ⟨b1, o1, c1, rfl, -, -, hc1⟩
    · exact absurd h h0
    · rcases h2 with ⟨h, -⟩ | ⟨b2, o2, c2, rfl, -, -, hc2⟩
      · exact absurd h h0
      · exact eqRows_cells b1 o1 c1 b2 o2 c2 l w hc1 hc2 hn hr
theorem sameRows_any (v1 v2 : Value) (l : List (List C)) (w : World) (h1 : RowsV w v1 l) (h2 : RowsV w v2 l) (hn : l.length ≤ 4398046511104) (hr : ∀ row, row ∈ l → row.length ≤ 4398046511104) :
    Calls Tryz.prog 120 #[v1, v2] w fun e w' => e = .returned (.bool true) ∧ Below w.heap.size w w' := by
  have HC := eqRows_any v1 v2 l w h1 h2 hn hr
  obtain ⟨a1, d1, rfl⟩ := h1.slice
  obtain ⟨a2, d2, rfl⟩ := h2.slice
  clear h1 h2
  go_enter Tryz.func120, Tryz.ntmps120
  go_wp2_with fail
  refine HC.mono ?_
  rintro e W1 ⟨rfl, b1⟩
  clear HC
  go_wp2_with fail
  go_ret
  exact ⟨rfl, b1⟩
theorem eql_style (f b x : Int) (w : World) : (binOp .eql 26 (.agg #[.int .i64 f, .int .i64 b, .int .i64 x]) (.agg #[.int .i64 f, .int .i64 b, .int .i64 x])).run Tryz.prog w = .ok (.bool true) w := by
  go_simp
theorem eql_kept (a b c d e f : Int) (w : World) : (binOp .eql 29 (.agg #[.int .i64 a, .int .i64 b, .int .i64 c, .int .i64 d, .int .i64 e, .int .i64 f]) (.agg #[.int .i64 a, .int .i64 b, .int .i64 c, .int .i64 d, .int .i64 e, .int .i64 f])).run Tryz.prog w = .ok (.bool true) w := by
  go_simp
/-- What SameScreen asks of the sizes. -/
structure Small (s : Scr) : Prop where
  c : s.cs.length ≤ 4398046511104
  t : s.tabs.length ≤ 4398046511104
  g : s.gone.length ≤ 4398046511104
  r : ∀ row, row ∈ s.gone → row.length ≤ 4398046511104
set_option maxHeartbeats 8000000 in
set_option maxRecDepth 100000 in
theorem sameScreen_any (s : Scr) (cv tv gv cv' tv' gv' : Value) (w : World) (h1 : ScrV w s cv tv gv) (h2 : ScrV w s cv' tv' gv') (hS : Small s) :
    Calls Tryz.prog 64 #[.agg (scrA s cv tv gv), .agg (scrA s cv' tv' gv')] w fun e w' => e = .returned (.bool true) ∧ Below w.heap.size w w' := by
  obtain ⟨ca, cc, rfl⟩ := h1.c.shape
  obtain ⟨ta, tc, rfl⟩ := h1.t.slice
  obtain ⟨ga, gc, rfl⟩ := h1.g.slice
  obtain ⟨ca', cc', rfl⟩ := h2.c.shape
  obtain ⟨ta', tc', rfl⟩ := h2.t.slice
  obtain ⟨ga', gc', rfl⟩ := h2.g.slice
  have x0 := heap_alloc_new w (.cells (scrA s (.slice ca s.cs.length cc) (.slice ta s.tabs.length tc) (.slice ga s.gone.length gc)) 32)
  have y0 := (Below.heap_alloc (w.alloc (.cells (scrA s (.slice ca s.cs.length cc) (.slice ta s.tabs.length tc) (.slice ga s.gone.length gc)) 32)) (.cells (scrA s (.slice ca' s.cs.length cc') (.slice ta' s.tabs.length tc') (.slice ga' s.gone.length gc')) 32) _ (heap_lt x0)).trans x0
  have y1 := heap_alloc_new (w.alloc (.cells (scrA s (.slice ca s.cs.length cc) (.slice ta s.tabs.length tc) (.slice ga s.gone.length gc)) 32)) (.cells (scrA s (.slice ca' s.cs.length cc') (.slice ta' s.tabs.length tc') (.slice ga' s.gone.length gc')) 32)
  have kb : Below w.heap.size w ((w.alloc (.cells (scrA s (.slice ca s.cs.length cc) (.slice ta s.tabs.length tc) (.slice ga s.gone.length gc)) 32)).alloc (.cells (scrA s (.slice ca' s.cs.length cc') (.slice ta' s.tabs.length tc') (.slice ga' s.gone.length gc')) 32)) := ((Below.refl _ _).alloc (Nat.le_refl _) _).alloc (by simp) _
  have es : (w.alloc (.cells (scrA s (.slice ca s.cs.length cc) (.slice ta s.tabs.length tc) (.slice ga s.gone.length gc)) 32)).heap.size = w.heap.size + 1 := by simp
  rw [es] at y1
  have HKB : Hid _ := kb
  have HV1 : Hid (ScrV w s _ _ _) := h1
  have HV2 : Hid (ScrV w s _ _ _) := h2
  have HS : Hid (Small s) := hS
  have HY0 : Hid _ := y0
  have HY1 : Hid _ := y1
  have aw : (s.w == s.w) = true := by simp
  obtain ⟨⟨c0, c1, c2, -⟩, -, -⟩ := scr_cells y0
  obtain ⟨⟨d0, d1, d2, -⟩, -, -⟩ := scr_cells y1
  have HG := Grd.same_any_big s.w s.h _ _ s.cs _ (h1.c.below kb) (h2.c.below kb) hS.c
  clear x0 y0 y1 kb h1 h2 hS es
  go_enter Tryz.func64, Tryz.ntmps64
  go_wp2_with fail
  refine HG.mono ?_
  rintro e W1 ⟨rfl, b1⟩
  clear HG c0 c1 c2 d0 d1 d2
  have HB1 : Hid (Below w.heap.size w W1) := HKB.out.trans (b1.mono HKB.out.size)
  have HZ0 : Hid (W1.heap[w.heap.size]? = _) := Grd.carry HY0.out b1
  have HZ1 : Hid (W1.heap[w.heap.size + 1]? = _) := Grd.carry HY1.out b1
  clear b1 HY0 HY1 HKB
  obtain ⟨⟨c0, c1, c2, c3, c4, c5, c6, c7, c8, c9, c10⟩, ⟨c11, c12, c13, c14, c15, c16, c17, c18, c19, c20, c21⟩, -⟩ := scr_cells HZ0.out
  obtain ⟨⟨d0, d1, d2, d3, d4, d5, d6, d7, d8, d9, d10⟩, ⟨d11, d12, d13, d14, d15, d16, d17, d18, d19, d20, d21⟩, -⟩ := scr_cells HZ1.out
  have HT := equalB_any _ _ s.tabs _ (HV1.out.t.next HB1.out) (HV2.out.t.next HB1.out) HS.out.t
  have q1 := eql_style s.sf s.sb s.sx
  have q2 := eql_kept s.kx s.ky s.kf s.kb s.kbits s.km
  go_wp2_with fail
  refine HT.mono ?_
  rintro e W2 ⟨rfl, b2⟩
  clear HT c0 c1 c2 c3 c4 c5 c6 c7 c8 c9 c10 c11 c12 c13 c14 c15 c16 c17 c18 c19 c20 c21 d0 d1 d2 d3 d4 d5 d6 d7 d8 d9 d10 d11 d12 d13 d14 d15 d16 d17 d18 d19 d20 d21
  have HB2 : Hid (Below w.heap.size w W2) := HB1.out.trans (b2.mono HB1.out.size)
  have HA0 : Hid (W2.heap[w.heap.size]? = _) := Grd.carry HZ0.out b2
  have HA1 : Hid (W2.heap[w.heap.size + 1]? = _) := Grd.carry HZ1.out b2
  clear b2 HZ0 HZ1 HB1
  obtain ⟨-, ⟨c11, c12, c13, c14, c15, c16, c17, c18, c19, c20, c21⟩, -⟩ := scr_cells HA0.out
  obtain ⟨-, ⟨d11, d12, d13, d14, d15, d16, d17, d18, d19, d20, d21⟩, -⟩ := scr_cells HA1.out
  have HR := sameRows_any _ _ s.gone _ (HV1.out.g.next HB2.out) (HV2.out.g.next HB2.out) HS.out.g HS.out.r
  go_wp2_with fail
  refine HR.mono ?_
  rintro e W3 ⟨rfl, b3⟩
  clear HR
  have HB3 : Hid (Below w.heap.size w W3) := HB2.out.trans (b3.mono HB2.out.size)
  clear b3 HA0 HA1 c11 c12 c13 c14 c15 c16 c17 c18 c19 c20 c21 d11 d12 d13 d14 d15 d16 d17 d18 d19 d20 d21
  go_wp2_with fail
  go_ret
  exact ⟨rfl, HB3.out⟩
end Put
end Go.Proofs.YtnkeahfcpbepjaaGreatDoor

/- trellislaw.ownScreen, noScreen. -/
namespace Go.Proofs.YtnkeahfcpbepjaaGreatDoor
open Go.ChangeShapes Go.WideShapes Go.ChangeAt Go.RowKit
namespace Put
open Grd (C SliceAt CellsAt gridErr z0 nilV)
/-- A screen that a machine holds. -/
structure Bulk (s : Scr) : Prop where
  f : Fits s
  c : s.cs.length ≤ 1048576
  r : ∀ row, row ∈ s.gone → row.length ≤ 1048576
theorem Bulk.small {s : Scr} (h : Bulk s) : Small s := ⟨by have := h.c; omega, by have := h.f.bl; omega, by have := h.f.gl; omega, fun row hr => by have := h.r row hr; omega⟩
theorem Bulk.row {s : Scr} (h : Bulk s) (k : Nat) (hk : k < s.gone.length) : (s.gone.getD k []).length ≤ 1048576 := by
  have e : s.gone.getD k [] = s.gone[k] := by simp [List.getD, hk]
  rw [e]
  exact h.r _ (List.getElem_mem hk)
theorem cloneCells_any (v : Value) (N : Nat) (row : List C) (w : World) (h : SliceAt w v row) (hbig : row.length ≤ 1048576) :
    Calls Tryz.prog 115 #[v] w fun e w' => ∃ a c, e = .returned (.slice a row.length c) ∧ RowIn w' N (.slice a row.length c) row ∧ Below w.heap.size w w' := by
  rcases h with ⟨rfl, a, c, rfl⟩ | ⟨hr, b, o, c, rfl, h1, h2, h3⟩
  · refine (Grd.clone_empty a c w).mono ?_
    rintro e W ⟨a', c', rfl, hb⟩
    exact ⟨a', c', rfl, .inl ⟨rfl, a', c', rfl⟩, hb⟩
  · refine (Grd.clone_row b o c row w h3 (by omega)).mono ?_
    rintro e W ⟨v', g, rfl, hg, hR, hb⟩
    obtain ⟨a', c', hv⟩ := (rowIn_rowB (N := N) hR).shape
    subst hv
    exact ⟨a', c', rfl, rowIn_rowB hR, hb⟩
theorem Kept.grown {W W' : World} {N base : Nat} {v : Value} {n : Nat} {xs : List Value} (ho : W.ownsRow base 22 1 v n xs) (hb : N ≤ base) (hg : W.grownBy W' v.ownBlock) : Kept N W W' := fun k hk hS => hg.block k hk fun e => by
  obtain ⟨h1, A, f, hA⟩ := owns_block ho k e.symm
  rcases hS with hS | ⟨B, f', hS⟩
  · omega
  · rw [hA] at hS
    injection hS with hS
    injection hS with _ hS _
    exact absurd hS (by decide)
theorem own_grown {W W' : World} {N base : Nat} {e : TypeId} {u v : Value} {n m : Nat} {xs ys : List Value} (h : W.ownsRow N e 1 u m ys) (ho : W.ownsRow base 22 1 v n xs) (he : 22 ≠ e) (hg : W.grownBy W' v.ownBlock) : W'.ownsRow N e 1 u m ys :=
  owns_kept h fun k hk => by
    obtain ⟨-, B, f', hB⟩ := owns_block h k hk
    refine hg.block k (heap_lt hB) fun e' => ?_
    obtain ⟨h1, A, f, hA⟩ := owns_block ho k e'.symm
    rw [hA] at hB
    injection hB with hB
    injection hB with _ hB _
    exact he hB
theorem RowsIn.snoc {W : World} {N : Nat} {vs : List Value} {rows : List (List C)} (h : RowsIn W N vs rows) {v : Value} {row : List C} (hr : RowIn W N v row) : RowsIn W N (vs ++ [v]) (rows ++ [row]) := by
  refine ⟨by simp [h.1], fun i hi => ?_⟩
  rw [List.length_append, List.length_singleton] at hi
  by_cases e : i < rows.length
  · rw [Grd.getD_snoc_lt _ _ _ _ e, Grd.getD_snoc_lt _ _ _ _ (by rw [h.1]; exact e)]
    exact h.2 i e
  · have e1 : i = rows.length := by omega
    have e2 : (vs ++ [v]).getD i nilV = v := by rw [e1, ← h.1]; exact Grd.getD_snoc_eq _ _ _
    rw [e2, e1, Grd.getD_snoc_eq]
    exact hr
theorem take_next {α : Type} (l : List α) (k : Nat) (d : α) (h : k < l.length) : l.take (k + 1) = l.take k ++ [l.getD k d] := by
  rw [List.take_succ_eq_append_getElem h]
  simp [List.getD, h]
set_option maxHeartbeats 4000000 in
set_option maxRecDepth 100000 in
theorem ownScreen_any (s : Scr) (cv tv gv : Value) (w : World) (hV : ScrV w s cv tv gv) (hB : Bulk s) :
    Calls Tryz.prog 62 #[.agg (scrA s cv tv gv)] w fun e W' => ∃ cv' tv' gv', e = .returned (.agg (scrA s cv' tv' gv')) ∧ ScrV W' s cv' tv' gv' ∧ Below w.heap.size w W' := by
  obtain ⟨ca, cc, rfl⟩ := hV.c.shape
  obtain ⟨ta, tc, rfl⟩ := hV.t.slice
  obtain ⟨ga, gc, rfl⟩ := hV.g.slice
  obtain ⟨i0, hi, hzz⟩ := Option.map_eq_some_iff.1 info_rows
  simp only [Prod.mk.injEq] at hzz
  obtain ⟨hz0, hz1, hz2⟩ := hzz
  have hkb : Below w.heap.size w ((w.alloc (.cells (scrA s (.slice ca s.cs.length cc) (.slice ta s.tabs.length tc) (.slice ga s.gone.length gc)) 32)).alloc (.cells #[.int .i64 0, .int .i64 0, .slice none 0 0, .int .i64 0, .int .i64 0, .bool false, .int .i64 0, .int .i64 0, .int .i64 0, .int .i64 0, .int .i64 0, .int .i64 0, .slice none 0 0, .int .i64 0, .int .i64 0, .int .i64 0, .int .i64 0, .int .i64 0, .int .i64 0, .int .i32 0, .string ⟨#[]⟩, .slice none 0 0] 32)) := ((Below.refl _ _).alloc (Nat.le_refl _) _).alloc (by simp) _
  have hx0 : ((w.alloc (.cells (scrA s (.slice ca s.cs.length cc) (.slice ta s.tabs.length tc) (.slice ga s.gone.length gc)) 32)).alloc (.cells #[.int .i64 0, .int .i64 0, .slice none 0 0, .int .i64 0, .int .i64 0, .bool false, .int .i64 0, .int .i64 0, .int .i64 0, .int .i64 0, .int .i64 0, .int .i64 0, .slice none 0 0, .int .i64 0, .int .i64 0, .int .i64 0, .int .i64 0, .int .i64 0, .int .i64 0, .int .i32 0, .string ⟨#[]⟩, .slice none 0 0] 32)).heap[w.heap.size]? = some (.cells (scrA s (.slice ca s.cs.length cc) (.slice ta s.tabs.length tc) (.slice ga s.gone.length gc)) 32 (0, 0)) := (Below.heap_alloc _ _ _ (by simp)).trans (heap_alloc_new _ _)
  have hx1 : ((w.alloc (.cells (scrA s (.slice ca s.cs.length cc) (.slice ta s.tabs.length tc) (.slice ga s.gone.length gc)) 32)).alloc (.cells #[.int .i64 0, .int .i64 0, .slice none 0 0, .int .i64 0, .int .i64 0, .bool false, .int .i64 0, .int .i64 0, .int .i64 0, .int .i64 0, .int .i64 0, .int .i64 0, .slice none 0 0, .int .i64 0, .int .i64 0, .int .i64 0, .int .i64 0, .int .i64 0, .int .i64 0, .int .i32 0, .string ⟨#[]⟩, .slice none 0 0] 32)).heap[w.heap.size + 1]? = some (.cells (scrA zScr (.slice none 0 0) (.slice none 0 0) (.slice none 0 0)) 32 (0, 0)) := heap_alloc2_new w _ _
  have HX0 : Hid _ := hx0
  have HX1 : Hid _ := hx1
  have HKB : Hid _ := hkb
  have HV : Hid (ScrV w s _ _ _) := hV
  have HBK : Hid (Bulk s) := hB
  have hlt1 := heap_lt hx1
  clear hx0 hx1 hkb hV hB
  go_enter Tryz.func62, Tryz.ntmps62
  go_upto_region 1 with fail
  generalize ((w.alloc (.cells (scrA s (.slice ca s.cs.length cc) (.slice ta s.tabs.length tc) (.slice ga s.gone.length gc)) 32)).alloc (.cells #[.int .i64 0, .int .i64 0, .slice none 0 0, .int .i64 0, .int .i64 0, .bool false, .int .i64 0, .int .i64 0, .int .i64 0, .int .i64 0, .int .i64 0, .int .i64 0, .slice none 0 0, .int .i64 0, .int .i64 0, .int .i64 0, .int .i64 0, .int .i64 0, .int .i64 0, .int .i32 0, .string ⟨#[]⟩, .slice none 0 0] 32)) = X at *
  obtain ⟨⟨-, -, c2, -⟩, -, -⟩ := scr_cells HX0.out
  go_wp2_with fail
  refine (cloneCells_any _ w.heap.size s.cs X (HV.out.c.below HKB.out) HBK.out.c).mono ?_
  rintro e V1 ⟨a1, c1, rfl, hR1, b1⟩
  have hp1 := Grd.carry HX0.out b1
  have f2 := (scr_cells hp1).2.2 2
  have c2' := (scr_cells hp1).1.2.2.1
  have HP1 : Hid ((V1.setCell ⟨w.heap.size, 2, none⟩ (.slice a1 s.cs.length c1)).heap[w.heap.size]? = some (.cells (scrA s (.slice a1 s.cs.length c1) (.slice ta s.tabs.length tc) (.slice ga s.gone.length gc)) 32 (0, 0))) := store_at hp1 rfl
  have HQ1 : Hid ((V1.setCell ⟨w.heap.size, 2, none⟩ (.slice a1 s.cs.length c1)).heap[w.heap.size + 1]? = _) := (store_off (by omega)).trans (Grd.carry HX1.out b1)
  have HR1 : Hid (RowIn (V1.setCell ⟨w.heap.size, 2, none⟩ (.slice a1 s.cs.length c1)) w.heap.size (.slice a1 s.cs.length c1) s.cs) := hR1.keep (Kept.store hp1 (by decide) (Nat.le_refl _))
  have HB1 : Hid (Below w.heap.size w (V1.setCell ⟨w.heap.size, 2, none⟩ (.slice a1 s.cs.length c1))) := (HKB.out.trans (b1.mono HKB.out.size)).setCell (Nat.le_refl _) _
  have c12 := (scr_cells hp1).2.1.2.1
  clear hR1 b1 hp1 c2
  go_wp2_with fail
  refine (cloneBools_any _ s.tabs _ (HV.out.t.next HB1.out) HBK.out.f.bl).mono ?_
  rintro e V2 ⟨tv', rfl, ho2, b2⟩
  obtain ⟨a2, c2n, rfl⟩ := own_slice ho2
  have hp2 := Grd.carry HP1.out b2
  have f12 := (scr_cells hp2).2.2 12
  have c12' := (scr_cells hp2).2.1.2.1
  have HP2 : Hid ((V2.setCell ⟨w.heap.size, 12, none⟩ (.slice a2 s.tabs.length c2n)).heap[w.heap.size]? = some (.cells (scrA s (.slice a1 s.cs.length c1) (.slice a2 s.tabs.length c2n) (.slice ga s.gone.length gc)) 32 (0, 0))) := store_at hp2 rfl
  have HQ2 : Hid ((V2.setCell ⟨w.heap.size, 12, none⟩ (.slice a2 s.tabs.length c2n)).heap[w.heap.size + 1]? = _) := (store_off (by omega)).trans (Grd.carry HQ1.out b2)
  have HR2 : Hid (RowIn (V2.setCell ⟨w.heap.size, 12, none⟩ (.slice a2 s.tabs.length c2n)) w.heap.size (.slice a1 s.cs.length c1) s.cs) := (HR1.out.keep (Kept.of_below b2)).keep (Kept.store hp2 (by decide) (Nat.le_refl _))
  have HT2 : Hid ((V2.setCell ⟨w.heap.size, 12, none⟩ (.slice a2 s.tabs.length c2n)).ownsRow w.heap.size 4 1 (.slice a2 s.tabs.length c2n) s.tabs.length (s.tabs.map Value.bool)) := Grd.ownsRow_mono (own_off ho2 hp2 (by decide)) HB1.out.size
  have HB2 : Hid (Below w.heap.size w (V2.setCell ⟨w.heap.size, 12, none⟩ (.slice a2 s.tabs.length c2n))) := (HB1.out.trans (b2.mono HB1.out.size)).setCell (Nat.le_refl _) _
  have c21 := (scr_cells hp2).2.1.2.2.2.2.2.2.2.2.2.2
  clear ho2 b2 hp2 c12 c2' f2 HP1 HQ1 HR1 HB1
  go_wp2_with fail
  clear c21 c12' f12
  go_loopg [3, 19] s.gone.length (fun q v i wr => ∃ (k : Nat) (vs : List Value), i = .int .i64 (k : Int) ∧ k ≤ s.gone.length ∧ s.gone.length - k ≤ q ∧ wr.ownsRow (w.heap.size + 2) 22 1 v k vs ∧ RowsIn wr w.heap.size vs (s.gone.take k) ∧ Below w.heap.size w wr ∧ wr.heap[w.heap.size]? = some (.cells (scrA s (.slice a1 s.cs.length c1) (.slice a2 s.tabs.length c2n) (.slice ga s.gone.length gc)) 32 (0, 0)) ∧ wr.heap[w.heap.size + 1]? = some (.cells (scrA zScr (.slice none 0 0) (.slice none 0 0) (.slice none 0 0)) 32 (0, 0)) ∧ RowIn wr w.heap.size (.slice a1 s.cs.length c1) s.cs ∧ wr.ownsRow w.heap.size 4 1 (.slice a2 s.tabs.length c2n) s.tabs.length (s.tabs.map Value.bool))
  case atStart => exact ⟨0, [], rfl, by omega, by omega, World.ownsRow_nil _ _ _ _, ⟨by simp, fun i hi => absurd hi (by simp)⟩, HB2.out, HP2.out, HQ2.out, HR2.out, HT2.out⟩
  case round =>
    clear HB2 HP2 HQ2 HR2 HT2
    obtain ⟨k, vs, rfl, hk, hq, hown, hrows, hb, hp, hp1, hr, ht⟩ := hrel
    have HO : Hid (wr.ownsRow (w.heap.size + 2) 22 1 _ k vs) := hown
    have HRS : Hid (RowsIn wr w.heap.size vs (s.gone.take k)) := hrows
    have HB : Hid (Below w.heap.size w wr) := hb
    have HP : Hid _ := hp
    have HQ : Hid _ := hp1
    have HR : Hid (RowIn wr w.heap.size _ s.cs) := hr
    have HT : Hid (wr.ownsRow w.heap.size 4 1 _ s.tabs.length (s.tabs.map Value.bool)) := ht
    have hN := heap_lt hp1
    clear hown hrows hb hr ht
    by_cases hlt : k < s.gone.length
    · have lt1 : ((k : Int) < (s.gone.length : Int)) := by omega
      rcases HV.out.g with ⟨he, -⟩ | ⟨b, o, c, hvv, -, -, hc⟩
      · rw [he] at hlt
        exact absurd hlt (by simp)
      injection hvv with hvv1 hvv2 hvv3
      subst hvv1 hvv3
      obtain ⟨rv, hc1, hS⟩ := hc k hlt
      have q0 := cell_stay HB.out hc1
      obtain ⟨ra, rc, hrv⟩ := hS.shape
      subst hrv
      have HCL := cloneCells_any _ w.heap.size (s.gone.getD k []) wr (hS.below HB.out) (HBK.out.row k hlt)
      have HTK : Hid (s.gone.take (k + 1) = s.gone.take k ++ [s.gone.getD k []]) := take_next _ _ _ hlt
      clear hc hc1 hS hp hp1
      generalize s.gone.getD k [] = row at *
      have hsl := own_slice HO.out
      go_upto_region 7 with fail
      go_wp2_with (first | (go_at_call 115; refine HCL.mono ?_; rintro e W2 ⟨na, nc, rfl, hr2, b2⟩) | (at_builtin; refine Hid.out ?_))
      unfold Hid
      have HR2 : Hid (RowIn W2 w.heap.size (.slice na row.length nc) row) := hr2
      have hown2 : W2.ownsRow (w.heap.size + 2) 22 1 _ k vs := Grd.ownsRow_below HO.out b2
      have hgl := HBK.out.f.gl
      have hs2 := b2.size
      refine wpList_append_own _ rfl _ _ 30 rfl (w.heap.size + 2) 22 i0 (.slice none 0 0) 1 24 und_rows hi hz0 hz1 hz2 rfl (by decide) _ _ _ rfl (hown2.alloc _) ⟨W2.heap.size, 0, none⟩ 1 1 [.slice na row.length nc] rfl rfl (cell_one_new _ _ _) (by intro u hu; simp at hu; rw [hu]; rfl) (by unfold maxLen; omega) (by omega) (by simp; omega) ?_
      intro v3 W3 hown3 hgrow hnil
      go_wp2_with fail
      have kZ : Below W2.heap.size W2 (W2.alloc (.cells #[.slice na row.length nc] 22)) := (Below.refl _ _).alloc (Nat.le_refl _) _
      have hfrom := Grd.own_from HO.out
      have kb2 := HB.out.trans (b2.mono HB.out.size)
      have hN2 := b2.size
      have kk := Kept.grown (hown2.alloc (.cells #[.slice na row.length nc] 22)) (show w.heap.size ≤ w.heap.size + 2 by omega) hgrow
      have ka := Kept.of_below (N := w.heap.size) b2
      have kz := Kept.of_below (N := w.heap.size) kZ
      go_roundg (s.gone.length - (k + 1))
      case measure => omega
      case rel =>
        refine ⟨k + 1, vs ++ [.slice na row.length nc], rfl, by omega, by omega, hown3, ?_, ?_, ?_, ?_, ?_, ?_⟩
        · rw [HTK.out]
          exact (((HRS.out.keep ka).keep kz).keep kk).snoc ((HR2.out.keep kz).keep kk)
        · exact (kb2.alloc kb2.size _).grown hgrow (by simp; omega) (fun q hq => by have := hfrom q hq; omega)
        · rw [hgrow.block _ (by simp; omega) (fun e => by have := hfrom _ e.symm; omega)]
          exact Grd.carry (Grd.carry HP.out b2) kZ
        · rw [hgrow.block _ (by simp; omega) (fun e => by have := hfrom _ e.symm; omega)]
          exact Grd.carry (Grd.carry HQ.out b2) kZ
        · exact ((HR.out.keep ka).keep kz).keep kk
        · exact own_grown (own_next (own_next HT.out b2) kZ) (hown2.alloc _) (by decide) hgrow
    · have lt1 : ¬ ((k : Int) < (s.gone.length : Int)) := by omega
      have hkh : k = s.gone.length := by omega
      subst hkh
      rw [List.take_length] at HRS
      obtain ⟨na, nc, rfl⟩ := own_slice HO.out
      have f21 := (scr_cells hp).2.2 21
      have c21 := (scr_cells hp).2.1.2.2.2.2.2.2.2.2.2.2
      have HY0 : Hid ((wr.setCell ⟨w.heap.size, 21, none⟩ (.slice na s.gone.length nc)).heap[w.heap.size]? = some (.cells (scrA s (.slice a1 s.cs.length c1) (.slice a2 s.tabs.length c2n) (.slice na s.gone.length nc)) 32 (0, 0))) := store_at hp rfl
      have HY1 : Hid ((wr.setCell ⟨w.heap.size, 21, none⟩ (.slice na s.gone.length nc)).heap[w.heap.size + 1]? = _) := (store_off (by omega)).trans hp1
      have kk : Kept w.heap.size wr (wr.setCell ⟨w.heap.size, 21, none⟩ (.slice na s.gone.length nc)) := Kept.store hp (by decide) (Nat.le_refl _)
      have HRI : Hid (RowIn (wr.setCell ⟨w.heap.size, 21, none⟩ (.slice na s.gone.length nc)) w.heap.size (.slice a1 s.cs.length c1) s.cs) := HR.out.keep kk
      have HRG : Hid (RowsIn (wr.setCell ⟨w.heap.size, 21, none⟩ (.slice na s.gone.length nc)) w.heap.size vs s.gone) := HRS.out.keep kk
      have HTT : Hid ((wr.setCell ⟨w.heap.size, 21, none⟩ (.slice na s.gone.length nc)).ownsRow w.heap.size 4 1 (.slice a2 s.tabs.length c2n) s.tabs.length (s.tabs.map Value.bool)) := own_off HT.out hp (by decide)
      have HOO : Hid ((wr.setCell ⟨w.heap.size, 21, none⟩ (.slice na s.gone.length nc)).ownsRow (w.heap.size + 2) 22 1 (.slice na s.gone.length nc) s.gone.length vs) := own_off HO.out hp (by decide)
      have HBB : Hid (Below w.heap.size w (wr.setCell ⟨w.heap.size, 21, none⟩ (.slice na s.gone.length nc))) := HB.out.setCell (Nat.le_refl _) _
      clear hp hp1 kk
      go_wp2_with (first
        | (refine wpList_load_row rfl 32 (.tmp 1) rfl w.heap.size rfl _ _ _ _ HY0.out Tryz.underlying32 rfl (by kernel_rfl) ?_)
        | (refine wpList_store_row rfl 32 (.tmp 2) _ rfl (w.heap.size + 1) (scrA s (.slice a1 s.cs.length c1) (.slice a2 s.tabs.length c2n) (.slice na s.gone.length nc)) rfl rfl _ _ HY1.out (by kernel_rfl) rfl (scr_one _ _ _ _ _ _ _ _ _ _) ?_))
      (try simp only [Exit.inBlock, Exit.then])
      have ko : ∀ k, k ≠ w.heap.size + 1 → ((wr.setCell ⟨w.heap.size, 21, none⟩ (.slice na s.gone.length nc)).setRow (w.heap.size + 1) (scrA s (.slice a1 s.cs.length c1) (.slice a2 s.tabs.length c2n) (.slice na s.gone.length nc))).heap[k]? = (wr.setCell ⟨w.heap.size, 21, none⟩ (.slice na s.gone.length nc)).heap[k]? := fun k hk => setRow_other _ _ _ _ hk
      have kt : ∀ (k : Nat) (A : Array Value) (t : TypeId) (f : Nat × Nat), (wr.setCell ⟨w.heap.size, 21, none⟩ (.slice na s.gone.length nc)).heap[k]? = some (.cells A t f) → t ≠ 32 → k ≠ w.heap.size + 1 := fun k A t f hk ht e => by
        have h1 := HY1.out
        rw [← e, hk] at h1
        injection h1 with h1
        injection h1 with _ h1 _
        exact ht h1
      have kk : Kept w.heap.size (wr.setCell ⟨w.heap.size, 21, none⟩ (.slice na s.gone.length nc)) ((wr.setCell ⟨w.heap.size, 21, none⟩ (.slice na s.gone.length nc)).setRow (w.heap.size + 1) (scrA s (.slice a1 s.cs.length c1) (.slice a2 s.tabs.length c2n) (.slice na s.gone.length nc))) := fun k hk hS => ko k (by
        rcases hS with hS | ⟨A, f, hS⟩
        · omega
        · exact kt k A _ f hS (by decide))
      refine bodyPost_ret (v := .agg (scrA s (.slice a1 s.cs.length c1) (.slice a2 s.tabs.length c2n) (.slice na s.gone.length nc))) ?_ rfl ⟨_, _, _, rfl, ⟨(HRI.out.keep kk).cells, own_boolsV (owns_kept HTT.out fun g hg => ?_), own_rowsV (owns_kept HOO.out fun g hg => ?_) (HRG.out.keep kk).list⟩, below_setRow HBB.out (by omega) _⟩
      · exact results_cell_row rfl _ _ (w.heap.size + 1) _ _ _ _ rfl (setRow_heap _ _ _ _ _ _ HY1.out) Tryz.underlying32 rfl (by kernel_rfl)
      · obtain ⟨-, A, f, hA⟩ := owns_block HTT.out g hg
        exact ko g (kt g A _ f hA (by decide))
      · obtain ⟨-, A, f, hA⟩ := owns_block HOO.out g hg
        exact ko g (kt g A _ f hA (by decide))
end Put
end Go.Proofs.YtnkeahfcpbepjaaGreatDoor

/- A list of rows, anywhere in a block of such. -/
namespace Go.Proofs.YtnkeahfcpbepjaaGreatDoor
open Go.ChangeShapes Go.WideShapes Go.ChangeAt Go.RowKit
namespace Put
open Grd (C SliceAt CellsAt gridErr z0 nilV rowsL RowsAt RowB flat)
/-- The block that a slice speaks of. -/
def blkOf (v : Value) : Option Nat := match v with
  | .slice (some a) _ _ => some a.block
  | _ => none
/-- A list of rows' values, anywhere in a block of such: from N on. -/
def GoneV (W : World) (N : Nat) (v : Value) (n : Nat) (vs : List Value) : Prop :=
  vs.length = n ∧ ((n = 0 ∧ ∃ a c, v = .slice a 0 c) ∨ ∃ g o cap A, v = .slice (some ⟨g, o, none⟩) n cap ∧ N ≤ g ∧ n ≤ cap ∧ cap ≤ 9223372036854775807 ∧ W.heap[g]? = some (.cells A 22 (0, 0)) ∧ ∀ j, j < n → A[o + j]? = some (vs.getD j nilV))
theorem GoneV.of {W : World} {N : Nat} {v : Value} {n : Nat} {vs : List Value} (h : W.ownsRow N 22 1 v n vs) : GoneV W N v n vs := by
  obtain ⟨h0, ⟨rfl, rfl⟩ | ⟨g, cap, cur, rfl, hg, hh, hc, hm, hs, htk⟩⟩ := h
  · exact ⟨by simpa using h0, .inl ⟨rfl, none, 0, rfl⟩⟩
  · refine ⟨by simpa using h0, .inr ⟨g, 0, cap, cur, rfl, hg, hc, by unfold maxLen at hm; omega, hh, fun j hj => ?_⟩⟩
    have hl : vs.length = n := by simpa using h0
    rw [Nat.zero_add]
    have e : cur[j]? = vs[j]? := by rw [← htk, ← Array.getElem?_toList, List.getElem?_take_of_lt (by omega)]
    rw [e]
    simp [List.getD, List.getElem?_eq_getElem (show j < vs.length by omega)]
theorem GoneV.slice {W : World} {N : Nat} {v : Value} {n : Nat} {vs : List Value} (h : GoneV W N v n vs) : ∃ a c, v = .slice a n c := by
  obtain ⟨-, ⟨rfl, a, c, rfl⟩ | ⟨g, o, cap, A, rfl, -⟩⟩ := h
  · exact ⟨a, c, rfl⟩
  · exact ⟨_, cap, rfl⟩
theorem GoneV.kept {W W' : World} {N : Nat} {v : Value} {n : Nat} {vs : List Value} (h : GoneV W N v n vs) (hk : ∀ g, v.ownBlock = some g → W'.heap[g]? = W.heap[g]?) : GoneV W' N v n vs := by
  obtain ⟨h0, h | ⟨g, o, cap, A, hv, h1, h2, h3, h4, h5⟩⟩ := h
  · exact ⟨h0, .inl h⟩
  · exact ⟨h0, .inr ⟨g, o, cap, A, hv, h1, h2, h3, (hk g (by rw [hv]; rfl)).trans h4, h5⟩⟩
theorem GoneV.next {W W' : World} {N : Nat} {v : Value} {n : Nat} {vs : List Value} (h : GoneV W N v n vs) (hb : Below W.heap.size W W') : GoneV W' N v n vs := by
  obtain ⟨h0, h | ⟨g, o, cap, A, hv, h1, h2, h3, h4, h5⟩⟩ := h
  · exact ⟨h0, .inl h⟩
  · exact ⟨h0, .inr ⟨g, o, cap, A, hv, h1, h2, h3, Grd.carry h4 hb, h5⟩⟩
theorem GoneV.apart {W W' : World} {N p : Nat} {t : TypeId} {v : Value} {n : Nat} {vs : List Value} {A : Array Value} {f : Nat × Nat} (h : GoneV W N v n vs) (hp : W.heap[p]? = some (.cells A t f)) (ht : t ≠ 22) (ho : ∀ k, k ≠ p → W'.heap[k]? = W.heap[k]?) : GoneV W' N v n vs := by
  obtain ⟨h0, h | ⟨g, o, cap, B, hv, h1, h2, h3, h4, h5⟩⟩ := h
  · exact ⟨h0, .inl h⟩
  · refine ⟨h0, .inr ⟨g, o, cap, B, hv, h1, h2, h3, (ho g fun e => ?_).trans h4, h5⟩⟩
    rw [e, hp] at h4
    injection h4 with h4
    injection h4 with _ h4 _
    exact ht h4
theorem GoneV.rowsV {W : World} {N : Nat} {v : Value} {rows : List (List C)} {vs : List Value} (h : GoneV W N v rows.length vs) (hr : RowsL W vs rows) : RowsV W v rows := by
  obtain ⟨h0, ⟨hn, a, c, hv⟩ | ⟨g, o, cap, A, hv, h1, h2, h3, h4, h5⟩⟩ := h
  · exact .inl ⟨List.eq_nil_of_length_eq_zero hn, a, c, hv⟩
  · refine .inr ⟨g, o, cap, hv, h2, h3, fun j hj => ⟨vs.getD j nilV, ?_, hr.2 j hj⟩⟩
    simp only [World.cell?, h4]
    rw [h5 j hj]
    rfl
end Put
end Go.Proofs.YtnkeahfcpbepjaaGreatDoor

/- The reference's desk: a screen under way; Take, Give. -/
namespace Go.Proofs.YtnkeahfcpbepjaaGreatDoor
open Go.ChangeShapes Go.WideShapes Go.ChangeAt Go.RowKit
namespace Put
open Grd (C SliceAt CellsAt gridErr z0 nilV rowsL RowsAt RowB flat)
/-- A desk in memory: its block p, its rows in blocks of their own (gs), which nothing else speaks of. -/
structure DkA (W : World) (N p : Nat) (s : Scr) (rows : List (List C)) (cv tv gv rv : Value) (gvs vs : List Value) (gs : List Nat) : Prop where
  blk : W.heap[p]? = some (.cells (shA s cv tv gv rv) 50 (0, 0))
  lo : N ≤ p
  cvs : ∃ a n c, cv = .slice a n c
  tabs : W.ownsRow N 4 1 tv s.tabs.length (s.tabs.map Value.bool)
  gone : GoneV W N gv s.gone.length gvs
  gin : RowsIn W N gvs s.gone
  gof : ∀ i, i < s.gone.length → s.gone.getD i [] ≠ [] → ∀ g, blkOf (gvs.getD i nilV) = some g → g ∉ gs
  rws : W.ownsRow N 22 1 rv rows.length vs
  rin : RowsAt W N vs gs rows
  two : ∀ k, rv.ownBlock = some k → gv.ownBlock ≠ some k
def DkAt (W : World) (N p : Nat) (s : Scr) (rows : List (List C)) : Prop := ∃ cv tv gv rv gvs vs gs, DkA W N p s rows cv tv gv rv gvs vs gs
theorem DkA.next {W W' : World} {N p : Nat} {s : Scr} {rows : List (List C)} {cv tv gv rv : Value} {gvs vs : List Value} {gs : List Nat} (h : DkA W N p s rows cv tv gv rv gvs vs gs) (hb : Below W.heap.size W W') : DkA W' N p s rows cv tv gv rv gvs vs gs :=
  ⟨Grd.carry h.blk hb, h.lo, h.cvs, own_next h.tabs hb, h.gone.next hb, h.gin.keep (Kept.of_below hb), h.gof, own_next h.rws hb, h.rin.below hb, h.two⟩
theorem DkAt.next {W W' : World} {N p : Nat} {s : Scr} {rows : List (List C)} (h : DkAt W N p s rows) (hb : Below W.heap.size W W') : DkAt W' N p s rows := by
  obtain ⟨cv, tv, gv, rv, gvs, vs, gs, h⟩ := h
  exact ⟨_, _, _, _, _, _, _, h.next hb⟩
theorem DkAt.lo {W : World} {N p : Nat} {s : Scr} {rows : List (List C)} (h : DkAt W N p s rows) : N ≤ p := by
  obtain ⟨cv, tv, gv, rv, gvs, vs, gs, h⟩ := h
  exact h.lo
theorem rowB_type {W : World} {g : Nat} {v : Value} {row : List C} (h : RowB W g v row) : ∃ A, W.heap[g]? = some (.cells A 91 (0, 0)) := by
  obtain ⟨cap, rest, -, -, -, h⟩ := h
  exact ⟨_, h⟩
/-- A block that is none of the rows' keeps its number. -/
theorem RowsAt.apart {W W' : World} {N p : Nat} {vs : List Value} {gs : List Nat} {rows : List (List C)} {A : Array Value} {t : TypeId} {f : Nat × Nat} (h : RowsAt W N vs gs rows) (hp : W.heap[p]? = some (.cells A t f)) (ht : t ≠ 91) (ho : ∀ k, k ≠ p → W'.heap[k]? = W.heap[k]?) : RowsAt W' N vs gs rows :=
  h.kept fun i hi => ho _ fun e => by
    obtain ⟨B, hB⟩ := rowB_type (h.2.2.2 i hi).2
    rw [e, hp] at hB
    injection hB with hB
    injection hB with _ hB _
    exact ht hB
theorem own_apart {W W' : World} {N p : Nat} {e t : TypeId} {u : Value} {n : Nat} {xs : List Value} {A : Array Value} {f : Nat × Nat} (h : W.ownsRow N e 1 u n xs) (hp : W.heap[p]? = some (.cells A t f)) (ht : t ≠ e) (ho : ∀ k, k ≠ p → W'.heap[k]? = W.heap[k]?) : W'.ownsRow N e 1 u n xs :=
  owns_kept h fun g hg => ho g fun eq => by
    obtain ⟨-, B, f', hB⟩ := owns_block h g hg
    rw [eq, hp] at hB
    injection hB with hB
    injection hB with _ hB _
    exact ht hB
theorem Kept.apart {W W' : World} {N p : Nat} {t : TypeId} {A : Array Value} {f : Nat × Nat} (hp : W.heap[p]? = some (.cells A t f)) (ht : t ≠ 91) (hN : N ≤ p) (ho : ∀ k, k ≠ p → W'.heap[k]? = W.heap[k]?) : Kept N W W' := fun k _ hS => ho k fun e => by
  subst e
  rcases hS with hS | ⟨B, f', hS⟩
  · omega
  · rw [hp] at hS
    injection hS with hS
    injection hS with _ hS _
    exact ht hS
/-- Other words in the desk's own block, but for the tabs, the rows and what is gone. -/
theorem DkA.put {W W' : World} {N p : Nat} {s s' : Scr} {rows : List (List C)} {cv tv gv rv : Value} {gvs vs : List Value} {gs : List Nat} (h : DkA W N p s rows cv tv gv rv gvs vs gs)
    (hp : W'.heap[p]? = some (.cells (shA s' cv tv gv rv) 50 (0, 0))) (ho : ∀ k, k ≠ p → W'.heap[k]? = W.heap[k]?) (htabs : s'.tabs = s.tabs) (hgone : s'.gone = s.gone) : DkA W' N p s' rows cv tv gv rv gvs vs gs := by
  refine ⟨hp, h.lo, h.cvs, ?_, ?_, ?_, ?_, own_apart h.rws h.blk (by decide) ho, RowsAt.apart h.rin h.blk (by decide) ho, h.two⟩
  · rw [htabs]
    exact own_apart h.tabs h.blk (by decide) ho
  · rw [hgone]
    exact h.gone.apart h.blk (by decide) ho
  · rw [hgone]
    exact h.gin.keep (Kept.apart h.blk (by decide) h.lo ho)
  · rw [hgone]
    exact h.gof
theorem DkAt.set {W : World} {N p : Nat} {s s' : Scr} {rows : List (List C)} (h : DkAt W N p s rows) (i : Nat) (v : Value) (e : ∀ cv tv gv rv, (shA s cv tv gv rv).setIfInBounds i v = shA s' cv tv gv rv) (h1 : s'.tabs = s.tabs) (h2 : s'.gone = s.gone) : DkAt (W.setCell ⟨p, i, none⟩ v) N p s' rows := by
  obtain ⟨cv, tv, gv, rv, gvs, vs, gs, h⟩ := h
  exact ⟨_, _, _, _, _, _, _, h.put (store_at h.blk (e _ _ _ _)) (fun k hk => store_off hk) h1 h2⟩
/-- The words of a desk that stand for themselves. -/
theorem DkAt.words {W : World} {N p : Nat} {s : Scr} {rows : List (List C)} (h : DkAt W N p s rows) :
    W.cell? ⟨p, 0, none⟩ = some (.int .i64 s.w) ∧ W.cell? ⟨p, 1, none⟩ = some (.int .i64 s.h) ∧ W.cell? ⟨p, 3, none⟩ = some (.int .i64 s.x) ∧ W.cell? ⟨p, 4, none⟩ = some (.int .i64 s.y) ∧ W.cell? ⟨p, 5, none⟩ = some (.bool s.late) ∧ W.cell? ⟨p, 9, none⟩ = some (.int .i64 s.top) ∧ W.cell? ⟨p, 10, none⟩ = some (.int .i64 s.bot) ∧ W.cell? ⟨p, 11, none⟩ = some (.int .i64 s.modes) ∧ W.cell? ⟨p, 19, none⟩ = some (.int .i32 s.last) ∧ ∀ i, W.frozen? ⟨p, i, none⟩ = false := by
  obtain ⟨cv, tv, gv, rv, gvs, vs, gs, h⟩ := h
  obtain ⟨⟨c0, c1, -, c3, c4, c5, -, -, -, c9, c10⟩, ⟨c11, -, -, -, -, -, -, -, c19, -⟩, f⟩ := sh_cells h.blk
  exact ⟨c0, c1, c3, c4, c5, c9, c10, c11, c19, f⟩
theorem buildD_run (W : World) (s : Scr) (cv tv gv : Value) (a : Option Addr) (n c : Nat) : (Instr.build 50 #[(0, .agg (scrA s cv tv gv)), (1, .slice a n c)]).run Tryz.prog W = .ok (.agg (shA s cv tv gv (.slice a n c))) W := by
  kernel_rfl
theorem buildD_scr (a : Act) (dst : Option Tmp) (x y : Operand) (ty : TypeId) (pos : String) (after : Array Edge) (guard : Option (Nat × Bool)) (W : World) (h : IsScrV (a.eval x)) (hy : IsSliceV (a.eval y)) :
    (execOp a.eval { dst, op := .build 50 #[(0, x), (1, y)], type := ty, pos, after, guard }).run Tryz.prog W = .ok (.value (.agg (sheetOf (a.eval x) (a.eval y)))) W := by
  obtain ⟨s, cv, tv, gv, hx⟩ := h
  obtain ⟨p, n, c, hy⟩ := hy
  unfold execOp
  simp only [List.map_toArray, List.map_cons, List.map_nil, hx, hy, sheetOf_scr, Sem.run_bind, buildD_run, Sem.run_pure, Result.andThen_ok]
theorem rowsAt_ne {W : World} {N : Nat} {vs : List Value} {gs : List Nat} {rows : List (List C)} (h : RowsAt W N vs gs rows) (g : Nat) (hg : g ∈ gs) : N ≤ g ∧ g < W.heap.size := by
  obtain ⟨i, hi, rfl⟩ := List.mem_iff_getElem.1 hg
  have hi' : i < rows.length := by rw [← h.2.1]; exact hi
  have e : gs.getD i 0 = gs[i] := by simp [List.getD, hi]
  have h1 := (h.2.2.2 i hi').1
  have h2 := h.lt i hi'
  rw [e] at h1 h2
  exact ⟨h1, h2⟩
section
attribute [local go_sem ↓] load_scr buildD_scr
attribute [local go_sem] isScrV isSliceV sheetOf_scr
set_option maxHeartbeats 4000000 in
theorem take_any (n hh : Nat) (s : Scr) (cv tv gv : Value) (w0 w : World) (hV : ScrV w0 s cv tv gv) (hb0 : Below w0.heap.size w0 w) (hF : Fits s) (hw : s.w = n) (hh' : s.h = hh) (hz : gridErr n hh s.cs = 0) :
    Calls Tryz.prog 67 #[.agg (scrA s cv tv gv)] w fun e W' => ∃ p, e = .returned (.pointer (some ⟨p, 0, none⟩)) ∧ DkAt W' w.heap.size p s (rowsL n s.cs hh) ∧ Below w.heap.size w W' := by
  have hzz := (Grd.gridErr_zero n hh s.cs).1 hz
  obtain ⟨hsz, hL, -⟩ := hzz
  have hsz' : 1 ≤ (n : Int) ∧ (n : Int) ≤ 120 ∧ 1 ≤ (hh : Int) ∧ (hh : Int) ≤ 60 := by simpa [Grd.isSize] using hsz
  obtain ⟨w1, w2, w3, w4⟩ := hsz'
  have hne : s.cs ≠ [] := by
    intro e
    rw [e] at hL
    have : 1 ≤ n * hh := Nat.mul_pos (by omega) (by omega)
    simp at hL
    omega
  rcases hV.c with ⟨he, -⟩ | ⟨-, b, o, cap, rfl, hc1, hc2, hC⟩
  · exact absurd he hne
  have HL : Hid (s.cs.length = n * hh) := hL
  have HC : Hid (CellsAt w0 b o s.cs) := hC
  have HB00 : Hid (Below w0.heap.size w0 w) := hb0
  have HW : Hid (s.w = n ∧ s.h = hh) := ⟨hw, hh'⟩
  have HSZ : Hid (Grd.isSize n hh = true) := hsz
  clear hL hC hz hsz hne hw hh'
  have x0 := heap_alloc_new w (.cells (scrA s (.slice (some ⟨b, o, none⟩) s.cs.length cap) tv gv) 32)
  have kb : Below w.heap.size w (w.alloc (.cells (scrA s (.slice (some ⟨b, o, none⟩) s.cs.length cap) tv gv) 32)) := (Below.refl _ _).alloc (Nat.le_refl _) _
  have HX0 : Hid _ := x0
  have HB0 : Hid _ := kb
  have HV : Hid (ScrV w0 s _ tv gv) := hV
  have HF : Hid (Fits s) := hF
  clear x0 kb hV hF hb0
  have hl0 : w.heap.size < (w.alloc (.cells (scrA s (.slice (some ⟨b, o, none⟩) s.cs.length cap) tv gv) 32)).heap.size := by simp
  go_enter Tryz.func67, Tryz.ntmps67
  go_upto_region 1 with fail
  generalize w.alloc (.cells (scrA s (.slice (some ⟨b, o, none⟩) s.cs.length cap) tv gv) 32) = W1 at *
  go_cut [3] from 3 to 9 (fun c wx => ∃ p rv vs gs, c = .pointer (some ⟨p, 0, none⟩) ∧ w.heap.size ≤ p ∧ wx.heap[p]? = some (.cells (shA s (.slice (some ⟨b, o, none⟩) s.cs.length cap) tv gv rv) 50 (0, 0)) ∧ wx.ownsRow w.heap.size 22 1 rv hh vs ∧ RowsAt wx w.heap.size vs gs (rowsL n s.cs hh) ∧ Below W1.heap.size W1 wx)
  case first =>
    have SK : Hid (∀ w', Below W1.heap.size W1 w' → Below W1.heap.size W1 w' ∧ ScrPtr w' (.pointer (some ⟨w.heap.size, 0, none⟩)) ∧ blkAt w' (.pointer (some ⟨w.heap.size, 0, none⟩)) = scrA s (.slice (some ⟨b, o, none⟩) s.cs.length cap) tv gv ∧ w'.cell? ⟨w.heap.size, 0, none⟩ = some (.int .i64 (n : Int)) ∧ w'.cell? ⟨w.heap.size, 1, none⟩ = some (.int .i64 (hh : Int)) ∧ w'.cell? ⟨w.heap.size, 2, none⟩ = some (.slice (some ⟨b, o, none⟩) s.cs.length cap)) := fun w' hb => by
      have hx := Grd.carry HX0.out hb
      have q := scr_cells hx
      rw [HW.out.1, HW.out.2] at q
      exact ⟨hb, (scrPtr_of hx).1, (scrPtr_of hx).2, q.1.1, q.1.2.1, q.1.2.2.1⟩
    have b0 : Below W1.heap.size W1 W1.drew := (Below.refl _ _).drew
    have HC1 : Hid (s.cs.length ≤ cap) := hc1
    have hh1 : 0 < hh := by omega
    clear hc1
    go_region_held3 (fun w' => Below W1.heap.size W1 w' ∧ ScrPtr w' (.pointer (some ⟨w.heap.size, 0, none⟩)) ∧ blkAt w' (.pointer (some ⟨w.heap.size, 0, none⟩)) = scrA s (.slice (some ⟨b, o, none⟩) s.cs.length cap) tv gv ∧ w'.cell? ⟨w.heap.size, 0, none⟩ = some (.int .i64 (n : Int)) ∧ w'.cell? ⟨w.heap.size, 1, none⟩ = some (.int .i64 (hh : Int)) ∧ w'.cell? ⟨w.heap.size, 2, none⟩ = some (.slice (some ⟨b, o, none⟩) s.cs.length cap))
      (first | exact SK.out _ (c1.alloc c1.size _) | exact SK.out _ c1 | exact SK.out _ b0)
      (first | (go_at_call 125; refine (Grd.rows_any n hh b o cap s.cs W1.drew (HC.out.below (HB00.out.trans ((HB0.out.trans (b0.mono HB0.out.size)).mono HB00.out.size))) HSZ.out HL.out HC1.out).mono ?_; rintro e V1 ⟨v, vs, gs, rfl, ho, hra, b1⟩; have c1 := b0.trans (b1.mono b0.size); have HO : Hid (V1.ownsRow W1.heap.size 22 1 v hh vs) := ho; have HRA : Hid (RowsAt V1 W1.heap.size vs gs (rowsL n s.cs hh)) := hra; obtain ⟨g, cp, rfl⟩ := own_shape ho hh1; clear b1 ho hra))
    go_wp2_with fail
    go_meet
    refine ⟨V1.heap.size, _, vs, gs, rfl, Nat.le_trans (Nat.le_of_lt hl0) c1.size, heap_alloc_new _ _, Grd.ownsRow_mono (World.ownsRow.alloc HO.out _) (by omega), ?_, c1.alloc c1.size _⟩
    have h1 := HRA.out.below ((Below.refl V1.heap.size V1).alloc (Nat.le_refl _) (.cells (shA s (.slice (some ⟨b, o, none⟩) s.cs.length cap) tv gv (.slice (some ⟨g, 0, none⟩) hh cp)) 50))
    exact ⟨h1.1, h1.2.1, h1.2.2.1, fun i hi => ⟨by have := (h1.2.2.2 i hi).1; omega, (h1.2.2.2 i hi).2⟩⟩
  case rest =>
    obtain ⟨p, rv, vs, gs, rfl, hp, hblk, hown, hra, hb⟩ := hcut
    have hne : w.heap.size ≠ p := by
      intro e
      rw [← e, Grd.carry HX0.out hb] at hblk
      injection hblk with hblk
      injection hblk with _ hblk _
      exact absurd hblk (by decide)
    have HX1 : Hid _ := Grd.carry HX0.out hb
    have HP1 : Hid _ := hblk
    have HO1 : Hid _ := hown
    have HR1 : Hid (RowsAt wc w.heap.size vs gs (rowsL n s.cs hh)) := hra
    have HB1 : Hid (Below w.heap.size w wc) := HB0.out.trans (hb.mono HB0.out.size)
    have hlow : ∀ {V : World}, Below w.heap.size w V → Below w0.heap.size w0 V := fun h => HB00.out.trans (h.mono HB00.out.size)
    have HLOW : Hid (∀ {V : World}, Below w.heap.size w V → Below w0.heap.size w0 V) := hlow
    clear hblk hown hb hra hlow
    obtain ⟨-, ⟨-, c12, -⟩, -⟩ := scr_cells HX1.out
    go_wp2_with fail
    refine (cloneBools_any tv s.tabs wc (BoolsV.next HV.out.t (HLOW.out HB1.out)) HF.out.bl).mono ?_
    rintro e W2 ⟨tv', rfl, ho2, b2⟩
    obtain ⟨ta, tc, rfl⟩ := own_slice ho2
    have hp2 := Grd.carry HP1.out b2
    have f12 := (sh_cells hp2).2.2 12
    have c12' := (sh_cells hp2).2.1.2.1
    clear c12
    have HP2 : Hid _ := store_at (i := 12) (v := .slice ta s.tabs.length tc) hp2 rfl
    have HX2 : Hid _ := (store_off (i := 12) (v := .slice ta s.tabs.length tc) hne).trans (Grd.carry HX1.out b2)
    have HT2 : Hid _ := own_off (i := 12) (v := .slice ta s.tabs.length tc) ho2 hp2 (by decide)
    have HO2 : Hid _ := own_off (i := 12) (v := .slice ta s.tabs.length tc) (own_next HO1.out b2) hp2 (by decide)
    have HR2 : Hid (RowsAt (W2.setCell ⟨p, 12, none⟩ (.slice ta s.tabs.length tc)) w.heap.size vs gs (rowsL n s.cs hh)) := RowsAt.apart (HR1.out.below b2) hp2 (by decide) fun k hk => store_off hk
    have HB2 : Hid (Below w.heap.size w (W2.setCell ⟨p, 12, none⟩ (.slice ta s.tabs.length tc))) := (HB1.out.trans (b2.mono HB1.out.size)).setCell hp _
    have c21 := (scr_cells (Grd.carry HX1.out b2)).2.1.2.2.2.2.2.2.2.2.2.2
    clear ho2 b2 hp2
    go_wp2_with fail
    refine (cloneRows_any gv s.gone _ (RowsV.next HV.out.g (HLOW.out HB2.out)) HF.out.gl).mono ?_
    rintro e W6 ⟨gv', gvs, rfl, ho6, -, hr6, b6⟩
    have HR6 : Hid (RowsL w0 gvs s.gone) := hr6 w0 (HLOW.out HB2.out) HV.out.g
    obtain ⟨ga, gc, rfl⟩ := own_slice ho6
    have hp6 := Grd.carry HP2.out b6
    have f21 := (sh_cells hp6).2.2 21
    have c21' := (sh_cells hp6).2.1.2.2.2.2.2.2.2.2.2.2.1
    have HP6 : Hid _ := store_at (i := 21) (v := .slice ga s.gone.length gc) hp6 rfl
    have HT6 : Hid _ := own_off (i := 21) (v := .slice ga s.gone.length gc) (own_next HT2.out b6) hp6 (by decide)
    have HO6 : Hid _ := own_off (i := 21) (v := .slice ga s.gone.length gc) (own_next HO2.out b6) hp6 (by decide)
    have HG6 : Hid _ := own_off (i := 21) (v := .slice ga s.gone.length gc) ho6 hp6 (by decide)
    have HRA6 : Hid (RowsAt (W6.setCell ⟨p, 21, none⟩ (.slice ga s.gone.length gc)) w.heap.size vs gs (rowsL n s.cs hh)) := RowsAt.apart (HR2.out.below b6) hp6 (by decide) fun k hk => store_off hk
    have HB6 : Hid (Below w.heap.size w (W6.setCell ⟨p, 21, none⟩ (.slice ga s.gone.length gc))) := (HB2.out.trans (b6.mono HB2.out.size)).setCell hp _
    have HTW : Hid (∀ k, rv.ownBlock = some k → (Value.slice ga s.gone.length gc).ownBlock ≠ some k) := fun k h1 h2 => by
      obtain ⟨-, A, f, hA⟩ := owns_block HO2.out k h1
      obtain ⟨hB, -⟩ := owns_block ho6 k h2
      have := heap_lt hA
      omega
    clear ho6 b6 hp6 c21 c12' f12 hr6
    go_wp2_with fail
    go_ret
    have hg0 : ∀ i, i < s.gone.length → s.gone.getD i [] ≠ [] → ∀ g, blkOf (gvs.getD i nilV) = some g → g < w0.heap.size := fun i hi hne' g hg => by
      rcases HR6.out.2 i hi with ⟨he, -⟩ | ⟨-, b', o', c', hv, -, -, hC'⟩
      · exact absurd he hne'
      · rw [hv] at hg
        have e : b' = g := by simpa [blkOf] using hg
        rw [← e]
        exact lt_of_cells hC' hne'
    have hM := HB00.out.size
    have hM1 := HB1.out.size
    have hM2 := HB2.out.size
    refine ⟨p, rfl, ⟨_, _, _, rv, gvs, vs, gs, HP6.out, hp, ⟨_, _, _, rfl⟩, Grd.ownsRow_mono HT6.out hM1, GoneV.of (Grd.ownsRow_mono HG6.out hM2), ?_, fun i hi hne' g hg hm => ?_, ?_, HRA6.out, HTW.out⟩, HB6.out⟩
    · have h1 := (RowsIn.of HR6.out rfl).keep (Kept.of_below (HLOW.out HB6.out))
      refine ⟨h1.1, fun i hi => ?_⟩
      rcases h1.2 i hi with h | ⟨h2, b', o', c', h3, h4, h5, h6, h7⟩
      · exact .inl h
      · exact .inr ⟨h2, b', o', c', h3, h4, h5, h6, h7.imp (fun h => by omega) id⟩
    · have h1 := hg0 i hi hne' g hg
      have h2 := (rowsAt_ne HRA6.out g hm).1
      omega
    · rw [Grd.rowsL_len]
      exact HO6.out
end
end Put
end Go.Proofs.YtnkeahfcpbepjaaGreatDoor

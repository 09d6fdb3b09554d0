/- slices.Repeat of one cell. -/
import Derived.Test.YtnkeahfcpbepjaaGreatDoorPartD
import Derived.Laws.MakeOwn
import Derived.Deep.RegionLaw
import Derived.Lib.LaidU8
import Derived.Deep.Strs
import Derived.Deep.Slices
import Derived.ChangeSlices
import Derived.SizedLaws
import Derived.Lib.SmallJoins
import Derived.Lib.Small
import Derived.Lib.OthersKept
import Derived.Lib.DecodeN
import Derived.Lib.Strings
import Derived.Laws.ResultCell
import Derived.BigQuiet
import Derived.Deep.MidRow
namespace Go.Proofs.YtnkeahfcpbepjaaGreatDoor
open Go.ChangeShapes Go.WideShapes Go.ChangeAt Go.RowKit
namespace Grd
theorem step_copy_wide {P : Program} {ops : Array Oper} {o : Oper} {a : Act} {w : World} {K : Act → World → Prop} {Q : Exit → Act → World → Prop} {E : Prop} (hgd : o.guard = none) (d s : Operand) (dT sT : TypeId)
    (ho : o.op = .call { callee := .builtin .copy, args := #[d, s], argTypes := #[dT, sT] }) (elem : TypeId) (hu : P.underlying dT = some (.slice elem)) (k : Nat) (hsz : (P.info? elem).map (·.size) = some k)
    (g off dLen dCap : Nat) (ad : Addr) (sLen sCap : Nat) (hd : a.eval d = .slice (some ⟨g, off, none⟩) dLen dCap) (hs : a.eval s = .slice (some ad) sLen sCap)
    (cur : Array Value) (t : TypeId) (hg : w.heap[g]? = some (.cells cur t (0, 0))) (cs : List Value) (m : Nat) (hm : Nat.min sLen dLen = m) (hn : cs.length = m * k)
    (hsrc : ∀ j v, cs[j]? = some v → w.cell? (ad.add j) = some v) (hfit : off + cs.length ≤ cur.size) (h1 : ∀ v ∈ cs, v.oneCell' = true)
    (h : K (a.put o.dst (goInt m)) (w.setRow g (cur.toList.take off ++ (cs ++ cur.toList.drop (off + cs.length))).toArray)) :
    if Region.wanted o (yielded ops a.tmps) = true then Oper.wp P o a w K Q else E := by
  have hw : Region.wanted o (yielded ops a.tmps) = true := by simp [Region.wanted, hgd]
  rw [if_pos hw]
  have hrun := run_copy_wide (P := P) w dT sT o.type elem g off dLen dCap ad sLen sCap k cur t cs hu hsz hg (by rw [hm]; exact hn) hsrc hfit h1
  rw [hm] at hrun
  unfold Oper.wp
  simp [execOp, ho, resolve, invoke, builtin, hd, hs, hrun, Result.andThen, Oper.upon]
  simpa using h
theorem und_cells : Tryz.prog.underlying 22 = some (.slice 91) := by kernel_rfl
theorem size_cell : (Tryz.prog.info? 91).map (·.size) = some 4 := by kernel_rfl
theorem info_cell : (Tryz.prog.info? 91).map (fun i => (i.zero, i.size, i.bytes)) = some (some (.agg #[.int .i32 0, .int .i64 0, .int .i64 0, .int .i64 0]), 4, 32) := by kernel_rfl
theorem make_cells (N : Nat) (hN : N ≤ 1000000) (w : World) :
    (Instr.makeSlice 22 (.int .i64 (N : Int)) (.int .i64 (N : Int))).run Tryz.prog w = .ok (.slice (some ⟨w.heap.size, 0, none⟩) N N) (w.alloc (.cells (madeCells #[.int .i32 0, .int .i64 0, .int .i64 0, .int .i64 0] (N * 4)) 91)) := by
  obtain ⟨i, hi, hzz⟩ := Option.map_eq_some_iff.1 info_cell
  simp only [Prod.mk.injEq] at hzz
  obtain ⟨hz, hs, hb⟩ := hzz
  have hr := run_make (P := Tryz.prog) w 22 91 i _ und_cells hi hz .i64 .i64 N N (by omega) (Int.le_refl _) (by rw [hb]; omega) (by omega)
  simp only [Int.toNat_natCast, hs] at hr
  exact hr
theorem rep_add (c : C) (a b : Nat) : List.replicate a c ++ List.replicate b c = List.replicate (a + b) c := by simp
theorem copy_step (c : C) (m mn : Nat) (rest : List Value) : (flat (List.replicate m c) ++ rest).take (m * 4) ++ (flat (List.replicate mn c) ++ (flat (List.replicate m c) ++ rest).drop (m * 4 + (flat (List.replicate mn c)).length)) = flat (List.replicate (m + mn) c) ++ rest.drop (mn * 4) := by
  have hl : (flat (List.replicate m c)).length = m * 4 := by rw [flat_len]; simp
  have hl2 : (flat (List.replicate mn c)).length = mn * 4 := by rw [flat_len]; simp
  rw [List.take_left' hl, hl2, List.drop_append, ← rep_add, flat_append, List.append_assoc, List.drop_of_length_le (by rw [hl]; omega), hl, Nat.add_sub_cancel_left]
  rfl
theorem flat_src {w : World} {g : Nat} {cs : List C} {rest : List Value} {t : TypeId} (h : w.heap[g]? = some (.cells (flat cs ++ rest).toArray t (0, 0))) (ds : List Value) (hd : ∃ r, flat cs = ds ++ r) :
    ∀ j v, ds[j]? = some v → w.cell? ((⟨g, 0, none⟩ : Addr).add j) = some v := by
  intro j v hj
  obtain ⟨r, hr⟩ := hd
  have hlt := (List.getElem?_eq_some_iff.1 hj).1
  rw [add_plain, Nat.zero_add]
  unfold World.cell?
  rw [h, hr]
  simp [List.getElem?_append_left hlt, List.append_assoc, hj]
theorem copy_to {P : Program} (w : World) (dT sT ty elem : TypeId) (g o dLen dCap : Nat) (a : Addr) (sLen sCap k m : Nat) (L : List Value) (t : TypeId) (cs : List Value)
    (hu : P.underlying dT = some (.slice elem)) (hs : (P.info? elem).map (·.size) = some k)
    (hg : w.heap[g]? = some (.cells L.toArray t (0, 0))) (hm : Nat.min sLen dLen = m) (hn : cs.length = m * k)
    (hsrc : ∀ j v, cs[j]? = some v → w.cell? (a.add j) = some v) (hfit : o + cs.length ≤ L.length) (h1 : ∀ v ∈ cs, v.oneCell' = true) :
    ∃ W', (Builtin.copy_ #[dT, sT] ty #[.slice (some ⟨g, o, none⟩) dLen dCap, .slice (some a) sLen sCap]).run P w = .ok (.int .i64 (m : Int)) W' ∧
      W'.heap[g]? = some (.cells (L.take o ++ (cs ++ L.drop (o + cs.length))).toArray t (0, 0)) ∧ ∀ B w0, Below B w0 w → B ≤ g → Below B w0 W' := by
  have hrun := run_copy_wide (P := P) w dT sT ty elem g o dLen dCap a sLen sCap k L.toArray t cs hu hs hg (by rw [hm]; exact hn) hsrc (by simpa using hfit) h1
  rw [hm] at hrun
  refine ⟨_, hrun, ?_, fun B w0 hb hB => below_setRow hb hB _⟩
  simpa using setRow_heap w g _ _ t _ hg
set_option maxHeartbeats 2000000 in
set_option maxRecDepth 100000 in
theorem repeat_one (b o cx N : Nat) (c : C) (w : World) (hC : CellsAt w b o [c]) (h1 : 1 ≤ N) (hN : N ≤ 7200) :
    Calls Tryz.prog 98 #[.slice (some ⟨b, o, none⟩) 1 cx, .int .i64 (N : Int)] w fun e w' => ∃ v', e = .returned v' ∧ OwnG w' w.heap.size v' (List.replicate N c) ∧ Below w.heap.size w w' := by
  obtain ⟨h0, hf, hb, hx⟩ := hC 0 (by simp)
  have hmk := make_cells N (by omega)
  have hmul : Hid (Calls Tryz.prog 143 #[.int .u64 1, .int .u64 (N : Int)] w fun e w' => e = .returned (.tuple #[.int .u64 0, .int .u64 (N : Int)]) ∧ w = w') := by
    have := Tryz.bits_Mul 1 N (by omega) (by omega) w
    rw [Nat.one_mul, Nat.div_eq_of_lt (by omega), Nat.mod_eq_of_lt (by omega)] at this
    exact this.mono fun e w' ⟨he, hw⟩ => ⟨he, hw.symm⟩
  obtain ⟨A, hA⟩ : ∃ A, A = madeCells #[.int .i32 0, .int .i64 0, .int .i64 0, .int .i64 0] (N * 4) := ⟨_, rfl⟩
  have hAs : A.size = N * 4 := by rw [hA, size_madeCells]
  rw [← hA] at hmk
  clear hA hC
  have hmin : Nat.min 1 N = 1 := Nat.min_eq_left h1
  have hone : ∀ v ∈ words c, v.oneCell' = true := fun v hv => flat_one [c] v (by simpa [flat] using hv)
  have hfit : 0 + (words c).length ≤ A.size := by rw [hAs]; simp [words]; omega
  have hsrc : ∀ j v, (words c)[j]? = some v → (w.alloc (.cells A 91)).cell? ((⟨b, o, none⟩ : Addr).add j) = some v := fun j v hj => by
    have hlt := (List.getElem?_eq_some_iff.1 hj).1
    have kb : Below w.heap.size w (w.alloc (.cells A 91)) := (Below.refl _ _).alloc (Nat.le_refl _) _
    rw [add_plain]
    refine cell_keep kb ?_
    have hl4 : j < 4 := by simpa [words] using hlt
    have e : o + 0 * 4 = o := by omega
    rw [e] at h0 hf hb hx
    match j, hl4 with
    | 0, _ => rw [← hj]; exact h0
    | 1, _ => rw [← hj]; exact hf
    | 2, _ => rw [← hj]; exact hb
    | 3, _ => rw [← hj]; exact hx
  clear h0 hf hb hx
  obtain ⟨W2, hcp, hW2, hB2⟩ := copy_to (P := Tryz.prog) (w.alloc (.cells A 91)) 22 22 3 91 w.heap.size 0 N N ⟨b, o, none⟩ 1 cx 4 1 A.toList 91 (words c) und_cells size_cell (heap_alloc_new _ _) hmin rfl hsrc (by simpa using hfit) hone
  have k2 : Below w.heap.size w W2 := hB2 _ _ ((Below.refl _ _).alloc (Nat.le_refl _) _) (Nat.le_refl _)
  have hW : ∃ rest : List Value, rest.length = (N - 1) * 4 ∧ W2.heap[w.heap.size]? = some (.cells (flat (List.replicate 1 c) ++ rest).toArray 91 (0, 0)) := by
    refine ⟨A.toList.drop 4, by simp [hAs]; omega, ?_⟩
    rw [hW2]
    rfl
  clear hW2 hB2 hsrc hfit hone hmin
  go_enter Tryz.func98, Tryz.ntmps98
  go_wp2_with (first | (go_at_call 143; refine hmul.out.mono ?_; rintro e W1 ⟨rfl, rfl⟩))
  go_loopg [8] N (fun g n wr => ∃ (m : Nat) (rest : List Value), n = .int .i64 (m : Int) ∧ 1 ≤ m ∧ m ≤ N ∧ N - m ≤ g ∧ rest.length = (N - m) * 4 ∧ Below w.heap.size w wr ∧ wr.heap[w.heap.size]? = some (.cells (flat (List.replicate m c) ++ rest).toArray 91 (0, 0)))
  case atStart =>
    obtain ⟨rest, hr, hh⟩ := hW
    exact ⟨1, rest, rfl, by omega, by omega, by omega, hr, k2, hh⟩
  case round =>
    obtain ⟨m, rest, rfl, hm1, hmN, hg, hr, hb, hh⟩ := hrel
    clear hW hcp k2 hmk
    by_cases hlt : m < N
    · obtain ⟨mn, hmn⟩ : ∃ mn, Nat.min m (N - m) = mn := ⟨_, rfl⟩
      have hle : mn ≤ m ∧ mn ≤ N - m ∧ 1 ≤ mn := by
        have e : Nat.min m (N - m) = min m (N - m) := rfl
        rw [e] at hmn
        omega
      obtain ⟨hl1, hl2, hl3⟩ := hle
      have hmn' : Nat.min m (N - m) = mn := hmn
      obtain ⟨W3, hcp, hW3, hB3⟩ := copy_to (P := Tryz.prog) wr.drew 22 22 3 91 w.heap.size (m * 4) (N - m) (N - m) ⟨w.heap.size, 0, none⟩ m N 4 mn (flat (List.replicate m c) ++ rest) 91 (flat (List.replicate mn c)) und_cells size_cell hh hmn' (by rw [flat_len]; simp) (flat_src (w := wr.drew) hh _ ⟨flat (List.replicate (m - mn) c), by rw [← flat_append, rep_add, Nat.add_sub_cancel' hl1]⟩) (by rw [List.length_append, flat_len, flat_len]; simp; omega) (flat_one _)
      rw [copy_step] at hW3
      have k3 : Below w.heap.size w W3 := hB3 _ _ hb.drew (Nat.le_refl _)
      clear hmn hmn' hB3
      go_wp2_with fail
      go_region
      go_wp2_with fail
      go_roundg (N - (m + mn))
      case measure => omega
      case rel => exact ⟨m + mn, rest.drop (mn * 4), by simp, by omega, by omega, by omega, by rw [List.length_drop, hr]; omega, k3, hW3⟩
    · have hmE : m = N := by omega
      subst hmE
      go_wp2_with fail
      go_ret
      refine ⟨_, rfl, ⟨w.heap.size, m, rest, ⟨91, rfl⟩, ?_, Nat.le_refl _, by simp, by omega, hh⟩, hb⟩
      simp
set_option maxHeartbeats 2000000 in
set_option maxRecDepth 100000 in
theorem repeat_zero (b o cx : Nat) (c : C) (w : World) (hC : CellsAt w b o [c]) :
    Calls Tryz.prog 98 #[.slice (some ⟨b, o, none⟩) 1 cx, .int .i64 0] w fun e w' => ∃ v', e = .returned v' ∧ OwnG w' w.heap.size v' [] ∧ Below w.heap.size w w' := by
  obtain ⟨h0, hf, hb, hx⟩ := hC 0 (by simp)
  have hmk := make_cells 0 (by omega)
  have hmul : Hid (Calls Tryz.prog 143 #[.int .u64 1, .int .u64 0] w fun e w' => e = .returned (.tuple #[.int .u64 0, .int .u64 0]) ∧ w = w') := by
    have := Tryz.bits_Mul 1 0 (by omega) (by omega) w
    exact this.mono fun e w' ⟨he, hw⟩ => ⟨he, hw.symm⟩
  obtain ⟨A, hA⟩ : ∃ A, A = madeCells #[.int .i32 0, .int .i64 0, .int .i64 0, .int .i64 0] (0 * 4) := ⟨_, rfl⟩
  have hAs : A.size = 0 * 4 := by rw [hA, size_madeCells]
  rw [← hA] at hmk
  replace hmk : ∀ w : World, (Instr.makeSlice 22 (.int .i64 0) (.int .i64 0)).run Tryz.prog w = .ok (.slice (some ⟨w.heap.size, 0, none⟩) 0 0) (w.alloc (.cells A 91)) := hmk
  clear hA hC h0 hf hb hx
  obtain ⟨W2, hcp, hW2, hB2⟩ := copy_to (P := Tryz.prog) (w.alloc (.cells A 91)) 22 22 3 91 w.heap.size 0 0 0 ⟨b, o, none⟩ 1 cx 4 0 A.toList 91 [] und_cells size_cell (heap_alloc_new _ _) rfl rfl (fun j v hj => by simp at hj) (by simp) (fun v hv => by simp at hv)
  have k2 : Below w.heap.size w W2 := hB2 _ _ ((Below.refl _ _).alloc (Nat.le_refl _) _) (Nat.le_refl _)
  have hW : ∃ rest : List Value, W2.heap[w.heap.size]? = some (.cells (flat [] ++ rest).toArray 91 (0, 0)) := ⟨A.toList, by rw [hW2]; simp [flat]⟩
  clear hW2 hB2
  go_enter Tryz.func98, Tryz.ntmps98
  go_wp2_with (first | (go_at_call 143; refine hmul.out.mono ?_; rintro e W1 ⟨rfl, rfl⟩))
  go_loopg [8] 0 (fun g n wr => n = .int .i64 0 ∧ Below w.heap.size w wr ∧ ∃ rest : List Value, wr.heap[w.heap.size]? = some (.cells (flat [] ++ rest).toArray 91 (0, 0)))
  case atStart => exact ⟨rfl, k2, hW⟩
  case round =>
    obtain ⟨rfl, hb, rest, hh⟩ := hrel
    clear hW hcp k2 hmk
    go_wp2_with fail
    go_ret
    exact ⟨_, rfl, ⟨w.heap.size, 0, rest, ⟨91, rfl⟩, rfl, Nat.le_refl _, by simp, by omega, hh⟩, hb⟩
end Grd
end Go.Proofs.YtnkeahfcpbepjaaGreatDoor

/- A grid, a cell, a rectangle out of what the row reads. -/
namespace Go.Proofs.YtnkeahfcpbepjaaGreatDoor
open Go.ChangeShapes Go.WideShapes Go.ChangeAt Go.RowKit
namespace Grd
theorem i64_in {x : Int} (h : (Lit.int .i64 x).wf = true) : -9223372036854775808 ≤ x ∧ x ≤ 9223372036854775807 := by
  have e1 : IntKind.i64.min = -9223372036854775808 := rfl
  have e2 : IntKind.i64.max = 9223372036854775807 := rfl
  simpa [Lit.wf, e1, e2] using h
theorem i32_in {x : Int} (h : (Lit.int .i32 x).wf = true) : -2147483648 ≤ x ∧ x ≤ 2147483647 := by
  have e1 : IntKind.i32.min = -2147483648 := rfl
  have e2 : IntKind.i32.max = 2147483647 := rfl
  simpa [Lit.wf, e1, e2] using h
def CIn (c : C) : Prop := (-2147483648 ≤ c.1 ∧ c.1 ≤ 2147483647) ∧ (-9223372036854775808 ≤ c.2.1 ∧ c.2.1 ≤ 9223372036854775807) ∧ (-9223372036854775808 ≤ c.2.2.1 ∧ c.2.2.1 ≤ 9223372036854775807) ∧ (-9223372036854775808 ≤ c.2.2.2 ∧ c.2.2.2 ≤ 9223372036854775807)
section
variable {H : Type} {enc : TypeId × Value → H} {W : World} {base : Nat} {spare : Nat → Bool} {held : Bool}
theorem open_style {fuel : Nat} {vs : List Value} {y : DataW H × List MemPlace} (h : DataW.trod enc Tryz.prog W base spare held fuel 26 vs = some y) :
    ∃ f b x : Int, vs = [.int .i64 f, .int .i64 b, .int .i64 x] ∧ (-9223372036854775808 ≤ f ∧ f ≤ 9223372036854775807) ∧ (-9223372036854775808 ≤ b ∧ b ≤ 9223372036854775807) ∧ (-9223372036854775808 ≤ x ∧ x ≤ 9223372036854775807) ∧ y.1 = .agg [.lit (.int .i64 f), .lit (.int .i64 b), .lit (.int .i64 x)] := by
  obtain ⟨y0, y1, y2, n, hy, hl, e0, e1, e2⟩ := Deep.trod_struct3 Tryz.underlying26 h
  rw [show Tryz.prog.cellsOf 26 = 3 by kernel_rfl] at hl
  simp only [show Tryz.prog.cellsOf 3 = 1 by kernel_rfl] at e0 e1 e2
  obtain ⟨f, k0, h0, w0⟩ := DataW.trod_int Tryz.underlying3 e0
  obtain ⟨b, k1, h1, w1⟩ := DataW.trod_int Tryz.underlying3 e1
  obtain ⟨x, k2, h2, w2⟩ := DataW.trod_int Tryz.underlying3 e2
  match vs, hl with
  | [a, b', c], _ =>
    simp at k0 k1 k2
    subst k0 k1 k2
    exact ⟨f, b, x, rfl, i64_in w0, i64_in w1, i64_in w2, by rw [hy, h0, h1, h2]⟩
theorem open_cell {fuel : Nat} {vs : List Value} {y : DataW H × List MemPlace} (h : DataW.trod enc Tryz.prog W base spare held fuel 91 vs = some y) :
    ∃ c : C, vs = words c ∧ CIn c ∧ y.1 = .agg [.lit (.int .i32 c.1), .agg [.lit (.int .i64 c.2.1), .lit (.int .i64 c.2.2.1), .lit (.int .i64 c.2.2.2)]] := by
  obtain ⟨y0, y1, n, hy, hl, e0, e1⟩ := trod_struct2 Tryz.underlying91 h
  rw [show Tryz.prog.cellsOf 91 = 4 by kernel_rfl] at hl
  simp only [show Tryz.prog.cellsOf 21 = 1 by kernel_rfl] at e0
  simp only [show Tryz.prog.cellsOf 26 = 3 by kernel_rfl] at e1
  obtain ⟨r, k0, h0, w0⟩ := DataW.trod_int Tryz.underlying21 e0
  obtain ⟨f, b, x, k1, wf, wb, wx, h1⟩ := open_style e1
  match vs, hl with
  | [a, b', c, d], _ =>
    simp at k0 k1
    obtain ⟨rfl, rfl, rfl⟩ := k1
    subst k0
    exact ⟨(r, f, b, x), rfl, ⟨i32_in w0, wf, wb, wx⟩, by rw [hy, h0, h1]⟩
/-- A slice of cells, out of what the row reads. -/
theorem open_cells {fuel : Nat} {v : Value} {y : DataW H × List MemPlace} (h : DataW.trod enc Tryz.prog W 0 (fun _ => true) true fuel 22 [v] = some y) :
    ∃ cs : List C, SliceAt W v cs ∧ (∀ c ∈ cs, CIn c) ∧ (cs = [] ∨ ∃ elems sp, y.1 = .slice elems sp ∧ cs.length = elems.length) := by
  rcases Deep.open_slice und_cells h with ⟨hcs, _⟩ | ⟨a, len, cap, m, n, D, Pl, hcs, _, hl, hm, hmm, rfl, hx⟩
  · simp at hcs
    subst hcs
    exact ⟨[], .inl ⟨rfl, _, _, rfl⟩, by simp, .inl rfl⟩
  · simp at hcs
    subst hcs
    simp only [if_true] at hmm
    rw [show Tryz.prog.cellsOf 91 = 4 by kernel_rfl] at hx
    obtain ⟨f, hf⟩ := Deep.choose_lt (α := C) (p := fun i c => (∀ j, j < 4 → W.cell? ((a.add (i * 4)).add j) = (words c)[j]?) ∧ CIn c) (n := len) (fun i hi => by
      obtain ⟨cs', h1, h2⟩ := hx i (by omega)
      obtain ⟨_, _, hc⟩ := World.cells?_some h1
      obtain ⟨c, rfl, hin, _⟩ := open_cell h2
      exact ⟨c, hc, hin⟩)
    refine ⟨(List.range len).map f, ?_, ?_, .inr ⟨_, _, rfl, by simp⟩⟩
    · by_cases h0 : len = 0
      · subst h0
        exact .inl ⟨by simp, _, _, rfl⟩
      · obtain ⟨b, off, spot⟩ := a
        have hspot : spot = none := by
          have := (hf 0 (by omega)).1 0 (by omega)
          simpa [Addr.add] using World.cell?_spot this
        subst hspot
        have hlen : ((List.range len).map f).length = len := by simp
        refine .inr ⟨fun e => by rw [e] at hlen; simp at hlen; omega, b, off, cap, by rw [hlen], by omega, by unfold maxLen at hm; omega, fun j hj => ?_⟩
        rw [hlen] at hj
        have hg : ((List.range len).map f).getD j z0 = f j := by simp [List.getD, hj]
        rw [hg]
        have hc := (hf j hj).1
        have c0 := hc 0 (by omega)
        have c1 := hc 1 (by omega)
        have c2 := hc 2 (by omega)
        have c3 := hc 3 (by omega)
        rw [add_plain, add_plain] at c0 c1 c2 c3
        exact ⟨c0, c1, c2, c3⟩
    · intro c hc
      simp only [List.mem_map, List.mem_range] at hc
      obtain ⟨i, hi, rfl⟩ := hc
      exact (hf i hi).2
set_option maxRecDepth 100000 in
theorem open_grid {r : Reach} {b0 : Nat} {v : Value} {d : DataW H} {p : List MemPlace} (hv : Value.okWide Tryz.prog W r b0 24 v) (h : DataW.Trod enc Tryz.prog W 0 (fun _ => true) true 24 v d p) :
    ∃ (a q : Int) (u : Value) (cs : List C), v = .agg #[.int .i64 a, .int .i64 q, u] ∧ (-9223372036854775808 ≤ a ∧ a ≤ 9223372036854775807) ∧ (-9223372036854775808 ≤ q ∧ q ≤ 9223372036854775807) ∧ SliceAt W u cs ∧ (∀ c ∈ cs, CIn c) ∧ (cs = [] ∨ ∃ d0 d1 elems sp, d = .agg [d0, d1, .slice elems sp] ∧ cs.length = elems.length) := by
  obtain ⟨e0, e1, e2, y0, y1, y2, n, rfl, hd, _, t0, t1, t2⟩ := Joins.open_agg3 Tryz.underlying24 (by kernel_rfl) (by kernel_rfl) hv h
  obtain ⟨a, k0, _, w0⟩ := DataW.trod_int Tryz.underlying3 t0
  obtain ⟨q, k1, _, w1⟩ := DataW.trod_int Tryz.underlying3 t1
  obtain ⟨cs, hs, hin, hz⟩ := open_cells t2
  obtain rfl : e0 = _ := by simpa using k0
  obtain rfl : e1 = _ := by simpa using k1
  refine ⟨a, q, e2, cs, rfl, i64_in w0, i64_in w1, hs, hin, ?_⟩
  rcases hz with h | ⟨el, sp, hy, hl⟩
  · exact .inl h
  · exact .inr ⟨_, _, el, sp, by rw [hd, hy], hl⟩
theorem sized_grid {ts : List TypeId} {ds : List (DataW H)} {j : Nat} {d : DataW H} {cs : List C} (h : (DataW.weightsEach Tryz.prog ts ds).all (· ≤ reachBytes) = true) (ht : ts[j]? = some 24) (hd : ds[j]? = some d) (hz : cs = [] ∨ ∃ d0 d1 elems sp, d = .agg [d0, d1, .slice elems sp] ∧ cs.length = elems.length) : cs.length * 32 ≤ 140737488351232 := by
  rcases hz with rfl | ⟨d0, d1, el, sp, rfl, hl⟩
  · simp
  · have hm : (el.length + sp.length) * Tryz.prog.bytesOf 91 ∈ (DataW.agg [d0, d1, .slice el sp] : DataW H).weights Tryz.prog 24 := by
      unfold DataW.weights
      rw [Tryz.underlying24]
      simp only [List.map_cons, List.map_nil, DataW.weightsEach, List.mem_append]
      right; right; left
      unfold DataW.weights
      rw [und_cells]
      exact List.mem_cons_self ..
    have := of_decide_eq_true (List.all_eq_true.1 h _ (DataW.weights_mem_each ht hd _ hm))
    rw [show Tryz.prog.bytesOf 91 = 32 by kernel_rfl, reachBytes] at this
    rw [hl]
    omega
set_option maxRecDepth 100000 in
set_option maxRecDepth 100000 in
theorem open_cellV {r : Reach} {b0 : Nat} {v : Value} {d : DataW H} {p : List MemPlace} (hv : Value.okWide Tryz.prog W r b0 91 v) (h : DataW.Trod enc Tryz.prog W 0 (fun _ => true) true 91 v d p) :
    ∃ (a b c e : Int), v = .agg #[.int .i32 a, .int .i64 b, .int .i64 c, .int .i64 e] ∧ CIn (a, b, c, e) := by
  obtain ⟨cs, rfl, hsz⟩ := okWide_struct Tryz.underlying91 hv
  obtain ⟨fuel, hf⟩ := h
  obtain ⟨⟨a, b, c, e⟩, hcs, hin, _⟩ := open_cell hf
  refine ⟨a, b, c, e, ?_, hin⟩
  have : cs.toList = words (a, b, c, e) := hcs
  rw [← Array.toArray_toList (xs := cs), this]
  rfl
end
end Grd
end Go.Proofs.YtnkeahfcpbepjaaGreatDoor

/- Plain mathematics on the runes of a text, over the model's own decoding of UTF-8: no program is named. -/
namespace Go.Proofs.YtnkeahfcpbepjaaGreatDoor
namespace Txt

/-- The runes of s from place pos on, each with how many bytes it takes; at most so many. -/
def rs (s : ByteArray) : Nat → Nat → List (Int × Nat)
  | 0, _ => []
  | f + 1, pos => if pos < s.size then (((Utf8.decode s pos).1 : Int), (Utf8.decode s pos).2) :: rs s f (pos + (Utf8.decode s pos).2) else []
def runes (s : ByteArray) : List (Int × Nat) := rs s s.size 0
def wideL : List (Int × Nat) → Int
  | [] => 0
  | x :: t => wd x.1 + wideL t
def wideS (s : ByteArray) : Int := wideL (runes s)
/-- How many bytes of a text's runes are left when it is cut: 'w' cells have been taken. -/
def cutL (n : Int) : List (Int × Nat) → Int → Nat
  | [], _ => 0
  | x :: t, w => if n < w + wd x.1 then 0 else x.2 + cutL n t (w + wd x.1)
def cutS (s : ByteArray) (n : Int) : List UInt8 := s.data.toList.take (cutL n (runes s) 0)

theorem width_pos (s : ByteArray) (pos : Nat) (h : pos < s.size) : 1 ≤ (Utf8.decode s pos).2 := by
  by_cases ha : (s[pos]'h).toNat < 128
  · rw [decode_ascii s pos h ha]
    exact Nat.le_refl _
  · exact (decode_high s pos h (by omega)).2
theorem rs_end (s : ByteArray) (f pos : Nat) (h : ¬ pos < s.size) : rs s f pos = [] := by
  cases f with
  | zero => rfl
  | succ f => simp [rs, h]
theorem rs_step (s : ByteArray) (f pos : Nat) (h : pos < s.size) : rs s (f + 1) pos = (((Utf8.decode s pos).1 : Int), (Utf8.decode s pos).2) :: rs s f (pos + (Utf8.decode s pos).2) := by
  simp [rs, h]
theorem decode_fits (s : ByteArray) (pos : Nat) (h : pos < s.size) : pos + (Utf8.decode s pos).2 ≤ s.size := by
  simp only [Utf8.decode]
  repeat' split
  all_goals simp_all
  all_goals omega
theorem wideL_range : ∀ l : List (Int × Nat), 0 ≤ wideL l ∧ wideL l ≤ 2 * l.length
  | [] => by simp [wideL]
  | x :: t => by
    have := wideL_range t
    have := wd_range x.1
    simp only [wideL, List.length_cons]
    omega
theorem rs_length (s : ByteArray) : ∀ f pos : Nat, pos ≤ s.size → (rs s f pos).length + pos ≤ s.size
  | 0, _, h => by simpa [rs] using h
  | f + 1, pos, h => by
    by_cases hp : pos < s.size
    · have h1 := rs_length s f (pos + (Utf8.decode s pos).2) (decode_fits s pos hp)
      have h2 := width_pos s pos hp
      rw [rs_step s f pos hp, List.length_cons]
      omega
    · rw [rs_end s _ pos hp]; simpa using h
theorem wideS_range (s : ByteArray) : 0 ≤ wideS s ∧ wideS s ≤ 2 * s.size := by
  have h1 := wideL_range (runes s)
  have h2 := rs_length s s.size 0 (Nat.zero_le _)
  unfold wideS
  unfold runes at h1 ⊢
  omega
end Txt
end Go.Proofs.YtnkeahfcpbepjaaGreatDoor

/- The walk of text.Wide. -/
namespace Go.Proofs.YtnkeahfcpbepjaaGreatDoor
open Go.ChangeShapes Go.WideShapes Go.ChangeAt Go.RowKit
namespace Txt

end Txt
end Go.Proofs.YtnkeahfcpbepjaaGreatDoor

/- The walk of text.Cut. -/
namespace Go.Proofs.YtnkeahfcpbepjaaGreatDoor
open Go.ChangeShapes Go.WideShapes Go.ChangeAt Go.RowKit
namespace Txt
theorem ret_str {a b : ByteArray} (h : a = b) : Ending.returned (.string a) = .returned (.string b) := by rw [h]

set_option maxHeartbeats 400000 in
theorem clone_any (s : ByteArray) (w : World) (hs : s.size ≤ 281474976710656) :
    Calls Tryz.prog 131 #[.string s] w fun e w' => e = .returned (.string s) ∧ Below w.heap.size w w' := by
  go_enter Tryz.func131, Tryz.ntmps131
  go_wp2_with (go_at_call 157; refine (Tryz.stringslite_Clone _ _ hs).mono ?_; rintro e W1 ⟨rfl, b1⟩)
  go_ret
  exact ⟨rfl, b1⟩
theorem extract_take (s : ByteArray) (k : Nat) : s.extract 0 k = ⟨(s.data.toList.take k).toArray⟩ := by
  rw [Lib.extract_eq]; simp
theorem extract_size_le (s : ByteArray) (k : Nat) : (s.extract 0 k).size ≤ s.size := by
  simp; omega

end Txt
end Go.Proofs.YtnkeahfcpbepjaaGreatDoor

/- Plain mathematics on lists of bytes and their runes: cutting a text at the end of a rune. No program is named. -/
namespace Go.Proofs.YtnkeahfcpbepjaaGreatDoor
namespace Txt

/-- The first rune of a list of bytes, and how many of them it takes. -/
def dec (l : List UInt8) : Nat × Nat := Lib.decodeN l.length (l.getD 0 0).toNat (l.getD 1 0).toNat (l.getD 2 0).toNat (l.getD 3 0).toNat

theorem get_drop (s : ByteArray) (i k : Nat) : s.get! (i + k) = (s.data.toList.drop i).getD k 0 := by
  show s.data[i + k]! = _
  rw [List.getD_eq_getElem?_getD, List.getElem?_drop, Array.getElem?_toList, getElem!_def]
  cases s.data[i + k]? <;> rfl
theorem decode_dec (s : ByteArray) (pos : Nat) : Utf8.decode s pos = dec (s.data.toList.drop pos) := by
  rw [Lib.decode_at]
  unfold dec
  rw [show s.get! pos = s.get! (pos + 0) from rfl, get_drop, get_drop, get_drop, get_drop]
  simp

/-- The runes of a list of bytes. -/
def rl : Nat → List UInt8 → List (Int × Nat)
  | 0, _ => []
  | f + 1, l => if l = [] then [] else (((dec l).1 : Int), (dec l).2) :: rl f (l.drop (dec l).2)
def rn (l : List UInt8) : List (Int × Nat) := rl l.length l

theorem rs_rl (s : ByteArray) : ∀ f pos : Nat, rs s f pos = rl f (s.data.toList.drop pos)
  | 0, _ => rfl
  | f + 1, pos => by
    by_cases h : pos < s.size
    · rw [rs_step s f pos h, rs_rl s f]
      have hne : s.data.toList.drop pos ≠ [] := by
        intro e
        have := congrArg List.length e
        simp at this
        omega
      simp only [rl, if_neg hne, ← decode_dec, List.drop_drop]
    · rw [rs_end s _ pos h]
      have he : s.data.toList.drop pos = [] := List.drop_eq_nil_iff.2 (by simp; omega)
      simp [rl, he]
theorem runes_rn (s : ByteArray) : runes s = rn s.data.toList := by
  unfold runes rn
  rw [rs_rl]
  simp

theorem decN_ascii (n b0 b1 b2 b3 : Nat) (h : b0 < 128) : Lib.decodeN n b0 b1 b2 b3 = (b0, 1) := by
  simp [Lib.decodeN, h]
theorem decN_one (b0 b1 b2 b3 n : Nat) (hn : n ≤ 1) (h : ¬ b0 < 128) : Lib.decodeN n b0 b1 b2 b3 = (65533, 1) := by
  have h1 : ¬ 1 < n := by omega
  simp [Lib.decodeN, h, h1]
theorem decN_pos (n b0 b1 b2 b3 : Nat) : 1 ≤ (Lib.decodeN n b0 b1 b2 b3).2 := by
  unfold Lib.decodeN
  repeat' split
  all_goals simp
theorem decN_le (n b0 b1 b2 b3 : Nat) (hn : 1 ≤ n) : (Lib.decodeN n b0 b1 b2 b3).2 ≤ n := by
  unfold Lib.decodeN
  repeat' split
  all_goals simp
  all_goals omega
theorem decN_mono (n n' b0 b1 b2 b3 c1 c2 c3 : Nat) (hn : n' ≤ n) (hp : 1 ≤ n') (h1 : 1 < n' → c1 = b1) (h2 : 2 < n' → c2 = b2) (h3 : 3 < n' → c3 = b3)
    (hk : (Lib.decodeN n b0 b1 b2 b3).2 ≤ n') : Lib.decodeN n' b0 c1 c2 c3 = Lib.decodeN n b0 b1 b2 b3 := by
  by_cases a : b0 < 128
  · rw [decN_ascii _ _ _ _ _ a, decN_ascii _ _ _ _ _ a]
  · unfold Lib.decodeN at hk ⊢
    rw [if_neg a] at hk
    rw [if_neg a, if_neg a]
    by_cases p2 : b0 / 32 = 6
    · have q3 : ¬ b0 / 16 = 14 := by omega
      have q4 : ¬ b0 / 8 = 30 := by omega
      simp only [p2, q3, q4, true_and, false_and, if_false] at hk ⊢
      by_cases k1 : 1 < n'
      · rw [h1 k1]
        simp [k1, show 1 < n by omega]
      · simp only [k1, false_and, if_false]
        split at hk
        · split at hk
          · exfalso; simp at hk; omega
          · rename_i e1 e2
            rw [if_pos e1, if_neg e2]
        · rename_i e1
          rw [if_neg e1]
    · by_cases p3 : b0 / 16 = 14
      · have q4 : ¬ b0 / 8 = 30 := by omega
        simp only [p2, p3, q4, true_and, false_and, if_false] at hk ⊢
        by_cases k2 : 2 < n'
        · rw [h1 (by omega), h2 k2]
          simp [k2, show 1 < n' by omega, show 1 < n by omega, show 2 < n by omega]
        · simp only [k2, false_and, and_false, if_false]
          split at hk
          · split at hk
            · exfalso; simp at hk; omega
            · rename_i e1 e2
              rw [if_pos e1, if_neg e2]
          · rename_i e1
            rw [if_neg e1]
      · by_cases p4 : b0 / 8 = 30
        · simp only [p2, p3, p4, true_and, false_and, if_false] at hk ⊢
          by_cases k3 : 3 < n'
          · rw [h1 (by omega), h2 (by omega), h3 k3]
            simp [k3, show 1 < n' by omega, show 2 < n' by omega, show 1 < n by omega, show 2 < n by omega, show 3 < n by omega]
          · simp only [k3, false_and, and_false, if_false]
            split at hk
            · split at hk
              · exfalso; simp at hk; omega
              · rename_i e1 e2
                rw [if_pos e1, if_neg e2]
            · rename_i e1
              rw [if_neg e1]
        · simp [p2, p3, p4]

theorem dec_pos (l : List UInt8) : 1 ≤ (dec l).2 := decN_pos _ _ _ _ _
theorem dec_le (l : List UInt8) (h : l ≠ []) : (dec l).2 ≤ l.length := decN_le _ _ _ _ _ (by cases l <;> simp_all)
/-- A list that goes on behind its first rune begins with that rune. -/
theorem dec_prefix (a b : List UInt8) (ha : a ≠ []) (h : (dec (a ++ b)).2 ≤ a.length) : dec a = dec (a ++ b) := by
  have hl : 1 ≤ a.length := by cases a <;> simp_all
  have hg : ∀ k, k < a.length → (a ++ b).getD k 0 = a.getD k 0 := by
    intro k hk
    rw [List.getD_eq_getElem?_getD, List.getD_eq_getElem?_getD, List.getElem?_append_left hk]
  unfold dec at h ⊢
  rw [hg 0 (by omega)] at h ⊢
  exact decN_mono _ _ _ _ _ _ _ _ _ (by simp) hl (fun k => by rw [hg 1 k]) (fun k => by rw [hg 2 k]) (fun k => by rw [hg 3 k]) h
end Txt
end Go.Proofs.YtnkeahfcpbepjaaGreatDoor

/- Plain mathematics on cut texts: what is kept, what is left, blanks behind. No program is named. -/
namespace Go.Proofs.YtnkeahfcpbepjaaGreatDoor
namespace Txt

theorem rl_nil (f : Nat) : rl f [] = [] := by cases f <;> rfl
theorem rl_cons (f : Nat) (l : List UInt8) (h : l ≠ []) : rl (f + 1) l = (((dec l).1 : Int), (dec l).2) :: rl f (l.drop (dec l).2) := by
  simp [rl, h]
theorem length_pos_of_ne {l : List UInt8} (h : l ≠ []) : 1 ≤ l.length := by cases l <;> simp_all
/-- How many rounds one allows makes no difference, if they are enough. -/
theorem rl_fuel : ∀ (f g : Nat) (l : List UInt8), l.length ≤ f → l.length ≤ g → rl f l = rl g l
  | f, g, [], _, _ => by rw [rl_nil, rl_nil]
  | 0, _, x :: t, hf, _ => by simp at hf
  | _ + 1, 0, x :: t, _, hg => by simp at hg
  | f + 1, g + 1, x :: t, hf, hg => by
    rw [rl_cons f _ (by simp), rl_cons g _ (by simp)]
    have hp := dec_pos (x :: t)
    rw [rl_fuel f g _ (by simp only [List.length_drop]; simp at hf ⊢; omega) (by simp only [List.length_drop]; simp at hg ⊢; omega)]
theorem rn_nil : rn [] = [] := rfl
theorem rn_cons (l : List UInt8) (h : l ≠ []) : rn l = (((dec l).1 : Int), (dec l).2) :: rn (l.drop (dec l).2) := by
  unfold rn
  have h1 := length_pos_of_ne h
  have hp := dec_pos l
  rw [show l.length = (l.length - 1) + 1 from by omega, rl_cons _ _ h]
  rw [rl_fuel (l.length - 1) (l.drop (dec l).2).length _ (by simp only [List.length_drop]; omega) (Nat.le_refl _)]

theorem wideL_append : ∀ a b : List (Int × Nat), wideL (a ++ b) = wideL a + wideL b
  | [], b => by simp [wideL]
  | x :: t, b => by simp only [List.cons_append, wideL, wideL_append t b]; omega

/-- The runes that are kept by a cut, and those that are left. -/
def keepL (n : Int) : List (Int × Nat) → Int → List (Int × Nat)
  | [], _ => []
  | x :: t, w => if n < w + wd x.1 then [] else x :: keepL n t (w + wd x.1)
def leftL (n : Int) : List (Int × Nat) → Int → List (Int × Nat)
  | [], _ => []
  | x :: t, w => if n < w + wd x.1 then x :: t else leftL n t (w + wd x.1)
theorem keep_left (n : Int) : ∀ (l : List (Int × Nat)) (w : Int), keepL n l w ++ leftL n l w = l
  | [], _ => rfl
  | x :: t, w => by
    unfold keepL leftL
    split
    · rfl
    · simp [keep_left n t]
theorem keep_wide (n : Int) : ∀ (l : List (Int × Nat)) (w : Int), w ≤ n → w + wideL (keepL n l w) ≤ n
  | [], w, h => by simpa [keepL, wideL] using h
  | x :: t, w, h => by
    unfold keepL
    split
    · simpa [wideL] using h
    · have := keep_wide n t (w + wd x.1) (by omega)
      simp only [wideL]
      omega
theorem keep_neg (n : Int) (h : n < 0) (l : List (Int × Nat)) : keepL n l 0 = [] ∧ cutL n l 0 = 0 := by
  cases l with
  | nil => exact ⟨rfl, rfl⟩
  | cons x t =>
    have := wd_range x.1
    unfold keepL cutL
    rw [if_pos (by omega), if_pos (by omega)]
    exact ⟨rfl, rfl⟩
theorem keep_again (n : Int) : ∀ (l : List (Int × Nat)) (w : Int), cutL n (keepL n l w) w = cutL n l w
  | [], _ => rfl
  | x :: t, w => by
    unfold keepL
    by_cases h : n < w + wd x.1
    · simp [cutL, h]
    · simp [cutL, h, keep_again n t]
theorem cut_le (n : Int) : ∀ (l : List UInt8) (w : Int), cutL n (rn l) w ≤ l.length := by
  intro l
  generalize hk : l.length = k
  induction k using Nat.strongRecOn generalizing l with
  | ind k ih =>
    intro w
    by_cases hl : l = []
    · subst hl; simp [rn_nil, cutL]
    · have h1 := dec_le l hl
      have h2 := dec_pos l
      rw [rn_cons l hl]
      unfold cutL
      split
      · omega
      · have := ih (l.drop (dec l).2).length (by simp only [List.length_drop]; omega) (l.drop (dec l).2) rfl (w + wd (dec l).1)
        simp only [List.length_drop] at this
        simp only
        omega
/-- A text that is cut has the runes that are kept; the rest has those that are left. -/
theorem cut_runes (n : Int) : ∀ (l : List UInt8) (w : Int), rn (l.take (cutL n (rn l) w)) = keepL n (rn l) w ∧ rn (l.drop (cutL n (rn l) w)) = leftL n (rn l) w := by
  intro l
  generalize hk : l.length = k
  induction k using Nat.strongRecOn generalizing l with
  | ind k ih =>
    intro w
    by_cases hl : l = []
    · subst hl; exact ⟨rfl, rfl⟩
    · have h1 := dec_le l hl
      have h2 := dec_pos l
      rw [rn_cons l hl]
      unfold cutL keepL leftL
      by_cases hn : n < w + wd (dec l).1
      · simp only [hn, if_true]
        refine ⟨by simp [rn_nil], ?_⟩
        rw [List.drop_zero, rn_cons l hl]
      · simp only [hn, if_false]
        have hi := ih (l.drop (dec l).2).length (by simp only [List.length_drop]; omega) (l.drop (dec l).2) rfl (w + wd (dec l).1)
        have hc := cut_le n (l.drop (dec l).2) (w + wd (dec l).1)
        generalize hq : cutL n (rn (l.drop (dec l).2)) (w + wd (dec l).1) = q at *
        have hd : dec (l.take ((dec l).2 + q)) = dec l := by
          have := dec_prefix (l.take ((dec l).2 + q)) (l.drop ((dec l).2 + q)) (by
            intro e
            have := congrArg List.length e
            simp only [List.length_take, List.length_nil] at this
            have := length_pos_of_ne hl
            omega) (by rw [List.take_append_drop]; simp only [List.length_take]; omega)
          rwa [List.take_append_drop] at this
        have hne : l.take ((dec l).2 + q) ≠ [] := by
          intro e
          have := congrArg List.length e
          simp only [List.length_take, List.length_nil] at this
          have := length_pos_of_ne hl
          omega
        constructor
        · rw [rn_cons _ hne, hd, ← hi.1, List.drop_take]
          rw [show (dec l).2 + q - (dec l).2 = q from by omega]
        · rw [← hi.2, List.drop_drop]

/-- Cutting twice is cutting once. -/
theorem cut_again (n : Int) (l : List UInt8) : (l.take (cutL n (rn l) 0)).take (cutL n (rn (l.take (cutL n (rn l) 0))) 0) = l.take (cutL n (rn l) 0) := by
  rw [(cut_runes n l 0).1, keep_again, List.take_take, Nat.min_self]

/-- Bytes below 128 behind a text: its last rune stays as it is. -/
theorem decN_behind (n m b0 b1 b2 b3 c1 c2 c3 : Nat) (hn : n ≤ m) (hp : 1 ≤ n) (h1 : 1 < n → c1 = b1) (h2 : 2 < n → c2 = b2) (h3 : 3 < n → c3 = b3)
    (g1 : ¬ 1 < n → c1 < 128) (g2 : ¬ 2 < n → c2 < 128) (g3 : ¬ 3 < n → c3 < 128) : Lib.decodeN m b0 c1 c2 c3 = Lib.decodeN n b0 b1 b2 b3 := by
  unfold Lib.decodeN
  by_cases a : b0 < 128
  · simp [a]
  · simp only [if_neg a]
    by_cases k1 : 1 < n
    · rw [h1 k1]
      by_cases k2 : 2 < n
      · rw [h2 k2]
        by_cases k3 : 3 < n
        · rw [h3 k3]
          simp only [k1, k2, k3, show 1 < m by omega, show 2 < m by omega, show 3 < m by omega]
        · have e3 : ¬ c3 / 64 = 2 := by have := g3 k3; omega
          simp only [k1, k2, k3, show 1 < m by omega, show 2 < m by omega, e3, false_and, and_false, if_false]
      · have e2 : ¬ c2 / 64 = 2 := by have := g2 k2; omega
        have k3 : ¬ 3 < n := by omega
        simp only [k1, k2, k3, show 1 < m by omega, e2, false_and, and_false, if_false]
    · have e1 : ¬ c1 / 64 = 2 := by have := g1 k1; omega
      have k2 : ¬ 2 < n := by omega
      have k3 : ¬ 3 < n := by omega
      simp only [k1, k2, k3, e1, false_and, and_false, if_false]
theorem dec_behind (a b : List UInt8) (ha : a ≠ []) (hb : ∀ x ∈ b, x.toNat < 128) : dec (a ++ b) = dec a := by
  have hl := length_pos_of_ne ha
  have hg : ∀ k, k < a.length → (a ++ b).getD k 0 = a.getD k 0 := by
    intro k hk
    rw [List.getD_eq_getElem?_getD, List.getD_eq_getElem?_getD, List.getElem?_append_left hk]
  have hs : ∀ k, ¬ k < a.length → ((a ++ b).getD k 0).toNat < 128 := by
    intro k hk
    rw [List.getD_eq_getElem?_getD, List.getElem?_append_right (by omega)]
    cases hq : b[k - a.length]? with
    | none => simp
    | some x => exact hb x (List.mem_of_getElem? hq)
  unfold dec
  rw [hg 0 (by omega)]
  exact decN_behind _ _ _ _ _ _ _ _ _ (by simp) hl (fun k => by rw [hg 1 k]) (fun k => by rw [hg 2 k]) (fun k => by rw [hg 3 k]) (hs 1) (hs 2) (hs 3)
theorem rn_behind : ∀ (a b : List UInt8), (∀ x ∈ b, x.toNat < 128) → rn (a ++ b) = rn a ++ rn b := by
  intro a
  generalize hk : a.length = k
  induction k using Nat.strongRecOn generalizing a with
  | ind k ih =>
    intro b hb
    by_cases ha : a = []
    · subst ha; simp [rn_nil]
    · have h1 := dec_le a ha
      have h2 := dec_pos a
      rw [rn_cons (a ++ b) (by simp [ha]), dec_behind a b ha hb, List.drop_append_of_le_length h1, rn_cons a ha]
      rw [ih (a.drop (dec a).2).length (by simp only [List.length_drop]; omega) (a.drop (dec a).2) rfl b hb]
      rfl
theorem rn_blank (k : Nat) : rn (List.replicate k 32) = List.replicate k (32, 1) := by
  induction k with
  | zero => rfl
  | succ k ih =>
    rw [List.replicate_succ, rn_cons _ (by simp)]
    have hd : dec (32 :: List.replicate k 32) = (32, 1) := by
      unfold dec
      rw [decN_ascii _ _ _ _ _ (by simp)]
      rfl
    rw [hd, List.replicate_succ]
    simp only [List.drop_succ_cons, List.drop_zero, ih]
    rfl
theorem wide_blank : ∀ k : Nat, wideL (List.replicate k ((32 : Int), 1)) = k
  | 0 => rfl
  | k + 1 => by
    rw [List.replicate_succ]
    simp only [wideL, wide_blank k]
    rw [show wd 32 = 1 from by decide]
    omega

/-- A text that is cut, then filled with blanks. -/
def fitL (l : List UInt8) (n : Int) : List UInt8 := l.take (cutL n (rn l) 0) ++ List.replicate (n - wideL (rn (l.take (cutL n (rn l) 0)))).toNat 32
theorem cut_wide (n : Int) (h : 0 ≤ n) (l : List UInt8) : 0 ≤ wideL (rn (l.take (cutL n (rn l) 0))) ∧ wideL (rn (l.take (cutL n (rn l) 0))) ≤ n := by
  rw [(cut_runes n l 0).1]
  have := keep_wide n (rn l) 0 h
  have := wideL_range (keepL n (rn l) 0)
  omega
theorem fit_wide (n : Int) (h : 0 ≤ n) (l : List UInt8) : wideL (rn (fitL l n)) = n := by
  unfold fitL
  rw [rn_behind _ _ (by intro x hx; rw [List.eq_of_mem_replicate hx]; decide), wideL_append, rn_blank, wide_blank]
  have := cut_wide n h l
  omega
/-- What fits wholly is not cut. -/
theorem cut_all (n : Int) : ∀ (l : List UInt8) (w : Int), w + wideL (rn l) ≤ n → cutL n (rn l) w = l.length := by
  intro l
  generalize hk : l.length = k
  induction k using Nat.strongRecOn generalizing l with
  | ind k ih =>
    intro w hw
    by_cases hl : l = []
    · subst hl; simp at hk; simp [rn_nil, cutL, hk]
    · have h1 := dec_le l hl
      have h2 := dec_pos l
      rw [rn_cons l hl] at hw ⊢
      simp only [wideL] at hw
      have hr := wideL_range (rn (l.drop (dec l).2))
      unfold cutL
      rw [if_neg (by simp only; omega)]
      have := ih (l.drop (dec l).2).length (by simp only [List.length_drop]; omega) (l.drop (dec l).2) rfl (w + wd (dec l).1) (by omega)
      simp only [List.length_drop] at this
      simp only
      omega
theorem fit_again (n : Int) (h : 0 ≤ n) (l : List UInt8) : (fitL l n).take (cutL n (rn (fitL l n)) 0) = fitL l n := by
  rw [cut_all n (fitL l n) 0 (by rw [fit_wide n h l]; omega), List.take_length]
theorem cut_parts (n : Int) (l : List UInt8) : wideL (rn (l.take (cutL n (rn l) 0))) + wideL (rn (l.drop (cutL n (rn l) 0))) = wideL (rn l) := by
  rw [(cut_runes n l 0).1, (cut_runes n l 0).2, ← wideL_append, keep_left]
theorem cut_small (n : Int) (l : List UInt8) : n < 0 ∨ wideL (rn (l.take (cutL n (rn l) 0))) ≤ n := by
  by_cases h : n < 0
  · exact Or.inl h
  · exact Or.inr (cut_wide n (by omega) l).2
end Txt
end Go.Proofs.YtnkeahfcpbepjaaGreatDoor

/- The walks of text.Cut, text.Wide and text.Fit, said of lists of bytes; and of trellislaw.written. -/
namespace Go.Proofs.YtnkeahfcpbepjaaGreatDoor
open Go.ChangeShapes Go.WideShapes Go.ChangeAt Go.RowKit
namespace Txt
def cutB (l : List UInt8) (n : Int) : List UInt8 := l.take (cutL n (rn l) 0)
def wideB (l : List UInt8) : Int := wideL (rn l)
def fitB (l : List UInt8) (n : Int) : List UInt8 := if n < 0 ∨ 120 < n then [] else fitL l n
def bs (l : List UInt8) : ByteArray := ⟨l.toArray⟩
theorem bs_size (l : List UInt8) : (bs l).size = l.length := by simp [bs, ByteArray.size]
theorem bs_data (l : List UInt8) : (bs l).data.toList = l := by simp [bs]
theorem bs_self (s : ByteArray) : bs s.data.toList = s := by cases s; simp [bs]
theorem bs_append (a b : List UInt8) : bs a ++ bs b = bs (a ++ b) := by
  apply ByteArray.ext
  simp [bs]
theorem cutB_length (l : List UInt8) (n : Int) : (cutB l n).length ≤ l.length := by simp [cutB]; omega

end Txt
end Go.Proofs.YtnkeahfcpbepjaaGreatDoor

/- The table of spans as the row lists it: its cells. -/
namespace Go.Proofs.YtnkeahfcpbepjaaGreatDoor
open Go.ChangeShapes Go.WideShapes Go.ChangeAt Go.RowKit
namespace Txt
theorem slices3 : ∀ (l : List (Int × Int × Int)) (cs : List Value), cs.length = 3 * l.length → (∀ i x, l[i]? = some x → (cs.drop (i * 3)).take 3 = cell3 x) → cs = l.flatMap cell3
  | [], cs, hl, _ => by simpa using hl
  | x :: t, cs, hl, h => by
    have h0 := h 0 x rfl
    have ht := slices3 t (cs.drop 3) (by simp only [List.length_drop, List.length_cons] at hl ⊢; omega) (fun i y hy => by
      have := h (i + 1) y (by simpa using hy)
      rw [List.drop_drop]
      rwa [show 3 + i * 3 = (i + 1) * 3 from by omega])
    simp only [Nat.zero_mul, List.drop_zero] at h0
    rw [List.flatMap_cons, ← ht, ← h0, List.take_append_drop]
theorem laid_eq {H : Type} : (Rows.laid_trellis_text_spans : DataW H) = .agg (spans.map fun x => .agg [.lit (.int .i32 x.1), .lit (.int .i32 x.2.1), .lit (.int .i64 x.2.2)]) := rfl
theorem tab_of_reads {w : World} (h : Lib.VarReads Tryz.prog w "trellis/text.spans" Rows.laid_trellis_text_spans) : Tab w := by
  obtain ⟨g, t, cs, fuel, p, hg, hty, hvar, hd⟩ := h
  obtain rfl := Option.some.inj ((show Tryz.prog.globalNamed "trellis/text.spans" = some 0 by kernel_rfl).symm.trans hg)
  obtain rfl := Option.some.inj ((show (Tryz.prog.globals[0]?).map (fun x => x.type) = some 134 by kernel_rfl).symm.trans hty)
  have hlen : cs.toList.length = 63 := by
    obtain ⟨xs, m, _, _, hl, _, _⟩ := DataW.trod_array Tryz.underlying134 hd
    rw [hl]; kernel_rfl
  rw [laid_eq] at hd
  have hcs : cs.toList = spans.flatMap cell3 := by
    refine slices3 spans cs.toList (by rw [hlen]; rfl) (fun i x hx => ?_)
    have hi : i < 21 := (List.getElem?_eq_some_iff.1 hx).1
    obtain ⟨fuel', d, q, hdi, he⟩ := Lib.array_elem Tryz.underlying134 hd i hi
    rw [List.getElem?_map, hx] at hdi
    obtain rfl := Option.some.inj hdi
    rw [show Tryz.prog.cellsOf 133 = 3 by kernel_rfl] at he
    obtain ⟨y0, y1, y2, n, hy, hl, e0, e1, e2⟩ := Deep.trod_struct3 Tryz.underlying133 he
    rw [show Tryz.prog.cellsOf 133 = 3 by kernel_rfl] at hl
    generalize (cs.toList.drop (i * 3)).take 3 = c3 at *
    simp only [Prod.mk.injEq, DataW.agg.injEq, List.cons.injEq, and_true] at hy
    obtain ⟨⟨g0, g1, g2⟩, _⟩ := hy
    simp only [show Tryz.prog.cellsOf 21 = 1 by kernel_rfl, show Tryz.prog.cellsOf 3 = 1 by kernel_rfl] at e0 e1 e2
    obtain ⟨z0, k0, rfl, _⟩ := DataW.trod_int Tryz.underlying21 e0
    obtain ⟨z1, k1, rfl, _⟩ := DataW.trod_int Tryz.underlying21 e1
    obtain ⟨z2, k2, rfl, _⟩ := DataW.trod_int Tryz.underlying3 e2
    match c3, hl with
    | [a, b, c], _ =>
      simp at k0 k1 k2 g0 g1 g2
      subst k0 k1 k2 g0 g1 g2
      rfl
  unfold World.var? at hvar
  rw [hg] at hvar
  simp only [Option.bind_some] at hvar
  split at hvar
  · rename_i c tt fr hh
    obtain rfl := Option.some.inj hvar
    have hc : c = spanCells := by unfold spanCells; rw [← hcs]
    exact ⟨tt, fr, by rw [hh, hc]⟩
  · cases hvar
end Txt
end Go.Proofs.YtnkeahfcpbepjaaGreatDoor

/- grid.New and the reference's NewGrid. -/
namespace Go.Proofs.YtnkeahfcpbepjaaGreatDoor
open Go.ChangeShapes Go.WideShapes Go.ChangeAt Go.RowKit
namespace Grd
def blank : C := (32, 0, 0, 0)
theorem results_row_tmp {P : Program} {fn : Func} {p u : Tmp} {ty : TypeId} (h : fn.results = #[.cell p ty, .tmp u]) (tmps : Array Value) (w : World) (g : Nat) (t : TypeId) (cs : Array Value) (fr : Nat × Nat) (d : TypeDesc)
    (hp : tmps.getD p undef = .pointer (some ⟨g, 0, none⟩)) (hg : w.heap[g]? = some (.cells cs t fr))
    (hu : P.underlying ty = some d) (hd : (match d with | .struct _ | .array _ _ => true | _ => false) = true) (hi : (P.info? ty).map (·.size) = some cs.size) (v : Value) (hv : tmps.getD u undef = v) :
    (results fn tmps).run P w = .ok (.tuple #[.agg cs, v]) w := by
  rw [results_cell_tmp h, hp, hv]
  simp [asAddr, run_loadVar_row w g t ty cs fr d hg hu hd hi, Result.andThen]
theorem one3v (a b : Int) (x : Option Addr) (n c : Nat) : (#[.int .i64 a, .int .i64 b, .slice x n c] : Array Value).all (·.oneCell') = true := by simp [Value.oneCell']
set_option maxHeartbeats 1000000 in
theorem new_bad (a h : Int) (w : World) (hs : isSize a h = false) :
    Calls Tryz.prog 128 #[.int .i64 a, .int .i64 h] w fun e w' => e = .returned (.tuple #[.agg #[.int .i64 0, .int .i64 0, .slice none 0 0], .int .i64 3]) ∧ Below w.heap.size w w' := by
  have H : Hid (isSize a h = false) := hs
  clear hs
  go_enter Tryz.func128, Tryz.ntmps128
  go_wp2_with (go_at_call 132; refine (isSize_to a h _ H.out _).mono ?_; rintro e W1 ⟨rfl, rfl⟩)
  refine bodyPost_ret (v := .tuple #[.agg #[.int .i64 0, .int .i64 0, .slice none 0 0], .int .i64 3]) ?_ rfl ⟨rfl, (Below.refl _ _).alloc (Nat.le_refl _) _⟩
  exact results_row_tmp rfl _ _ w.heap.size _ _ _ _ rfl (heap_alloc_new _ _) Tryz.underlying24 rfl (by kernel_rfl) _ rfl
set_option maxHeartbeats 1000000 in
theorem new_good (a q : Int) (w : World) (hs : isSize a q = true) :
    Calls Tryz.prog 128 #[.int .i64 a, .int .i64 q] w fun e w' => ∃ v, e = .returned (.tuple #[.agg #[.int .i64 a, .int .i64 q, v], .int .i64 0]) ∧ OwnG w' w.heap.size v (List.replicate (a * q).toNat blank) ∧ Below w.heap.size w w' := by
  have H : Hid (isSize a q = true) := hs
  have ⟨p0, p1, p2, p3, p4, p5⟩ := prod_in a q hs
  clear hs
  obtain ⟨N, hN⟩ := Int.eq_ofNat_of_zero_le p0
  have hN1 : 1 ≤ N := by
    have : 1 * 1 ≤ a * q := Int.mul_le_mul p2 p4 (by omega) (by omega)
    omega
  have hN2 : N ≤ 7200 := by omega
  clear p0 p1
  go_enter Tryz.func128, Tryz.ntmps128
  have hk : Below w.heap.size w ((w.alloc (.cells #[.int .i64 0, .int .i64 0, .slice none 0 0] 24)).alloc (.cells #[.int .i32 32, .int .i64 0, .int .i64 0, .int .i64 0] 91)) := ((Below.refl _ _).alloc (Nat.le_refl _) _).alloc (by simp) _
  have hcl : CellsAt ((w.alloc (.cells #[.int .i64 0, .int .i64 0, .slice none 0 0] 24)).alloc (.cells #[.int .i32 32, .int .i64 0, .int .i64 0, .int .i64 0] 91)) (w.heap.size + 1) 0 [blank] := by
    refine cellsAt_flat (rest := []) (t := 91) ?_
    exact heap_alloc2_new w _ _
  have hbk : ((w.alloc (.cells #[.int .i64 0, .int .i64 0, .slice none 0 0] 24)).alloc (.cells #[.int .i32 32, .int .i64 0, .int .i64 0, .int .i64 0] 91)).heap[w.heap.size]? = some (.cells #[.int .i64 0, .int .i64 0, .slice none 0 0] 24 (0, 0)) := (Below.heap_alloc _ _ _ (by simp)).trans (heap_alloc_new _ _)
  have HK := repeat_one (w.heap.size + 1) 0 1 N blank _ hcl hN1 hN2
  generalize hW0 : ((w.alloc (.cells #[.int .i64 0, .int .i64 0, .slice none 0 0] 24)).alloc (.cells #[.int .i32 32, .int .i64 0, .int .i64 0, .int .i64 0] 91)) = W0 at HK hk hbk hcl
  have HK' : Hid (Calls Tryz.prog 98 #[.slice (some ⟨w.heap.size + 1, 0, none⟩) 1 1, .int .i64 (N : Int)] W0 fun e w' => ∃ v', e = .returned v' ∧ OwnG w' W0.heap.size v' (List.replicate N blank) ∧ Below W0.heap.size W0 w') := HK
  have HW0 : Hid (((w.alloc (.cells #[.int .i64 0, .int .i64 0, .slice none 0 0] 24)).alloc (.cells #[.int .i32 32, .int .i64 0, .int .i64 0, .int .i64 0] 91)) = W0) := hW0
  clear HK hcl hW0
  go_wp2_with (first
    | (go_at_call 132; refine (isSize_to a q _ H.out _).mono ?_; rintro e W1 ⟨rfl, rfl⟩)
    | (go_at_call 98; rw [HW0.out]; refine HK'.out.mono ?_; rintro e W2 ⟨v, rfl, ⟨g, cap, rest, t, rfl, hgb, hlc, hcm, hgh⟩, b2⟩; have hr := carry hbk b2)
    | (refine wpList_store_row rfl 24 (.tmp 4) _ rfl w.heap.size #[.int .i64 a, .int .i64 q, .slice (some ⟨g, 0, none⟩) N cap] rfl rfl _ _ hr (by kernel_rfl) rfl (one3v _ _ _ _ _) ?_))
  (try simp only [Exit.inBlock, Exit.then])
  have hl : (List.replicate N blank).length = N := by simp
  rw [hl] at hlc
  refine bodyPost_ret (v := .tuple #[.agg #[.int .i64 a, .int .i64 q, .slice (some ⟨g, 0, none⟩) N cap], .int .i64 0]) ?_ rfl ⟨_, rfl, ⟨g, cap, rest, t, by rw [hN, Int.toNat_natCast, hl], by have := hk.size; omega, by rw [hN, Int.toNat_natCast, hl]; exact hlc, hcm, ?_⟩, below_setRow (hk.trans (b2.mono hk.size)) (Nat.le_refl _) _⟩
  · exact results_row_tmp rfl _ _ w.heap.size _ _ _ _ rfl (setRow_heap _ _ _ _ _ _ hr) Tryz.underlying24 rfl (by kernel_rfl) _ rfl
  · rw [hN, Int.toNat_natCast, setRow_other _ _ _ _ (by have := hk.size; have := blk_lt hbk; omega)]
    exact hgh
end Grd
end Go.Proofs.YtnkeahfcpbepjaaGreatDoor

/- The reference's NewGrid; noGrid, size. -/
namespace Go.Proofs.YtnkeahfcpbepjaaGreatDoor
open Go.ChangeShapes Go.WideShapes Go.ChangeAt Go.RowKit
namespace Grd
set_option maxHeartbeats 1000000 in
theorem newGrid_any (a q : Int) (w : World) (hs : isSize a q = true) :
    Calls Tryz.prog 146 #[.int .i64 a, .int .i64 q] w fun e w' => ∃ v, e = .returned (.agg #[.int .i64 a, .int .i64 q, v]) ∧ OwnG w' w.heap.size v (List.replicate (a * q).toNat blank) ∧ Below w.heap.size w w' := by
  have ⟨p0, p1, p2, p3, p4, p5⟩ := prod_in a q hs
  clear hs
  obtain ⟨N, hN⟩ := Int.eq_ofNat_of_zero_le p0
  have hN1 : 1 ≤ N := by
    have : 1 * 1 ≤ a * q := Int.mul_le_mul p2 p4 (by omega) (by omega)
    omega
  have hN2 : N ≤ 7200 := by omega
  clear p0 p1
  go_enter Tryz.func146, Tryz.ntmps146
  have hk : Below w.heap.size w ((w.alloc (.cells #[.int .i64 0, .int .i64 0, .slice none 0 0] 24)).alloc (.cells #[.int .i32 32, .int .i64 0, .int .i64 0, .int .i64 0] 91)) := ((Below.refl _ _).alloc (Nat.le_refl _) _).alloc (by simp) _
  have hcl : CellsAt ((w.alloc (.cells #[.int .i64 0, .int .i64 0, .slice none 0 0] 24)).alloc (.cells #[.int .i32 32, .int .i64 0, .int .i64 0, .int .i64 0] 91)) (w.heap.size + 1) 0 [blank] := by
    refine cellsAt_flat (rest := []) (t := 91) ?_
    exact heap_alloc2_new w _ _
  have hbk : ((w.alloc (.cells #[.int .i64 0, .int .i64 0, .slice none 0 0] 24)).alloc (.cells #[.int .i32 32, .int .i64 0, .int .i64 0, .int .i64 0] 91)).heap[w.heap.size]? = some (.cells #[.int .i64 0, .int .i64 0, .slice none 0 0] 24 (0, 0)) := (Below.heap_alloc _ _ _ (by simp)).trans (heap_alloc_new _ _)
  have HK := repeat_one (w.heap.size + 1) 0 1 N blank _ hcl hN1 hN2
  generalize hW0 : ((w.alloc (.cells #[.int .i64 0, .int .i64 0, .slice none 0 0] 24)).alloc (.cells #[.int .i32 32, .int .i64 0, .int .i64 0, .int .i64 0] 91)) = W0 at HK hk hbk hcl
  have HK' : Hid (Calls Tryz.prog 98 #[.slice (some ⟨w.heap.size + 1, 0, none⟩) 1 1, .int .i64 (N : Int)] W0 fun e w' => ∃ v', e = .returned v' ∧ OwnG w' W0.heap.size v' (List.replicate N blank) ∧ Below W0.heap.size W0 w') := HK
  have HW0 : Hid (((w.alloc (.cells #[.int .i64 0, .int .i64 0, .slice none 0 0] 24)).alloc (.cells #[.int .i32 32, .int .i64 0, .int .i64 0, .int .i64 0] 91)) = W0) := hW0
  clear HK hcl hW0
  go_wp2_with (first
    | (go_at_call 98; rw [HW0.out]; refine HK'.out.mono ?_; rintro e W2 ⟨v, rfl, ⟨g, cap, rest, t, rfl, hgb, hlc, hcm, hgh⟩, b2⟩; have hr := carry hbk b2)
    | (refine wpList_store_row rfl 24 (.tmp 4) _ rfl w.heap.size #[.int .i64 a, .int .i64 q, .slice (some ⟨g, 0, none⟩) N cap] rfl rfl _ _ hr (by kernel_rfl) rfl (one3v _ _ _ _ _) ?_))
  (try simp only [Exit.inBlock, Exit.then])
  have hl : (List.replicate N blank).length = N := by simp
  rw [hl] at hlc
  refine bodyPost_ret (v := .agg #[.int .i64 a, .int .i64 q, .slice (some ⟨g, 0, none⟩) N cap]) ?_ rfl ⟨_, rfl, ⟨g, cap, rest, t, by rw [hN, Int.toNat_natCast, hl], by have := hk.size; omega, by rw [hN, Int.toNat_natCast, hl]; exact hlc, hcm, ?_⟩, below_setRow (hk.trans (b2.mono hk.size)) (Nat.le_refl _) _⟩
  · exact results_cell_row rfl _ _ w.heap.size _ _ _ _ rfl (setRow_heap _ _ _ _ _ _ hr) Tryz.underlying24 rfl (by kernel_rfl)
  · rw [hN, Int.toNat_natCast, setRow_other _ _ _ _ (by have := hk.size; have := blk_lt hbk; omega)]
    exact hgh
end Grd
end Go.Proofs.YtnkeahfcpbepjaaGreatDoor

/- slices.Equal of cells that read alike; SameGrid. -/
namespace Go.Proofs.YtnkeahfcpbepjaaGreatDoor
open Go.ChangeShapes Go.WideShapes Go.ChangeAt Go.RowKit
namespace Grd
theorem neq_cell (r f b x : Int) (w : World) : (binOp .neq 91 (.agg #[.int .i32 r, .int .i64 f, .int .i64 b, .int .i64 x]) (.agg #[.int .i32 r, .int .i64 f, .int .i64 b, .int .i64 x])).run Tryz.prog w = .ok (.bool false) w := by
  go_simp
set_option maxHeartbeats 1000000 in
theorem equal_cells (b1 o1 c1 b2 o2 c2 : Nat) (cs : List C) (w : World) (h1 : CellsAt w b1 o1 cs) (h2 : CellsAt w b2 o2 cs) (hn : cs.length ≤ 1000000) :
    Calls Tryz.prog 153 #[.slice (some ⟨b1, o1, none⟩) cs.length c1, .slice (some ⟨b2, o2, none⟩) cs.length c2] w fun e w' => e = .returned (.bool true) ∧ Below w.heap.size w w' := by
  have H1 : Hid (CellsAt w b1 o1 cs) := h1
  have H2 : Hid (CellsAt w b2 o2 cs) := h2
  clear h1 h2
  generalize hl : cs.length = L at *
  have HL : Hid (cs.length = L) := hl
  clear hl
  have ne : ((L : Int) != (L : Int)) = false := by simp
  go_enter Tryz.func153, Tryz.ntmps153
  go_wp2_with fail
  go_loopg [13] L (fun g i wr => ∃ k : Nat, i = .int .i64 (k : Int) ∧ k ≤ L ∧ L - k ≤ g ∧ Below w.heap.size w wr)
  case atStart => exact ⟨0, rfl, by omega, by omega, Below.refl _ _⟩
  case round =>
    obtain ⟨k, rfl, hk, hg, hb⟩ := hrel
    by_cases hlt : k < L
    · have lt1 : ((k : Int) < (L : Int)) := by omega
      obtain ⟨p0, p1, p2, p3⟩ := H1.out.below hb k (by rw [HL.out]; exact hlt)
      obtain ⟨q0, q1, q2, q3⟩ := H2.out.below hb k (by rw [HL.out]; exact hlt)
      rcases hc : cs.getD k z0 with ⟨r, f, bk, x⟩
      rw [hc] at p0 p1 p2 p3 q0 q1 q2 q3
      dsimp only at p0 p1 p2 p3 q0 q1 q2 q3
      clear hc
      have nq := neq_cell r f bk x
      go_wp2_with fail
      go_region
      go_wp2_with fail
      go_roundg (L - (k + 1))
      case measure => omega
      case rel => exact ⟨k + 1, rfl, by omega, by omega, hb.drew⟩
    · have lt1 : ¬ ((k : Int) < (L : Int)) := by omega
      go_wp2_with fail
      go_ret
      exact ⟨rfl, hb⟩
set_option maxHeartbeats 1000000 in
theorem equal_empty (a1 a2 : Option Addr) (c1 c2 : Nat) (w : World) :
    Calls Tryz.prog 153 #[.slice a1 0 c1, .slice a2 0 c2] w fun e w' => e = .returned (.bool true) ∧ Below w.heap.size w w' := by
  go_enter Tryz.func153, Tryz.ntmps153
  go_wp2_with fail
  go_loopg [13] 1 (fun g i wr => i = .int .i64 0 ∧ wr = w)
  case atStart => exact ⟨rfl, rfl⟩
  case round =>
    obtain ⟨rfl, rfl⟩ := hrel
    go_wp2_with fail
    go_ret
    exact ⟨rfl, Below.refl _ _⟩
theorem equal_slices (v1 v2 : Value) (cs : List C) (w : World) (h1 : SliceAt w v1 cs) (h2 : SliceAt w v2 cs) (hn : cs.length ≤ 1000000) :
    Calls Tryz.prog 153 #[v1, v2] w fun e w' => e = .returned (.bool true) ∧ Below w.heap.size w w' := by
  rcases h1 with ⟨rfl, a1, c1, rfl⟩ | ⟨h0, b1, o1, c1, rfl, _, _, hC1⟩
  · rcases h2 with ⟨_, a2, c2, rfl⟩ | ⟨h0, _⟩
    · exact equal_empty a1 a2 c1 c2 w
    · exact absurd rfl h0
  · rcases h2 with ⟨rfl, _⟩ | ⟨_, b2, o2, c2, rfl, _, _, hC2⟩
    · exact absurd rfl h0
    · exact equal_cells b1 o1 c1 b2 o2 c2 cs w hC1 hC2 hn
set_option maxHeartbeats 1000000 in
/-- SameGrid of two grids that read alike. -/
theorem same_any (a h : Int) (v1 v2 : Value) (cs : List C) (w : World) (h1 : SliceAt w v1 cs) (h2 : SliceAt w v2 cs) (hn : cs.length ≤ 1000000) :
    Calls Tryz.prog 118 #[.agg #[.int .i64 a, .int .i64 h, v1], .agg #[.int .i64 a, .int .i64 h, v2]] w fun e w' => e = .returned (.bool true) ∧ Below w.heap.size w w' := by
  have H1 : Hid (SliceAt w v1 cs) := h1
  have H2 : Hid (SliceAt w v2 cs) := h2
  clear h1 h2
  have kk : Below w.heap.size w ((w.alloc (.cells #[.int .i64 a, .int .i64 h, v1] 24)).alloc (.cells #[.int .i64 a, .int .i64 h, v2] 24)) := ((Below.refl _ _).alloc (Nat.le_refl _) _).alloc (by simp) _
  have aa : (a == a) = true := by simp
  have ee : (h == h) = true := by simp
  go_enter Tryz.func118, Tryz.ntmps118
  go_wp2_with (first | (go_at_call 153; refine (equal_slices v1 v2 cs _ (H1.out.below kk) (H2.out.below kk) hn).mono ?_; rintro e W1 ⟨rfl, b1⟩))
  go_ret
  exact ⟨rfl, kk.trans (b1.mono kk.size)⟩
end Grd
end Go.Proofs.YtnkeahfcpbepjaaGreatDoor

/- What a call that writes into some blocks of its caller's own leaves as it was. -/
namespace Go.Proofs.YtnkeahfcpbepjaaGreatDoor
open Go.ChangeShapes Go.WideShapes Go.ChangeAt Go.RowKit
namespace Grd
/-- Below N all is as it was; of the blocks that were there only those of S may have turned. -/
def Apart (N : Nat) (S : List Nat) (w w' : World) : Prop := Below N w w' ∧ ∀ k, k ∉ S → k < w.heap.size → w'.heap[k]? = w.heap[k]?
theorem Apart.size {N : Nat} {S : List Nat} {w w' : World} (h : Apart N S w w') : w.heap.size ≤ w'.heap.size := h.1.size
theorem Apart.refl (N : Nat) (S : List Nat) (w : World) : Apart N S w w := ⟨Below.refl _ _, fun _ _ _ => rfl⟩
theorem Apart.trans {N : Nat} {S : List Nat} {a b c : World} (h : Apart N S a b) (k : Apart N S b c) : Apart N S a c :=
  ⟨h.1.trans k.1, fun i hi hl => (k.2 i hi (Nat.lt_of_lt_of_le hl h.size)).trans (h.2 i hi hl)⟩
theorem Apart.mono {N M : Nat} {S T : List Nat} {a b : World} (h : Apart N S a b) (hN : M ≤ N) (hS : ∀ k, k ∈ S → k ∈ T) : Apart M T a b :=
  ⟨h.1.mono hN, fun i hi hl => h.2 i (fun q => hi (hS i q)) hl⟩
theorem Apart.of {N : Nat} {S : List Nat} {a b : World} (h : Below a.heap.size a b) (hN : N ≤ a.heap.size) : Apart N S a b := ⟨h.mono hN, fun i _ hl => h.block i hl⟩
theorem Apart.step {N : Nat} {S : List Nat} {a b c : World} (h : Apart N S a b) (k : Below b.heap.size b c) (hN : N ≤ b.heap.size) : Apart N S a c := h.trans (.of k hN)
theorem Apart.setCell {N : Nat} {S : List Nat} {a b : World} (h : Apart N S a b) (g o : Nat) (v : Value) (hg : g ∈ S) (hN : N ≤ g) : Apart N S a (b.setCell ⟨g, o, none⟩ v) :=
  h.trans ⟨(Below.refl _ _).setCell hN v, fun i hi _ => heap_setCell_other _ _ _ _ (fun e => hi (by rw [e]; exact hg))⟩
theorem heap_setCells_ne (g k : Nat) (hne : k ≠ g) : ∀ (vs : List Value) (o : Nat) (w : World), (w.setCells g o vs).heap[k]? = w.heap[k]?
  | [], _, _ => rfl
  | v :: r, o, w => by
    show ((w.setCell ⟨g, o, none⟩ v).setCells g (o + 1) r).heap[k]? = _
    rw [heap_setCells_ne g k hne r (o + 1) _, heap_setCell_other _ _ _ _ hne]
theorem size_setCells (g : Nat) : ∀ (vs : List Value) (o : Nat) (w : World), (w.setCells g o vs).heap.size = w.heap.size
  | [], _, _ => rfl
  | v :: r, o, w => by
    show ((w.setCell ⟨g, o, none⟩ v).setCells g (o + 1) r).heap.size = _
    rw [size_setCells g r (o + 1) _]; simp
theorem below_cells {B g : Nat} {a : World} (hb : B ≤ g) : ∀ (vs : List Value) (o : Nat) (w : World), Below B a w → Below B a (w.setCells g o vs)
  | [], _, _, h => h
  | v :: r, o, _, h => below_cells hb r (o + 1) _ (h.setCell hb v)
theorem Apart.setCells {N : Nat} {S : List Nat} {a b : World} (h : Apart N S a b) (g o : Nat) (vs : List Value) (hg : g ∈ S) (hN : N ≤ g) : Apart N S a (b.setCells g o vs) :=
  h.trans ⟨below_cells hN _ _ _ (Below.refl _ _), fun i hi _ => heap_setCells_ne _ _ (fun e => hi (by rw [e]; exact hg)) _ _ _⟩
theorem Apart.iterAt {N : Nat} {S : List Nat} {a b : World} (h : Apart N S a b) (g : Nat) (s : ByteArray) (p : Nat) (hg : g ∈ S) (hN : N ≤ g) : Apart N S a (b.iterAt g s p) :=
  h.trans ⟨Lib.below_iterAt (Below.refl _ _) hN s p, fun i hi _ => Lib.iterAt_other _ _ _ _ _ (fun e => hi (by rw [e]; exact hg))⟩
theorem Apart.alloc {N : Nat} {S : List Nat} {a b : World} (h : Apart N S a b) (o : Obj) (hN : N ≤ b.heap.size) : Apart N S a (b.alloc o) :=
  h.step ((Below.refl _ _).alloc (Nat.le_refl _) o) hN
theorem Apart.drew {N : Nat} {S : List Nat} {a b : World} (h : Apart N S a b) : Apart N S a b.drew := ⟨h.1.drew, h.2⟩
/-- A block that was there, and is none of S, is as it was. -/
theorem Apart.carry {N : Nat} {S : List Nat} {a b : World} (h : Apart N S a b) {k : Nat} {o : Obj} (hk : a.heap[k]? = some o) (hS : k ∉ S) : b.heap[k]? = some o :=
  (h.2 k hS (blk_lt hk)).trans hk
end Grd
end Go.Proofs.YtnkeahfcpbepjaaGreatDoor

/- The walk of isParted, where it says no. -/
namespace Go.Proofs.YtnkeahfcpbepjaaGreatDoor
open Go.ChangeShapes Go.WideShapes Go.ChangeAt Go.RowKit
namespace Grd
open Txt (wd)
set_option maxHeartbeats 1000000 in
theorem parted_thin (b o c : Nat) (cs : List C) (x : Nat) (r : Int) (w : World) (hT : Txt.Tab w) (hx : x < cs.length)
    (h0 : w.cell? ⟨b, o + x * 4, none⟩ = some (.int .i32 r)) (hw : wd r ≠ 2) :
    Calls Tryz.prog 165 #[.slice (some ⟨b, o, none⟩) cs.length c, .int .i64 (x : Int)] w fun e w' => e = .returned (.bool false) ∧ Below w.heap.size w w' := by
  have HT : Hid (Txt.Tab w) := hT
  have nw : (wd r == 2) = false := by simpa using hw
  have y0 : ∀ d os, (Sort.grow (redrawn w d) os).cell? ⟨b, o + x * 4, none⟩ = some (.int .i32 r) := fun d os => cell_regrown h0 d os
  have K4 : Hid (∀ d os, Calls Tryz.prog 79 #[.int .i32 r] (Sort.grow (redrawn w d) os) fun e w'' => e = .returned (.int .i64 (wd r)) ∧ ∃ p : Regrown, w'' = Sort.grow (redrawn w p.d) p.os) := fun d os => Calls.regrown_of (Txt.width_any r _ (Tab.next HT.out (below_regrown w d os)))
  clear hT hw h0
  generalize wd r = v at *
  go_enter Tryz.func165, Tryz.ntmps165
  go_wp2_with fail
  refine wp_region_quiet_below (by kernel_rfl) (by kernel_rfl) ?_
  repeat (first | go_big_quiet_skip | quiet_step (first | (go_at_call 79; exact K4.out _ _)))
  refine wpQuiet_nil ?_
  intro _ hw'
  obtain ⟨⟨dq, os⟩, hw''⟩ := hw'
  subst hw''
  have k3 : Below w.heap.size w (Sort.grow (redrawn w dq) os) := below_regrown w dq os
  generalize Sort.grow (redrawn w dq) os = W3 at *
  go_wp2_with fail
  go_ret
  exact ⟨rfl, k3⟩
set_option maxHeartbeats 1000000 in
theorem parted_same (b o c : Nat) (cs : List C) (x : Nat) (r f bk xx : Int) (w : World) (hT : Txt.Tab w) (hx : x + 1 < cs.length) (hn : cs.length ≤ 1000000)
    (h0 : w.cell? ⟨b, o + x * 4, none⟩ = some (.int .i32 r)) (h1 : w.cell? ⟨b, o + x * 4 + 1, none⟩ = some (.int .i64 f)) (h2 : w.cell? ⟨b, o + x * 4 + 2, none⟩ = some (.int .i64 bk)) (h3 : w.cell? ⟨b, o + x * 4 + 3, none⟩ = some (.int .i64 xx))
    (p1 : w.cell? ⟨b, o + (x + 1) * 4 + 1, none⟩ = some (.int .i64 f)) (p2 : w.cell? ⟨b, o + (x + 1) * 4 + 2, none⟩ = some (.int .i64 bk)) (p3 : w.cell? ⟨b, o + (x + 1) * 4 + 3, none⟩ = some (.int .i64 xx)) (hw : wd r = 2) :
    Calls Tryz.prog 165 #[.slice (some ⟨b, o, none⟩) cs.length c, .int .i64 (x : Int)] w fun e w' => e = .returned (.bool false) ∧ Below w.heap.size w w' := by
  have HT : Hid (Txt.Tab w) := hT
  have hx0 : x < cs.length := by omega
  have hwr : IntKind.i64.wrap ((x : Int) + 1) = (x : Int) + 1 := by unfold IntKind.wrap; simp [IntKind.bits, IntKind.signed]; omega
  have hx1 : (0 : Int) ≤ (x : Int) + 1 := by omega
  have hx2 : (x : Int) + 1 < (cs.length : Int) := by omega
  have hx3 : ((x : Int) + 1).toNat = x + 1 := by omega
  have nq : ∀ w, (binOp .neq 26 (.agg #[.int .i64 f, .int .i64 bk, .int .i64 xx]) (.agg #[.int .i64 f, .int .i64 bk, .int .i64 xx])).run Tryz.prog w = .ok (.bool false) w := fun w => by rw [Sty.neq_agg]; simp
  have y0 : ∀ d os, (Sort.grow (redrawn w d) os).cell? ⟨b, o + x * 4, none⟩ = some (.int .i32 r) := fun d os => cell_regrown h0 d os
  have y1 : ∀ d os, (Sort.grow (redrawn w d) os).cell? ⟨b, o + x * 4 + 1, none⟩ = some (.int .i64 f) := fun d os => cell_regrown h1 d os
  have y2 : ∀ d os, (Sort.grow (redrawn w d) os).cell? ⟨b, o + x * 4 + 2, none⟩ = some (.int .i64 bk) := fun d os => cell_regrown h2 d os
  have y3 : ∀ d os, (Sort.grow (redrawn w d) os).cell? ⟨b, o + x * 4 + 3, none⟩ = some (.int .i64 xx) := fun d os => cell_regrown h3 d os
  have u1 : ∀ d os, (Sort.grow (redrawn w d) os).cell? ⟨b, o + (x + 1) * 4 + 1, none⟩ = some (.int .i64 f) := fun d os => cell_regrown p1 d os
  have u2 : ∀ d os, (Sort.grow (redrawn w d) os).cell? ⟨b, o + (x + 1) * 4 + 2, none⟩ = some (.int .i64 bk) := fun d os => cell_regrown p2 d os
  have u3 : ∀ d os, (Sort.grow (redrawn w d) os).cell? ⟨b, o + (x + 1) * 4 + 3, none⟩ = some (.int .i64 xx) := fun d os => cell_regrown p3 d os
  have K4 : Hid (∀ d os, Calls Tryz.prog 79 #[.int .i32 r] (Sort.grow (redrawn w d) os) fun e w'' => e = .returned (.int .i64 2) ∧ ∃ p : Regrown, w'' = Sort.grow (redrawn w p.d) p.os) := fun d os => Calls.regrown_of (width_to r _ (Tab.next HT.out (below_regrown w d os)) 2 hw)
  clear hT hw h0 h1 h2 h3 p1 p2 p3
  go_enter Tryz.func165, Tryz.ntmps165
  go_wp2_with fail
  refine wp_region_quiet_below (by kernel_rfl) (by kernel_rfl) ?_
  repeat (first | go_big_quiet_skip | quiet_step (first | (go_at_call 79; exact K4.out _ _)))
  refine wpQuiet_nil ?_
  intro _ hw'
  obtain ⟨⟨dq, os⟩, hw''⟩ := hw'
  subst hw''
  have k3 : Below w.heap.size w (Sort.grow (redrawn w dq) os) := below_regrown w dq os
  generalize Sort.grow (redrawn w dq) os = W3 at *
  go_wp2_with fail
  go_ret
  exact ⟨rfl, k3⟩
/-- A cell that isn't loose, and looks as the one behind it where it is wide. -/
theorem parted_of (b o c : Nat) (cs : List C) (x : Nat) (w : World) (hT : Txt.Tab w) (hC : CellsAt w b o cs) (hx : x < cs.length) (hn : cs.length ≤ 1000000) (hl : loose cs x = false) (hA : x + 1 < cs.length → wd (cs.getD x z0).1 = 2 → (cs.getD (x + 1) z0).1 = 0 → (cs.getD x z0).2 = (cs.getD (x + 1) z0).2) :
    Calls Tryz.prog 165 #[.slice (some ⟨b, o, none⟩) cs.length c, .int .i64 (x : Int)] w fun e w' => e = .returned (.bool false) ∧ Below w.heap.size w w' := by
  obtain ⟨h0, h1, h2, h3⟩ := hC x hx
  by_cases hw : wd (cs.getD x z0).1 = 2
  · have hn0 : ¬ (cs.getD x z0).1 = 0 := by intro e; rw [e] at hw; exact absurd hw (by decide +kernel)
    unfold loose at hl
    rw [if_neg hn0] at hl
    simp only [hw, decide_true, Bool.true_and, Bool.or_eq_false_iff, decide_eq_false_iff_not, Decidable.not_not] at hl
    have hx1 : x + 1 < cs.length := by omega
    have e := hA hx1 hw hl.2
    obtain ⟨-, p1, p2, p3⟩ := hC (x + 1) hx1
    rw [← e] at p1 p2 p3
    exact parted_same b o c cs x _ _ _ _ w hT hx1 hn h0 h1 h2 h3 p1 p2 p3 hw
  · exact parted_thin b o c cs x _ w hT hx h0 hw
end Grd
end Go.Proofs.YtnkeahfcpbepjaaGreatDoor

/- The walk of mend. -/
namespace Go.Proofs.YtnkeahfcpbepjaaGreatDoor
open Go.ChangeShapes Go.WideShapes Go.ChangeAt Go.RowKit
namespace Grd
def setR (cs : List C) (x : Nat) : List C := cs.set x (32, (cs.getD x z0).2)
def mendStep (cs : List C) (x : Nat) : List C := if loose cs x then setR cs x else cs
/-- A row after its first k cells are mended, from the left. -/
def mendTo (cs : List C) : Nat → List C
  | 0 => cs
  | k + 1 => mendStep (mendTo cs k) k
def mendL (cs : List C) : List C := mendTo cs cs.length
theorem mendStep_len (cs : List C) (x : Nat) : (mendStep cs x).length = cs.length := by
  unfold mendStep setR
  split <;> simp
theorem mendTo_len (cs : List C) : ∀ k, (mendTo cs k).length = cs.length
  | 0 => rfl
  | k + 1 => by
    show (mendStep (mendTo cs k) k).length = _
    rw [mendStep_len, mendTo_len cs k]
open Txt (wd)
/-- The second half of a wide rune looks as the first one does. -/
def Alike (cs : List C) : Prop := ∀ x, x + 1 < cs.length → wd (cs.getD x z0).1 = 2 → (cs.getD (x + 1) z0).1 = 0 → (cs.getD x z0).2 = (cs.getD (x + 1) z0).2
theorem setR_at (cs : List C) (x j : Nat) (hx : x < cs.length) : (setR cs x).getD j z0 = if j = x then (32, (cs.getD x z0).2) else cs.getD j z0 := by
  unfold setR
  simp only [List.getD, List.getElem?_set]
  by_cases h : j = x
  · subst h; simp [hx]
  · simp [h, Ne.symm h]
theorem alike_setR (cs : List C) (x : Nat) (hx : x < cs.length) (h : Alike cs) : Alike (setR cs x) := by
  intro j hj h2 h0
  have hl : (setR cs x).length = cs.length := by simp [setR]
  rw [hl] at hj
  rw [setR_at cs x j hx] at h2 ⊢
  rw [setR_at cs x (j + 1) hx] at h0 ⊢
  by_cases hjx : j = x
  · rw [if_pos hjx] at h2
    exact absurd (show wd 32 = 2 from h2) (by decide +kernel)
  · rw [if_neg hjx] at h2 ⊢
    by_cases hj1 : j + 1 = x
    · rw [if_pos hj1] at h0
      exact absurd (show (32 : Int) = 0 from h0) (by decide)
    · rw [if_neg hj1] at h0 ⊢
      exact h j hj h2 h0
theorem alike_to (cs : List C) (h : Alike cs) : ∀ k, k ≤ cs.length → Alike (mendTo cs k)
  | 0, _ => h
  | k + 1, hk => by
    show Alike (mendStep (mendTo cs k) k)
    unfold mendStep
    split
    · exact alike_setR _ k (by rw [mendTo_len]; omega) (alike_to cs h k (by omega))
    · exact alike_to cs h k (by omega)
theorem flat_set : ∀ (cs : List C) (x : Nat), x < cs.length → (flat cs).set (x * 4) (.int .i32 32) = flat (setR cs x)
  | c :: cs, 0, _ => by
    show (words c ++ flat cs).set 0 _ = flat ((32, c.2) :: cs)
    rfl
  | c :: cs, x + 1, h => by
    have ih := flat_set cs x (by simpa using h)
    show (words c ++ flat cs).set ((x + 1) * 4) _ = flat (setR (c :: cs) (x + 1))
    have e : setR (c :: cs) (x + 1) = c :: setR cs x := by simp [setR]
    rw [e]
    show _ = words c ++ flat (setR cs x)
    rw [← ih, List.set_append_right _ _ (by simp [words]; omega), show (x + 1) * 4 - (words c).length = x * 4 by simp [words]; omega]
theorem row_set (pre post : List Value) (cs : List C) (x : Nat) (h : x < cs.length) : (pre ++ (flat cs ++ post)).set (pre.length + x * 4) (.int .i32 32) = pre ++ (flat (setR cs x) ++ post) := by
  rw [List.set_append_right _ _ (by omega), Nat.add_sub_cancel_left, List.set_append_left _ _ (by rw [flat_len]; omega), flat_set cs x h]
/-- The row lies in block g behind 'pre'. -/
theorem cellsAt_mid {w : World} {g : Nat} {cs : List C} {pre post : List Value} {t : TypeId} (h : w.heap[g]? = some (.cells (pre ++ (flat cs ++ post)).toArray t (0, 0))) : CellsAt w g pre.length cs := fun j hj => by
  have key : ∀ i, i < 4 → w.cell? ⟨g, pre.length + j * 4 + i, none⟩ = (words (cs.getD j z0))[i]? := fun i hi => by
    rw [← flat_at cs j i hj hi]
    unfold World.cell?
    rw [h]
    have hl : j * 4 + i < (flat cs).length := by rw [flat_len]; omega
    simp only [List.getElem?_toArray]
    rw [Nat.add_assoc, List.getElem?_append_right (by omega), Nat.add_sub_cancel_left, List.getElem?_append_left hl]
    rfl
  exact ⟨key 0 (by omega), key 1 (by omega), key 2 (by omega), key 3 (by omega)⟩
theorem frozen_of {w : World} {g : Nat} {A : Array Value} {t : TypeId} (h : w.heap[g]? = some (.cells A t (0, 0))) (i : Nat) : w.frozen? ⟨g, i, none⟩ = false := by simp [World.frozen?, h]
set_option maxHeartbeats 2000000 in
theorem mend_any (g c : Nat) (cs : List C) (pre post : List Value) (t : TypeId) (w : World) (hh : w.heap[g]? = some (.cells (pre ++ (flat cs ++ post)).toArray t (0, 0))) (hn : cs.length ≤ 1000000) (hT : Txt.Tab w) (hg : 0 < g) (hA : Alike cs) :
    Calls Tryz.prog 147 #[.slice (some ⟨g, pre.length, none⟩) cs.length c] w fun e w' => e = .returned (.tuple #[]) ∧ w'.heap[g]? = some (.cells (pre ++ (flat (mendL cs) ++ post)).toArray t (0, 0)) ∧ Apart g [g] w w' := by
  have HT : Hid (∀ W, Apart g [g] w W → Txt.Tab W) := fun W b => hT.below b.1 hg
  have HG : Hid (g < w.heap.size) := blk_lt hh
  have HA : Hid (∀ k, k ≤ cs.length → Alike (mendTo cs k)) := alike_to cs hA
  clear hT hg hA
  generalize hl : cs.length = L at *
  have HL : Hid (cs.length = L) := hl
  clear hl
  generalize hp : pre.length = o at *
  have HP : Hid (pre.length = o) := hp
  clear hp
  go_enter Tryz.func147, Tryz.ntmps147
  go_wp2_with fail
  go_loopg [5] L (fun q i wr => ∃ k : Nat, i = .int .i64 (k : Int) ∧ k ≤ L ∧ L - k ≤ q ∧ Apart g [g] w wr ∧ wr.heap[g]? = some (.cells (pre ++ (flat (mendTo cs k) ++ post)).toArray t (0, 0)))
  case atStart => exact ⟨0, rfl, by omega, by omega, Apart.refl _ _ _, hh⟩
  case round =>
    obtain ⟨k, rfl, hk, hq, hb, hv⟩ := hrel
    clear hh
    have hlen : (mendTo cs k).length = L := by rw [mendTo_len, HL.out]
    by_cases hlt : k < L
    · have lt1 : ((k : Int) < (L : Int)) := by omega
      have hC : CellsAt wr g o (mendTo cs k) := by have := cellsAt_mid hv; rwa [HP.out] at this
      have hcell := (hC k (by rw [hlen]; exact hlt)).1
      have KL := isLoose_any g o c (mendTo cs k) k wr (HT.out wr hb) hC (by rw [hlen]; exact hlt) (by rw [hlen]; exact hn)
      rw [hlen] at KL
      cases hlo : loose (mendTo cs k) k with
      | false =>
        rw [hlo] at KL
        have HK : Hid (Calls Tryz.prog 158 #[.slice (some ⟨g, o, none⟩) L c, .int .i64 (k : Int)] wr fun e w' => e = .returned (.bool false) ∧ Below wr.heap.size wr w') := KL
        have HKP : Hid (∀ W, Below wr.heap.size wr W → Calls Tryz.prog 165 #[.slice (some ⟨g, o, none⟩) L c, .int .i64 (k : Int)] W fun e w' => e = .returned (.bool false) ∧ Below W.heap.size W w') := fun W bW => by
          have := parted_of g o c (mendTo cs k) k W (Tab.next (HT.out wr hb) bW) (hC.below bW) (by rw [hlen]; exact hlt) (by rw [hlen]; exact hn) hlo (HA.out k (by omega) k)
          rwa [hlen] at this
        have HE : Hid (mendTo cs (k + 1) = mendTo cs k) := by
          show mendStep (mendTo cs k) k = _
          unfold mendStep
          rw [hlo]
          rfl
        clear KL hlo hC hcell hlen
        go_wp2_with (first
          | (go_at_call 158; refine HK.out.mono ?_; rintro e W1 ⟨rfl, b1⟩)
          | (go_at_call 165; refine (HKP.out _ b1).mono ?_; rintro e W2 ⟨rfl, b2⟩; have b3 := b1.trans (b2.mono b1.size)))
        go_roundg (L - (k + 1))
        case measure => omega
        case rel => exact ⟨k + 1, rfl, by omega, by omega, hb.step b3 (Nat.le_of_lt (blk_lt hv)), by rw [HE.out]; exact carry hv b3⟩
      | true =>
        rw [hlo] at KL
        have HK : Hid (Calls Tryz.prog 158 #[.slice (some ⟨g, o, none⟩) L c, .int .i64 (k : Int)] wr fun e w' => e = .returned (.bool true) ∧ Below wr.heap.size wr w') := KL
        have HE : Hid (pre ++ (flat (mendTo cs (k + 1)) ++ post) = (pre ++ (flat (mendTo cs k) ++ post)).set (o + k * 4) (.int .i32 32)) := by
          have e : mendTo cs (k + 1) = setR (mendTo cs k) k := by
            show mendStep (mendTo cs k) k = _
            unfold mendStep
            rw [hlo]
            rfl
          unfold Hid
          rw [e, ← HP.out]
          exact (row_set pre post _ k (by rw [hlen]; exact hlt)).symm
        generalize ((mendTo cs k).getD k z0).1 = rr at hcell
        clear KL hlo hC hlen
        go_wp2_with (first | (go_at_call 158; refine HK.out.mono ?_; rintro e W1 ⟨rfl, b1⟩; have hcell1 := cell_keep b1 hcell; have hv1 := carry hv b1; have hfz : W1.frozen? ⟨g, o + k * 4, none⟩ = false := frozen_of hv1 _))
        go_roundg (L - (k + 1))
        case measure => omega
        case rel =>
          refine ⟨k + 1, rfl, by omega, by omega, (hb.step b1 (Nat.le_of_lt (blk_lt hv))).setCell g _ _ (by simp) (Nat.le_refl _), ?_⟩
          rw [HE.out]
          have := heap_setCell_same W1 g (o + k * 4) _ t (.int .i32 32) hv1
          simpa using this
    · have lt1 : ¬ ((k : Int) < (L : Int)) := by omega
      have hkL : k = L := by omega
      go_wp2_with fail
      go_end0
      refine ⟨rfl, ?_, hb⟩
      unfold mendL
      rw [HL.out, ← hkL]
      exact hv
end Grd
end Go.Proofs.YtnkeahfcpbepjaaGreatDoor

/- What the reference's CheckGrid says, over lists: the same as grid.Check. -/
namespace Go.Proofs.YtnkeahfcpbepjaaGreatDoor
namespace Grd
open Txt (wd)
open Sty (isSt)
/-- What the reference says of the cell i of a grid of width n. -/
def cellR (n : Nat) (cs : List C) (i : Nat) : Int :=
  if ((cs.getD i z0).1 ≠ 0 ∧ wd (cs.getD i z0).1 = 0) ∨ isSt (cs.getD i z0).2 = false then 4
  else if (cs.getD i z0).1 = 0 ∧ (i % n = 0 ∨ wd (cs.getD (i - 1) z0).1 ≠ 2 ∨ (cs.getD (i - 1) z0).2 ≠ (cs.getD i z0).2) then 5
  else if wd (cs.getD i z0).1 = 2 ∧ (i % n + 1 = n ∨ (cs.getD (i + 1) z0).1 ≠ 0) then 5 else 0
theorem first_append (f : Nat → Int) : ∀ (a k b : Nat), firstErr f k (a + b) = if firstErr f k a = 0 then firstErr f (k + a) b else firstErr f k a
  | 0, k, b => by simp [firstErr]
  | a + 1, k, b => by
    rw [show a + 1 + b = (a + b) + 1 by omega]
    show (if f k = 0 then firstErr f (k + 1) (a + b) else f k) = if (if f k = 0 then firstErr f (k + 1) a else f k) = 0 then firstErr f (k + (a + 1)) b else (if f k = 0 then firstErr f (k + 1) a else f k)
    by_cases h : f k = 0
    · simp only [if_pos h]
      rw [first_append f a (k + 1) b, show k + 1 + a = k + (a + 1) by omega]
    · simp only [if_neg h]
theorem first_congr (f g : Nat → Int) : ∀ (m k j : Nat), (∀ i, i < m → f (k + i) = g (j + i)) → firstErr f k m = firstErr g j m
  | 0, _, _, _ => rfl
  | m + 1, k, j, h => by
    have h0 := h 0 (by omega)
    simp only [Nat.add_zero] at h0
    have ih := first_congr f g m (k + 1) (j + 1) (fun i hi => by
      have := h (i + 1) (by omega)
      rwa [show k + (i + 1) = k + 1 + i by omega, show j + (i + 1) = j + 1 + i by omega] at this)
    show (if f k = 0 then firstErr f (k + 1) m else f k) = if g j = 0 then firstErr g (j + 1) m else g j
    rw [h0, ih]
theorem first_flat (f : Nat → Int) (g : Nat → Int) (n : Nat) : ∀ (m : Nat), (∀ y, y < m → f y = firstErr g (y * n) n) → firstErr f 0 m = firstErr g 0 (n * m)
  | 0, _ => rfl
  | m + 1, h => by
    have ih := first_flat f g n m (fun y hy => h y (by omega))
    rw [first_append f m 0 1, Nat.mul_add, first_append g (n * m) 0 (n * 1), ih, Nat.zero_add, Nat.zero_add, Nat.mul_one, Nat.mul_comm n m, ← h m (by omega)]
    have : firstErr f m 1 = f m := by
      show (if f m = 0 then 0 else f m) = f m
      split
      · rename_i h; exact h.symm
      · rfl
    rw [this]
theorem wd0 : wd 0 = 0 := by decide +kernel
theorem cell_same (n hh : Nat) (cs : List C) (hL : cs.length = n * hh) (y x : Nat) (hy : y < hh) (hx : x < n) : cellErr (rowAt n cs y) x = cellR n cs (y * n + x) := by
  have hf : (y + 1) * n ≤ n * hh := by rw [Nat.mul_comm n hh]; exact Nat.mul_le_mul_right _ hy
  rw [Nat.add_mul, Nat.one_mul] at hf
  have hlen : (rowAt n cs y).length = n := by
    unfold rowAt
    rw [List.length_take, List.length_drop, hL]
    omega
  have hg : ∀ j, j < n → (rowAt n cs y).getD j z0 = cs.getD (y * n + j) z0 := fun j hj => by
    unfold rowAt
    rw [getD_take _ _ _ hj, getD_drop]
  have hmod : (y * n + x) % n = x := by
    rw [Nat.mul_comm, Nat.mul_add_mod]
    exact Nat.mod_eq_of_lt hx
  unfold cellErr cellR loose
  rw [hlen, hg x hx, hmod]
  generalize cs.getD (y * n + x) z0 = c at *
  by_cases h4 : (c.1 ≠ 0 ∧ wd c.1 = 0) ∨ isSt c.2 = false
  · rw [if_pos h4, if_pos h4]
  · rw [if_neg h4, if_neg h4]
    by_cases hr : c.1 = 0
    · rw [if_pos hr]
      have w0 : ¬ wd c.1 = 2 := by rw [hr, wd0]; omega
      by_cases hx0 : x = 0
      · rw [if_pos (by simp [hx0]), if_pos ⟨hr, Or.inl hx0⟩]
      · rw [hg (x - 1) (by omega), show y * n + (x - 1) = y * n + x - 1 by omega]
        generalize cs.getD (y * n + x - 1) z0 = p at *
        by_cases hq : wd p.1 ≠ 2 ∨ p.2 ≠ c.2
        · rw [if_pos, if_pos ⟨hr, Or.inr hq⟩]
          rcases hq with hq | hq
          · left; simp [hq]
          · right; exact ⟨hr, fun e => hq e.symm⟩
        · rw [if_neg, if_neg (fun h => hq (h.2.resolve_left hx0)), if_neg (fun h => w0 h.1)]
          rintro (h | h)
          · simp [hx0] at h
            exact hq (Or.inl h)
          · exact hq (Or.inr (fun e => h.2 e.symm))
    · rw [if_neg hr, if_neg (show ¬ (c.1 = 0 ∧ (x = 0 ∨ wd (cs.getD (y * n + x - 1) z0).1 ≠ 2 ∨ (cs.getD (y * n + x - 1) z0).2 ≠ c.2)) from fun h => hr h.1)]
      by_cases hl : x + 1 = n
      · by_cases h2 : wd c.1 = 2
        · rw [if_pos (by left; simp [h2, hl]), if_pos ⟨h2, Or.inl hl⟩]
        · rw [if_neg, if_neg (fun h => h2 h.1)]
          rintro (h | h)
          · simp [h2] at h
          · exact hr h.1
      · rw [hg (x + 1) (by omega), show y * n + (x + 1) = y * n + x + 1 by omega]
        generalize cs.getD (y * n + x + 1) z0 = q at *
        by_cases h2 : wd c.1 = 2 ∧ q.1 ≠ 0
        · rw [if_pos (by left; simp [h2.1, h2.2]), if_pos ⟨h2.1, Or.inr h2.2⟩]
        · rw [if_neg, if_neg (fun h => h2 ⟨h.1, h.2.resolve_left hl⟩)]
          rintro (h | h)
          · simp [hl] at h
            exact h2 h
          · exact hr h.1
/-- grid.Check and the reference's CheckGrid say the same. -/
theorem errs_same (n hh : Nat) (cs : List C) (hL : cs.length = n * hh) : firstErr (fun y => rowErr (rowAt n cs y)) 0 hh = firstErr (cellR n cs) 0 (n * hh) := by
  refine first_flat _ _ n hh (fun y hy => ?_)
  have hf : (y + 1) * n ≤ n * hh := by rw [Nat.mul_comm n hh]; exact Nat.mul_le_mul_right _ hy
  rw [Nat.add_mul, Nat.one_mul] at hf
  have hlen : (rowAt n cs y).length = n := by
    unfold rowAt
    rw [List.length_take, List.length_drop, hL]
    omega
  show rowErr (rowAt n cs y) = _
  unfold rowErr
  rw [hlen]
  exact first_congr _ _ n 0 (y * n) (fun i hi => by rw [Nat.zero_add]; exact cell_same n hh cs hL y i hy hi)
end Grd
end Go.Proofs.YtnkeahfcpbepjaaGreatDoor

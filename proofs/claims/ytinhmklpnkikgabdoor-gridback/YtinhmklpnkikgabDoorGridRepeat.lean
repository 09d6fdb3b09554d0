/- slices.Repeat of one cell. -/
import Derived.Test.YtinhmklpnkikgabDoorGridCopy
import Derived.Test.YtinhmklpnkikgabDoorShelf
import Derived.Laws.MakeOwn
import Derived.Deep.RegionLaw
namespace Go.Proofs.YtinhmklpnkikgabDoor
open Go.ChangeShapes Go.WideShapes Go.ChangeAt Go.RowKit
namespace Grd
theorem step_copy_wide {P : Program} {ops : Array Oper} {o : Oper} {a : Act} {w : World} {K : Act → World → Prop} {Q : Exit → Act → World → Prop} {E : Prop} (hgd : o.guard = none) (d s : Operand) (dT sT : TypeId)
    (ho : o.op = .call { callee := .builtin .copy, args := #[d, s], argTypes := #[dT, sT] }) (elem : TypeId) (hu : P.underlying dT = some (.slice elem)) (k : Nat) (hsz : (P.info? elem).map (·.size) = some k)
    (g off dLen dCap : Nat) (ad : Addr) (sLen sCap : Nat) (hd : a.eval d = .slice (some ⟨g, off, none⟩) dLen dCap) (hs : a.eval s = .slice (some ad) sLen sCap)
    (cur : Array Value) (t : TypeId) (hg : w.heap[g]? = some (.cells cur t (0, 0))) (cs : List Value) (m : Nat) (hm : Nat.min sLen dLen = m) (hn : cs.length = m * k)
    (hsrc : ∀ j v, cs[j]? = some v → w.cell? (ad.add j) = some v) (hfit : off + cs.length ≤ cur.size) (h1 : ∀ v ∈ cs, v.oneCell' = true)
    (h : K (a.put o.dst (goInt m)) (w.setRow g (cur.toList.take off ++ (cs ++ cur.toList.drop (off + cs.length))).toArray)) :
    if Region.wanted o (yielded ops a.tmps) = true then Oper.wp P o a w K Q else E := by
  have hw : Region.wanted o (yielded ops a.tmps) = true := by simp [Region.wanted, hgd]
  rw [if_pos hw]
  have hrun := run_copy_wide (P := P) w dT sT o.type elem g off dLen dCap ad sLen sCap k cur t cs hu hsz hg (by rw [hm]; exact hn) hsrc hfit h1
  rw [hm] at hrun
  unfold Oper.wp
  simp [execOp, ho, resolve, invoke, builtin, hd, hs, hrun, Result.andThen, Oper.upon]
  simpa using h
theorem und_cells : Tryd.prog.underlying 22 = some (.slice 30) := by kernel_rfl
theorem size_cell : (Tryd.prog.info? 30).map (·.size) = some 4 := by kernel_rfl
theorem info_cell : (Tryd.prog.info? 30).map (fun i => (i.zero, i.size, i.bytes)) = some (some (.agg #[.int .i32 0, .int .i64 0, .int .i64 0, .int .i64 0]), 4, 32) := by kernel_rfl
theorem make_cells (N : Nat) (hN : N ≤ 1000000) (w : World) :
    (Instr.makeSlice 22 (.int .i64 (N : Int)) (.int .i64 (N : Int))).run Tryd.prog w = .ok (.slice (some ⟨w.heap.size, 0, none⟩) N N) (w.alloc (.cells (madeCells #[.int .i32 0, .int .i64 0, .int .i64 0, .int .i64 0] (N * 4)) 30)) := by
  obtain ⟨i, hi, hzz⟩ := Option.map_eq_some_iff.1 info_cell
  simp only [Prod.mk.injEq] at hzz
  obtain ⟨hz, hs, hb⟩ := hzz
  have hr := run_make (P := Tryd.prog) w 22 30 i _ und_cells hi hz .i64 .i64 N N (by omega) (Int.le_refl _) (by rw [hb]; omega) (by omega)
  simp only [Int.toNat_natCast, hs] at hr
  exact hr
theorem rep_add (c : C) (a b : Nat) : List.replicate a c ++ List.replicate b c = List.replicate (a + b) c := by simp
theorem copy_step (c : C) (m mn : Nat) (rest : List Value) : (flat (List.replicate m c) ++ rest).take (m * 4) ++ (flat (List.replicate mn c) ++ (flat (List.replicate m c) ++ rest).drop (m * 4 + (flat (List.replicate mn c)).length)) = flat (List.replicate (m + mn) c) ++ rest.drop (mn * 4) := by
  have hl : (flat (List.replicate m c)).length = m * 4 := by rw [flat_len]; simp
  have hl2 : (flat (List.replicate mn c)).length = mn * 4 := by rw [flat_len]; simp
  rw [List.take_left' hl, hl2, List.drop_append, ← rep_add, flat_append, List.append_assoc, List.drop_of_length_le (by rw [hl]; omega), hl, Nat.add_sub_cancel_left]
  rfl
theorem flat_src {w : World} {g : Nat} {cs : List C} {rest : List Value} {t : TypeId} (h : w.heap[g]? = some (.cells (flat cs ++ rest).toArray t (0, 0))) (ds : List Value) (hd : ∃ r, flat cs = ds ++ r) :
    ∀ j v, ds[j]? = some v → w.cell? ((⟨g, 0, none⟩ : Addr).add j) = some v := by
  intro j v hj
  obtain ⟨r, hr⟩ := hd
  have hlt := (List.getElem?_eq_some_iff.1 hj).1
  rw [add_plain, Nat.zero_add]
  unfold World.cell?
  rw [h, hr]
  simp [List.getElem?_append_left hlt, List.append_assoc, hj]
theorem copy_to {P : Program} (w : World) (dT sT ty elem : TypeId) (g o dLen dCap : Nat) (a : Addr) (sLen sCap k m : Nat) (L : List Value) (t : TypeId) (cs : List Value)
    (hu : P.underlying dT = some (.slice elem)) (hs : (P.info? elem).map (·.size) = some k)
    (hg : w.heap[g]? = some (.cells L.toArray t (0, 0))) (hm : Nat.min sLen dLen = m) (hn : cs.length = m * k)
    (hsrc : ∀ j v, cs[j]? = some v → w.cell? (a.add j) = some v) (hfit : o + cs.length ≤ L.length) (h1 : ∀ v ∈ cs, v.oneCell' = true) :
    ∃ W', (Builtin.copy_ #[dT, sT] ty #[.slice (some ⟨g, o, none⟩) dLen dCap, .slice (some a) sLen sCap]).run P w = .ok (.int .i64 (m : Int)) W' ∧
      W'.heap[g]? = some (.cells (L.take o ++ (cs ++ L.drop (o + cs.length))).toArray t (0, 0)) ∧ ∀ B w0, Below B w0 w → B ≤ g → Below B w0 W' := by
  have hrun := run_copy_wide (P := P) w dT sT ty elem g o dLen dCap a sLen sCap k L.toArray t cs hu hs hg (by rw [hm]; exact hn) hsrc (by simpa using hfit) h1
  rw [hm] at hrun
  refine ⟨_, hrun, ?_, fun B w0 hb hB => below_setRow hb hB _⟩
  simpa using setRow_heap w g _ _ t _ hg
set_option maxHeartbeats 2000000 in
set_option maxRecDepth 100000 in
theorem repeat_one (b o cx N : Nat) (c : C) (w : World) (hC : CellsAt w b o [c]) (h1 : 1 ≤ N) (hN : N ≤ 7200) :
    Calls Tryd.prog 30 #[.slice (some ⟨b, o, none⟩) 1 cx, .int .i64 (N : Int)] w fun e w' => ∃ v', e = .returned v' ∧ OwnG w' w.heap.size v' (List.replicate N c) ∧ Below w.heap.size w w' := by
  obtain ⟨h0, hf, hb, hx⟩ := hC 0 (by simp)
  have hmk := make_cells N (by omega)
  have hmul : Hid (Calls Tryd.prog 38 #[.int .u64 1, .int .u64 (N : Int)] w fun e w' => e = .returned (.tuple #[.int .u64 0, .int .u64 (N : Int)]) ∧ w = w') := by
    have := Tryd.bits_Mul 1 N (by omega) (by omega) w
    rw [Nat.one_mul, Nat.div_eq_of_lt (by omega), Nat.mod_eq_of_lt (by omega)] at this
    exact this.mono fun e w' ⟨he, hw⟩ => ⟨he, hw.symm⟩
  obtain ⟨A, hA⟩ : ∃ A, A = madeCells #[.int .i32 0, .int .i64 0, .int .i64 0, .int .i64 0] (N * 4) := ⟨_, rfl⟩
  have hAs : A.size = N * 4 := by rw [hA, size_madeCells]
  rw [← hA] at hmk
  clear hA hC
  have hmin : Nat.min 1 N = 1 := Nat.min_eq_left h1
  have hone : ∀ v ∈ words c, v.oneCell' = true := fun v hv => flat_one [c] v (by simpa [flat] using hv)
  have hfit : 0 + (words c).length ≤ A.size := by rw [hAs]; simp [words]; omega
  have hsrc : ∀ j v, (words c)[j]? = some v → (w.alloc (.cells A 30)).cell? ((⟨b, o, none⟩ : Addr).add j) = some v := fun j v hj => by
    have hlt := (List.getElem?_eq_some_iff.1 hj).1
    have kb : Below w.heap.size w (w.alloc (.cells A 30)) := (Below.refl _ _).alloc (Nat.le_refl _) _
    rw [add_plain]
    refine cell_keep kb ?_
    have hl4 : j < 4 := by simpa [words] using hlt
    have e : o + 0 * 4 = o := by omega
    rw [e] at h0 hf hb hx
    match j, hl4 with
    | 0, _ => rw [← hj]; exact h0
    | 1, _ => rw [← hj]; exact hf
    | 2, _ => rw [← hj]; exact hb
    | 3, _ => rw [← hj]; exact hx
  clear h0 hf hb hx
  obtain ⟨W2, hcp, hW2, hB2⟩ := copy_to (P := Tryd.prog) (w.alloc (.cells A 30)) 22 22 3 30 w.heap.size 0 N N ⟨b, o, none⟩ 1 cx 4 1 A.toList 30 (words c) und_cells size_cell (heap_alloc_new _ _) hmin rfl hsrc (by simpa using hfit) hone
  have k2 : Below w.heap.size w W2 := hB2 _ _ ((Below.refl _ _).alloc (Nat.le_refl _) _) (Nat.le_refl _)
  have hW : ∃ rest : List Value, rest.length = (N - 1) * 4 ∧ W2.heap[w.heap.size]? = some (.cells (flat (List.replicate 1 c) ++ rest).toArray 30 (0, 0)) := by
    refine ⟨A.toList.drop 4, by simp [hAs]; omega, ?_⟩
    rw [hW2]
    rfl
  clear hW2 hB2 hsrc hfit hone hmin
  go_enter Tryd.func30, Tryd.ntmps30
  go_wp2_with (first | (go_at_call 38; refine hmul.out.mono ?_; rintro e W1 ⟨rfl, rfl⟩))
  go_loopg [8] N (fun g n wr => ∃ (m : Nat) (rest : List Value), n = .int .i64 (m : Int) ∧ 1 ≤ m ∧ m ≤ N ∧ N - m ≤ g ∧ rest.length = (N - m) * 4 ∧ Below w.heap.size w wr ∧ wr.heap[w.heap.size]? = some (.cells (flat (List.replicate m c) ++ rest).toArray 30 (0, 0)))
  case atStart =>
    obtain ⟨rest, hr, hh⟩ := hW
    exact ⟨1, rest, rfl, by omega, by omega, by omega, hr, k2, hh⟩
  case round =>
    obtain ⟨m, rest, rfl, hm1, hmN, hg, hr, hb, hh⟩ := hrel
    clear hW hcp k2 hmk
    by_cases hlt : m < N
    · obtain ⟨mn, hmn⟩ : ∃ mn, Nat.min m (N - m) = mn := ⟨_, rfl⟩
      have hle : mn ≤ m ∧ mn ≤ N - m ∧ 1 ≤ mn := by
        have e : Nat.min m (N - m) = min m (N - m) := rfl
        rw [e] at hmn
        omega
      obtain ⟨hl1, hl2, hl3⟩ := hle
      have hmn' : Nat.min m (N - m) = mn := hmn
      obtain ⟨W3, hcp, hW3, hB3⟩ := copy_to (P := Tryd.prog) wr.drew 22 22 3 30 w.heap.size (m * 4) (N - m) (N - m) ⟨w.heap.size, 0, none⟩ m N 4 mn (flat (List.replicate m c) ++ rest) 30 (flat (List.replicate mn c)) und_cells size_cell hh hmn' (by rw [flat_len]; simp) (flat_src (w := wr.drew) hh _ ⟨flat (List.replicate (m - mn) c), by rw [← flat_append, rep_add, Nat.add_sub_cancel' hl1]⟩) (by rw [List.length_append, flat_len, flat_len]; simp; omega) (flat_one _)
      rw [copy_step] at hW3
      have k3 : Below w.heap.size w W3 := hB3 _ _ hb.drew (Nat.le_refl _)
      clear hmn hmn' hB3
      go_wp2_with fail
      go_region
      go_wp2_with fail
      go_roundg (N - (m + mn))
      case measure => omega
      case rel => exact ⟨m + mn, rest.drop (mn * 4), by simp, by omega, by omega, by omega, by rw [List.length_drop, hr]; omega, k3, hW3⟩
    · have hmE : m = N := by omega
      subst hmE
      go_wp2_with fail
      go_ret
      refine ⟨_, rfl, ⟨w.heap.size, m, rest, ⟨30, rfl⟩, ?_, Nat.le_refl _, by simp, by omega, hh⟩, hb⟩
      simp
end Grd
end Go.Proofs.YtinhmklpnkikgabDoor

/- slices.Insert of one row, where there is room. -/
import Derived.Test.YtnkeahfcpbepjaaGreatDoorPartJ
import Derived.Lib.JoinLaws
import Derived.Lib.AppendZeros
import Derived.Lib.Overlaps
import Derived.Laws.Externs
import Derived.Laws.IdiomCopy
import Derived.Shelf.RegionOpenPlain
import Derived.Test.YtnkeahfcpbepjaaGreatDoorPartE
import Derived.Deep.RegionHeld3
import Derived.Test.YtnkeahfcpbepjaaGreatDoorPartI
import Derived.Deep.Cut
import Derived.Deep.CutRange
import Derived.Deep.RegionWith
namespace Go.Proofs.YtnkeahfcpbepjaaGreatDoor
open Go.ChangeShapes Go.WideShapes Go.ChangeAt Go.RowKit
namespace Put
open Grd (C nilV)
theorem wp_copyR {P : Program} (w : World) {o : Oper} {a : Act} {K : Act → World → Prop} {Q : Exit → Act → World → Prop} (d s : Operand) (t t' : TypeId)
    (ho : o.op = .call { callee := .builtin .copy, args := #[d, s], argTypes := #[t, t'] }) (v u : Value) (hd : a.eval d = v) (hs : a.eval s = u) {v' : Value} {w' : World}
    (hr : (Builtin.copy_ #[t, t'] o.type #[v, u]).run P w = .ok v' w') (h : K (a.put o.dst v') w') : o.wp P a w K Q := by
  unfold Oper.wp execOp
  simp only [ho, resolve, invoke, builtin, Sem.run_bind, Sem.run_pure, Result.andThen_ok, List.map_toArray, List.map_cons, List.map_nil, hd, hs, hr]
  exact h
theorem wpList_copyR {P : Program} (w : World) {ops : Array Oper} {rest : List Oper} {o : Oper} {a : Act} {Q : Exit → Act → World → Prop} (hgd : o.guard = none) (d s : Operand) (t t' : TypeId)
    (ho : o.op = .call { callee := .builtin .copy, args := #[d, s], argTypes := #[t, t'] }) (v u : Value) (hd : a.eval d = v) (hs : a.eval s = u) {v' : Value} {w' : World}
    (hr : (Builtin.copy_ #[t, t'] o.type #[v, u]).run P w = .ok v' w') (h : wpList P ops Q rest (a.put o.dst v') w') : wpList P ops Q (o :: rest) a w :=
  wpList_plain hgd fun _ hK => wp_copyR w d s t t' ho v u hd hs hr (hK _ _ h)
theorem step_copyR {P : Program} {ops : Array Oper} {o : Oper} {a : Act} {w : World} {K : Act → World → Prop} {Q : Exit → Act → World → Prop} {E : Prop}
    (hg : o.guard = none) (d x : Operand) (dT sT : TypeId) (hop : o.op = Op.call { callee := Callee.builtin Builtin.copy, args := #[d, x], argTypes := #[dT, sT] })
    (v u : Value) (hd : a.eval d = v) (hx : a.eval x = u) {v' : Value} {w' : World} (hr : (Builtin.copy_ #[dT, sT] o.type #[v, u]).run P w = .ok v' w') (hK : K (a.put o.dst v') w') :
    if Region.wanted o (yielded ops a.tmps) = true then Oper.wp P o a w K Q else E := by
  have hw : Region.wanted o (yielded ops a.tmps) = true := by simp [Region.wanted, hg]
  rw [if_pos hw]
  unfold Oper.wp
  simp [execOp, hop, resolve, invoke, builtin, hd, hx, hr, Result.andThen]
  exact hK
/-- Words set one behind the other. -/
def setL (cur : Array Value) (o : Nat) : List Value → Array Value
  | [] => cur
  | v :: r => setL (cur.setIfInBounds o v) (o + 1) r
theorem setL_size : ∀ (xs : List Value) (cur : Array Value) (o : Nat), (setL cur o xs).size = cur.size
  | [], _, _ => rfl
  | v :: r, cur, o => by
    show (setL (cur.setIfInBounds o v) (o + 1) r).size = _
    rw [setL_size r]
    simp
theorem setL_at : ∀ (xs : List Value) (cur : Array Value) (o j : Nat), j < cur.size → (setL cur o xs)[j]? = if o ≤ j ∧ j < o + xs.length then xs[j - o]? else cur[j]?
  | [], cur, o, j, h => by
    rw [if_neg (by simp)]
    rfl
  | v :: r, cur, o, j, h => by
    show (setL (cur.setIfInBounds o v) (o + 1) r)[j]? = _
    rw [setL_at r _ _ j (by simpa using h)]
    by_cases h1 : o + 1 ≤ j ∧ j < o + 1 + r.length
    · rw [if_pos h1, if_pos (by simp; omega), show j - o = (j - (o + 1)) + 1 by omega]
      rfl
    · rw [if_neg h1]
      by_cases h2 : j = o
      · subst h2
        rw [if_pos (by simp)]
        simp [h]
      · rw [if_neg (by simp; omega), Array.getElem?_setIfInBounds_ne (Ne.symm h2)]
theorem setL_heap (g : Nat) (e : TypeId) : ∀ (xs : List Value) (w : World) (o : Nat) (cur : Array Value), w.heap[g]? = some (.cells cur e (0, 0)) → (w.setCells g o xs).heap[g]? = some (.cells (setL cur o xs) e (0, 0))
  | [], _, _, _, h => h
  | v :: r, w, o, cur, h => setL_heap g e r _ _ _ (heap_setCell_same w g o cur e v h)
/-- One row more. -/
theorem ins_list (cur : Array Value) (vs : List Value) (n i : Nat) (v : Value) (hl : vs.length = n) (hi : i ≤ n) (hs : n + 1 ≤ cur.size) (ht : cur.toList.take n = vs) : (setL (setL cur (i + 1) (vs.drop i)) i [v]).toList.take (n + 1) = vs.insertIdx i v := by
  apply List.ext_getElem?
  intro j
  have hc : ∀ k, k < n → cur[k]? = vs[k]? := fun k hk => by rw [← ht, List.getElem?_take_of_lt hk, Array.getElem?_toList]
  by_cases hj : j < n + 1
  · rw [List.getElem?_take_of_lt hj, Array.getElem?_toList, setL_at _ _ _ _ (by rw [setL_size]; omega), List.getElem?_insertIdx]
    by_cases h1 : j < i
    · rw [if_neg (by simp; omega), setL_at _ _ _ _ (by omega), if_neg (by simp; omega), if_pos h1, hc j (by omega)]
    · rw [if_neg h1]
      by_cases h2 : j = i
      · subst h2
        rw [if_pos (by simp), if_pos rfl, if_pos (by omega)]
        simp
      · rw [if_neg (by simp; omega), setL_at _ _ _ _ (by omega), if_pos (by simp; omega), if_neg h2, List.getElem?_drop]
        congr 1
        omega
  · rw [List.getElem?_eq_none (by simp; omega), List.getElem?_eq_none (by rw [List.length_insertIdx]; split <;> omega)]
theorem ins_end (cur : Array Value) (vs : List Value) (n : Nat) (v : Value) (hl : vs.length = n) (hs : n + 1 ≤ cur.size) (ht : cur.toList.take n = vs) : (setL cur n [v]).toList.take (n + 1) = vs.insertIdx n v := by
  have := ins_list cur vs n n v hl (Nat.le_refl _) hs ht
  rw [List.drop_of_length_le (by omega)] at this
  exact this
theorem heap_setCells_off (g k : Nat) (h : k ≠ g) : ∀ (xs : List Value) (o : Nat) (w : World), (w.setCells g o xs).heap[k]? = w.heap[k]? := fun xs o w => Grd.heap_setCells_ne _ k h xs o w
set_option maxHeartbeats 4000000 in
set_option maxRecDepth 100000 in
theorem insert_end (N g n cap vb vc : Nat) (vs : List Value) (v : Value) (w : World) (h : w.ownsRow N 22 1 (.slice (some ⟨g, 0, none⟩) n cap) n vs) (hsv : IsSl v) (hroom : n + 1 ≤ cap) (hvb : w.cell? ⟨vb, 0, none⟩ = some v) :
    Calls Tryz.prog 144 #[.slice (some ⟨g, 0, none⟩) n cap, .int .i64 (n : Int), .slice (some ⟨vb, 0, none⟩) 1 vc] w fun e w' => e = .returned (.slice (some ⟨g, 0, none⟩) (n + 1) cap) ∧ w'.ownsRow N 22 1 (.slice (some ⟨g, 0, none⟩) (n + 1) cap) (n + 1) (vs.insertIdx n v) ∧ (∀ k, k ≠ g → w'.heap[k]? = w.heap[k]?) ∧ Below g w w' := by
  obtain ⟨h0, ⟨h1, -⟩ | ⟨g', cap', cur, hv, hb, hg, hn, hm, hs, ht⟩⟩ := h
  · injection h1 with h1
    cases h1
  injection hv with e1 _ e3
  injection e1 with e1
  injection e1 with e1
  subst e1 e3
  rw [Nat.mul_one] at h0 hs ht
  obtain ⟨x, rfl⟩ := hsv
  have hc63 : cap ≤ 9223372036854775807 := by unfold maxLen at hm; omega
  obtain ⟨i0, hi0, hz⟩ := Option.map_eq_some_iff.1 info_rows1
  have hsrc : Src Tryz.prog 1 30 (.slice (some ⟨vb, 0, none⟩) 1 vc) 1 [encS x] w := Src.ofSlice w und_rows ⟨vb, 0, none⟩ 1 vc [encS x] (by simp) (fun j u hj => by
    rw [Addr.add_lit]
    match j, hj with
    | 0, hj => rw [← Option.some.inj hj]; exact hvb) (by simp [encS, Value.oneCell'])
  have hcell : ∀ j, j < 1 → (w.cell? ⟨g, 0 + n + j, none⟩).isSome = true := fun j hj => by
    simp only [World.cell?, hg]
    simp only [Option.isSome_none, Bool.false_eq_true, if_false]
    rw [Array.getElem?_eq_getElem (by omega)]
    rfl
  have hfz : ∀ j, j < 1 → w.frozen? ⟨g, 0 + n + j, none⟩ = false := fun j _ => by simp [World.frozen?, hg]
  have HE : Hid ((w.setCells g n [encS x]).ownsRow N 22 1 (.slice (some ⟨g, 0, none⟩) (n + 1) cap) (n + 1) (vs.insertIdx n (encS x)) ∧ (∀ k, k ≠ g → (w.setCells g n [encS x]).heap[k]? = w.heap[k]?) ∧ Below g w (w.setCells g n [encS x])) := by
    refine ⟨⟨by rw [List.length_insertIdx, if_pos (by omega)]; omega, .inr ⟨g, cap, _, rfl, hb, setL_heap g _ [encS x] w n cur hg, hroom, hm, by rw [setL_size]; omega, ?_⟩⟩, fun k hk => heap_setCells_off g k hk _ _ _, Grd.below_cells (Nat.le_refl _) _ _ _ (Below.refl _ _)⟩
    rw [Nat.mul_one]
    exact ins_end cur vs n (encS x) h0 (by omega) ht
  clear hg ht hs
  go_enter Tryz.func144, Tryz.ntmps144
  go_wp2_with (at_builtin; refine wpList_append_room1 _ rfl _ _ 30 30 rfl 22 _ _ und_rows info_rows g 0 n cap rfl _ rfl 1 [encS x] hsrc hroom (by simpa using hcell) (by simpa using hfz) ?_)
  go_ret
  exact ⟨rfl, HE.out⟩
theorem isSome_setC (b : Nat) (vs : List Value) (o : Nat) (w : World) (h : ∀ j, j < vs.length → (w.cell? ⟨b, o + j, none⟩).isSome = true) (k : Nat) (hk : (w.cell? ⟨b, k, none⟩).isSome = true) : ((w.setCells b o vs).cell? ⟨b, k, none⟩).isSome = true := by
  by_cases hin : o ≤ k ∧ k < o + vs.length
  · have := World.cell?_setCells_in b vs o w h (k - o) (by omega)
    rw [show o + (k - o) = k by omega] at this
    rw [this]
    simp
  · rw [World.cell?_setCells_out b vs o w ⟨b, k, none⟩ (fun _ _ => by show k < o ∨ o + vs.length ≤ k; omega)]
    exact hk
set_option maxHeartbeats 4000000 in
set_option maxRecDepth 100000 in
theorem insert_shift (N g n cap i vb vc : Nat) (vs : List Value) (v : Value) (w : World) (h : w.ownsRow N 22 1 (.slice (some ⟨g, 0, none⟩) n cap) n vs) (hvs : ∀ u, u ∈ vs → IsSl u) (hsv : IsSl v) (hi : i < n) (hroom : n + 1 ≤ cap) (hvb : w.heap[vb]? = some (.cells #[v] 22 (0, 0))) (hne : vb ≠ g) :
    Calls Tryz.prog 144 #[.slice (some ⟨g, 0, none⟩) n cap, .int .i64 (i : Int), .slice (some ⟨vb, 0, none⟩) 1 vc] w fun e w' => e = .returned (.slice (some ⟨g, 0, none⟩) (n + 1) cap) ∧ w'.ownsRow N 22 1 (.slice (some ⟨g, 0, none⟩) (n + 1) cap) (n + 1) (vs.insertIdx i v) ∧ (∀ k, k ≠ g → w'.heap[k]? = w.heap[k]?) ∧ Below g w w' := by
  obtain ⟨h0, ⟨h1, -⟩ | ⟨g', cap', cur, hv, hb, hg, hn, hm, hs, ht⟩⟩ := h
  · injection h1 with h1
    cases h1
  injection hv with e1 _ e3
  injection e1 with e1
  injection e1 with e1
  subst e1 e3
  rw [Nat.mul_one] at h0 hs ht
  have hsv1 : v.oneCell' = true := by obtain ⟨x, rfl⟩ := hsv; rfl
  have hv1 : ∀ u, u ∈ vs → u.oneCell' = true := fun u hu => by obtain ⟨x, rfl⟩ := hvs u hu; rfl
  have hc63 : cap ≤ 9223372036854775807 := by unfold maxLen at hm; omega
  have hcell : ∀ (W : World), W.heap[g]? = w.heap[g]? → ∀ j, j < cap → (W.cell? ⟨g, 0 + j, none⟩).isSome = true := fun W hW j hj => by
    simp only [World.cell?, hW, hg]
    simp only [Option.isSome_none, Bool.false_eq_true, if_false]
    rw [Array.getElem?_eq_getElem (by omega)]
    rfl
  have hfz : ∀ j, w.frozen? ⟨g, j, none⟩ = false := fun j => by simp [World.frozen?, hg]
  have hcs : ∀ j u, vs[j]? = some u → w.cell? ⟨g, 0 + j, none⟩ = some u := fun j u hj => by
    have hlt := (List.getElem?_eq_some_iff.1 hj).1
    simp only [World.cell?, hg]
    simp only [Option.isSome_none, Bool.false_eq_true, if_false]
    rw [← hj, ← ht, List.getElem?_take_of_lt (by omega), Array.getElem?_toList, Nat.zero_add]
  have hvc : w.cell? ⟨vb, 0, none⟩ = some v := by simp [World.cell?, hvb]
  have hsa : w.shape? vb = some (22, 1) := by simp [World.shape?, hvb]
  have hsb : w.shape? g = some (22, cur.size) := by simp [World.shape?, hg]
  have hov : ∀ lb cb, (callFunc 163 #[.slice (some ⟨vb, 0, none⟩) 1 vc, .slice (some ⟨g, i + 1, none⟩) lb cb]).run Tryz.prog w = .ok (.value (.bool false)) w := fun lb cb => by
    rw [run_callFunc_extern Tryz.func163 (by kernel_rfl) (by kernel_rfl) (by kernel_rfl) (e := Extern.SlicesOverlaps.overlaps #[30, 30] #[4]) (by kernel_rfl),
      Lib.run_overlaps_apart w 30 4 22 und_rows 1 Tryz.sizeOf22 ⟨vb, 0, none⟩ ⟨g, i + 1, none⟩ 1 vc lb cb hne _ _ _ _ hsa hsb (by omega) (by simp [World.frozen?, hvb]) (by simp [World.frozen?, hvb])]
    rfl
  have hdl : (vs.drop i).length = n - i := by rw [List.length_drop, h0]
  have hcp1 : ∀ ty dc sc, (Builtin.copy_ #[30, 30] ty #[.slice (some ⟨g, i + 1, none⟩) (n - i) dc, .slice (some ⟨g, i, none⟩) (n + 1 - i) sc]).run Tryz.prog w.drew = .ok (goInt (vs.drop i).length) (w.drew.setCells g (i + 1) (vs.drop i)) := fun ty dc sc =>
    run_copy_cells w.drew _ _ ty 22 g (i + 1) (n - i) dc ⟨g, i, none⟩ (n + 1 - i) sc (vs.drop i) und_rows info_rows1 (by rw [hdl]; simp only [Nat.min_def]; split <;> omega)
      (fun j u hj => by rw [Addr.add_lit, ← Nat.zero_add (i + j)]; exact hcs (i + j) u (by rwa [List.getElem?_drop] at hj))
      (fun j hj => by rw [← Nat.zero_add (i + 1 + j)]; exact hcell w.drew rfl _ (by omega)) (fun j hj => hfz _) (fun u hu => hv1 u (List.mem_of_mem_drop hu))
  obtain ⟨W1, hW1⟩ : ∃ W1, W1 = w.drew.setCells g (i + 1) (vs.drop i) := ⟨_, rfl⟩
  have hg1 : W1.heap[g]? = some (.cells (setL cur (i + 1) (vs.drop i)) 22 (0, 0)) := by
    rw [hW1]
    exact setL_heap g _ (vs.drop i) w.drew (i + 1) cur hg
  have ho1 : ∀ k, k ≠ g → W1.heap[k]? = w.heap[k]? := fun k hk => by rw [hW1]; exact heap_setCells_off g k hk _ _ _
  have hb1 : Below g w W1 := by rw [hW1]; exact Grd.below_cells (Nat.le_refl _) _ _ _ ((Below.refl _ _).drew)
  have hcp2 : ∀ (W : World), W.heap = W1.heap → ∀ ty dc, (Builtin.copy_ #[30, 30] ty #[.slice (some ⟨g, i, none⟩) (n + 1 - i) dc, .slice (some ⟨vb, 0, none⟩) 1 vc]).run Tryz.prog W = .ok (goInt [v].length) (W.setCells g i [v]) := fun W hWh ty dc =>
    run_copy_cells W _ _ ty 22 g i (n + 1 - i) dc ⟨vb, 0, none⟩ 1 vc [v] und_rows info_rows1 (by simp only [List.length_singleton, Nat.min_def]; split <;> omega)
      (fun j u hj => by
        rw [Addr.add_lit]
        match j, hj with
        | 0, hj =>
          rw [← Option.some.inj hj]
          simp only [World.cell?, hWh, ho1 vb hne, hvb]
          rfl)
      (fun j hj => by
        simp only [World.cell?, hWh, hg1]
        simp only [Option.isSome_none, Bool.false_eq_true, if_false]
        rw [Array.getElem?_eq_getElem (by rw [setL_size]; simp at hj; omega)]
        rfl) (fun j hj => by simp [World.frozen?, hWh, hg1]) (by simpa using hsv1)
  have HE : Hid (∀ W : World, W.heap = W1.heap → Below g w W → (W.setCells g i [v]).ownsRow N 22 1 (.slice (some ⟨g, 0, none⟩) (n + 1) cap) (n + 1) (vs.insertIdx i v) ∧ (∀ k, k ≠ g → (W.setCells g i [v]).heap[k]? = w.heap[k]?) ∧ Below g w (W.setCells g i [v])) := fun W hW hbW => by
    refine ⟨⟨by rw [List.length_insertIdx, if_pos (by omega)]; omega, .inr ⟨g, cap, _, rfl, hb, setL_heap g _ [v] W i _ (by rw [hW]; exact hg1), hroom, hm, by rw [setL_size, setL_size]; omega, ?_⟩⟩, fun k hk => (heap_setCells_off g k hk _ _ _).trans (by rw [hW]; exact ho1 k hk), Grd.below_cells (Nat.le_refl _) _ _ _ hbW⟩
    rw [Nat.mul_one]
    exact ins_list cur vs n i v h0 (by omega) (by omega) ht
  have HB1 : Hid (Below g w W1) := hb1
  rw [← hW1] at hcp1
  clear hg ht hs hW1 hcs hcell hfz hvb hvc hg1 ho1 hb1 hsa hsb hv1 hvs hsv hsv1 hdl
  have mixed : Tryz.prog.follows .mixedOrders = true := by kernel_rfl
  have hz2 : ¬ ((i : Int) = (n : Int)) := by omega
  have hw1 : IntKind.i64.wrap ((i : Int) + 1) = (i : Int) + 1 := by rw [IntKind.wrap_i64]; omega
  have hb1 : (0 : Int) ≤ (i : Int) + 1 := by omega
  have htn : ((i : Int) + 1).toNat = i + 1 := by omega
  have hb2 : ¬ (cap = i + 1) := by omega
  have hb3 : (i : Int) ≤ (n : Int) + 1 := by omega
  have hb4 : ¬ (cap = i) := by omega
  have hin : i ≤ n := by omega
  go_enter Tryz.func144, Tryz.ntmps144
  go_wp2_with (simp only [hov])
  go_region_law_o (refine step_copyR rfl _ _ 30 30 rfl _ _ (by simp [Act.eval, Act.put]) (by simp [Act.eval, Act.put]) (hcp1 _ _ _) ?_)
  go_wp2_with (at_builtin; refine wpList_copyR _ rfl _ _ 30 30 rfl _ _ rfl rfl (hcp2 _ rfl _ _) ?_)
  go_ret
  exact ⟨rfl, HE.out _ rfl HB1.out⟩
/-- A row is put in, where there is room. -/
theorem insert_own (N g n cap i vb vc : Nat) (vs : List Value) (v : Value) (w : World) (h : w.ownsRow N 22 1 (.slice (some ⟨g, 0, none⟩) n cap) n vs) (hvs : ∀ u, u ∈ vs → IsSl u) (hsv : IsSl v) (hi : i ≤ n) (hroom : n + 1 ≤ cap) (hvb : w.heap[vb]? = some (.cells #[v] 22 (0, 0))) (hne : vb ≠ g) :
    Calls Tryz.prog 144 #[.slice (some ⟨g, 0, none⟩) n cap, .int .i64 (i : Int), .slice (some ⟨vb, 0, none⟩) 1 vc] w fun e w' => e = .returned (.slice (some ⟨g, 0, none⟩) (n + 1) cap) ∧ w'.ownsRow N 22 1 (.slice (some ⟨g, 0, none⟩) (n + 1) cap) (n + 1) (vs.insertIdx i v) ∧ (∀ k, k ≠ g → w'.heap[k]? = w.heap[k]?) ∧ Below g w w' := by
  rcases Nat.lt_or_eq_of_le hi with hlt | rfl
  · exact insert_shift N g n cap i vb vc vs v w h hvs hsv hlt hroom hvb hne
  · exact insert_end N g i cap vb vc vs v w h hsv hroom (by simp [World.cell?, hvb])
end Put
end Go.Proofs.YtnkeahfcpbepjaaGreatDoor

/- advance; (*sheet.Sheet).Feed. -/
namespace Go.Proofs.YtnkeahfcpbepjaaGreatDoor
open Go.ChangeShapes Go.WideShapes Go.ChangeAt Go.RowKit
namespace Put
open Grd (C)
theorem ShAt.framed {W : World} {M N p i : Nat} {s : Scr} {rows : List (List C)} {v : Value} (h : ShAt 64 W M N p s rows) : Framed W (W.setCell ⟨p, i, none⟩ v) := by
  obtain ⟨cv, tv, gv, rv, gvs, vs, h⟩ := h
  exact Framed.store h.blk not_other_sheet
theorem ShAt.put {W : World} {M N p : Nat} {s s' : Scr} {rows : List (List C)} (h : ShAt 64 W M N p s rows) (i : Nat) (v : Value) (e : ∀ cv tv gv rv, (shA s cv tv gv rv).setIfInBounds i v = shA s' cv tv gv rv) (h1 : s'.tabs = s.tabs) (h2 : s'.gone = s.gone) : ShAt 64 (W.setCell ⟨p, i, none⟩ v) M N p s' rows ∧ Below N W (W.setCell ⟨p, i, none⟩ v) ∧ Framed W (W.setCell ⟨p, i, none⟩ v) := ⟨h.set sheet_is i v e h1 h2, (Below.refl _ _).setCell h.lo _, h.framed⟩
/-- Behind what was written. -/
def advS (s : Scr) (k : Int) : Scr := if s.x + k = s.w then { s with x := s.w - 1, late := hasB s.modes 4 } else { s with x := s.x + k }
set_option maxHeartbeats 2000000 in
theorem advance_any (W : World) (M N p : Nat) (s : Scr) (rows : List (List C)) (k : Int) (hS : ShAt 64 W M N p s rows) (h0 : 0 ≤ s.x) (h1 : s.x ≤ 120) (h2 : 0 ≤ k) (h3 : k ≤ 2) (w1 : 1 ≤ s.w) (w2 : s.w ≤ 120) :
    Calls Tryz.prog 86 #[.pointer (some ⟨p, 0, none⟩), .int .i64 k] W (Ran W M N p (advS s k) rows) := by
  obtain ⟨c0, c1, c3, c4, c5, c9, c10, c11, c19, f⟩ := hS.words
  have f3 := f 3
  obtain ⟨hS1, hB1, hF1⟩ := hS.put 3 (.int .i64 (s.x + k)) (s' := { s with x := s.x + k }) (fun _ _ _ _ => rfl) rfl rfl
  have HE : Hid (advS s k = if s.x + k = s.w then { s with x := s.w - 1, late := hasB s.modes 4 } else { s with x := s.x + k }) := rfl
  generalize advS s k = s' at *
  by_cases heq : s.x + k = s.w
  · have HE2 : Hid (s' = { s with x := s.w - 1, late := hasB s.modes 4 }) := by unfold Hid; rw [HE.out, if_pos heq]
    have hq : (s.x + k == s.w) = true := by rw [beq_iff_eq]; exact heq
    have HQ : Hid (s.x + k = s.w) := heq
    clear heq c1 c4 c5 c9 c10 c11 c19 f HE hS
    have HS1 : Hid (ShAt 64 (W.setCell ⟨p, 3, none⟩ (.int .i64 (s.x + k))) M N p { s with x := s.x + k } rows) := hS1
    have HB1 : Hid _ := hB1
    have HF1 : Hid (Framed W (W.setCell ⟨p, 3, none⟩ (.int .i64 (s.x + k)))) := hF1
    clear hS1 hB1 hF1
    have hwr : IntKind.i64.wrap (s.x + k) = s.x + k := wrap_id _ (by omega) (by omega)
    go_enter Tryz.func86, Tryz.ntmps86
    go_upto_region 1 with fail
    obtain ⟨d0, -, d3, -, -, -, -, -, -, df⟩ := HS1.out.words
    clear c0 c3 f3
    generalize (W.setCell ⟨p, 3, none⟩ (.int .i64 (s.x + k))) = X at *
    go_region
    have HSd : Hid (ShAt 64 X.drew M N p { s with x := s.x + k } rows) := HS1.out.drew
    have HB2 : Hid (Below N W X.drew) := HB1.out.drew
    have HF2 : Hid (Framed W X.drew) := HF1.out.trans (Framed.of_below ((Below.refl _ _).drew))
    obtain ⟨d0, -, d3, -, -, -, -, -, -, df⟩ := HSd.out.words
    have g3 := df 3
    clear HS1 HB1 HF1 df
    generalize X.drew = Y at *
    obtain ⟨hS3, hB3, hF3⟩ := HSd.out.put 3 (.int .i64 (s.w - 1)) (s' := { s with x := s.w - 1 }) (fun _ _ _ _ => rfl) rfl rfl
    have H2 := has_any 4 _ hS3
    obtain ⟨e0, -, e3, -, e5, -, -, -, -, ef⟩ := hS3.words
    obtain ⟨hS4, hB4, hF4⟩ := hS3.put 5 (.bool (hasB s.modes 4)) (s' := { s with x := s.w - 1, late := hasB s.modes 4 }) (fun _ _ _ _ => rfl) rfl rfl
    have HR : Hid (Ran W M N p s' rows (.returned (.tuple #[])) ((Y.setCell ⟨p, 3, none⟩ (.int .i64 (s.w - 1))).setCell ⟨p, 5, none⟩ (.bool (hasB s.modes 4)))) := by
      unfold Hid
      rw [HE2.out]
      exact ⟨rfl, hS4, HB2.out.trans (hB3.trans hB4), HF2.out.trans (hF3.trans hF4)⟩
    have g5 := ef 5
    clear hS3 hB3 hF3 hS4 hB4 hF4 ef e0 e3
    generalize hasB s.modes 4 = hb at *
    go_wp2_with fail
    refine H2.mono ?_
    rintro e V ⟨rfl, hv⟩
    subst hv
    go_wp2_with fail
    go_end0
    exact HR.out
  · have HE2 : Hid (s' = { s with x := s.x + k }) := by unfold Hid; rw [HE.out, if_neg heq]
    have hq : (s.x + k == s.w) = false := by rw [beq_eq_false_iff_ne]; exact heq
    clear heq c1 c4 c5 c9 c10 c11 c19 f HE hS
    have HS1 : Hid (ShAt 64 (W.setCell ⟨p, 3, none⟩ (.int .i64 (s.x + k))) M N p { s with x := s.x + k } rows) := hS1
    have HB1 : Hid _ := hB1
    have HF1 : Hid (Framed W (W.setCell ⟨p, 3, none⟩ (.int .i64 (s.x + k)))) := hF1
    clear hS1 hB1 hF1
    have hwr : IntKind.i64.wrap (s.x + k) = s.x + k := wrap_id _ (by omega) (by omega)
    go_enter Tryz.func86, Tryz.ntmps86
    go_upto_region 1 with fail
    obtain ⟨d0, -, d3, -, -, -, -, -, -, df⟩ := HS1.out.words
    clear c0 c3 f3 df
    generalize (W.setCell ⟨p, 3, none⟩ (.int .i64 (s.x + k))) = X at *
    go_region
    go_wp2_with fail
    go_end0
    rw [HE2.out]
    exact ⟨rfl, HS1.out.drew, HB1.out.drew, HF1.out.trans (Framed.of_below ((Below.refl _ _).drew))⟩
/-- A row further, where nothing rolls. -/
def feedS (s : Scr) : Scr := if s.y < s.h - 1 then { s with late := false, y := s.y + 1 } else { s with late := false }
set_option maxHeartbeats 2000000 in
theorem feed_plain (W : World) (M N p : Nat) (s : Scr) (rows : List (List C)) (hS : ShAt 64 W M N p s rows) (h0 : 0 ≤ s.y) (h1 : s.y ≤ 60) (w1 : 1 ≤ s.h) (w2 : s.h ≤ 60) (hne : s.y ≠ s.bot) :
    Calls Tryz.prog 83 #[.pointer (some ⟨p, 0, none⟩)] W (Ran W M N p (feedS s) rows) := by
  obtain ⟨c0, c1, c3, c4, c5, c9, c10, c11, c19, f⟩ := hS.words
  have f5 := f 5
  obtain ⟨hS1, hB1, hF1⟩ := hS.put 5 (.bool false) (s' := { s with late := false }) (fun _ _ _ _ => rfl) rfl rfl
  have HE : Hid (feedS s = if s.y < s.h - 1 then { s with late := false, y := s.y + 1 } else { s with late := false }) := rfl
  generalize feedS s = s' at *
  have hq : (s.y == s.bot) = false := by rw [beq_eq_false_iff_ne]; exact hne
  have HS1 : Hid (ShAt 64 (W.setCell ⟨p, 5, none⟩ (.bool false)) M N p { s with late := false } rows) := hS1
  have HB1 : Hid _ := hB1
  have HF1 : Hid (Framed W (W.setCell ⟨p, 5, none⟩ (.bool false))) := hF1
  clear hS1 hB1 hF1 hS hne c0 c1 c3 c4 c9 c10 c11 c19 f
  have hwr : IntKind.i64.wrap (s.h - 1) = s.h - 1 := wrap_id _ (by omega) (by omega)
  go_enter Tryz.func83, Tryz.ntmps83
  go_upto_region 1 with fail
  obtain ⟨-, d1, -, d4, -, -, d10, -, -, df⟩ := HS1.out.words
  clear c5 f5 df
  generalize (W.setCell ⟨p, 5, none⟩ (.bool false)) = X at *
  go_region
  have HSd : Hid (ShAt 64 X.drew M N p { s with late := false } rows) := HS1.out.drew
  have HB2 : Hid (Below N W X.drew) := HB1.out.drew
  have HF2 : Hid (Framed W X.drew) := HF1.out.trans (Framed.of_below ((Below.refl _ _).drew))
  clear d1 d4 d10 HS1 HB1 HF1
  generalize X.drew = Y at *
  obtain ⟨-, d1, -, d4, -, -, d10, -, -, df⟩ := HSd.out.words
  clear df
  by_cases hlt : s.y < s.h - 1
  · have HE2 : Hid (s' = { s with late := false, y := s.y + 1 }) := by unfold Hid; rw [HE.out, if_pos hlt]
    go_upto_region 3 with fail
    go_region
    have HSe : Hid (ShAt 64 Y.drew M N p { s with late := false } rows) := HSd.out.drew
    have HB3 : Hid (Below N W Y.drew) := HB2.out.drew
    have HF3 : Hid (Framed W Y.drew) := HF2.out.trans (Framed.of_below ((Below.refl _ _).drew))
    clear d1 d4 d10 HSd HB2 HF2
    generalize Y.drew = Z at *
    obtain ⟨-, d1, -, d4, -, -, d10, -, -, df⟩ := HSe.out.words
    have g4 := df 4
    have hw2 : IntKind.i64.wrap (s.y + 1) = s.y + 1 := wrap_id _ (by omega) (by omega)
    obtain ⟨hS4, hB4, hF4⟩ := HSe.out.put 4 (.int .i64 (s.y + 1)) (s' := { s with late := false, y := s.y + 1 }) (fun _ _ _ _ => rfl) rfl rfl
    have HR : Hid (Ran W M N p s' rows (.returned (.tuple #[])) (Z.setCell ⟨p, 4, none⟩ (.int .i64 (s.y + 1)))) := by
      unfold Hid
      rw [HE2.out]
      exact ⟨rfl, hS4, HB3.out.trans hB4, HF3.out.trans hF4⟩
    clear hS4 hB4 hF4 df
    go_wp2_with fail
    go_end0
    exact HR.out
  · have HE2 : Hid (s' = { s with late := false }) := by unfold Hid; rw [HE.out, if_neg hlt]
    go_upto_region 3 with fail
    go_region
    go_wp2_with fail
    go_end0
    rw [HE2.out]
    exact ⟨rfl, HSd.out.drew, HB2.out.drew, HF2.out.trans (Framed.of_below ((Below.refl _ _).drew))⟩
end Put
end Go.Proofs.YtnkeahfcpbepjaaGreatDoor

/- (*sheet.Sheet).blanks, replace, Drop, Down: a row goes, and a blank one comes. -/
namespace Go.Proofs.YtnkeahfcpbepjaaGreatDoor
open Go.ChangeShapes Go.WideShapes Go.ChangeAt Go.RowKit
namespace Put
open Grd (C SliceAt CellsAt gridErr z0 nilV flat rowsL OwnG RowB)
theorem getD_erase {α : Type} (l : List α) (i j : Nat) (d : α) : (l.eraseIdx i).getD j d = if j < i then l.getD j d else l.getD (j + 1) d := by
  simp only [List.getD, List.getElem?_eraseIdx]
  split <;> rfl
theorem getD_insert {α : Type} (l : List α) (i j : Nat) (x d : α) (hi : i ≤ l.length) : (l.insertIdx i x).getD j d = if j < i then l.getD j d else if j = i then x else l.getD (j - 1) d := by
  simp only [List.getD, List.getElem?_insertIdx]
  by_cases h1 : j < i
  · rw [if_pos h1, if_pos h1]
  · rw [if_neg h1, if_neg h1]
    by_cases h2 : j = i
    · subst h2
      rw [if_pos rfl, if_pos rfl, if_pos hi]
      rfl
    · rw [if_neg h2, if_neg h2]
theorem RowsIn.erase {W : World} {N : Nat} {vs : List Value} {rows : List (List C)} (h : RowsIn W N vs rows) (i : Nat) (hi : i < rows.length) : RowsIn W N (vs.eraseIdx i) (rows.eraseIdx i) := by
  have hl := h.1
  refine ⟨by rw [List.length_eraseIdx_of_lt (by omega), List.length_eraseIdx_of_lt hi, hl], fun j hj => ?_⟩
  rw [List.length_eraseIdx_of_lt hi] at hj
  rw [getD_erase, getD_erase]
  split
  · exact h.2 j (by omega)
  · exact h.2 (j + 1) (by omega)
theorem RowsIn.insert {W : World} {N : Nat} {vs : List Value} {rows : List (List C)} (h : RowsIn W N vs rows) (i : Nat) (hi : i ≤ rows.length) (v : Value) (row : List C) (hr : RowIn W N v row) : RowsIn W N (vs.insertIdx i v) (rows.insertIdx i row) := by
  have hl := h.1
  refine ⟨by rw [List.length_insertIdx_of_le_length (by omega), List.length_insertIdx_of_le_length hi, hl], fun j hj => ?_⟩
  rw [List.length_insertIdx_of_le_length hi] at hj
  rw [getD_insert _ _ _ _ _ (by omega), getD_insert _ _ _ _ _ hi]
  split
  · exact h.2 j (by omega)
  · split
    · exact hr
    · exact h.2 (j - 1) (by omega)
theorem RowsIn.sls {W : World} {N : Nat} {vs : List Value} {rows : List (List C)} (h : RowsIn W N vs rows) : ∀ v, v ∈ vs → IsSl v := by
  intro v hv
  obtain ⟨i, hi, rfl⟩ := List.mem_iff_getElem.1 hv
  obtain ⟨a, c, e⟩ := (h.2 i (by rw [← h.1]; exact hi)).shape
  have e2 : vs.getD i nilV = vs[i] := by simp [List.getD, hi]
  rw [e2] at e
  exact ⟨(a, _, c), e⟩
theorem sl_in {W : World} {N : Nat} {v : Value} {row : List C} (h : RowIn W N v row) : IsSl v := by
  obtain ⟨a, c, e⟩ := h.shape
  exact ⟨(a, _, c), e⟩
theorem ShA.keptR {W V : World} {M N p : Nat} {s : Scr} {rows : List (List C)} {cv tv gv rv : Value} {gvs vs : List Value} {rb : Nat} (h : ShA 64 W M N p s rows cv tv gv rv gvs vs) (hrb : rv.ownBlock = some rb) (ho : ∀ k, k < W.heap.size → k ≠ rb → V.heap[k]? = W.heap[k]?) : Kept M W V := fun k hk hS => ho k hk fun e => by
  obtain ⟨hlo, A, f, hA⟩ := owns_block h.rws rb hrb
  subst e
  rcases hS with hS | ⟨B, f', hS⟩
  · have := h.ml
    omega
  · rw [hA] at hS
    injection hS with hS
    injection hS with _ hS _
    exact absurd hS (by decide)
/-- Other rows in the same block. -/
theorem ShA.rowsNew {W V : World} {M N p : Nat} {s : Scr} {rows rows' : List (List C)} {cv tv gv rv rv' : Value} {gvs vs vs' : List Value} {rb : Nat} (h : ShA 64 W M N p s rows cv tv gv rv gvs vs) (hrb : rv.ownBlock = some rb) (hrb' : rv'.ownBlock = some rb)
    (ho : ∀ k, k < W.heap.size → k ≠ rb → V.heap[k]? = W.heap[k]?) (hw : V.ownsRow N 22 1 rv' rows'.length vs') (hr : RowsIn V M vs' rows') :
    ShA 64 (V.setCell ⟨p, 22, none⟩ rv') M N p s rows' cv tv gv rv' gvs vs' := by
  obtain ⟨hlo, A, f, hA⟩ := owns_block h.rws rb hrb
  have hpr : p ≠ rb := by
    intro e
    rw [← e, h.blk] at hA
    injection hA with hA
    injection hA with _ hA _
    exact absurd hA (by decide)
  have hp : V.heap[p]? = some (.cells (shA s cv tv gv rv) 64 (0, 0)) := (ho p (heap_lt h.blk) hpr).trans h.blk
  have hk1 : Kept M W V := fun k hk hS => ho k hk fun e => by
    subst e
    rcases hS with hS | ⟨B, f', hS⟩
    · have := h.ml
      omega
    · rw [hA] at hS
      injection hS with hS
      injection hS with _ hS _
      exact absurd hS (by decide)
  have hk2 : Kept M V (V.setCell ⟨p, 22, none⟩ rv') := Kept.store hp (by decide) (Nat.le_trans h.ml h.lo)
  have hof : ∀ {e : TypeId} {v : Value} {n : Nat} {xs : List Value}, e ≠ 64 → (∀ k, v.ownBlock = some k → k ≠ rb) → W.ownsRow N e 1 v n xs → (V.setCell ⟨p, 22, none⟩ rv').ownsRow N e 1 v n xs := fun hte hn hw => by
    refine own_off (owns_kept hw fun g hg => ?_) hp (Ne.symm hte)
    obtain ⟨-, B, f', hB⟩ := owns_block hw g hg
    exact ho g (heap_lt hB) (hn g hg)
  have hnb : ∀ k, tv.ownBlock = some k → k ≠ rb := fun k hk e => by
    subst e
    obtain ⟨-, B, f', hB⟩ := owns_block h.tabs k hk
    rw [hA] at hB
    injection hB with hB
    injection hB with _ hB _
    exact absurd hB (by decide)
  have hng : ∀ k, gv.ownBlock = some k → k ≠ rb := fun k hk e => h.two rb hrb (by rw [hk, e])
  refine ⟨store_at hp rfl, h.lo, h.ml, h.cvs, hof (by decide) hnb h.tabs, hof (by decide) hng h.gone, (h.gin.keep hk1).keep hk2, own_off hw hp (by decide), hr.keep hk2, fun k hk e => ?_⟩
  rw [hrb'] at hk
  exact hng k e (Option.some.inj hk).symm
theorem one4w (a : Int) (b c d : Int) : (#[.int .i32 a, .int .i64 b, .int .i64 c, .int .i64 d] : Array Value).all (·.oneCell') = true := by simp [Value.oneCell']
set_option maxHeartbeats 2000000 in
theorem blankS_any (p : Nat) (bk : Int) (V : World) (h : V.cell? ⟨p, 7, none⟩ = some (.int .i64 bk)) : Calls Tryz.prog 148 #[.pointer (some ⟨p, 0, none⟩)] V fun e V' => e = .returned (.agg #[.int .i32 32, .int .i64 0, .int .i64 bk, .int .i64 0]) ∧ Below V.heap.size V V' := by
  have x0 := heap_alloc_new V (.cells #[.int .i32 0, .int .i64 0, .int .i64 0, .int .i64 0] 91)
  have kb : Below V.heap.size V (V.alloc (.cells #[.int .i32 0, .int .i64 0, .int .i64 0, .int .i64 0] 91)) := (Below.refl _ _).alloc (Nat.le_refl _) _
  have h1 := cell_stay kb h
  have HX0 : Hid _ := x0
  have HKB : Hid _ := kb
  clear x0 kb h
  go_enter Tryz.func148, Tryz.ntmps148
  go_upto_region 1 with fail
  generalize V.alloc (.cells #[.int .i32 0, .int .i64 0, .int .i64 0, .int .i64 0] 91) = Y at *
  go_wp2_with (refine wpList_store_row rfl 91 (.tmp 2) _ rfl V.heap.size #[.int .i32 32, .int .i64 0, .int .i64 bk, .int .i64 0] rfl rfl _ _ HX0.out (by kernel_rfl) rfl (one4w _ _ _ _) ?_)
  (try simp only [Exit.inBlock, Exit.then])
  refine bodyPost_ret (v := .agg #[.int .i32 32, .int .i64 0, .int .i64 bk, .int .i64 0]) ?_ rfl ⟨rfl, below_setRow HKB.out (Nat.le_refl _) _⟩
  exact results_cell_row rfl _ _ V.heap.size _ _ _ _ rfl (setRow_heap _ _ _ _ _ _ HX0.out) Tryz.underlying91 rfl (by kernel_rfl)
theorem cells_one (V : World) (c : C) : CellsAt (V.alloc (.cells #[.int .i32 c.1, .int .i64 c.2.1, .int .i64 c.2.2.1, .int .i64 c.2.2.2] 91)) V.heap.size 0 [c] := fun j hj => by
  have h := heap_alloc_new V (.cells #[.int .i32 c.1, .int .i64 c.2.1, .int .i64 c.2.2.1, .int .i64 c.2.2.2] 91)
  generalize V.alloc (.cells #[.int .i32 c.1, .int .i64 c.2.1, .int .i64 c.2.2.1, .int .i64 c.2.2.2] 91) = X at *
  match j, hj with
  | 0, _ => exact ⟨by simp [World.cell?, h], by simp [World.cell?, h], by simp [World.cell?, h], by simp [World.cell?, h]⟩
set_option maxHeartbeats 2000000 in
theorem blanks_any (p n : Nat) (bk : Int) (W : World) (h7 : W.cell? ⟨p, 7, none⟩ = some (.int .i64 bk)) (hn1 : 1 ≤ n) (hn2 : n ≤ 120) :
    Calls Tryz.prog 109 #[.pointer (some ⟨p, 0, none⟩), .int .i64 (n : Int)] W fun e W' => ∃ a c g, e = .returned (.slice a n c) ∧ W.heap.size ≤ g ∧ RowB W' g (.slice a n c) (List.replicate n (32, 0, bk, 0)) ∧ Below W.heap.size W W' := by
  have HB := blankS_any p bk W h7
  have HRP : Hid (∀ V : World, Calls Tryz.prog 98 #[.slice (some ⟨V.heap.size, 0, none⟩) 1 1, .int .i64 (n : Int)] (V.alloc (.cells #[.int .i32 32, .int .i64 0, .int .i64 bk, .int .i64 0] 91)) fun e w' => ∃ v', e = .returned v' ∧ OwnG w' (V.alloc (.cells #[.int .i32 32, .int .i64 0, .int .i64 bk, .int .i64 0] 91)).heap.size v' (List.replicate n (32, 0, bk, 0)) ∧ Below (V.alloc (.cells #[.int .i32 32, .int .i64 0, .int .i64 bk, .int .i64 0] 91)).heap.size (V.alloc (.cells #[.int .i32 32, .int .i64 0, .int .i64 bk, .int .i64 0] 91)) w') := fun V => Grd.repeat_one V.heap.size 0 1 n (32, 0, bk, 0) _ (cells_one V (32, 0, bk, 0)) hn1 (by omega)
  clear h7
  go_enter Tryz.func109, Tryz.ntmps109
  go_wp2_with fail
  refine HB.mono ?_
  rintro e V1 ⟨rfl, b1⟩
  clear HB
  go_wp2_with fail
  refine (HRP.out V1).mono ?_
  rintro e V2 ⟨v2, rfl, ho, b2⟩
  have q2 := b1.alloc b1.size (.cells #[.int .i32 32, .int .i64 0, .int .i64 bk, .int .i64 0] 91)
  have q3 := q2.trans (b2.mono q2.size)
  obtain ⟨g, hg1, hr⟩ := own_rowB ho
  obtain ⟨cap, rest, hv, hc1, hc2, hh⟩ := hr
  subst hv
  go_wp2_with fail
  go_ret
  refine ⟨_, cap, g, rfl, by have := q2.size; omega, ⟨cap, rest, by rw [List.length_replicate], hc1, hc2, hh⟩, q3⟩
set_option maxHeartbeats 2000000 in
theorem blanks_zero (p : Nat) (bk : Int) (W : World) (h7 : W.cell? ⟨p, 7, none⟩ = some (.int .i64 bk)) :
    Calls Tryz.prog 109 #[.pointer (some ⟨p, 0, none⟩), .int .i64 0] W fun e W' => ∃ a c g, e = .returned (.slice a 0 c) ∧ W.heap.size ≤ g ∧ RowB W' g (.slice a 0 c) [] ∧ Below W.heap.size W W' := by
  have HB := blankS_any p bk W h7
  have HRP : Hid (∀ V : World, Calls Tryz.prog 98 #[.slice (some ⟨V.heap.size, 0, none⟩) 1 1, .int .i64 0] (V.alloc (.cells #[.int .i32 32, .int .i64 0, .int .i64 bk, .int .i64 0] 91)) fun e w' => ∃ v', e = .returned v' ∧ OwnG w' (V.alloc (.cells #[.int .i32 32, .int .i64 0, .int .i64 bk, .int .i64 0] 91)).heap.size v' [] ∧ Below (V.alloc (.cells #[.int .i32 32, .int .i64 0, .int .i64 bk, .int .i64 0] 91)).heap.size (V.alloc (.cells #[.int .i32 32, .int .i64 0, .int .i64 bk, .int .i64 0] 91)) w') := fun V => Grd.repeat_zero _ 0 1 (32, 0, bk, 0) _ (cells_one V (32, 0, bk, 0))
  clear h7
  go_enter Tryz.func109, Tryz.ntmps109
  go_wp2_with fail
  refine HB.mono ?_
  rintro e V1 ⟨rfl, b1⟩
  clear HB
  go_wp2_with fail
  refine (HRP.out V1).mono ?_
  rintro e V2 ⟨v2, rfl, ho, b2⟩
  have q2 := b1.alloc b1.size (.cells #[.int .i32 32, .int .i64 0, .int .i64 bk, .int .i64 0] 91)
  have q3 := q2.trans (b2.mono q2.size)
  obtain ⟨g, hg1, hr⟩ := own_rowB ho
  obtain ⟨cap, rest, hv, hc1, hc2, hh⟩ := hr
  subst hv
  go_wp2_with fail
  go_ret
  exact ⟨_, cap, g, rfl, by have := q2.size; omega, ⟨cap, rest, rfl, hc1, hc2, hh⟩, q3⟩
theorem blanks_all (p n : Nat) (bk : Int) (W : World) (h7 : W.cell? ⟨p, 7, none⟩ = some (.int .i64 bk)) (hn2 : n ≤ 120) :
    Calls Tryz.prog 109 #[.pointer (some ⟨p, 0, none⟩), .int .i64 (n : Int)] W fun e W' => ∃ a c g, e = .returned (.slice a n c) ∧ W.heap.size ≤ g ∧ RowB W' g (.slice a n c) (List.replicate n (32, 0, bk, 0)) ∧ Below W.heap.size W W' := by
  rcases Nat.eq_zero_or_pos n with rfl | h
  · exact blanks_zero p bk W h7
  · exact blanks_any p n bk W h7 h hn2
/-- A row goes, and a blank one comes. -/
def replR (rows : List (List C)) (n : Nat) (bk : Int) (gone fresh : Nat) : List (List C) := (rows.eraseIdx gone).insertIdx fresh (List.replicate n (32, 0, bk, 0))
theorem replR_len (rows : List (List C)) (n : Nat) (bk : Int) (gone fresh : Nat) (hg : gone < rows.length) (hf : fresh < rows.length) : (replR rows n bk gone fresh).length = rows.length := by
  unfold replR
  rw [List.length_insertIdx_of_le_length (by rw [List.length_eraseIdx_of_lt hg]; omega), List.length_eraseIdx_of_lt hg]
  omega
theorem replR_row (rows : List (List C)) (n : Nat) (bk : Int) (gone fresh : Nat) (hg : gone < rows.length) (hf : fresh < rows.length) (hn : ∀ i, i < rows.length → (rows.getD i []).length = n) (i : Nat) (hi : i < rows.length) : ((replR rows n bk gone fresh).getD i []).length = n := by
  have hl : (rows.eraseIdx gone).length = rows.length - 1 := List.length_eraseIdx_of_lt hg
  have he : ∀ j, j < rows.length - 1 → ((rows.eraseIdx gone).getD j []).length = n := fun j hj => by
    rw [getD_erase]
    split
    · exact hn j (by omega)
    · exact hn (j + 1) (by omega)
  unfold replR
  rw [getD_insert _ _ _ _ _ (by omega)]
  split
  · exact he i (by omega)
  · split
    · simp
    · exact he (i - 1) (by omega)
set_option linter.unusedSimpArgs false in
set_option maxHeartbeats 4000000 in
set_option maxRecDepth 100000 in
theorem replace_any (W : World) (M N p n : Nat) (s : Scr) (rows : List (List C)) (hS : ShAt 64 W M N p s rows) (gone fresh : Nat) (hw : s.w = n) (hn1 : 1 ≤ n) (hn2 : n ≤ 120) (hg : gone < rows.length) (hf : fresh < rows.length) (hrl : rows.length ≤ 60) :
    Calls Tryz.prog 168 #[.pointer (some ⟨p, 0, none⟩), .int .i64 (gone : Int), .int .i64 (fresh : Int)] W (Ran W M N p s (replR rows n s.sb gone fresh)) := by
  obtain ⟨cv, tv, gv, rv, gvs, vs, hS⟩ := hS
  obtain ⟨rb, rc, hrv, hrb, hrc1, hrc2, hvl, hrcell, A, hrA⟩ := own_cells hS.rws (by omega)
  subst hrv
  have HD := delete_own N rb rows.length rc gone vs W hS.rws hS.rin.sls hg
  obtain ⟨⟨c0, -⟩, ⟨-, -, -, -, -, -, -, -, -, -, -, c22⟩, f⟩ := sh_cells hS.blk
  have hpr : p ≠ rb := by
    intro e
    rw [← e, hS.blk] at hrA
    injection hrA with hrA
    injection hrA with _ hrA _
    exact absurd hrA (by decide)
  have hlo := hS.lo
  have hwg : IntKind.i64.wrap ((gone : Int) + 1) = ((gone + 1 : Nat) : Int) := by rw [wrap_id _ (by omega) (by omega)]; omega
  have HS : Hid (ShA 64 W M N p s rows cv tv gv (.slice (some ⟨rb, 0, none⟩) rows.length rc) gvs vs) := hS
  clear hS hrcell hvl f c0
  go_enter Tryz.func168, Tryz.ntmps168
  go_wp2_with fail
  refine HD.mono ?_
  rintro e V1 ⟨rfl, hO1, hk1, hb1⟩
  have hpV := (hk1 p hpr).trans HS.out.blk
  have c22' := (sh_cells hpV).2.1.2.2.2.2.2.2.2.2.2.2.2
  have f22 := (sh_cells hpV).2.2 22
  go_upto_region 1 with fail
  have hS1 : ShA 64 (V1.setCell ⟨p, 22, none⟩ (.slice (some ⟨rb, 0, none⟩) (rows.length - 1) rc)) M N p s (rows.eraseIdx gone) cv tv gv (.slice (some ⟨rb, 0, none⟩) (rows.length - 1) rc) gvs (vs.eraseIdx gone) :=
    HS.out.rowsNew (rb := rb) rfl rfl (fun k _ hk => hk1 k hk) (by rw [List.length_eraseIdx_of_lt hg]; exact hO1) ((HS.out.rin.erase gone hg).keep (HS.out.keptR (rb := rb) rfl fun k _ hk => hk1 k hk))
  have hB1 : Below N W (V1.setCell ⟨p, 22, none⟩ (.slice (some ⟨rb, 0, none⟩) (rows.length - 1) rc)) := (hb1.mono hrb).setCell hlo _
  have hF1 : Framed W (V1.setCell ⟨p, 22, none⟩ (.slice (some ⟨rb, 0, none⟩) (rows.length - 1) rc)) := fun k o hk ho => by
    have e1 : k ≠ rb := by
      intro e
      rw [e, hrA] at hk
      injection hk with hk
      exact not_other_rows (ho A _ _ hk.symm)
    exact Framed.store hpV not_other_sheet k o ((hk1 k e1).trans hk) ho
  have HS1 : Hid _ := hS1
  have HB1 : Hid _ := hB1
  have HF1 : Hid _ := hF1
  clear hS1 hB1 hF1 hO1 hk1 hb1 hpV c22' f22 c22 hrA HS HD
  generalize V1.setCell ⟨p, 22, none⟩ (.slice (some ⟨rb, 0, none⟩) (rows.length - 1) rc) = X at *
  have hX := HS1.out
  obtain ⟨⟨c0, -, -, -, -, -, -, c7, -⟩, ⟨-, -, -, -, -, -, -, -, -, -, -, c22⟩, -⟩ := sh_cells hX.blk
  rw [hw] at c0
  have b0 : Below X.heap.size X X.drew := (Below.refl _ _).drew
  have hNX : N ≤ X.heap.size := Nat.le_trans hlo (Nat.le_of_lt (heap_lt hX.blk))
  have HBL := blanks_any p n s.sb X.drew (cell_stay b0 c7) hn1 hn2
  have HIN : Hid (∀ (V2 : World) (a : Option Addr) (c g : Nat), Below X.heap.size X V2 → RowB V2 g (.slice a n c) (List.replicate n (32, 0, s.sb, 0)) → Calls Tryz.prog 144 #[.slice (some ⟨rb, 0, none⟩) (rows.length - 1) rc, .int .i64 (fresh : Int), .slice (some ⟨V2.heap.size, 0, none⟩) 1 1] (V2.alloc (.cells #[.slice a n c] 22)) fun e V3 => e = .returned (.slice (some ⟨rb, 0, none⟩) (rows.length - 1 + 1) rc) ∧ V3.cell? ⟨p, 22, none⟩ = some (.slice (some ⟨rb, 0, none⟩) (rows.length - 1) rc) ∧ V3.frozen? ⟨p, 22, none⟩ = false ∧ Hid (Ran W M N p s (replR rows n s.sb gone fresh) (.returned (.tuple #[])) (V3.setCell ⟨p, 22, none⟩ (.slice (some ⟨rb, 0, none⟩) (rows.length - 1 + 1) rc)))) := fun V2 a c g q1 hR => by
    have q2 := q1.alloc q1.size (.cells #[.slice a n c] 22)
    have hS2 := hX.next q2
    have hal := heap_alloc_new V2 (.cells #[.slice a n c] 22)
    have hri : RowIn V2 M (.slice a n c) (List.replicate n (32, 0, s.sb, 0)) := rowIn_rowB hR
    have hle : (rows.eraseIdx gone).length = rows.length - 1 := List.length_eraseIdx_of_lt hg
    obtain ⟨-, B, f', hB⟩ := owns_block hX.rws rb rfl
    have hne : V2.heap.size ≠ rb := by have h1 := heap_lt hB; have h2 := q1.size; omega
    have key := insert_own N rb (rows.length - 1) rc fresh V2.heap.size 1 (vs.eraseIdx gone) (.slice a n c) _ (by have := hS2.rws; rwa [hle] at this) hS2.rin.sls (sl_in hri) (by omega) (by omega) hal hne
    refine Calls.mono key ?_
    rintro e V3 ⟨rfl, hO3, hk3, hb3⟩
    have hp3 : V3.heap[p]? = _ := (hk3 p hpr).trans hS2.blk
    have hri3 : RowIn V3 M (.slice a n c) (List.replicate n (32, 0, s.sb, 0)) := (hri.keep (Kept.of_below ((Below.refl _ _).alloc (Nat.le_refl _) _))).keep (hS2.keptR (rb := rb) rfl fun k _ hk => hk3 k hk)
    have hS3 := hS2.rowsNew (rb := rb) (rv' := .slice (some ⟨rb, 0, none⟩) (rows.length - 1 + 1) rc) (rows' := replR rows n s.sb gone fresh) (vs' := (vs.eraseIdx gone).insertIdx fresh (.slice a n c)) rfl rfl (fun k _ hk => hk3 k hk) (by rw [replR_len rows n s.sb gone fresh hg hf, show rows.length = rows.length - 1 + 1 by omega]; exact hO3) ((hS2.rin.keep (hS2.keptR (rb := rb) rfl fun k _ hk => hk3 k hk)).insert fresh (by omega) _ _ hri3)
    refine ⟨rfl, (sh_cells hp3).2.1.2.2.2.2.2.2.2.2.2.2.2, (sh_cells hp3).2.2 22, rfl, ⟨_, _, _, _, _, _, hS3⟩, ((HB1.out.trans (q2.mono hNX)).trans (hb3.mono hrb)).setCell hlo _, ?_⟩
    refine (Framed.trans HF1.out (Framed.of_below q2)).trans ?_
    intro k o hk ho
    have e1 : k ≠ rb := by
      intro e
      have hB2 := Grd.carry hB q2
      rw [e, hB2] at hk
      injection hk with hk
      exact not_other_rows (ho B _ _ hk.symm)
    exact Framed.store hp3 not_other_sheet k o ((hk3 k e1).trans hk) ho
  have HC22 : Hid (∀ V, Below X.heap.size X V → V.cell? ⟨p, 22, none⟩ = some (.slice (some ⟨rb, 0, none⟩) (rows.length - 1) rc)) := fun V h => cell_stay h c22
  clear hX c7 HS1 HB1 HF1 hw
  generalize rows.length - 1 = m at *
  generalize replR rows n s.sb gone fresh = rows' at *
  go_region_with (first
    | (go_at_call 109; refine HBL.mono ?_; rintro e V2 ⟨a, c, g, rfl, hg2, hR, b2⟩; have q1 := b0.trans (b2.mono b0.size); have d22 := HC22.out _ q1; have e22 := HC22.out _ (q1.alloc q1.size (.cells #[.slice a n c] 22)); have hI := HIN.out V2 a c g q1 hR; clear hR b2)
    | (go_at_call 144; refine hI.mono ?_; rintro e V3 ⟨rfl, z22, zf, HE⟩))
  all_goals go_wp2_with fail
  all_goals go_end0
  all_goals exact HE.out
end Put
end Go.Proofs.YtnkeahfcpbepjaaGreatDoor

/- (*sheet.Sheet).Clear: cells of a row become blank. (Written by gen_sheetover.py.) -/
namespace Go.Proofs.YtnkeahfcpbepjaaGreatDoor
open Go.ChangeShapes Go.WideShapes Go.ChangeAt Go.RowKit
namespace Put
open Grd (C SliceAt CellsAt gridErr z0 nilV flat rowsL OwnG RowB)
open Sty (isSt)
open Txt (wd)
set_option linter.unusedVariables false in
set_option maxHeartbeats 8000000 in
set_option maxRecDepth 100000 in
theorem clear1_in (W : World) (p Bp Bf Be rb ro c a b n : Nat) (bk : Int) (row : List C) (hp : W.cell? ⟨Bp, 0, none⟩ = some (.pointer (some ⟨p, 0, none⟩))) (hf : W.cell? ⟨Bf, 0, none⟩ = some (.int .i64 (a : Int))) (he : W.cell? ⟨Be, 0, none⟩ = some (.int .i64 (b : Int))) (h7 : W.cell? ⟨p, 7, none⟩ = some (.int .i64 bk)) (hC : CellsAt W rb ro row) (hc : row.length ≤ c) (hab : a + n = b) (hbl : b ≤ row.length) (hl : row.length ≤ 120) (hcc : b < c) :
    Calls Tryz.prog 108 #[.slice (some ⟨rb, ro, none⟩) row.length c, .pointer (some ⟨Bf, 0, none⟩), .pointer (some ⟨Bp, 0, none⟩), .pointer (some ⟨Be, 0, none⟩)] W fun e W' => ∃ v', e = .returned v' ∧ W'.ownsRow W.heap.size 91 4 v' row.length (flat (ovR row (List.replicate n (32, 0, bk, 0)) a b)) ∧ Below W.heap.size W W' := by
  have SK : Hid (∀ V, Below W.heap.size W V → V.cell? ⟨Bp, 0, none⟩ = some (.pointer (some ⟨p, 0, none⟩)) ∧ V.cell? ⟨Bf, 0, none⟩ = some (.int .i64 (a : Int)) ∧ V.cell? ⟨Be, 0, none⟩ = some (.int .i64 (b : Int))) := fun V h => ⟨cell_stay h hp, cell_stay h hf, cell_stay h he⟩
  have HBL : Hid (∀ V, Below W.heap.size W V → Calls Tryz.prog 109 #[.pointer (some ⟨p, 0, none⟩), .int .i64 (n : Int)] V fun e W' => ∃ q c g, e = .returned (.slice q n c) ∧ V.heap.size ≤ g ∧ RowB W' g (.slice q n c) (List.replicate n (32, 0, bk, 0)) ∧ Below V.heap.size V W') := fun V h => blanks_all p n bk V (cell_stay h h7) (by omega)
  have hwr : IntKind.i64.wrap ((b : Int) - (a : Int)) = (n : Int) := by
    rw [wrap_id _ (by omega) (by omega)]
    omega
  have HCC : Hid (CellsAt W rb ro row) := hC
  obtain ⟨L, hL⟩ : ∃ L, L = row.length := ⟨_, rfl⟩
  obtain ⟨m, hm⟩ : ∃ m, m = L - b := ⟨_, rfl⟩
  have HCN : Hid (∀ (V : World) (q : Option Addr) (vc g : Nat), Below W.heap.size W V → RowB V g (.slice q n vc) (List.replicate n (32, 0, bk, 0)) → Calls Tryz.prog 97 #[.slice (some ⟨V.heap.size, 0, none⟩) 3 3] (V.alloc (.cells #[.slice (some ⟨rb, ro, none⟩) a c, .slice q n vc, .slice (some ⟨rb, ro + b * 4, none⟩) m (c - b)] 22)) fun e w' => ∃ v', e = .returned v' ∧ w'.ownsRow (V.alloc (.cells #[.slice (some ⟨rb, ro, none⟩) a c, .slice q n vc, .slice (some ⟨rb, ro + b * 4, none⟩) m (c - b)] 22)).heap.size 91 4 v' L (flat (ovR row (List.replicate n (32, 0, bk, 0)) a b)) ∧ Below (V.alloc (.cells #[.slice (some ⟨rb, ro, none⟩) a c, .slice q n vc, .slice (some ⟨rb, ro + b * 4, none⟩) m (c - b)] 22)).heap.size (V.alloc (.cells #[.slice (some ⟨rb, ro, none⟩) a c, .slice q n vc, .slice (some ⟨rb, ro + b * 4, none⟩) m (c - b)] 22)) w') := fun V q vc g hV hB => by
    have hM := hB.cells
    obtain ⟨bc, brest, hbv, -⟩ := hB
    injection hbv with ha _ _
    subst ha
    have key := over3 V rb ro g 0 c a b n vc L row (List.replicate n (32, 0, bk, 0)) (HCC.out.below hV) hM List.length_replicate hab hL.symm (by omega) (by omega) (ro + b * 4) (c - b) (.inl rfl)
    rw [← hm] at key
    exact key
  have b0 : Below W.heap.size W W.drew := (Below.refl _ _).drew
  have hx1 : (a : Int) ≤ (c : Int) := by omega
  have hx2 : (a : Int) ≤ (L : Int) := by omega
  have hx3 : (b : Int) ≤ (L : Int) := by omega
  have hx4 : (0 : Int) ≤ (b : Int) := by omega
  have hcI : (b : Int) < (c : Int) := by omega
  have hcN : ¬ c = b := by omega
  have hkk : L - b = m := hm.symm
  rw [← hL]
  clear hp hf he h7 hC hc hab hbl hl hcc hL hm HCC
  generalize ovR row (List.replicate n (32, 0, bk, 0)) a b = res at *
  go_enter Tryz.func108, Tryz.ntmps108
  go_upto_region 1 with fail
  go_region_held3 (fun w' => w'.cell? ⟨Bp, 0, none⟩ = some (.pointer (some ⟨p, 0, none⟩)) ∧ w'.cell? ⟨Bf, 0, none⟩ = some (.int .i64 (a : Int)) ∧ w'.cell? ⟨Be, 0, none⟩ = some (.int .i64 (b : Int)))
    (first | exact SK.out _ q3 | exact SK.out _ q2 | exact SK.out _ q1 | exact SK.out _ b0)
    (first
      | (go_at_call 109; refine (HBL.out _ b0).mono ?_; rintro e V1 ⟨q, vc, g, rfl, hg, hB, b1⟩; have q1 : Below W.heap.size W V1 := b0.trans (b1.mono b0.size); have q2 := q1.alloc q1.size (.cells #[.slice (some ⟨rb, ro, none⟩) a c, .slice q n vc, .slice (some ⟨rb, ro + b * 4, none⟩) m (c - b)] 22); have HC1 := HCN.out V1 q vc g q1 hB)
      | (go_at_call 97; (try rw [hkk]); refine HC1.mono ?_; rintro e V2 ⟨v', rfl, hO, b2⟩; have q3 : Below W.heap.size W V2 := q2.trans (b2.mono q2.size); have HFI : Hid _ := And.intro (Grd.ownsRow_mono hO q2.size) q3; obtain ⟨za, zc, hzv⟩ := own_slice hO; subst hzv))
  all_goals go_wp2_with fail
  all_goals go_ret
  all_goals exact ⟨_, rfl, HFI.out.1, HFI.out.2⟩
set_option linter.unusedVariables false in
set_option maxHeartbeats 8000000 in
set_option maxRecDepth 100000 in
theorem clear1_end (W : World) (p Bp Bf Be rb ro c a b n : Nat) (bk : Int) (row : List C) (hp : W.cell? ⟨Bp, 0, none⟩ = some (.pointer (some ⟨p, 0, none⟩))) (hf : W.cell? ⟨Bf, 0, none⟩ = some (.int .i64 (a : Int))) (he : W.cell? ⟨Be, 0, none⟩ = some (.int .i64 (b : Int))) (h7 : W.cell? ⟨p, 7, none⟩ = some (.int .i64 bk)) (hC : CellsAt W rb ro row) (hc : row.length ≤ c) (hab : a + n = b) (hbl : b ≤ row.length) (hl : row.length ≤ 120) (hcc : ¬ b < c) :
    Calls Tryz.prog 108 #[.slice (some ⟨rb, ro, none⟩) row.length c, .pointer (some ⟨Bf, 0, none⟩), .pointer (some ⟨Bp, 0, none⟩), .pointer (some ⟨Be, 0, none⟩)] W fun e W' => ∃ v', e = .returned v' ∧ W'.ownsRow W.heap.size 91 4 v' row.length (flat (ovR row (List.replicate n (32, 0, bk, 0)) a b)) ∧ Below W.heap.size W W' := by
  have SK : Hid (∀ V, Below W.heap.size W V → V.cell? ⟨Bp, 0, none⟩ = some (.pointer (some ⟨p, 0, none⟩)) ∧ V.cell? ⟨Bf, 0, none⟩ = some (.int .i64 (a : Int)) ∧ V.cell? ⟨Be, 0, none⟩ = some (.int .i64 (b : Int))) := fun V h => ⟨cell_stay h hp, cell_stay h hf, cell_stay h he⟩
  have HBL : Hid (∀ V, Below W.heap.size W V → Calls Tryz.prog 109 #[.pointer (some ⟨p, 0, none⟩), .int .i64 (n : Int)] V fun e W' => ∃ q c g, e = .returned (.slice q n c) ∧ V.heap.size ≤ g ∧ RowB W' g (.slice q n c) (List.replicate n (32, 0, bk, 0)) ∧ Below V.heap.size V W') := fun V h => blanks_all p n bk V (cell_stay h h7) (by omega)
  have hwr : IntKind.i64.wrap ((b : Int) - (a : Int)) = (n : Int) := by
    rw [wrap_id _ (by omega) (by omega)]
    omega
  have HCC : Hid (CellsAt W rb ro row) := hC
  obtain ⟨L, hL⟩ : ∃ L, L = row.length := ⟨_, rfl⟩
  have hbc : b = c := by omega
  have hbL : b = L := by omega
  subst hbc
  subst hbL
  have HCN : Hid (∀ (V : World) (q : Option Addr) (vc g : Nat), Below W.heap.size W V → RowB V g (.slice q n vc) (List.replicate n (32, 0, bk, 0)) → Calls Tryz.prog 97 #[.slice (some ⟨V.heap.size, 0, none⟩) 3 3] (V.alloc (.cells #[.slice (some ⟨rb, ro, none⟩) a b, .slice q n vc, .slice (some ⟨rb, ro, none⟩) 0 0] 22)) fun e w' => ∃ v', e = .returned v' ∧ w'.ownsRow (V.alloc (.cells #[.slice (some ⟨rb, ro, none⟩) a b, .slice q n vc, .slice (some ⟨rb, ro, none⟩) 0 0] 22)).heap.size 91 4 v' b (flat (ovR row (List.replicate n (32, 0, bk, 0)) a b)) ∧ Below (V.alloc (.cells #[.slice (some ⟨rb, ro, none⟩) a b, .slice q n vc, .slice (some ⟨rb, ro, none⟩) 0 0] 22)).heap.size (V.alloc (.cells #[.slice (some ⟨rb, ro, none⟩) a b, .slice q n vc, .slice (some ⟨rb, ro, none⟩) 0 0] 22)) w') := fun V q vc g hV hB => by
    have hM := hB.cells
    obtain ⟨bc, brest, hbv, -⟩ := hB
    injection hbv with ha _ _
    subst ha
    have key := over3 V rb ro g 0 b a b n vc b row (List.replicate n (32, 0, bk, 0)) (HCC.out.below hV) hM List.length_replicate hab hL.symm (by omega) (by omega) ro 0 (.inr rfl)
    rw [Nat.sub_self] at key
    exact key
  have b0 : Below W.heap.size W W.drew := (Below.refl _ _).drew
  have hx1 : (a : Int) ≤ (b : Int) := by omega
  have hx2 : (a : Int) ≤ (b : Int) := by omega
  have hx3 : (b : Int) ≤ (b : Int) := by omega
  have hx4 : (0 : Int) ≤ (b : Int) := by omega
  have hcI : ¬ (b : Int) < (b : Int) := by omega
  have hcN : b = b := rfl
  have hkk : b - b = 0 := Nat.sub_self _
  rw [← hL]
  clear hp hf he h7 hC hc hab hbl hl hcc hL HCC
  generalize ovR row (List.replicate n (32, 0, bk, 0)) a b = res at *
  go_enter Tryz.func108, Tryz.ntmps108
  go_upto_region 1 with fail
  go_region_held3 (fun w' => w'.cell? ⟨Bp, 0, none⟩ = some (.pointer (some ⟨p, 0, none⟩)) ∧ w'.cell? ⟨Bf, 0, none⟩ = some (.int .i64 (a : Int)) ∧ w'.cell? ⟨Be, 0, none⟩ = some (.int .i64 (b : Int)))
    (first | exact SK.out _ q3 | exact SK.out _ q2 | exact SK.out _ q1 | exact SK.out _ b0)
    (first
      | (go_at_call 109; refine (HBL.out _ b0).mono ?_; rintro e V1 ⟨q, vc, g, rfl, hg, hB, b1⟩; have q1 : Below W.heap.size W V1 := b0.trans (b1.mono b0.size); have q2 := q1.alloc q1.size (.cells #[.slice (some ⟨rb, ro, none⟩) a b, .slice q n vc, .slice (some ⟨rb, ro, none⟩) 0 0] 22); have HC1 := HCN.out V1 q vc g q1 hB)
      | (go_at_call 97; (try rw [hkk]); refine HC1.mono ?_; rintro e V2 ⟨v', rfl, hO, b2⟩; have q3 : Below W.heap.size W V2 := q2.trans (b2.mono q2.size); have HFI : Hid _ := And.intro (Grd.ownsRow_mono hO q2.size) q3; obtain ⟨za, zc, hzv⟩ := own_slice hO; subst hzv))
  all_goals go_wp2_with fail
  all_goals go_ret
  all_goals exact ⟨_, rfl, HFI.out.1, HFI.out.2⟩
theorem clear1_any (W : World) (p Bp Bf Be rb ro c a b n : Nat) (bk : Int) (row : List C) (hp : W.cell? ⟨Bp, 0, none⟩ = some (.pointer (some ⟨p, 0, none⟩))) (hf : W.cell? ⟨Bf, 0, none⟩ = some (.int .i64 (a : Int))) (he : W.cell? ⟨Be, 0, none⟩ = some (.int .i64 (b : Int))) (h7 : W.cell? ⟨p, 7, none⟩ = some (.int .i64 bk)) (hC : CellsAt W rb ro row) (hc : row.length ≤ c) (hab : a + n = b) (hbl : b ≤ row.length) (hl : row.length ≤ 120) :
    Calls Tryz.prog 108 #[.slice (some ⟨rb, ro, none⟩) row.length c, .pointer (some ⟨Bf, 0, none⟩), .pointer (some ⟨Bp, 0, none⟩), .pointer (some ⟨Be, 0, none⟩)] W fun e W' => ∃ v', e = .returned v' ∧ W'.ownsRow W.heap.size 91 4 v' row.length (flat (ovR row (List.replicate n (32, 0, bk, 0)) a b)) ∧ Below W.heap.size W W' := by
  by_cases hcc : b < c
  · exact clear1_in W p Bp Bf Be rb ro c a b n bk row hp hf he h7 hC hc hab hbl hl hcc
  · exact clear1_end W p Bp Bf Be rb ro c a b n bk row hp hf he h7 hC hc hab hbl hl hcc
end Put
end Go.Proofs.YtnkeahfcpbepjaaGreatDoor

/- (*sheet.Sheet).Clear. -/
namespace Go.Proofs.YtnkeahfcpbepjaaGreatDoor
open Go.ChangeShapes Go.WideShapes Go.ChangeAt Go.RowKit
namespace Put
open Grd (C SliceAt CellsAt gridErr z0 nilV flat rowsL OwnG RowB)
open Sty (isSt)
theorem alloc3c (w : World) (o0 o1 o2 : Obj) : (((w.alloc o0).alloc o1).alloc o2).heap[w.heap.size]? = some o0 ∧ (((w.alloc o0).alloc o1).alloc o2).heap[w.heap.size + 1]? = some o1 ∧
    (((w.alloc o0).alloc o1).alloc o2).heap[w.heap.size + 2]? = some o2 ∧
    Below w.heap.size w (((w.alloc o0).alloc o1).alloc o2) ∧ (((w.alloc o0).alloc o1).alloc o2).heap.size = w.heap.size + 3 := by
  have s1 : (w.alloc o0).heap.size = w.heap.size + 1 := by simp
  have s2 : ((w.alloc o0).alloc o1).heap.size = w.heap.size + 2 := by simp
  refine ⟨?_, ?_, ?_, (((Below.refl _ _).alloc (Nat.le_refl _) _).alloc (by omega) _).alloc (by omega) _, by simp⟩
  · rw [Below.heap_alloc _ _ _ (by omega), Below.heap_alloc _ _ _ (by omega), heap_alloc_new]
  · rw [Below.heap_alloc _ _ _ (by omega), ← s1, heap_alloc_new]
  · rw [← s2, heap_alloc_new]
theorem cell_one'' {W : World} {R : Nat} {v : Value} {t : TypeId} (h : W.heap[R]? = some (.cells #[v] t (0, 0))) : W.cell? ⟨R, 0, none⟩ = some v := by simp [World.cell?, h]
theorem plain_clear : Plain 108 := by
  intro args W
  kernel_rfl
theorem wipe_ov (bk : Int) (row : List C) (a b : Nat) (h : a ≤ b) (hb : b ≤ row.length) : wipeRow bk row a b = Grd.mendL (ovR row (List.replicate (b - a) (32, 0, bk, 0)) a b) := by
  unfold wipeRow
  have hl : a + (List.replicate (b - a) ((32, 0, bk, 0) : C)).length = b := by rw [List.length_replicate]; omega
  refine congrArg Grd.mendL (Grd.ext_getD _ _ (by rw [Grd.putRow_len, ovR_len _ _ _ _ hl hb]) fun j hj => ?_)
  rw [Grd.putRow_len] at hj
  rw [ovR_at _ _ _ _ hl hb, Grd.putRow_at _ _ _ _ hj]
  by_cases h1 : j < a
  · rw [if_neg (by simp; omega), if_pos h1]
  · rw [if_neg h1]
    by_cases h2 : j < b
    · rw [if_pos (by simp; omega), if_pos h2]
      simp only [List.getD]
      rw [List.getElem?_replicate, if_pos (by omega)]
      rfl
    · rw [if_neg (by simp; omega), if_neg h2]
theorem ov_alike (bk : Int) (row : List C) (a b : Nat) (h : a ≤ b) (hb : b ≤ row.length) (hr : Grd.RightRow row) (hs : isSt (0, bk, 0) = true) : Grd.Alike (ovR row (List.replicate (b - a) (32, 0, bk, 0)) a b) := by
  have hl : a + (List.replicate (b - a) ((32, 0, bk, 0) : C)).length = b := by rw [List.length_replicate]; omega
  have e : ovR row (List.replicate (b - a) (32, 0, bk, 0)) a b = Grd.putRow row (fun x => decide (a ≤ x ∧ x < b)) fun _ => (32, 0, bk, 0) := by
    refine Grd.ext_getD _ _ (by rw [Grd.putRow_len, ovR_len _ _ _ _ hl hb]) fun j hj => ?_
    rw [ovR_len _ _ _ _ hl hb] at hj
    rw [ovR_at _ _ _ _ hl hb, Grd.putRow_at _ _ _ _ hj]
    by_cases h1 : j < a
    · rw [if_neg (show ¬ (decide (a ≤ j ∧ j < b) = true) by simp; omega), if_pos h1]
    · rw [if_neg h1]
      by_cases h2 : j < b
      · rw [if_pos (show decide (a ≤ j ∧ j < b) = true by simp; omega), if_pos h2]
        simp only [List.getD]
        rw [List.getElem?_replicate, if_pos (by omega)]
        rfl
      · rw [if_neg (show ¬ (decide (a ≤ j ∧ j < b) = true) by simp; omega), if_neg h2]
  rw [e]
  exact (Grd.meant_fill row _ _ hr.1 Grd.wd32 hs).alike
set_option maxHeartbeats 4000000 in
set_option maxRecDepth 100000 in
theorem clear_any (W : World) (M N p : Nat) (s : Scr) (rows : List (List C)) (hT : Txt.Tab W) (hSt : ShAt 64 W M N p s rows)
    (n y a b : Nat) (hy : y < rows.length) (row : List C) (hrow : rows.getD y [] = row) (hn1 : 1 ≤ n) (hn2 : n ≤ 120) (hrn : row.length = n) (hz : gridErr n 1 row = 0) (hst : isSt (0, s.sb, 0) = true) (hab : a ≤ b) (hb : b ≤ n) :
    Calls Tryz.prog 51 #[.pointer (some ⟨p, 0, none⟩), .int .i64 (y : Int), .int .i64 (a : Int), .int .i64 (b : Int)] W (Ran W M N p s (rows.set y (wipeRow s.sb row a b))) := by
  obtain ⟨cv, tv, gv, rv, gvs, vs, hS⟩ := hSt
  have kb : Below W.heap.size W (((W.alloc (.cells #[.pointer (some ⟨p, 0, none⟩)] 57)).alloc (.cells #[.int .i64 (a : Int)] 3)).alloc (.cells #[.int .i64 (b : Int)] 3)) := (((Below.refl _ _).alloc (Nat.le_refl _) _).alloc (by simp) _).alloc (by simp; omega) _
  obtain ⟨hx0, hx1, hx2, -⟩ := alloc3c W (.cells #[.pointer (some ⟨p, 0, none⟩)] 57) (.cells #[.int .i64 (a : Int)] 3) (.cells #[.int .i64 (b : Int)] 3)
  have hrr := row_grid n row hrn hz
  have hlen := ovR_len row (List.replicate (b - a) (32, 0, s.sb, 0)) a b (by rw [List.length_replicate]; omega) (by omega)
  have HA : Hid (∀ X, Below W.heap.size W X → X.cell? ⟨W.heap.size, 0, none⟩ = some (.pointer (some ⟨p, 0, none⟩)) → X.cell? ⟨W.heap.size + 1, 0, none⟩ = some (.int .i64 (a : Int)) → X.cell? ⟨W.heap.size + 2, 0, none⟩ = some (.int .i64 (b : Int)) → Calls Tryz.prog 107 #[.pointer (some ⟨p, 0, none⟩), .int .i64 (y : Int), .func (.func 108) #[] #[.pointer (some ⟨W.heap.size + 1, 0, none⟩), .pointer (some ⟨W.heap.size, 0, none⟩), .pointer (some ⟨W.heap.size + 2, 0, none⟩)]] X (Ran X M N p s (rows.set y (wipeRow s.sb row a b)))) := fun X hX q1 q2 q3 => by
    rw [wipe_ov _ _ _ _ (by omega) (by omega)]
    refine relay_any X M N p s rows cv tv gv rv gvs vs (hS.next hX) (Grd.Tab.next hT hX) y hy _ plain_clear _ _ (fun W1 hW1 => ?_) (ov_alike _ _ _ _ (by omega) (by omega) hrr hst) (by rw [hlen]; omega)
    have hS1 := (hS.next hX).next hW1
    have hri := hS1.rin.2 y hy
    rw [hrow] at hri
    obtain ⟨⟨-, -, -, -, -, -, -, c7, -⟩, -, -⟩ := sh_cells hS1.blk
    rcases hri with ⟨he, -⟩ | ⟨hne, bb, o, c, hv, hc1, hc2, hC, -⟩
    · have h5 := congrArg List.length he
      rw [List.length_nil] at h5
      omega
    · rw [hv]
      refine (clear1_any W1 p W.heap.size (W.heap.size + 1) (W.heap.size + 2) bb o c a b (b - a) s.sb row (cell_stay hW1 q1) (cell_stay hW1 q2) (cell_stay hW1 q3) c7 hC hc1 (by omega) (by omega) (by omega)).mono ?_
      rintro e W2 ⟨v', rfl, hO, b2⟩
      have hO2 : W2.ownsRow W1.heap.size 91 4 v' (ovR row (List.replicate (b - a) (32, 0, s.sb, 0)) a b).length (flat (ovR row (List.replicate (b - a) (32, 0, s.sb, 0)) a b)) := by rw [hlen]; exact hO
      rcases OwnC.of hO2 with ⟨he, -⟩ | ⟨g, cap, rest, ⟨t, ht⟩, hv', hg1, hg2, hg3, hg4⟩
      · have h5 := congrArg List.length he
        rw [hlen, List.length_nil] at h5
        omega
      · subst ht
        rw [hv']
        exact ⟨g, cap, rest, rfl, hg1, hg2, hg3, hg4, b2⟩
  have HP0 : Hid _ := hx0
  have q1 := cell_one'' hx0
  have q2 := cell_one'' hx1
  have q3 := cell_one'' hx2
  have HKB : Hid _ := kb
  have hNW : N ≤ W.heap.size := by have := hS.lo; have := heap_lt hS.blk; omega
  clear hS hT hrow hz hst kb hx0 hx1 hx2 hrr hlen
  go_enter Tryz.func51, Tryz.ntmps51
  go_upto_region 1 with fail
  generalize (((W.alloc (.cells #[.pointer (some ⟨p, 0, none⟩)] 57)).alloc (.cells #[.int .i64 (a : Int)] 3)).alloc (.cells #[.int .i64 (b : Int)] 3)) = X at *
  go_wp2_with fail
  refine (HA.out _ HKB.out q1 q2 q3).mono ?_
  rintro e V ⟨rfl, hSV, hBV, hFV⟩
  have HSV : Hid _ := hSV
  have HBV : Hid _ := hBV
  have HFV : Hid _ := hFV
  clear hSV hBV hFV q1 q2 q3
  go_wp2_with fail
  go_end0
  exact ⟨rfl, HSV.out, (HKB.out.mono hNW).trans HBV.out, (Framed.of_below HKB.out).trans HFV.out⟩
end Put
end Go.Proofs.YtnkeahfcpbepjaaGreatDoor

/- Package wipe: span, clearLine, clearRows, and the closures that use them. -/
namespace Go.Proofs.YtnkeahfcpbepjaaGreatDoor
open Go.ChangeShapes Go.WideShapes Go.ChangeAt Go.RowKit
namespace Put
open Grd (C SliceAt CellsAt gridErr z0 nilV flat rowsL RightRow)
open Sty (isSt)
/-- Rows that are right ones, so wide. -/
def RightRows (n : Nat) (rows : List (List C)) : Prop := ∀ i, i < rows.length → (rows.getD i []).length = n ∧ RightRow (rows.getD i [])
theorem rightRows_of {s : Scr} {n hh : Nat} (h : RightS s n hh) : RightRows n (rowsL n s.cs hh) := fun i hi => by
  rw [Grd.rowsL_len] at hi
  have e2 : (rowsL n s.cs hh).getD i [] = Grd.rowAt n s.cs i := by simp [rowsL, List.getD, hi]
  rw [e2]
  exact ⟨Grd.row_len n hh s.cs i h.cl hi, ((Grd.gridErr_zero n hh s.cs).1 h.gz).2.2 i hi⟩
theorem RightRows.set {n : Nat} {rows : List (List C)} (h : RightRows n rows) (k : Nat) (row : List C) (hl : row.length = n) (hr : RightRow row) : RightRows n (rows.set k row) := fun i hi => by
  rw [List.length_set] at hi
  by_cases e : i = k
  · subst e
    rw [getD_set_same _ _ _ _ hi]
    exact ⟨hl, hr⟩
  · rw [getD_set_ne _ _ _ _ _ e]
    exact h i hi
theorem one_row (n : Nat) (row : List C) (hn1 : 1 ≤ n) (hn2 : n ≤ 120) (hl : row.length = n) (hr : RightRow row) : gridErr n 1 row = 0 := by
  refine (Grd.gridErr_zero n 1 row).2 ⟨?_, by omega, fun y hy => ?_⟩
  · simp [Grd.isSize]
    omega
  · have e : y = 0 := by omega
    subst e
    have e2 : Grd.rowAt n row 0 = row := by
      unfold Grd.rowAt
      rw [Nat.zero_mul, List.drop_zero, List.take_of_length_le (by omega)]
    rw [e2]
    exact hr
theorem back_style {s : Scr} {n hh : Nat} (h : RightS s n hh) : isSt (0, s.sb, 0) = true := by
  have h1 := h.looks
  simp only [looksOk, Bool.and_eq_true] at h1
  have h2 := h1.1
  simp only [isSt, decide_eq_true_eq] at h2 ⊢
  omega
/-- From where, and up to where. -/
def spanA (k : Int) (at' size : Nat) : Nat × Nat := if k ≤ 0 then (at', size) else if k = 1 then (0, at' + 1) else if k = 2 then (0, size) else (0, 0)
theorem span_any (k : Int) (x n : Nat) (hx : x ≤ 120) (w : World) : Calls Tryz.prog 106 #[.int .i64 k, .int .i64 (x : Int), .int .i64 (n : Int)] w fun e w' => e = .returned (.tuple #[.int .i64 ((spanA k x n).1 : Nat), .int .i64 ((spanA k x n).2 : Nat)]) ∧ w = w' := by
  by_cases k0 : k ≤ 0
  · have e : spanA k x n = (x, n) := by unfold spanA; rw [if_pos k0]
    rw [e]
    clear e
    go_enter Tryz.func106, Tryz.ntmps106
    go_wp2_with fail
    go_ret2
    exact ⟨rfl, rfl⟩
  · by_cases k1 : k = 1
    · have e : spanA k x n = (0, x + 1) := by unfold spanA; rw [if_neg k0, if_pos k1]
      rw [e]
      clear e k0
      subst k1
      go_enter Tryz.func106, Tryz.ntmps106
      go_wp2_with fail
      go_ret2
      exact ⟨rfl, rfl⟩
    · by_cases k2 : k = 2
      · have e : spanA k x n = (0, n) := by unfold spanA; rw [if_neg k0, if_neg k1, if_pos k2]
        rw [e]
        clear e k0 k1
        subst k2
        go_enter Tryz.func106, Tryz.ntmps106
        go_wp2_with fail
        go_ret2
        exact ⟨rfl, rfl⟩
      · have e : spanA k x n = (0, 0) := by unfold spanA; rw [if_neg k0, if_neg k1, if_neg k2]
        have q1 : (k == 1) = false := by rw [beq_eq_false_iff_ne]; exact k1
        have q2 : (k == 2) = false := by rw [beq_eq_false_iff_ne]; exact k2
        rw [e]
        clear e k1 k2
        go_enter Tryz.func106, Tryz.ntmps106
        go_wp2_with fail
        go_ret2
        exact ⟨rfl, rfl⟩
theorem span_ord (k : Int) (x n : Nat) (hx : x < n) : (spanA k x n).1 ≤ (spanA k x n).2 := by
  unfold spanA
  repeat' split
  all_goals (dsimp only; omega)
theorem span_le (k : Int) (x n : Nat) (hx : x < n) : (spanA k x n).1 ≤ n ∧ (spanA k x n).2 ≤ n := by
  unfold spanA
  split
  · exact ⟨by show x ≤ n; omega, Nat.le_refl _⟩
  · split
    · exact ⟨by show 0 ≤ n; omega, by show x + 1 ≤ n; omega⟩
    · split
      · exact ⟨by show 0 ≤ n; omega, Nat.le_refl _⟩
      · exact ⟨by show 0 ≤ n; omega, by show 0 ≤ n; omega⟩
/-- A row that a kind reaches, wiped. -/
def lineRow (s : Scr) (k : Int) (x n : Nat) (row : List C) : List C := wipeRow s.sb row (spanA k x n).1 (spanA k x n).2
set_option maxHeartbeats 4000000 in
theorem clearLine_any (W : World) (M N p : Nat) (s : Scr) (rows : List (List C)) (hT : Txt.Tab W) (hS : ShAt 64 W M N p s rows) (n y x : Nat) (k : Int) (hw : s.w = n) (hy : s.y = y) (hx : s.x = x) (hyl : y < rows.length) (hxn : x < n) (hn1 : 1 ≤ n) (hn2 : n ≤ 120) (hR : RightRows n rows) (hst : isSt (0, s.sb, 0) = true) :
    Calls Tryz.prog 45 #[.pointer (some ⟨p, 0, none⟩), .int .i64 k] W (Ran W M N p s (rows.set y (lineRow s k x n (rows.getD y [])))) := by
  obtain ⟨c0, c1, c3, c4, c5, c9, c10, c11, c19, f⟩ := hS.words
  have hsp := span_le k x n hxn
  have HSP : Hid (∀ W, Calls Tryz.prog 106 #[.int .i64 k, .int .i64 (x : Int), .int .i64 (n : Int)] W fun e w' => e = .returned (.tuple #[.int .i64 ((spanA k x n).1 : Nat), .int .i64 ((spanA k x n).2 : Nat)]) ∧ W = w') := fun W => span_any k x n (by omega) W
  have HCL : Hid (∀ V, Below W.heap.size W V → Calls Tryz.prog 51 #[.pointer (some ⟨p, 0, none⟩), .int .i64 (y : Int), .int .i64 ((spanA k x n).1 : Nat), .int .i64 ((spanA k x n).2 : Nat)] V (Ran V M N p s (rows.set y (lineRow s k x n (rows.getD y []))))) := fun V hV => clear_any V M N p s rows (Grd.Tab.next hT hV) (hS.next hV) n y _ _ hyl _ rfl hn1 hn2 (hR y hyl).1 (one_row n _ hn1 hn2 (hR y hyl).1 (hR y hyl).2) hst (span_ord k x n hxn) hsp.2
  have hNW : N ≤ W.heap.size := by
    obtain ⟨_, _, _, _, _, _, hA⟩ := hS
    have := hA.lo
    have := heap_lt hA.blk
    omega
  rw [hw] at c0
  rw [hx] at c3
  rw [hy] at c4
  clear c1 c5 c9 c10 c11 c19 f hT hS hR hsp hw hx hy
  generalize (spanA k x n).1 = a at *
  generalize (spanA k x n).2 = b at *
  generalize rows.set y (lineRow s k x n (rows.getD y [])) = rows' at *
  go_enter Tryz.func45, Tryz.ntmps45
  go_upto_region 0 with fail
  go_region_held3 (fun w' => w'.cell? ⟨p, 3, none⟩ = some (.int .i64 (x : Int)) ∧ w'.cell? ⟨p, 0, none⟩ = some (.int .i64 (n : Int))) (go_keep) (first | (go_at_call 106; refine (HSP.out _).mono ?_; rintro e V ⟨rfl, hv⟩; subst hv))
  go_wp2_with fail
  refine (HCL.out _ ((Below.refl _ _).drew)).mono ?_
  rintro e V ⟨rfl, hSV, hBV, hFV⟩
  have HSV : Hid _ := hSV
  have HBV : Hid (Below N W V) := ((Below.refl _ _).drew).trans hBV
  have HFV : Hid (Framed W V) := (Framed.of_below ((Below.refl _ _).drew)).trans hFV
  clear hSV hBV hFV
  go_wp2_with fail
  go_end0
  exact ⟨rfl, HSV.out, HBV.out, HFV.out⟩
/-- Rows from one up to another, but not that of the cursor, blank. -/
def wipeTo (rows : List (List C)) (n : Nat) (bk : Int) (a k y : Nat) : List (List C) := (List.range rows.length).map fun i => if a ≤ i ∧ i < k ∧ i ≠ y then List.replicate n (32, 0, bk, 0) else rows.getD i []
theorem wipeTo_len (rows : List (List C)) (n : Nat) (bk : Int) (a k y : Nat) : (wipeTo rows n bk a k y).length = rows.length := by simp [wipeTo]
theorem wipeTo_get (rows : List (List C)) (n : Nat) (bk : Int) (a k y i : Nat) (hi : i < rows.length) : (wipeTo rows n bk a k y).getD i [] = if a ≤ i ∧ i < k ∧ i ≠ y then List.replicate n (32, 0, bk, 0) else rows.getD i [] := by
  simp [wipeTo, List.getD, hi]
theorem rows_ext {a b : List (List C)} (hl : a.length = b.length) (h : ∀ i, i < a.length → a.getD i [] = b.getD i []) : a = b := by
  apply List.ext_getElem hl
  intro i h1 h2
  have := h i h1
  simpa [List.getD, h1, h2] using this
theorem wipeTo_start (rows : List (List C)) (n : Nat) (bk : Int) (a y : Nat) : wipeTo rows n bk a a y = rows := by
  refine rows_ext (wipeTo_len _ _ _ _ _ _) fun i hi => ?_
  rw [wipeTo_len] at hi
  rw [wipeTo_get _ _ _ _ _ _ _ hi, if_neg (by omega)]
theorem wipeTo_same (rows : List (List C)) (n : Nat) (bk : Int) (a k : Nat) : wipeTo rows n bk a (k + 1) k = wipeTo rows n bk a k k := by
  refine rows_ext (by rw [wipeTo_len, wipeTo_len]) fun i hi => ?_
  rw [wipeTo_len] at hi
  rw [wipeTo_get _ _ _ _ _ _ _ hi, wipeTo_get _ _ _ _ _ _ _ hi]
  by_cases h : a ≤ i ∧ i < k ∧ i ≠ k
  · rw [if_pos h, if_pos (by omega)]
  · rw [if_neg h, if_neg (by omega)]
theorem wipeTo_next (rows : List (List C)) (n : Nat) (bk : Int) (a k y : Nat) (hk : k < rows.length) (ha : a ≤ k) (hy : k ≠ y) : (wipeTo rows n bk a k y).set k (List.replicate n (32, 0, bk, 0)) = wipeTo rows n bk a (k + 1) y := by
  refine rows_ext (by rw [List.length_set, wipeTo_len, wipeTo_len]) fun i hi => ?_
  rw [List.length_set, wipeTo_len] at hi
  by_cases e : i = k
  · subst e
    rw [getD_set_same _ _ _ _ (by rw [wipeTo_len]; exact hi), wipeTo_get _ _ _ _ _ _ _ hi, if_pos (by omega)]
  · rw [getD_set_ne _ _ _ _ _ e, wipeTo_get _ _ _ _ _ _ _ hi, wipeTo_get _ _ _ _ _ _ _ hi]
    by_cases h : a ≤ i ∧ i < k ∧ i ≠ y
    · rw [if_pos h, if_pos (by omega)]
    · rw [if_neg h, if_neg (by omega)]
theorem blank_right (n : Nat) (bk : Int) (hs : isSt (0, bk, 0) = true) : RightRow (List.replicate n ((32, 0, bk, 0) : C)) := by
  have h := wipe_right bk (List.replicate n ((32, 0, 0, 0) : C)) 0 n (Grd.replicate_right n) hs
  rw [wipe_whole bk _ n (by rw [List.length_replicate]; exact Nat.le_refl _), List.length_replicate] at h
  exact h
theorem wipeTo_right (rows : List (List C)) (n : Nat) (bk : Int) (a k y : Nat) (h : RightRows n rows) (hs : isSt (0, bk, 0) = true) : RightRows n (wipeTo rows n bk a k y) := fun i hi => by
  rw [wipeTo_len] at hi
  rw [wipeTo_get _ _ _ _ _ _ _ hi]
  split
  · exact ⟨List.length_replicate, blank_right n bk hs⟩
  · exact h i hi
set_option maxHeartbeats 4000000 in
theorem clearRows_any (W : World) (M N p : Nat) (s : Scr) (rows : List (List C)) (hT : Txt.Tab W) (hTN : 0 < N) (hS : ShAt 64 W M N p s rows) (n hh y : Nat) (k : Int) (hw : s.w = n) (hh' : s.h = hh) (hy : s.y = y) (hrl : rows.length = hh) (hyl : y < hh) (hhl : hh ≤ 60) (hn1 : 1 ≤ n) (hn2 : n ≤ 120) (hR : RightRows n rows) (hst : isSt (0, s.sb, 0) = true) :
    Calls Tryz.prog 47 #[.pointer (some ⟨p, 0, none⟩), .int .i64 k] W (Ran W M N p s (wipeTo rows n s.sb (spanA k y hh).1 (spanA k y hh).2 y)) := by
  obtain ⟨c0, c1, c3, c4, c5, c9, c10, c11, c19, f⟩ := hS.words
  have hsp := span_le k y hh hyl
  have HSP : Hid (∀ W, Calls Tryz.prog 106 #[.int .i64 k, .int .i64 (y : Int), .int .i64 (hh : Int)] W fun e w' => e = .returned (.tuple #[.int .i64 ((spanA k y hh).1 : Nat), .int .i64 ((spanA k y hh).2 : Nat)]) ∧ W = w') := fun W => span_any k y hh (by omega) W
  have hmono : (spanA k y hh).1 ≤ (spanA k y hh).2 := by
    unfold spanA
    split
    · show y ≤ hh
      omega
    · split
      · show 0 ≤ y + 1
        omega
      · split
        · show 0 ≤ hh
          omega
        · exact Nat.le_refl _
  rw [hh'] at c1
  rw [hy] at c4
  have HSW : Hid (s.w = n ∧ s.y = y) := ⟨hw, hy⟩
  have HRR : Hid (RightRows n rows) := hR
  have HT : Hid (Txt.Tab W) := hT
  have HS : Hid (ShAt 64 W M N p s rows) := hS
  clear c0 c3 c5 c9 c10 c11 c19 f hT hS hR hw hh' hy
  generalize (spanA k y hh).1 = a at *
  generalize (spanA k y hh).2 = b at *
  go_enter Tryz.func47, Tryz.ntmps47
  go_upto_region 0 with fail
  go_region_held3 (fun w' => w'.cell? ⟨p, 4, none⟩ = some (.int .i64 (y : Int)) ∧ w'.cell? ⟨p, 1, none⟩ = some (.int .i64 (hh : Int))) (go_keep) (first | (go_at_call 106; refine (HSP.out _).mono ?_; rintro e V ⟨rfl, hv⟩; subst hv))
  go_wp2_with fail
  clear c1 c4
  go_loopg [6] hh (fun q i wr => ∃ j : Nat, i = .int .i64 (j : Int) ∧ a ≤ j ∧ j ≤ b ∧ b - j ≤ q ∧ ShAt 64 wr M N p s (wipeTo rows n s.sb a j y) ∧ Below N W wr ∧ Framed W wr ∧ Txt.Tab wr)
  case atStart => exact ⟨a, rfl, Nat.le_refl _, hmono, by omega, by rw [wipeTo_start]; exact HS.out.drew, (Below.refl _ _).drew, Framed.of_below ((Below.refl _ _).drew), Grd.Tab.next HT.out ((Below.refl _ _).drew)⟩
  case round =>
    obtain ⟨j, rfl, hj1, hj2, hq, hSj, hBj, hFj, hTj⟩ := hrel
    by_cases hlt : j < b
    · have lt1 : (j : Int) < (b : Int) := by omega
      obtain ⟨c0, c1, c3, c4, c5, c9, c10, c11, c19, f⟩ := hSj.words
      rw [HSW.out.1] at c0
      rw [HSW.out.2] at c4
      have HBJ : Hid (Below N W wr) := hBj
      have HFJ : Hid (Framed W wr) := hFj
      have HTJ : Hid (Txt.Tab wr) := hTj
      have HSJ : Hid (ShAt 64 wr M N p s (wipeTo rows n s.sb a j y)) := hSj
      clear c1 c3 c5 c9 c10 c11 c19 f hSj hBj hFj hTj
      by_cases hjy : j = y
      · have hb : ((j : Int) != (y : Int)) = false := by rw [bne_eq_false_iff_eq]; omega
        have HJY : Hid (j = y) := hjy
        clear hjy
        go_wp2_with fail
        go_roundg (b - (j + 1))
        case measure => omega
        case rel =>
          refine ⟨j + 1, by go_num, by omega, by omega, by omega, ?_, HBJ.out, HFJ.out, HTJ.out⟩
          have h := HSJ.out
          rw [← HJY.out] at h ⊢
          rw [wipeTo_same]
          exact h
      · have hb : ((j : Int) != (y : Int)) = true := by rw [bne_iff_ne]; omega
        have HCL := clear_any wr M N p s _ HTJ.out HSJ.out n j 0 n (by rw [wipeTo_len]; omega) _ rfl hn1 hn2 (wipeTo_right rows n s.sb a j y HRR.out hst j (by rw [wipeTo_len]; omega)).1 (one_row n _ hn1 hn2 (wipeTo_right rows n s.sb a j y HRR.out hst j (by rw [wipeTo_len]; omega)).1 (wipeTo_right rows n s.sb a j y HRR.out hst j (by rw [wipeTo_len]; omega)).2) hst (by omega) (Nat.le_refl _)
        have hlen := (wipeTo_right rows n s.sb a j y HRR.out hst j (by rw [wipeTo_len]; omega)).1
        rw [wipe_whole s.sb _ n (by omega), hlen, wipeTo_next rows n s.sb a j y (by omega) hj1 hjy] at HCL
        clear hjy hlen
        go_wp2_with fail
        refine HCL.mono ?_
        rintro e V ⟨rfl, hSV, hBV, hFV⟩
        have HSV : Hid _ := hSV
        have HBV : Hid (Below N W V) := HBJ.out.trans hBV
        have HFV : Hid (Framed W V) := HFJ.out.trans hFV
        have HTV : Hid (Txt.Tab V) := HTJ.out.below hBV hTN
        clear hSV hBV hFV HCL
        go_wp2_with fail
        go_roundg (b - (j + 1))
        case measure => omega
        case rel => exact ⟨j + 1, by go_num, by omega, by omega, by omega, HSV.out, HBV.out, HFV.out, HTV.out⟩
    · have lt1 : ¬ (j : Int) < (b : Int) := by omega
      have hjb : j = b := by omega
      subst hjb
      clear hTj
      go_wp2_with fail
      go_end0
      exact ⟨rfl, hSj, hBj, hFj⟩
end Put
end Go.Proofs.YtnkeahfcpbepjaaGreatDoor

/- The desk's line. -/
namespace Go.Proofs.YtnkeahfcpbepjaaGreatDoor
open Go.ChangeShapes Go.WideShapes Go.ChangeAt Go.RowKit
namespace Put
open Grd (C SliceAt CellsAt gridErr z0 nilV rowsL RowsAt RowB flat words putRow mendL RightRow)
open Sty (isSt)
theorem line_none (s : Scr) (k : Int) (x n : Nat) (row : List C) (h : RightRow row) (h0 : ¬ k ≤ 0) (h1 : k ≠ 1) (h2 : k ≠ 2) : lineRow s k x n row = row := by
  unfold lineRow
  rw [show spanA k x n = (0, 0) by unfold spanA; rw [if_neg h0, if_neg h1, if_neg h2]]
  show wipeRow s.sb row 0 0 = row
  rw [wipe_put, putTo_start]
  exact Grd.mendL_fix row h.2
set_option maxHeartbeats 8000000 in
set_option maxRecDepth 100000 in
theorem dline_any (W : World) (N p : Nat) (s : Scr) (rows : List (List C)) (hN : N ≤ W.heap.size) (hD : DkAt W N p s rows) (k : Int) (n y x : Nat) (hw : s.w = n) (hys : s.y = y) (hxs : s.x = x) (hn : n ≤ 120) (hy : y < rows.length) (hrl : rows.length ≤ 60) (hxn : x < n) (hR : RightRows n rows) :
    Calls Tryz.prog 94 #[.pointer (some ⟨p, 0, none⟩), .int .i64 k] W fun e W' => e = .returned (.tuple #[]) ∧ DkAt W' N p s (rows.set y (lineRow s k x n (rows.getD y []))) ∧ Below N W W' := by
  obtain ⟨c0, c1, c3, c4, c5, c9, c10, c11, c19, f⟩ := hD.words
  have HWP : Hid (∀ a b, a ≤ min b n → b ≤ 240 → Calls Tryz.prog 96 #[.pointer (some ⟨p, 0, none⟩), .int .i64 (y : Int), .int .i64 (a : Int), .int .i64 (b : Int)] W.drew fun e W' => e = .returned (.tuple #[]) ∧ DkAt W' N p s (rows.set y (wipeRow s.sb (rows.getD y []) a (min b n))) ∧ Below N W W') := fun a b h1 h2 => by
    refine (deskWipe_any W.drew N p s rows hN (hD.next ((Below.refl _ _).drew)) n y a b hw hn hy (by omega) hrl (by omega) h2 h1 (hR y hy).1 (by omega)).mono ?_
    rintro e W' ⟨rfl, h3, h4⟩
    exact ⟨rfl, h3, ((Below.refl _ _).drew).trans h4⟩
  have HD : Hid (DkAt W N p s rows) := hD
  rw [hw] at c0
  rw [hxs] at c3
  rw [hys] at c4
  have hrr := (hR y hy).2
  have HRR : Hid (RightRow (rows.getD y [])) := hrr
  clear c1 c5 c9 c10 c11 c19 f hD hw hxs hys hR hrr
  by_cases k0 : k ≤ 0
  · have e : lineRow s k x n (rows.getD y []) = wipeRow s.sb (rows.getD y []) x (min n n) := by
      unfold lineRow
      rw [show spanA k x n = (x, n) by unfold spanA; rw [if_pos k0], Nat.min_self]
    rw [e]
    have HW := HWP.out x n (by omega) (by omega)
    clear e HWP
    go_enter Tryz.func94, Tryz.ntmps94
    go_upto_region 1 with fail
    go_region_with (first | (go_at_call 96; refine HW.mono ?_; rintro e V ⟨rfl, h1, h2⟩))
    all_goals go_wp2_with fail
    all_goals go_end0
    all_goals exact ⟨rfl, h1, h2⟩
  · by_cases k1 : k = 1
    · have e : lineRow s k x n (rows.getD y []) = wipeRow s.sb (rows.getD y []) 0 (min (x + 1) n) := by
        unfold lineRow
        rw [show spanA k x n = (0, x + 1) by unfold spanA; rw [if_neg k0, if_pos k1], show min (x + 1) n = x + 1 by omega]
      rw [e]
      have HW := HWP.out 0 (x + 1) (by omega) (by omega)
      have hwx : IntKind.i64.wrap ((x : Int) + 1) = (x : Int) + 1 := wrap_id _ (by omega) (by omega)
      rw [show ((x + 1 : Nat) : Int) = (x : Int) + 1 by omega, show ((0 : Nat) : Int) = 0 from rfl] at HW
      clear e HWP k0
      subst k1
      go_enter Tryz.func94, Tryz.ntmps94
      go_upto_region 3 with fail
      go_region_with (first | (go_at_call 96; refine HW.mono ?_; rintro e V ⟨rfl, h1, h2⟩))
      all_goals go_wp2_with fail
      all_goals go_end0
      all_goals exact ⟨rfl, h1, h2⟩
    · by_cases k2 : k = 2
      · have e : lineRow s k x n (rows.getD y []) = wipeRow s.sb (rows.getD y []) 0 (min n n) := by
          unfold lineRow
          rw [show spanA k x n = (0, n) by unfold spanA; rw [if_neg k0, if_neg k1, if_pos k2], Nat.min_self]
        rw [e]
        have HW := HWP.out 0 n (by omega) (by omega)
        rw [show ((0 : Nat) : Int) = 0 from rfl] at HW
        clear e HWP k0 k1
        subst k2
        go_enter Tryz.func94, Tryz.ntmps94
        go_upto_region 5 with fail
        go_region_with (first | (go_at_call 96; refine HW.mono ?_; rintro e V ⟨rfl, h1, h2⟩))
        all_goals go_wp2_with fail
        all_goals go_end0
        all_goals exact ⟨rfl, h1, h2⟩
      · rw [line_none s k x n _ HRR.out k0 k1 k2, set_getD _ _ _ hy]
        have q1 : (k == 1) = false := by rw [beq_eq_false_iff_ne]; exact k1
        have q2 : (k == 2) = false := by rw [beq_eq_false_iff_ne]; exact k2
        clear k1 k2 HWP
        go_enter Tryz.func94, Tryz.ntmps94
        go_wp2_with fail
        go_end0
        exact ⟨rfl, HD.out, Below.refl _ _⟩
end Put
end Go.Proofs.YtnkeahfcpbepjaaGreatDoor

/- slices.Insert of one row, where there is room. -/
import Derived.Test.YtooaikdaahpngaaGreatDoorPartJ
import Derived.Lib.JoinLaws
import Derived.Lib.AppendZeros
import Derived.Lib.Overlaps
import Derived.Laws.Externs
import Derived.Laws.IdiomCopy
import Derived.Shelf.RegionOpenPlain
import Derived.Test.YtooaikdaahpngaaGreatDoorPartI
import Derived.Test.YtooaikdaahpngaaGreatDoorPartE
import Derived.Deep.RegionHeld3
import Derived.Test.YtooaikdaahpngaaGreatDoorPartH
import Derived.BigRegion
import Derived.Deep.Cut
import Derived.Deep.CutRange
namespace Go.Proofs.YtooaikdaahpngaaGreatDoor
open Go.ChangeShapes Go.WideShapes Go.ChangeAt Go.RowKit
namespace Put
open Grd (C nilV)
theorem wp_copyR {P : Program} (w : World) {o : Oper} {a : Act} {K : Act → World → Prop} {Q : Exit → Act → World → Prop} (d s : Operand) (t t' : TypeId)
    (ho : o.op = .call { callee := .builtin .copy, args := #[d, s], argTypes := #[t, t'] }) (v u : Value) (hd : a.eval d = v) (hs : a.eval s = u) {v' : Value} {w' : World}
    (hr : (Builtin.copy_ #[t, t'] o.type #[v, u]).run P w = .ok v' w') (h : K (a.put o.dst v') w') : o.wp P a w K Q := by
  unfold Oper.wp execOp
  simp only [ho, resolve, invoke, builtin, Sem.run_bind, Sem.run_pure, Result.andThen_ok, List.map_toArray, List.map_cons, List.map_nil, hd, hs, hr]
  exact h
theorem wpList_copyR {P : Program} (w : World) {ops : Array Oper} {rest : List Oper} {o : Oper} {a : Act} {Q : Exit → Act → World → Prop} (hgd : o.guard = none) (d s : Operand) (t t' : TypeId)
    (ho : o.op = .call { callee := .builtin .copy, args := #[d, s], argTypes := #[t, t'] }) (v u : Value) (hd : a.eval d = v) (hs : a.eval s = u) {v' : Value} {w' : World}
    (hr : (Builtin.copy_ #[t, t'] o.type #[v, u]).run P w = .ok v' w') (h : wpList P ops Q rest (a.put o.dst v') w') : wpList P ops Q (o :: rest) a w :=
  wpList_plain hgd fun _ hK => wp_copyR w d s t t' ho v u hd hs hr (hK _ _ h)
theorem step_copyR {P : Program} {ops : Array Oper} {o : Oper} {a : Act} {w : World} {K : Act → World → Prop} {Q : Exit → Act → World → Prop} {E : Prop}
    (hg : o.guard = none) (d x : Operand) (dT sT : TypeId) (hop : o.op = Op.call { callee := Callee.builtin Builtin.copy, args := #[d, x], argTypes := #[dT, sT] })
    (v u : Value) (hd : a.eval d = v) (hx : a.eval x = u) {v' : Value} {w' : World} (hr : (Builtin.copy_ #[dT, sT] o.type #[v, u]).run P w = .ok v' w') (hK : K (a.put o.dst v') w') :
    if Region.wanted o (yielded ops a.tmps) = true then Oper.wp P o a w K Q else E := by
  have hw : Region.wanted o (yielded ops a.tmps) = true := by simp [Region.wanted, hg]
  rw [if_pos hw]
  unfold Oper.wp
  simp [execOp, hop, resolve, invoke, builtin, hd, hx, hr, Result.andThen]
  exact hK
/-- Words set one behind the other. -/
def setL (cur : Array Value) (o : Nat) : List Value → Array Value
  | [] => cur
  | v :: r => setL (cur.setIfInBounds o v) (o + 1) r
theorem setL_size : ∀ (xs : List Value) (cur : Array Value) (o : Nat), (setL cur o xs).size = cur.size
  | [], _, _ => rfl
  | v :: r, cur, o => by
    show (setL (cur.setIfInBounds o v) (o + 1) r).size = _
    rw [setL_size r]
    simp
theorem setL_at : ∀ (xs : List Value) (cur : Array Value) (o j : Nat), j < cur.size → (setL cur o xs)[j]? = if o ≤ j ∧ j < o + xs.length then xs[j - o]? else cur[j]?
  | [], cur, o, j, h => by
    rw [if_neg (by simp)]
    rfl
  | v :: r, cur, o, j, h => by
    show (setL (cur.setIfInBounds o v) (o + 1) r)[j]? = _
    rw [setL_at r _ _ j (by simpa using h)]
    by_cases h1 : o + 1 ≤ j ∧ j < o + 1 + r.length
    · rw [if_pos h1, if_pos (by simp; omega), show j - o = (j - (o + 1)) + 1 by omega]
      rfl
    · rw [if_neg h1]
      by_cases h2 : j = o
      · subst h2
        rw [if_pos (by simp)]
        simp [h]
      · rw [if_neg (by simp; omega), Array.getElem?_setIfInBounds_ne (Ne.symm h2)]
theorem setL_heap (g : Nat) (e : TypeId) : ∀ (xs : List Value) (w : World) (o : Nat) (cur : Array Value), w.heap[g]? = some (.cells cur e (0, 0)) → (w.setCells g o xs).heap[g]? = some (.cells (setL cur o xs) e (0, 0))
  | [], _, _, _, h => h
  | v :: r, w, o, cur, h => setL_heap g e r _ _ _ (heap_setCell_same w g o cur e v h)
/-- One row more. -/
theorem ins_list (cur : Array Value) (vs : List Value) (n i : Nat) (v : Value) (hl : vs.length = n) (hi : i ≤ n) (hs : n + 1 ≤ cur.size) (ht : cur.toList.take n = vs) : (setL (setL cur (i + 1) (vs.drop i)) i [v]).toList.take (n + 1) = vs.insertIdx i v := by
  apply List.ext_getElem?
  intro j
  have hc : ∀ k, k < n → cur[k]? = vs[k]? := fun k hk => by rw [← ht, List.getElem?_take_of_lt hk, Array.getElem?_toList]
  by_cases hj : j < n + 1
  · rw [List.getElem?_take_of_lt hj, Array.getElem?_toList, setL_at _ _ _ _ (by rw [setL_size]; omega), List.getElem?_insertIdx]
    by_cases h1 : j < i
    · rw [if_neg (by simp; omega), setL_at _ _ _ _ (by omega), if_neg (by simp; omega), if_pos h1, hc j (by omega)]
    · rw [if_neg h1]
      by_cases h2 : j = i
      · subst h2
        rw [if_pos (by simp), if_pos rfl, if_pos (by omega)]
        simp
      · rw [if_neg (by simp; omega), setL_at _ _ _ _ (by omega), if_pos (by simp; omega), if_neg h2, List.getElem?_drop]
        congr 1
        omega
  · rw [List.getElem?_eq_none (by simp; omega), List.getElem?_eq_none (by rw [List.length_insertIdx]; split <;> omega)]
theorem ins_end (cur : Array Value) (vs : List Value) (n : Nat) (v : Value) (hl : vs.length = n) (hs : n + 1 ≤ cur.size) (ht : cur.toList.take n = vs) : (setL cur n [v]).toList.take (n + 1) = vs.insertIdx n v := by
  have := ins_list cur vs n n v hl (Nat.le_refl _) hs ht
  rw [List.drop_of_length_le (by omega)] at this
  exact this
theorem heap_setCells_off (g k : Nat) (h : k ≠ g) : ∀ (xs : List Value) (o : Nat) (w : World), (w.setCells g o xs).heap[k]? = w.heap[k]? := fun xs o w => Grd.heap_setCells_ne _ k h xs o w
set_option maxHeartbeats 4000000 in
set_option maxRecDepth 100000 in
theorem insert_end (N g n cap vb vc : Nat) (vs : List Value) (v : Value) (w : World) (h : w.ownsRow N 22 1 (.slice (some ⟨g, 0, none⟩) n cap) n vs) (hsv : IsSl v) (hroom : n + 1 ≤ cap) (hvb : w.cell? ⟨vb, 0, none⟩ = some v) :
    Calls Tryz.prog 83 #[.slice (some ⟨g, 0, none⟩) n cap, .int .i64 (n : Int), .slice (some ⟨vb, 0, none⟩) 1 vc] w fun e w' => e = .returned (.slice (some ⟨g, 0, none⟩) (n + 1) cap) ∧ w'.ownsRow N 22 1 (.slice (some ⟨g, 0, none⟩) (n + 1) cap) (n + 1) (vs.insertIdx n v) ∧ (∀ k, k ≠ g → w'.heap[k]? = w.heap[k]?) ∧ Below g w w' := by
  obtain ⟨h0, ⟨h1, -⟩ | ⟨g', cap', cur, hv, hb, hg, hn, hm, hs, ht⟩⟩ := h
  · injection h1 with h1
    cases h1
  injection hv with e1 _ e3
  injection e1 with e1
  injection e1 with e1
  subst e1 e3
  rw [Nat.mul_one] at h0 hs ht
  obtain ⟨x, rfl⟩ := hsv
  have hc63 : cap ≤ 9223372036854775807 := by unfold maxLen at hm; omega
  obtain ⟨i0, hi0, hz⟩ := Option.map_eq_some_iff.1 info_rows1
  have hsrc : Src Tryz.prog 1 30 (.slice (some ⟨vb, 0, none⟩) 1 vc) 1 [encS x] w := Src.ofSlice w und_rows ⟨vb, 0, none⟩ 1 vc [encS x] (by simp) (fun j u hj => by
    rw [Addr.add_lit]
    match j, hj with
    | 0, hj => rw [← Option.some.inj hj]; exact hvb) (by simp [encS, Value.oneCell'])
  have hcell : ∀ j, j < 1 → (w.cell? ⟨g, 0 + n + j, none⟩).isSome = true := fun j hj => by
    simp only [World.cell?, hg]
    simp only [Option.isSome_none, Bool.false_eq_true, if_false]
    rw [Array.getElem?_eq_getElem (by omega)]
    rfl
  have hfz : ∀ j, j < 1 → w.frozen? ⟨g, 0 + n + j, none⟩ = false := fun j _ => by simp [World.frozen?, hg]
  have HE : Hid ((w.setCells g n [encS x]).ownsRow N 22 1 (.slice (some ⟨g, 0, none⟩) (n + 1) cap) (n + 1) (vs.insertIdx n (encS x)) ∧ (∀ k, k ≠ g → (w.setCells g n [encS x]).heap[k]? = w.heap[k]?) ∧ Below g w (w.setCells g n [encS x])) := by
    refine ⟨⟨by rw [List.length_insertIdx, if_pos (by omega)]; omega, .inr ⟨g, cap, _, rfl, hb, setL_heap g _ [encS x] w n cur hg, hroom, hm, by rw [setL_size]; omega, ?_⟩⟩, fun k hk => heap_setCells_off g k hk _ _ _, Grd.below_cells (Nat.le_refl _) _ _ _ (Below.refl _ _)⟩
    rw [Nat.mul_one]
    exact ins_end cur vs n (encS x) h0 (by omega) ht
  clear hg ht hs
  go_enter Tryz.func83, Tryz.ntmps83
  go_wp2_with (at_builtin; refine wpList_append_room1 _ rfl _ _ 30 30 rfl 22 _ _ und_rows info_rows g 0 n cap rfl _ rfl 1 [encS x] hsrc hroom (by simpa using hcell) (by simpa using hfz) ?_)
  go_ret
  exact ⟨rfl, HE.out⟩
theorem isSome_setC (b : Nat) (vs : List Value) (o : Nat) (w : World) (h : ∀ j, j < vs.length → (w.cell? ⟨b, o + j, none⟩).isSome = true) (k : Nat) (hk : (w.cell? ⟨b, k, none⟩).isSome = true) : ((w.setCells b o vs).cell? ⟨b, k, none⟩).isSome = true := by
  by_cases hin : o ≤ k ∧ k < o + vs.length
  · have := World.cell?_setCells_in b vs o w h (k - o) (by omega)
    rw [show o + (k - o) = k by omega] at this
    rw [this]
    simp
  · rw [World.cell?_setCells_out b vs o w ⟨b, k, none⟩ (fun _ _ => by show k < o ∨ o + vs.length ≤ k; omega)]
    exact hk
set_option maxHeartbeats 4000000 in
set_option maxRecDepth 100000 in
theorem insert_shift (N g n cap i vb vc : Nat) (vs : List Value) (v : Value) (w : World) (h : w.ownsRow N 22 1 (.slice (some ⟨g, 0, none⟩) n cap) n vs) (hvs : ∀ u, u ∈ vs → IsSl u) (hsv : IsSl v) (hi : i < n) (hroom : n + 1 ≤ cap) (hvb : w.heap[vb]? = some (.cells #[v] 22 (0, 0))) (hne : vb ≠ g) :
    Calls Tryz.prog 83 #[.slice (some ⟨g, 0, none⟩) n cap, .int .i64 (i : Int), .slice (some ⟨vb, 0, none⟩) 1 vc] w fun e w' => e = .returned (.slice (some ⟨g, 0, none⟩) (n + 1) cap) ∧ w'.ownsRow N 22 1 (.slice (some ⟨g, 0, none⟩) (n + 1) cap) (n + 1) (vs.insertIdx i v) ∧ (∀ k, k ≠ g → w'.heap[k]? = w.heap[k]?) ∧ Below g w w' := by
  obtain ⟨h0, ⟨h1, -⟩ | ⟨g', cap', cur, hv, hb, hg, hn, hm, hs, ht⟩⟩ := h
  · injection h1 with h1
    cases h1
  injection hv with e1 _ e3
  injection e1 with e1
  injection e1 with e1
  subst e1 e3
  rw [Nat.mul_one] at h0 hs ht
  have hsv1 : v.oneCell' = true := by obtain ⟨x, rfl⟩ := hsv; rfl
  have hv1 : ∀ u, u ∈ vs → u.oneCell' = true := fun u hu => by obtain ⟨x, rfl⟩ := hvs u hu; rfl
  have hc63 : cap ≤ 9223372036854775807 := by unfold maxLen at hm; omega
  have hcell : ∀ (W : World), W.heap[g]? = w.heap[g]? → ∀ j, j < cap → (W.cell? ⟨g, 0 + j, none⟩).isSome = true := fun W hW j hj => by
    simp only [World.cell?, hW, hg]
    simp only [Option.isSome_none, Bool.false_eq_true, if_false]
    rw [Array.getElem?_eq_getElem (by omega)]
    rfl
  have hfz : ∀ j, w.frozen? ⟨g, j, none⟩ = false := fun j => by simp [World.frozen?, hg]
  have hcs : ∀ j u, vs[j]? = some u → w.cell? ⟨g, 0 + j, none⟩ = some u := fun j u hj => by
    have hlt := (List.getElem?_eq_some_iff.1 hj).1
    simp only [World.cell?, hg]
    simp only [Option.isSome_none, Bool.false_eq_true, if_false]
    rw [← hj, ← ht, List.getElem?_take_of_lt (by omega), Array.getElem?_toList, Nat.zero_add]
  have hvc : w.cell? ⟨vb, 0, none⟩ = some v := by simp [World.cell?, hvb]
  have hsa : w.shape? vb = some (22, 1) := by simp [World.shape?, hvb]
  have hsb : w.shape? g = some (22, cur.size) := by simp [World.shape?, hg]
  have hov : ∀ lb cb, (callFunc 106 #[.slice (some ⟨vb, 0, none⟩) 1 vc, .slice (some ⟨g, i + 1, none⟩) lb cb]).run Tryz.prog w = .ok (.value (.bool false)) w := fun lb cb => by
    rw [run_callFunc_extern Tryz.func106 (by kernel_rfl) (by kernel_rfl) (by kernel_rfl) (e := Extern.SlicesOverlaps.overlaps #[30, 30] #[4]) (by kernel_rfl),
      Lib.run_overlaps_apart w 30 4 22 und_rows 1 Tryz.sizeOf22 ⟨vb, 0, none⟩ ⟨g, i + 1, none⟩ 1 vc lb cb hne _ _ _ _ hsa hsb (by omega) (by simp [World.frozen?, hvb]) (by simp [World.frozen?, hvb])]
    rfl
  have hdl : (vs.drop i).length = n - i := by rw [List.length_drop, h0]
  have hcp1 : ∀ ty dc sc, (Builtin.copy_ #[30, 30] ty #[.slice (some ⟨g, i + 1, none⟩) (n - i) dc, .slice (some ⟨g, i, none⟩) (n + 1 - i) sc]).run Tryz.prog w.drew = .ok (goInt (vs.drop i).length) (w.drew.setCells g (i + 1) (vs.drop i)) := fun ty dc sc =>
    run_copy_cells w.drew _ _ ty 22 g (i + 1) (n - i) dc ⟨g, i, none⟩ (n + 1 - i) sc (vs.drop i) und_rows info_rows1 (by rw [hdl]; simp only [Nat.min_def]; split <;> omega)
      (fun j u hj => by rw [Addr.add_lit, ← Nat.zero_add (i + j)]; exact hcs (i + j) u (by rwa [List.getElem?_drop] at hj))
      (fun j hj => by rw [← Nat.zero_add (i + 1 + j)]; exact hcell w.drew rfl _ (by omega)) (fun j hj => hfz _) (fun u hu => hv1 u (List.mem_of_mem_drop hu))
  obtain ⟨W1, hW1⟩ : ∃ W1, W1 = w.drew.setCells g (i + 1) (vs.drop i) := ⟨_, rfl⟩
  have hg1 : W1.heap[g]? = some (.cells (setL cur (i + 1) (vs.drop i)) 22 (0, 0)) := by
    rw [hW1]
    exact setL_heap g _ (vs.drop i) w.drew (i + 1) cur hg
  have ho1 : ∀ k, k ≠ g → W1.heap[k]? = w.heap[k]? := fun k hk => by rw [hW1]; exact heap_setCells_off g k hk _ _ _
  have hb1 : Below g w W1 := by rw [hW1]; exact Grd.below_cells (Nat.le_refl _) _ _ _ ((Below.refl _ _).drew)
  have hcp2 : ∀ (W : World), W.heap = W1.heap → ∀ ty dc, (Builtin.copy_ #[30, 30] ty #[.slice (some ⟨g, i, none⟩) (n + 1 - i) dc, .slice (some ⟨vb, 0, none⟩) 1 vc]).run Tryz.prog W = .ok (goInt [v].length) (W.setCells g i [v]) := fun W hWh ty dc =>
    run_copy_cells W _ _ ty 22 g i (n + 1 - i) dc ⟨vb, 0, none⟩ 1 vc [v] und_rows info_rows1 (by simp only [List.length_singleton, Nat.min_def]; split <;> omega)
      (fun j u hj => by
        rw [Addr.add_lit]
        match j, hj with
        | 0, hj =>
          rw [← Option.some.inj hj]
          simp only [World.cell?, hWh, ho1 vb hne, hvb]
          rfl)
      (fun j hj => by
        simp only [World.cell?, hWh, hg1]
        simp only [Option.isSome_none, Bool.false_eq_true, if_false]
        rw [Array.getElem?_eq_getElem (by rw [setL_size]; simp at hj; omega)]
        rfl) (fun j hj => by simp [World.frozen?, hWh, hg1]) (by simpa using hsv1)
  have HE : Hid (∀ W : World, W.heap = W1.heap → Below g w W → (W.setCells g i [v]).ownsRow N 22 1 (.slice (some ⟨g, 0, none⟩) (n + 1) cap) (n + 1) (vs.insertIdx i v) ∧ (∀ k, k ≠ g → (W.setCells g i [v]).heap[k]? = w.heap[k]?) ∧ Below g w (W.setCells g i [v])) := fun W hW hbW => by
    refine ⟨⟨by rw [List.length_insertIdx, if_pos (by omega)]; omega, .inr ⟨g, cap, _, rfl, hb, setL_heap g _ [v] W i _ (by rw [hW]; exact hg1), hroom, hm, by rw [setL_size, setL_size]; omega, ?_⟩⟩, fun k hk => (heap_setCells_off g k hk _ _ _).trans (by rw [hW]; exact ho1 k hk), Grd.below_cells (Nat.le_refl _) _ _ _ hbW⟩
    rw [Nat.mul_one]
    exact ins_list cur vs n i v h0 (by omega) (by omega) ht
  have HB1 : Hid (Below g w W1) := hb1
  rw [← hW1] at hcp1
  clear hg ht hs hW1 hcs hcell hfz hvb hvc hg1 ho1 hb1 hsa hsb hv1 hvs hsv hsv1 hdl
  have mixed : Tryz.prog.follows .mixedOrders = true := by kernel_rfl
  have hz2 : ¬ ((i : Int) = (n : Int)) := by omega
  have hw1 : IntKind.i64.wrap ((i : Int) + 1) = (i : Int) + 1 := by rw [IntKind.wrap_i64]; omega
  have hb1 : (0 : Int) ≤ (i : Int) + 1 := by omega
  have htn : ((i : Int) + 1).toNat = i + 1 := by omega
  have hb2 : ¬ (cap = i + 1) := by omega
  have hb3 : (i : Int) ≤ (n : Int) + 1 := by omega
  have hb4 : ¬ (cap = i) := by omega
  have hin : i ≤ n := by omega
  go_enter Tryz.func83, Tryz.ntmps83
  go_wp2_with (simp only [hov])
  go_region_law_o (refine step_copyR rfl _ _ 30 30 rfl _ _ (by simp [Act.eval, Act.put]) (by simp [Act.eval, Act.put]) (hcp1 _ _ _) ?_)
  go_wp2_with (at_builtin; refine wpList_copyR _ rfl _ _ 30 30 rfl _ _ rfl rfl (hcp2 _ rfl _ _) ?_)
  go_ret
  exact ⟨rfl, HE.out _ rfl HB1.out⟩
/-- A row is put in, where there is room. -/
theorem insert_own (N g n cap i vb vc : Nat) (vs : List Value) (v : Value) (w : World) (h : w.ownsRow N 22 1 (.slice (some ⟨g, 0, none⟩) n cap) n vs) (hvs : ∀ u, u ∈ vs → IsSl u) (hsv : IsSl v) (hi : i ≤ n) (hroom : n + 1 ≤ cap) (hvb : w.heap[vb]? = some (.cells #[v] 22 (0, 0))) (hne : vb ≠ g) :
    Calls Tryz.prog 83 #[.slice (some ⟨g, 0, none⟩) n cap, .int .i64 (i : Int), .slice (some ⟨vb, 0, none⟩) 1 vc] w fun e w' => e = .returned (.slice (some ⟨g, 0, none⟩) (n + 1) cap) ∧ w'.ownsRow N 22 1 (.slice (some ⟨g, 0, none⟩) (n + 1) cap) (n + 1) (vs.insertIdx i v) ∧ (∀ k, k ≠ g → w'.heap[k]? = w.heap[k]?) ∧ Below g w w' := by
  rcases Nat.lt_or_eq_of_le hi with hlt | rfl
  · exact insert_shift N g n cap i vb vc vs v w h hvs hsv hlt hroom hvb hne
  · exact insert_end N g i cap vb vc vs v w h hsv hroom (by simp [World.cell?, hvb])
end Put
end Go.Proofs.YtooaikdaahpngaaGreatDoor

/- (*sheet.Sheet).blanks, replace, Drop, Down: a row goes, and a blank one comes. -/
namespace Go.Proofs.YtooaikdaahpngaaGreatDoor
open Go.ChangeShapes Go.WideShapes Go.ChangeAt Go.RowKit
namespace Put
open Grd (C SliceAt CellsAt gridErr z0 nilV flat rowsL OwnG RowB)
theorem getD_erase {α : Type} (l : List α) (i j : Nat) (d : α) : (l.eraseIdx i).getD j d = if j < i then l.getD j d else l.getD (j + 1) d := by
  simp only [List.getD, List.getElem?_eraseIdx]
  split <;> rfl
theorem getD_insert {α : Type} (l : List α) (i j : Nat) (x d : α) (hi : i ≤ l.length) : (l.insertIdx i x).getD j d = if j < i then l.getD j d else if j = i then x else l.getD (j - 1) d := by
  simp only [List.getD, List.getElem?_insertIdx]
  by_cases h1 : j < i
  · rw [if_pos h1, if_pos h1]
  · rw [if_neg h1, if_neg h1]
    by_cases h2 : j = i
    · subst h2
      rw [if_pos rfl, if_pos rfl, if_pos hi]
      rfl
    · rw [if_neg h2, if_neg h2]
theorem RowsIn.erase {W : World} {N : Nat} {vs : List Value} {rows : List (List C)} (h : RowsIn W N vs rows) (i : Nat) (hi : i < rows.length) : RowsIn W N (vs.eraseIdx i) (rows.eraseIdx i) := by
  have hl := h.1
  refine ⟨by rw [List.length_eraseIdx_of_lt (by omega), List.length_eraseIdx_of_lt hi, hl], fun j hj => ?_⟩
  rw [List.length_eraseIdx_of_lt hi] at hj
  rw [getD_erase, getD_erase]
  split
  · exact h.2 j (by omega)
  · exact h.2 (j + 1) (by omega)
theorem RowsIn.insert {W : World} {N : Nat} {vs : List Value} {rows : List (List C)} (h : RowsIn W N vs rows) (i : Nat) (hi : i ≤ rows.length) (v : Value) (row : List C) (hr : RowIn W N v row) : RowsIn W N (vs.insertIdx i v) (rows.insertIdx i row) := by
  have hl := h.1
  refine ⟨by rw [List.length_insertIdx_of_le_length (by omega), List.length_insertIdx_of_le_length hi, hl], fun j hj => ?_⟩
  rw [List.length_insertIdx_of_le_length hi] at hj
  rw [getD_insert _ _ _ _ _ (by omega), getD_insert _ _ _ _ _ hi]
  split
  · exact h.2 j (by omega)
  · split
    · exact hr
    · exact h.2 (j - 1) (by omega)
theorem RowsIn.sls {W : World} {N : Nat} {vs : List Value} {rows : List (List C)} (h : RowsIn W N vs rows) : ∀ v, v ∈ vs → IsSl v := by
  intro v hv
  obtain ⟨i, hi, rfl⟩ := List.mem_iff_getElem.1 hv
  obtain ⟨a, c, e⟩ := (h.2 i (by rw [← h.1]; exact hi)).shape
  have e2 : vs.getD i nilV = vs[i] := by simp [List.getD, hi]
  rw [e2] at e
  exact ⟨(a, _, c), e⟩
theorem sl_in {W : World} {N : Nat} {v : Value} {row : List C} (h : RowIn W N v row) : IsSl v := by
  obtain ⟨a, c, e⟩ := h.shape
  exact ⟨(a, _, c), e⟩
theorem ShA.keptR {W V : World} {M N p : Nat} {s : Scr} {rows : List (List C)} {cv tv gv rv : Value} {gvs vs : List Value} {rb : Nat} (h : ShA 72 W M N p s rows cv tv gv rv gvs vs) (hrb : rv.ownBlock = some rb) (ho : ∀ k, k < W.heap.size → k ≠ rb → V.heap[k]? = W.heap[k]?) : Kept M W V := fun k hk hS => ho k hk fun e => by
  obtain ⟨hlo, A, f, hA⟩ := owns_block h.rws rb hrb
  subst e
  rcases hS with hS | ⟨B, f', hS⟩
  · have := h.ml
    omega
  · rw [hA] at hS
    injection hS with hS
    injection hS with _ hS _
    exact absurd hS (by decide)
/-- Other rows in the same block. -/
theorem ShA.rowsNew {W V : World} {M N p : Nat} {s : Scr} {rows rows' : List (List C)} {cv tv gv rv rv' : Value} {gvs vs vs' : List Value} {rb : Nat} (h : ShA 72 W M N p s rows cv tv gv rv gvs vs) (hrb : rv.ownBlock = some rb) (hrb' : rv'.ownBlock = some rb)
    (ho : ∀ k, k < W.heap.size → k ≠ rb → V.heap[k]? = W.heap[k]?) (hw : V.ownsRow N 22 1 rv' rows'.length vs') (hr : RowsIn V M vs' rows') :
    ShA 72 (V.setCell ⟨p, 22, none⟩ rv') M N p s rows' cv tv gv rv' gvs vs' := by
  obtain ⟨hlo, A, f, hA⟩ := owns_block h.rws rb hrb
  have hpr : p ≠ rb := by
    intro e
    rw [← e, h.blk] at hA
    injection hA with hA
    injection hA with _ hA _
    exact absurd hA (by decide)
  have hp : V.heap[p]? = some (.cells (shA s cv tv gv rv) 72 (0, 0)) := (ho p (heap_lt h.blk) hpr).trans h.blk
  have hk1 : Kept M W V := fun k hk hS => ho k hk fun e => by
    subst e
    rcases hS with hS | ⟨B, f', hS⟩
    · have := h.ml
      omega
    · rw [hA] at hS
      injection hS with hS
      injection hS with _ hS _
      exact absurd hS (by decide)
  have hk2 : Kept M V (V.setCell ⟨p, 22, none⟩ rv') := Kept.store hp (by decide) (Nat.le_trans h.ml h.lo)
  have hof : ∀ {e : TypeId} {v : Value} {n : Nat} {xs : List Value}, e ≠ 72 → (∀ k, v.ownBlock = some k → k ≠ rb) → W.ownsRow N e 1 v n xs → (V.setCell ⟨p, 22, none⟩ rv').ownsRow N e 1 v n xs := fun hte hn hw => by
    refine own_off (owns_kept hw fun g hg => ?_) hp (Ne.symm hte)
    obtain ⟨-, B, f', hB⟩ := owns_block hw g hg
    exact ho g (heap_lt hB) (hn g hg)
  have hnb : ∀ k, tv.ownBlock = some k → k ≠ rb := fun k hk e => by
    subst e
    obtain ⟨-, B, f', hB⟩ := owns_block h.tabs k hk
    rw [hA] at hB
    injection hB with hB
    injection hB with _ hB _
    exact absurd hB (by decide)
  have hng : ∀ k, gv.ownBlock = some k → k ≠ rb := fun k hk e => h.two rb hrb (by rw [hk, e])
  refine ⟨store_at hp rfl, h.lo, h.ml, h.cvs, hof (by decide) hnb h.tabs, hof (by decide) hng h.gone, (h.gin.keep hk1).keep hk2, own_off hw hp (by decide), hr.keep hk2, fun k hk e => ?_⟩
  rw [hrb'] at hk
  exact hng k e (Option.some.inj hk).symm
theorem one4w (a : Int) (b c d : Int) : (#[.int .i32 a, .int .i64 b, .int .i64 c, .int .i64 d] : Array Value).all (·.oneCell') = true := by simp [Value.oneCell']
set_option maxHeartbeats 2000000 in
theorem blankS_any (p : Nat) (bk : Int) (V : World) (h : V.cell? ⟨p, 7, none⟩ = some (.int .i64 bk)) : Calls Tryz.prog 102 #[.pointer (some ⟨p, 0, none⟩)] V fun e V' => e = .returned (.agg #[.int .i32 32, .int .i64 0, .int .i64 bk, .int .i64 0]) ∧ Below V.heap.size V V' := by
  have x0 := heap_alloc_new V (.cells #[.int .i32 0, .int .i64 0, .int .i64 0, .int .i64 0] 54)
  have kb : Below V.heap.size V (V.alloc (.cells #[.int .i32 0, .int .i64 0, .int .i64 0, .int .i64 0] 54)) := (Below.refl _ _).alloc (Nat.le_refl _) _
  have h1 := cell_stay kb h
  have HX0 : Hid _ := x0
  have HKB : Hid _ := kb
  clear x0 kb h
  go_enter Tryz.func102, Tryz.ntmps102
  go_upto_region 1 with fail
  generalize V.alloc (.cells #[.int .i32 0, .int .i64 0, .int .i64 0, .int .i64 0] 54) = Y at *
  go_wp2_with (refine wpList_store_row rfl 54 (.tmp 2) _ rfl V.heap.size #[.int .i32 32, .int .i64 0, .int .i64 bk, .int .i64 0] rfl rfl _ _ HX0.out (by kernel_rfl) rfl (one4w _ _ _ _) ?_)
  (try simp only [Exit.inBlock, Exit.then])
  refine bodyPost_ret (v := .agg #[.int .i32 32, .int .i64 0, .int .i64 bk, .int .i64 0]) ?_ rfl ⟨rfl, below_setRow HKB.out (Nat.le_refl _) _⟩
  exact results_cell_row rfl _ _ V.heap.size _ _ _ _ rfl (setRow_heap _ _ _ _ _ _ HX0.out) Tryz.underlying54 rfl (by kernel_rfl)
theorem cells_one (V : World) (c : C) : CellsAt (V.alloc (.cells #[.int .i32 c.1, .int .i64 c.2.1, .int .i64 c.2.2.1, .int .i64 c.2.2.2] 54)) V.heap.size 0 [c] := fun j hj => by
  have h := heap_alloc_new V (.cells #[.int .i32 c.1, .int .i64 c.2.1, .int .i64 c.2.2.1, .int .i64 c.2.2.2] 54)
  generalize V.alloc (.cells #[.int .i32 c.1, .int .i64 c.2.1, .int .i64 c.2.2.1, .int .i64 c.2.2.2] 54) = X at *
  match j, hj with
  | 0, _ => exact ⟨by simp [World.cell?, h], by simp [World.cell?, h], by simp [World.cell?, h], by simp [World.cell?, h]⟩
set_option maxHeartbeats 2000000 in
theorem blanks_any (p n : Nat) (bk : Int) (W : World) (h7 : W.cell? ⟨p, 7, none⟩ = some (.int .i64 bk)) (hn1 : 1 ≤ n) (hn2 : n ≤ 120) :
    Calls Tryz.prog 76 #[.pointer (some ⟨p, 0, none⟩), .int .i64 (n : Int)] W fun e W' => ∃ a c g, e = .returned (.slice a n c) ∧ W.heap.size ≤ g ∧ RowB W' g (.slice a n c) (List.replicate n (32, 0, bk, 0)) ∧ Below W.heap.size W W' := by
  have HB := blankS_any p bk W h7
  have HRP : Hid (∀ V : World, Calls Tryz.prog 80 #[.slice (some ⟨V.heap.size, 0, none⟩) 1 1, .int .i64 (n : Int)] (V.alloc (.cells #[.int .i32 32, .int .i64 0, .int .i64 bk, .int .i64 0] 54)) fun e w' => ∃ v', e = .returned v' ∧ OwnG w' (V.alloc (.cells #[.int .i32 32, .int .i64 0, .int .i64 bk, .int .i64 0] 54)).heap.size v' (List.replicate n (32, 0, bk, 0)) ∧ Below (V.alloc (.cells #[.int .i32 32, .int .i64 0, .int .i64 bk, .int .i64 0] 54)).heap.size (V.alloc (.cells #[.int .i32 32, .int .i64 0, .int .i64 bk, .int .i64 0] 54)) w') := fun V => Grd.repeat_one V.heap.size 0 1 n (32, 0, bk, 0) _ (cells_one V (32, 0, bk, 0)) hn1 (by omega)
  clear h7
  go_enter Tryz.func76, Tryz.ntmps76
  go_wp2_with fail
  refine HB.mono ?_
  rintro e V1 ⟨rfl, b1⟩
  clear HB
  go_wp2_with fail
  refine (HRP.out V1).mono ?_
  rintro e V2 ⟨v2, rfl, ho, b2⟩
  have q2 := b1.alloc b1.size (.cells #[.int .i32 32, .int .i64 0, .int .i64 bk, .int .i64 0] 54)
  have q3 := q2.trans (b2.mono q2.size)
  obtain ⟨g, hg1, hr⟩ := own_rowB ho
  obtain ⟨cap, rest, hv, hc1, hc2, hh⟩ := hr
  subst hv
  go_wp2_with fail
  go_ret
  refine ⟨_, cap, g, rfl, by have := q2.size; omega, ⟨cap, rest, by rw [List.length_replicate], hc1, hc2, hh⟩, q3⟩
/-- A row goes, and a blank one comes. -/
def replR (rows : List (List C)) (n : Nat) (bk : Int) (gone fresh : Nat) : List (List C) := (rows.eraseIdx gone).insertIdx fresh (List.replicate n (32, 0, bk, 0))
theorem replR_len (rows : List (List C)) (n : Nat) (bk : Int) (gone fresh : Nat) (hg : gone < rows.length) (hf : fresh < rows.length) : (replR rows n bk gone fresh).length = rows.length := by
  unfold replR
  rw [List.length_insertIdx_of_le_length (by rw [List.length_eraseIdx_of_lt hg]; omega), List.length_eraseIdx_of_lt hg]
  omega
theorem replR_row (rows : List (List C)) (n : Nat) (bk : Int) (gone fresh : Nat) (hg : gone < rows.length) (hf : fresh < rows.length) (hn : ∀ i, i < rows.length → (rows.getD i []).length = n) (i : Nat) (hi : i < rows.length) : ((replR rows n bk gone fresh).getD i []).length = n := by
  have hl : (rows.eraseIdx gone).length = rows.length - 1 := List.length_eraseIdx_of_lt hg
  have he : ∀ j, j < rows.length - 1 → ((rows.eraseIdx gone).getD j []).length = n := fun j hj => by
    rw [getD_erase]
    split
    · exact hn j (by omega)
    · exact hn (j + 1) (by omega)
  unfold replR
  rw [getD_insert _ _ _ _ _ (by omega)]
  split
  · exact he i (by omega)
  · split
    · simp
    · exact he (i - 1) (by omega)
set_option linter.unusedSimpArgs false in
set_option maxHeartbeats 4000000 in
set_option maxRecDepth 100000 in
theorem replace_any (W : World) (M N p n : Nat) (s : Scr) (rows : List (List C)) (hS : ShAt 72 W M N p s rows) (gone fresh : Nat) (hw : s.w = n) (hn1 : 1 ≤ n) (hn2 : n ≤ 120) (hg : gone < rows.length) (hf : fresh < rows.length) (hrl : rows.length ≤ 60) :
    Calls Tryz.prog 111 #[.pointer (some ⟨p, 0, none⟩), .int .i64 (gone : Int), .int .i64 (fresh : Int)] W (Ran W M N p s (replR rows n s.sb gone fresh)) := by
  obtain ⟨cv, tv, gv, rv, gvs, vs, hS⟩ := hS
  obtain ⟨rb, rc, hrv, hrb, hrc1, hrc2, hvl, hrcell, A, hrA⟩ := own_cells hS.rws (by omega)
  subst hrv
  have HD := delete_own N rb rows.length rc gone vs W hS.rws hS.rin.sls hg
  obtain ⟨⟨c0, -⟩, ⟨-, -, -, -, -, -, -, -, -, -, -, c22⟩, f⟩ := sh_cells hS.blk
  have hpr : p ≠ rb := by
    intro e
    rw [← e, hS.blk] at hrA
    injection hrA with hrA
    injection hrA with _ hrA _
    exact absurd hrA (by decide)
  have hlo := hS.lo
  have hwg : IntKind.i64.wrap ((gone : Int) + 1) = ((gone + 1 : Nat) : Int) := by rw [wrap_id _ (by omega) (by omega)]; omega
  have HS : Hid (ShA 72 W M N p s rows cv tv gv (.slice (some ⟨rb, 0, none⟩) rows.length rc) gvs vs) := hS
  clear hS hrcell hvl f c0
  go_enter Tryz.func111, Tryz.ntmps111
  go_wp2_with fail
  refine HD.mono ?_
  rintro e V1 ⟨rfl, hO1, hk1, hb1⟩
  have hpV := (hk1 p hpr).trans HS.out.blk
  have c22' := (sh_cells hpV).2.1.2.2.2.2.2.2.2.2.2.2.2
  have f22 := (sh_cells hpV).2.2 22
  go_upto_region 1 with fail
  have hS1 : ShA 72 (V1.setCell ⟨p, 22, none⟩ (.slice (some ⟨rb, 0, none⟩) (rows.length - 1) rc)) M N p s (rows.eraseIdx gone) cv tv gv (.slice (some ⟨rb, 0, none⟩) (rows.length - 1) rc) gvs (vs.eraseIdx gone) :=
    HS.out.rowsNew (rb := rb) rfl rfl (fun k _ hk => hk1 k hk) (by rw [List.length_eraseIdx_of_lt hg]; exact hO1) ((HS.out.rin.erase gone hg).keep (HS.out.keptR (rb := rb) rfl fun k _ hk => hk1 k hk))
  have hB1 : Below N W (V1.setCell ⟨p, 22, none⟩ (.slice (some ⟨rb, 0, none⟩) (rows.length - 1) rc)) := (hb1.mono hrb).setCell hlo _
  have hF1 : Framed W (V1.setCell ⟨p, 22, none⟩ (.slice (some ⟨rb, 0, none⟩) (rows.length - 1) rc)) := fun k o hk ho => by
    have e1 : k ≠ rb := by
      intro e
      rw [e, hrA] at hk
      injection hk with hk
      exact not_other_rows (ho A _ _ hk.symm)
    exact Framed.store hpV not_other_sheet k o ((hk1 k e1).trans hk) ho
  have HS1 : Hid _ := hS1
  have HB1 : Hid _ := hB1
  have HF1 : Hid _ := hF1
  clear hS1 hB1 hF1 hO1 hk1 hb1 hpV c22' f22 c22 hrA HS HD
  generalize V1.setCell ⟨p, 22, none⟩ (.slice (some ⟨rb, 0, none⟩) (rows.length - 1) rc) = X at *
  have hX := HS1.out
  obtain ⟨⟨c0, -, -, -, -, -, -, c7, -⟩, ⟨-, -, -, -, -, -, -, -, -, -, -, c22⟩, -⟩ := sh_cells hX.blk
  rw [hw] at c0
  have b0 : Below X.heap.size X X.drew := (Below.refl _ _).drew
  have hNX : N ≤ X.heap.size := Nat.le_trans hlo (Nat.le_of_lt (heap_lt hX.blk))
  have HBL := blanks_any p n s.sb X.drew (cell_stay b0 c7) hn1 hn2
  have HIN : Hid (∀ (V2 : World) (a : Option Addr) (c g : Nat), Below X.heap.size X V2 → RowB V2 g (.slice a n c) (List.replicate n (32, 0, s.sb, 0)) → Calls Tryz.prog 83 #[.slice (some ⟨rb, 0, none⟩) (rows.length - 1) rc, .int .i64 (fresh : Int), .slice (some ⟨V2.heap.size, 0, none⟩) 1 1] (V2.alloc (.cells #[.slice a n c] 22)) fun e V3 => e = .returned (.slice (some ⟨rb, 0, none⟩) (rows.length - 1 + 1) rc) ∧ V3.cell? ⟨p, 22, none⟩ = some (.slice (some ⟨rb, 0, none⟩) (rows.length - 1) rc) ∧ V3.frozen? ⟨p, 22, none⟩ = false ∧ Hid (Ran W M N p s (replR rows n s.sb gone fresh) (.returned (.tuple #[])) (V3.setCell ⟨p, 22, none⟩ (.slice (some ⟨rb, 0, none⟩) (rows.length - 1 + 1) rc)))) := fun V2 a c g q1 hR => by
    have q2 := q1.alloc q1.size (.cells #[.slice a n c] 22)
    have hS2 := hX.next q2
    have hal := heap_alloc_new V2 (.cells #[.slice a n c] 22)
    have hri : RowIn V2 M (.slice a n c) (List.replicate n (32, 0, s.sb, 0)) := rowIn_rowB hR
    have hle : (rows.eraseIdx gone).length = rows.length - 1 := List.length_eraseIdx_of_lt hg
    obtain ⟨-, B, f', hB⟩ := owns_block hX.rws rb rfl
    have hne : V2.heap.size ≠ rb := by have h1 := heap_lt hB; have h2 := q1.size; omega
    have key := insert_own N rb (rows.length - 1) rc fresh V2.heap.size 1 (vs.eraseIdx gone) (.slice a n c) _ (by have := hS2.rws; rwa [hle] at this) hS2.rin.sls (sl_in hri) (by omega) (by omega) hal hne
    refine Calls.mono key ?_
    rintro e V3 ⟨rfl, hO3, hk3, hb3⟩
    have hp3 : V3.heap[p]? = _ := (hk3 p hpr).trans hS2.blk
    have hri3 : RowIn V3 M (.slice a n c) (List.replicate n (32, 0, s.sb, 0)) := (hri.keep (Kept.of_below ((Below.refl _ _).alloc (Nat.le_refl _) _))).keep (hS2.keptR (rb := rb) rfl fun k _ hk => hk3 k hk)
    have hS3 := hS2.rowsNew (rb := rb) (rv' := .slice (some ⟨rb, 0, none⟩) (rows.length - 1 + 1) rc) (rows' := replR rows n s.sb gone fresh) (vs' := (vs.eraseIdx gone).insertIdx fresh (.slice a n c)) rfl rfl (fun k _ hk => hk3 k hk) (by rw [replR_len rows n s.sb gone fresh hg hf, show rows.length = rows.length - 1 + 1 by omega]; exact hO3) ((hS2.rin.keep (hS2.keptR (rb := rb) rfl fun k _ hk => hk3 k hk)).insert fresh (by omega) _ _ hri3)
    refine ⟨rfl, (sh_cells hp3).2.1.2.2.2.2.2.2.2.2.2.2.2, (sh_cells hp3).2.2 22, rfl, ⟨_, _, _, _, _, _, hS3⟩, ((HB1.out.trans (q2.mono hNX)).trans (hb3.mono hrb)).setCell hlo _, ?_⟩
    refine (Framed.trans HF1.out (Framed.of_below q2)).trans ?_
    intro k o hk ho
    have e1 : k ≠ rb := by
      intro e
      have hB2 := Grd.carry hB q2
      rw [e, hB2] at hk
      injection hk with hk
      exact not_other_rows (ho B _ _ hk.symm)
    exact Framed.store hp3 not_other_sheet k o ((hk3 k e1).trans hk) ho
  have HC22 : Hid (∀ V, Below X.heap.size X V → V.cell? ⟨p, 22, none⟩ = some (.slice (some ⟨rb, 0, none⟩) (rows.length - 1) rc)) := fun V h => cell_stay h c22
  clear hX c7 HS1 HB1 HF1 hw
  generalize rows.length - 1 = m at *
  generalize replR rows n s.sb gone fresh = rows' at *
  go_region_with (first
    | (go_at_call 76; refine HBL.mono ?_; rintro e V2 ⟨a, c, g, rfl, hg2, hR, b2⟩; have q1 := b0.trans (b2.mono b0.size); have d22 := HC22.out _ q1; have e22 := HC22.out _ (q1.alloc q1.size (.cells #[.slice a n c] 22)); have hI := HIN.out V2 a c g q1 hR; clear hR b2)
    | (go_at_call 83; refine hI.mono ?_; rintro e V3 ⟨rfl, z22, zf, HE⟩))
  all_goals go_wp2_with fail
  all_goals go_end0
  all_goals exact HE.out
end Put
end Go.Proofs.YtooaikdaahpngaaGreatDoor

/- Package sheet: Insert's closure: a row with blanks put in. -/
namespace Go.Proofs.YtooaikdaahpngaaGreatDoor
open Go.ChangeShapes Go.WideShapes Go.ChangeAt Go.RowKit
namespace Put
open Grd (C SliceAt CellsAt gridErr z0 nilV flat rowsL RowB OwnG)
/-- A row with n blanks put in at x; what leaves it goes. -/
def insR (row : List C) (x n : Nat) (bk : Int) : List C := row.take x ++ (List.replicate n (32, 0, bk, 0) ++ (row.drop x).take (row.length - n - x))
theorem insR_len (row : List C) (x n : Nat) (bk : Int) (h : x + n ≤ row.length) : (insR row x n bk).length = row.length := by
  unfold insR
  rw [List.length_append, List.length_append, List.length_replicate, List.length_take, List.length_take, List.length_drop]
  omega
set_option maxHeartbeats 8000000 in
set_option maxRecDepth 100000 in
theorem ins1_any (W : World) (p Bp Bn rb ro c x n : Nat) (bk : Int) (row : List C) (hp : W.cell? ⟨Bp, 0, none⟩ = some (.pointer (some ⟨p, 0, none⟩))) (hn : W.cell? ⟨Bn, 0, none⟩ = some (.int .i64 (n : Int))) (hx : W.cell? ⟨p, 3, none⟩ = some (.int .i64 (x : Int))) (h7 : W.cell? ⟨p, 7, none⟩ = some (.int .i64 bk)) (hC : CellsAt W rb ro row) (hc : row.length ≤ c) (hn1 : 1 ≤ n) (hxn : x + n ≤ row.length) (hl : row.length ≤ 120) :
    Calls Tryz.prog 75 #[.slice (some ⟨rb, ro, none⟩) row.length c, .pointer (some ⟨Bp, 0, none⟩), .pointer (some ⟨Bn, 0, none⟩)] W fun e W' => ∃ v', e = .returned v' ∧ W'.ownsRow W.heap.size 54 4 v' row.length (flat (insR row x n bk)) ∧ Below W.heap.size W W' := by
  have SK : Hid (∀ V, Below W.heap.size W V → V.cell? ⟨Bp, 0, none⟩ = some (.pointer (some ⟨p, 0, none⟩)) ∧ V.cell? ⟨Bn, 0, none⟩ = some (.int .i64 (n : Int)) ∧ V.cell? ⟨p, 3, none⟩ = some (.int .i64 (x : Int))) := fun V h => ⟨cell_stay h hp, cell_stay h hn, cell_stay h hx⟩
  have HBL : Hid (∀ V, Below W.heap.size W V → Calls Tryz.prog 76 #[.pointer (some ⟨p, 0, none⟩), .int .i64 (n : Int)] V fun e W' => ∃ a c g, e = .returned (.slice a n c) ∧ V.heap.size ≤ g ∧ RowB W' g (.slice a n c) (List.replicate n (32, 0, bk, 0)) ∧ Below V.heap.size V W') := fun V h => blanks_any p n bk V (cell_stay h h7) hn1 (by omega)
  have HCC : Hid (CellsAt W rb ro row) := hC
  obtain ⟨L, hL⟩ : ∃ L, L = row.length := ⟨_, rfl⟩
  obtain ⟨k, hk⟩ : ∃ k, k = L - n - x := ⟨_, rfl⟩
  obtain ⟨m, hm⟩ : ∃ m, m = x + k := ⟨_, rfl⟩
  have hwr : IntKind.i64.wrap ((L : Int) - (n : Int)) = (m : Int) := by
    rw [wrap_id _ (by omega) (by omega)]
    omega
  have HLR : Hid (row.length = L) := hL.symm
  have HIR : Hid (insR row x n bk = row.take x ++ (List.replicate n (32, 0, bk, 0) ++ (row.drop x).take k)) := by
    unfold Hid insR
    rw [← hL, ← hk]
  have HCN : Hid (∀ (V : World) (a : Option Addr) (vc g : Nat), Below W.heap.size W V → RowB V g (.slice a n vc) (List.replicate n (32, 0, bk, 0)) → Calls Tryz.prog 26 #[.slice (some ⟨V.heap.size, 0, none⟩) 3 3] (V.alloc (.cells #[.slice (some ⟨rb, ro, none⟩) x c, .slice a n vc, .slice (some ⟨rb, ro + x * 4, none⟩) k (c - x)] 22)) fun e w' => ∃ v', e = .returned v' ∧ w'.ownsRow (V.alloc (.cells #[.slice (some ⟨rb, ro, none⟩) x c, .slice a n vc, .slice (some ⟨rb, ro + x * 4, none⟩) k (c - x)] 22)).heap.size 54 4 v' L (flat (insR row x n bk)) ∧ Below (V.alloc (.cells #[.slice (some ⟨rb, ro, none⟩) x c, .slice a n vc, .slice (some ⟨rb, ro + x * 4, none⟩) k (c - x)] 22)).heap.size (V.alloc (.cells #[.slice (some ⟨rb, ro, none⟩) x c, .slice a n vc, .slice (some ⟨rb, ro + x * 4, none⟩) k (c - x)] 22)) w') := fun V a vc g hV hB => by
    have kb : Below V.heap.size V (V.alloc (.cells #[.slice (some ⟨rb, ro, none⟩) x c, .slice a n vc, .slice (some ⟨rb, ro + x * 4, none⟩) k (c - x)] 22)) := (Below.refl _ _).alloc (Nat.le_refl _) _
    have hnew := heap_alloc_new V (.cells #[.slice (some ⟨rb, ro, none⟩) x c, .slice a n vc, .slice (some ⟨rb, ro + x * 4, none⟩) k (c - x)] 22)
    have hCV := (HCC.out.below hV).below kb
    have hC1 := hCV.part 0 x (by omega)
    have hC2 := hCV.part x k (by omega)
    have hB2 := hB.below kb
    obtain ⟨bc, brest, hbv, -⟩ := hB
    rw [List.length_replicate] at hbv
    injection hbv with ha _ _
    have hcell : ∀ (j : Nat) (v : Value), (#[.slice (some ⟨rb, ro, none⟩) x c, .slice a n vc, .slice (some ⟨rb, ro + x * 4, none⟩) k (c - x)] : Array Value)[j]? = some v → (V.alloc (.cells #[.slice (some ⟨rb, ro, none⟩) x c, .slice a n vc, .slice (some ⟨rb, ro + x * 4, none⟩) k (c - x)] 22)).cell? ⟨V.heap.size, j, none⟩ = some v := fun j v h => by
      unfold World.cell?
      rw [hnew]
      exact h
    have hfl : ([row.take x, List.replicate n (32, 0, bk, 0), (row.drop x).take k] : List (List C)).flatten = insR row x n bk := by
      rw [HIR.out]
      simp
    have hVV : ∀ j, j < ([row.take x, List.replicate n (32, 0, bk, 0), (row.drop x).take k] : List (List C)).length → ∃ b' o' c', (V.alloc (.cells #[.slice (some ⟨rb, ro, none⟩) x c, .slice a n vc, .slice (some ⟨rb, ro + x * 4, none⟩) k (c - x)] 22)).cell? ⟨V.heap.size, 0 + j, none⟩ = some (.slice (some ⟨b', o', none⟩) (([row.take x, List.replicate n (32, 0, bk, 0), (row.drop x).take k] : List (List C)).getD j []).length c') ∧ CellsAt (V.alloc (.cells #[.slice (some ⟨rb, ro, none⟩) x c, .slice a n vc, .slice (some ⟨rb, ro + x * 4, none⟩) k (c - x)] 22)) b' o' (([row.take x, List.replicate n (32, 0, bk, 0), (row.drop x).take k] : List (List C)).getD j []) := fun j hj => by
      have e1 : (row.take x).length = x := by rw [List.length_take]; omega
      have e3 : ((row.drop x).take k).length = k := by rw [List.length_take, List.length_drop]; omega
      match j, hj with
      | 0, _ =>
        refine ⟨rb, ro, c, ?_, ?_⟩
        · show World.cell? _ ⟨V.heap.size, 0, none⟩ = some (.slice _ (row.take x).length c)
          rw [e1]
          exact hcell 0 _ rfl
        · have h := hC1
          rw [Nat.zero_mul, Nat.add_zero, List.drop_zero] at h
          exact h
      | 1, _ =>
        refine ⟨g, 0, vc, ?_, hB2.cells⟩
        show World.cell? _ ⟨V.heap.size, 1, none⟩ = some (.slice _ (List.replicate n ((32, 0, bk, 0) : C)).length vc)
        rw [List.length_replicate, ← ha]
        exact hcell 1 _ rfl
      | 2, _ =>
        refine ⟨rb, ro + x * 4, c - x, ?_, hC2⟩
        show World.cell? _ ⟨V.heap.size, 2, none⟩ = some (.slice _ ((row.drop x).take k).length (c - x))
        rw [e3]
        exact hcell 2 _ rfl
    have := concat_any V.heap.size 0 3 [row.take x, List.replicate n (32, 0, bk, 0), (row.drop x).take k] (V.alloc (.cells #[.slice (some ⟨rb, ro, none⟩) x c, .slice a n vc, .slice (some ⟨rb, ro + x * 4, none⟩) k (c - x)] 22)) hVV (insR row x n bk) hfl (by rw [insR_len _ _ _ _ hxn]; omega) (by simp)
    rw [insR_len _ _ _ _ hxn, HLR.out] at this
    exact this
  have b0 : Below W.heap.size W W.drew := (Below.refl _ _).drew
  have hx1 : (x : Int) ≤ (c : Int) := by omega
  have hx2 : (x : Int) ≤ (m : Int) := by omega
  have hx3 : (m : Int) ≤ (c : Int) := by omega
  have hx4 : x < c := by omega
  have hx6 : (x : Int) < (c : Int) := by omega
  have hx5 : m - x = k := by omega
  rw [← hL]
  clear hp hn hx h7 hC hc hn1 hxn hl hL hk HCC hm
  generalize insR row x n bk = res at *
  go_enter Tryz.func75, Tryz.ntmps75
  go_upto_region 1 with fail
  go_region_held3 (fun w' => w'.cell? ⟨Bp, 0, none⟩ = some (.pointer (some ⟨p, 0, none⟩)) ∧ w'.cell? ⟨Bn, 0, none⟩ = some (.int .i64 (n : Int)) ∧ w'.cell? ⟨p, 3, none⟩ = some (.int .i64 (x : Int)))
    (first | exact SK.out _ q3 | exact SK.out _ q2 | exact SK.out _ q1 | exact SK.out _ b0)
    (first
      | (go_at_call 76; refine (HBL.out _ b0).mono ?_; rintro e V1 ⟨a, vc, g, rfl, hg, hB, b1⟩; have q1 : Below W.heap.size W V1 := b0.trans (b1.mono b0.size); have q2 := q1.alloc q1.size (.cells #[.slice (some ⟨rb, ro, none⟩) x c, .slice a n vc, .slice (some ⟨rb, ro + x * 4, none⟩) k (c - x)] 22); have HC1 := HCN.out V1 a vc g q1 hB)
      | (go_at_call 26; (try rw [hx5]); refine HC1.mono ?_; rintro e V2 ⟨v', rfl, hO, b2⟩; have q3 : Below W.heap.size W V2 := q2.trans (b2.mono q2.size); have HFI : Hid _ := And.intro (Grd.ownsRow_mono hO q2.size) q3; obtain ⟨za, zc, hzv⟩ := own_slice hO; subst hzv))
  all_goals go_wp2_with fail
  all_goals go_ret
  all_goals exact ⟨_, rfl, HFI.out.1, HFI.out.2⟩
end Put
end Go.Proofs.YtooaikdaahpngaaGreatDoor

/- put.Text's closure: rune by rune. -/
namespace Go.Proofs.YtooaikdaahpngaaGreatDoor
open Go.ChangeShapes Go.WideShapes Go.ChangeAt Go.RowKit
namespace Put
open Grd (C)
/-- A string's iterator goes on. -/
theorem ShAt.iter {t : TypeId} {W W' : World} {M N p k pos : Nat} {s : Scr} {rows : List (List C)} {str : ByteArray} (h : ShAt t W M N p s rows) (hk : W.heap[k]? = some (.stringIter str pos)) (hM : N ≤ k) (hoff : ∀ j, j ≠ k → W'.heap[j]? = W.heap[j]?) : ShAt t W' M N p s rows := by
  obtain ⟨cv, tv, gv, rv, gvs, vs, h⟩ := h
  have hne : ∀ {j : Nat} {A : Array Value} {u : TypeId} {f : Nat × Nat}, W.heap[j]? = some (.cells A u f) → W'.heap[j]? = W.heap[j]? := fun hj => hoff _ fun e => by
    rw [e, hk] at hj
    cases hj
  have how : ∀ {e : TypeId} {v : Value} {n : Nat} {xs : List Value}, W.ownsRow N e 1 v n xs → W'.ownsRow N e 1 v n xs := fun hw => owns_kept hw fun g hg => by
    obtain ⟨-, A, f, hA⟩ := owns_block hw g hg
    exact hne hA
  have hK : Kept M W W' := fun j _ hS => by
    rcases hS with hS | ⟨A, f, hS⟩
    · have := h.ml
      exact hoff j (by omega)
    · exact hne hS
  exact ⟨cv, tv, gv, rv, gvs, vs, (hne h.blk).trans h.blk, h.lo, h.ml, h.cvs, how h.tabs, how h.gone, h.gin.keep hK, how h.rws, h.rin.keep hK, h.two⟩
theorem iter_off (W : World) (k j : Nat) (t : ByteArray) (pos : Nat) (h : j ≠ k) : (W.iterAt k t pos).heap[j]? = W.heap[j]? := by
  unfold World.iterAt
  simp [Ne.symm h]
theorem other_iter (t : ByteArray) (pos : Nat) : OtherO (.stringIter t pos) := fun A u f e => by cases e
set_option maxHeartbeats 2000000 in
theorem text1_does (t : ByteArray) (B M : Nat) (w : World) (st : Nat → Scr × List (List C)) (hB : w.cell? ⟨B, 0, none⟩ = some (.string t))
    (hstep : ∀ i, i < (Txt.runes t).length → ∀ X p, Below w.heap.size w X → ShAt 72 X M w.heap.size p (st i).1 (st i).2 → Calls Tryz.prog 17 #[.pointer (some ⟨p, 0, none⟩), .int .i32 ((Txt.runes t).getD i (0, 0)).1] X (Ran X M w.heap.size p (st (i + 1)).1 (st (i + 1)).2)) :
    Does 16 #[.pointer (some ⟨B, 0, none⟩)] M w (st 0).1 (st (Txt.runes t).length).1 (st 0).2 (st (Txt.runes t).length).2 := by
  intro W p hb hS
  have q0 := cell_stay hb hB
  have HS : Hid (ShAt 72 W M w.heap.size p (st 0).1 (st 0).2) := hS
  have HB : Hid (Below w.heap.size w W) := hb
  have HST : Hid (∀ i, i < (Txt.runes t).length → ∀ X p, Below w.heap.size w X → ShAt 72 X M w.heap.size p (st i).1 (st i).2 → Calls Tryz.prog 17 #[.pointer (some ⟨p, 0, none⟩), .int .i32 ((Txt.runes t).getD i (0, 0)).1] X (Ran X M w.heap.size p (st (i + 1)).1 (st (i + 1)).2)) := hstep
  have hNW : w.heap.size ≤ W.heap.size := hb.size
  have HRL : Hid (Txt.runes t = Txt.rs t t.size 0) := rfl
  clear hS hb hB hstep
  go_enter Tryz.func16, Tryz.ntmps16
  go_wp2
  go_loopw [] (fun wr => ∃ (pos f i : Nat), wr.heap[W.heap.size]? = some (.stringIter t pos) ∧ Below w.heap.size W wr ∧ ShAt 72 wr M w.heap.size p (st i).1 (st i).2 ∧ (Txt.runes t).drop i = Txt.rs t f pos ∧ t.size ≤ pos + f ∧ pos ≤ t.size ∧ i ≤ (Txt.runes t).length) (fun wr => t.size - wr.iterPos W.heap.size)
  case atStart =>
    exact ⟨0, t.size, 0, World.iter_heap W t 0, ((Below.refl _ W).alloc (Nat.le_refl _) _).mono hNW, HS.out.next ((Below.refl _ W).alloc (Nat.le_refl _) _), HRL.out, by omega, by omega, by omega⟩
  case round =>
    obtain ⟨pos, f, i, hit, hbw, hSi, hdr, hf, hps, hil⟩ := hrel
    have HDR : Hid ((Txt.runes t).drop i = Txt.rs t f pos) := hdr
    have HSI : Hid (ShAt 72 wr M w.heap.size p (st i).1 (st i).2) := hSi
    have HBW : Hid (Below w.heap.size W wr) := hbw
    clear hdr hSi hbw
    by_cases hp : pos < t.size
    · have hnx : ∀ ty, (Instr.next (.pointer (some ⟨W.heap.size, 0, none⟩)) true ty).run Tryz.prog wr = _ := fun ty => Lib.run_next_any_at wr W.heap.size t pos ty hit hp
      have hwd := Txt.width_pos t pos hp
      have hfit := Txt.decode_fits t pos hp
      obtain ⟨f, rfl⟩ : ∃ g, f = g + 1 := ⟨f - 1, by omega⟩
      have HR : Hid (Txt.rs t (f + 1) pos = (((Utf8.decode t pos).1 : Int), (Utf8.decode t pos).2) :: Txt.rs t f (pos + (Utf8.decode t pos).2)) := Txt.rs_step t f pos hp
      have hlt : i < (Txt.runes t).length := by
        have h := HDR.out
        rw [HR.out] at h
        have h2 := congrArg List.length h
        rw [List.length_drop, List.length_cons] at h2
        omega
      have hget : ((Txt.runes t).getD i (0, 0)) = (((Utf8.decode t pos).1 : Int), (Utf8.decode t pos).2) := by
        have h := HDR.out
        rw [HR.out, List.drop_eq_getElem_cons hlt] at h
        injection h with h _
        simp [List.getD, hlt, h]
      have hdr2 : (Txt.runes t).drop (i + 1) = Txt.rs t f (pos + (Utf8.decode t pos).2) := by
        have h := HDR.out
        rw [HR.out, List.drop_eq_getElem_cons hlt] at h
        injection h
      have HDR2 : Hid _ := hdr2
      have hbit := Lib.below_iterAt (Below.refl W.heap.size wr) (k := W.heap.size) (Nat.le_refl _) t (pos + (Utf8.decode t pos).2)
      have hit2 := Lib.iterAt_heap wr W.heap.size t pos (pos + (Utf8.decode t pos).2) hit
      have hS2 : ShAt 72 (wr.iterAt W.heap.size t (pos + (Utf8.decode t pos).2)) M w.heap.size p (st i).1 (st i).2 := HSI.out.iter hit hNW (fun j hj => iter_off wr _ j t _ hj)
      have hB2 : Below w.heap.size W (wr.iterAt W.heap.size t (pos + (Utf8.decode t pos).2)) := HBW.out.trans (hbit.mono hNW)
      have HI : Hid (wr.iterPos W.heap.size = pos) := by simp only [Hid, World.iterPos, hit]
      have HP := HST.out i hlt _ p (HB.out.trans hB2) hS2
      rw [hget] at HP
      have HIT2 : Hid _ := hit2
      have HB2 : Hid _ := hB2
      clear hit hS2 hB2 hbit hit2 hget hdr2
      generalize Utf8.decode t pos = d at *
      generalize wr.iterAt W.heap.size t (pos + d.2) = Y at *
      go_wp2_with fail
      refine HP.mono ?_
      rintro e V hran
      have hrn := hran
      obtain ⟨rfl, hSV, hBV, hFV⟩ := hrn
      have HITV : Hid (V.heap[W.heap.size]? = some (.stringIter t (pos + d.2))) := hFV _ _ HIT2.out (other_iter _ _)
      have HSV : Hid _ := hSV
      have HBV : Hid (Below w.heap.size W V) := HB2.out.trans hBV
      clear hran hSV hBV hFV HP
      go_wp2_with fail
      go_roundw
      case rel => exact ⟨pos + d.2, f, i + 1, HITV.out, HBV.out, HSV.out, HDR2.out, by omega, by omega, by omega⟩
      case measure =>
        rw [HI.out]
        simp only [World.iterPos, HITV.out]
        omega
    · have hnx : ∀ ty, (Instr.next (.pointer (some ⟨W.heap.size, 0, none⟩)) true ty).run Tryz.prog wr = _ := fun ty => Lib.run_next_end_at wr W.heap.size t pos ty hit hp
      have hend : i = (Txt.runes t).length := by
        have h := HDR.out
        rw [Txt.rs_end t f pos hp] at h
        have h2 := congrArg List.length h
        rw [List.length_drop, List.length_nil] at h2
        omega
      go_wp2_with fail
      go_end0
      rw [← hend]
      exact ⟨rfl, HSI.out, HBW.out⟩
end Put
end Go.Proofs.YtooaikdaahpngaaGreatDoor

/- put.New. -/
namespace Go.Proofs.YtooaikdaahpngaaGreatDoor
open Go.ChangeShapes Go.WideShapes Go.ChangeAt Go.RowKit
namespace Put
open Grd (C SliceAt CellsAt gridErr z0 nilV flat rowsL OwnG isSize)
/-- The tabs of a new screen. -/
def newTabs (n : Nat) : List Bool := (List.range n).map fun x => decide (0 < x ∧ x % 8 = 0)
/-- A new screen. -/
def newScr (n hh : Nat) : Scr := ⟨n, hh, List.replicate (n * hh) (32, 0, 0, 0), 0, 0, false, 0, 0, 0, 0, (hh : Int) - 1, 4, newTabs n, 0, 0, 0, 0, 0, 4, 0, ⟨#[]⟩, []⟩
def preScr (a b y : Int) : Scr := ⟨a, b, [], 0, 0, false, 0, 0, 0, 0, y, 4, [], 0, 0, 0, 0, 0, 4, 0, ⟨#[]⟩, []⟩
def IsGridV (v : Value) : Prop := ∃ a b q l c, v = .agg #[.int .i64 a, .int .i64 b, .slice q l c]
theorem isGridV (a b : Int) (q : Option Addr) (l c : Nat) : IsGridV (.agg #[.int .i64 a, .int .i64 b, .slice q l c]) := ⟨a, b, q, l, c, rfl⟩
def IsIntV (v : Value) : Prop := ∃ a, v = .int .i64 a
theorem isIntV (a : Int) : IsIntV (.int .i64 a) := ⟨a, rfl⟩
def IsKeptV (v : Value) : Prop := v = .agg #[.int .i64 0, .int .i64 0, .int .i64 0, .int .i64 0, .int .i64 0, .int .i64 4]
theorem isKeptV : IsKeptV (.agg #[.int .i64 0, .int .i64 0, .int .i64 0, .int .i64 0, .int .i64 0, .int .i64 4]) := rfl
def newArr (x y u : Value) : Array Value := #[(aggOf x).getD 0 undef, (aggOf x).getD 1 undef, (aggOf x).getD 2 undef, .int .i64 0, .int .i64 0, .bool false, .int .i64 0, .int .i64 0, .int .i64 0, .int .i64 0, y, .int .i64 4, u, .int .i64 0, .int .i64 0, .int .i64 0, .int .i64 0, .int .i64 0, .int .i64 4, .int .i32 0, .string ⟨#[]⟩, .slice none 0 0]
theorem newArr_scr (a b y : Int) (cv tv : Value) : newArr (.agg #[.int .i64 a, .int .i64 b, cv]) (.int .i64 y) tv = scrA (preScr a b y) cv tv (.slice none 0 0) := rfl
theorem build_new_run (W : World) (a b y : Int) (q : Option Addr) (l c : Nat) (q' : Option Addr) (l' c' : Nat) : (Instr.build 32 #[(0, .agg #[.int .i64 a, .int .i64 b, .slice q l c]), (6, .int .i64 y), (7, .int .i64 4), (9, .agg #[.int .i64 0, .int .i64 0, .int .i64 0, .int .i64 0, .int .i64 0, .int .i64 4]), (8, .slice q' l' c')]).run Tryz.prog W = .ok (.agg (scrA (preScr a b y) (.slice q l c) (.slice q' l' c') (.slice none 0 0))) W := by kernel_rfl
theorem build_new (a : Act) (dst : Option Tmp) (x y z u : Operand) (ty : TypeId) (pos : String) (after : Array Edge) (guard : Option (Nat × Bool)) (W : World) (hx : IsGridV (a.eval x)) (hy : IsIntV (a.eval y)) (hz : IsKeptV (a.eval z)) (hu : IsSliceV (a.eval u)) :
    (execOp a.eval { dst, op := .build 32 #[(0, x), (6, y), (7, Operand.const (.int .i64 4)), (9, z), (8, u)], type := ty, pos, after, guard }).run Tryz.prog W = .ok (.value (.agg (newArr (a.eval x) (a.eval y) (a.eval u)))) W := by
  obtain ⟨a1, b1, q, l, c, hx⟩ := hx
  obtain ⟨y1, hy⟩ := hy
  unfold IsKeptV at hz
  obtain ⟨q', l', c', hu⟩ := hu
  have e4 : a.eval (Operand.const (.int .i64 4)) = .int .i64 4 := rfl
  unfold execOp
  simp only [List.map_toArray, List.map_cons, List.map_nil, hx, hy, hz, hu, e4, newArr_scr, Sem.run_bind, build_new_run, Sem.run_pure, Result.andThen_ok]
/-- The tabs that are set up to x. -/
def tabsL (n x : Nat) : List Bool := (List.range n).map fun j => decide (0 < j ∧ j % 8 = 0 ∧ j < x)
def tabsA (n x : Nat) : Array Value := ((tabsL n x).map Value.bool).toArray
theorem tabsL_all (n x : Nat) (h : n ≤ x) : tabsL n x = newTabs n := by
  unfold tabsL newTabs
  apply List.map_congr_left
  intro j hj
  rw [List.mem_range] at hj
  rw [decide_eq_decide]
  omega
theorem tabsA_cell {W : World} {T n x : Nat} (h : W.heap[T]? = some (.cells (tabsA n x) 4 (0, 0))) (hx : x < n) : W.cell? ⟨T, x, none⟩ = some (.bool false) := by
  simp [World.cell?, h, tabsA, tabsL, hx]
theorem tabsA_set (n x : Nat) (h8 : x % 8 = 0) (h0 : 0 < x) : (tabsA n x).setIfInBounds x (.bool true) = tabsA n (x + 8) := by
  unfold tabsA tabsL
  apply Array.ext
  · simp
  · intro i h1 h2
    simp only [Array.size_setIfInBounds, List.size_toArray, List.length_map, List.length_range] at h1
    rw [Array.getElem_setIfInBounds (by simpa using h1)]
    by_cases e : x = i
    · subst e
      simp [h8]
      omega
    · have h3 : decide (0 < i ∧ i % 8 = 0 ∧ i < x) = decide (0 < i ∧ i % 8 = 0 ∧ i < x + 8) := by rw [decide_eq_decide]; omega
      simp only [if_neg e, List.getElem_toArray, List.getElem_map, List.getElem_range, h3]
/-- Tabs, none set. -/
def falses (n : Nat) : Array Value := (List.replicate n (Value.bool false)).toArray
theorem tabsA_start (n : Nat) : tabsA n 8 = falses n := by
  unfold tabsA tabsL falses
  apply Array.ext
  · simp
  · intro i h1 h2
    simp
    omega
theorem made_falses (n : Nat) : madeCells (Value.bool false).cells (n * 1) = falses n := by
  unfold madeCells falses
  apply Array.ext
  · simp
  · intro i h1 h2
    have e : i % 1 = 0 := by omega
    simp [Value.cells, e]
theorem makeTabs (n : Nat) (hn : n ≤ 120) (W : World) : (Instr.makeSlice 27 (.int .i64 (n : Int)) (.int .i64 (n : Int))).run Tryz.prog W = .ok (.slice (some ⟨W.heap.size, 0, none⟩) n n) (W.alloc (.cells (falses n) 4)) := by
  obtain ⟨i0, hi, hzz⟩ := Option.map_eq_some_iff.1 info_bool
  simp only [Prod.mk.injEq] at hzz
  obtain ⟨hz0, hz1, hz2⟩ := hzz
  have h := run_makeSlice (P := Tryz.prog) (w := W) 27 4 i0 (.bool false) und_bools hi hz0 .i64 .i64 (n : Int) (n : Int) (by omega) (by omega) (by rw [hz1]; simp; omega) (by rw [hz2]; simp; omega) (by omega)
  rw [h, hz1, Int.toNat_natCast, made_falses]
section
attribute [local go_sem ↓] build_new store_scr
attribute [local go_sem] isGridV isIntV isKeptV isSliceV isScrS newArr_scr ptrBlk_at aggOf_agg
set_option maxHeartbeats 4000000 in
set_option maxRecDepth 100000 in
theorem new_good' (n hh : Nat) (w : World) (hs : isSize n hh = true) : Calls Tryz.prog 18 #[.int .i64 (n : Int), .int .i64 (hh : Int)] w (Made w w (newScr n hh) 0) := by
  have hsz : 1 ≤ (n : Int) ∧ (n : Int) ≤ 120 ∧ 1 ≤ (hh : Int) ∧ (hh : Int) ≤ 60 := by simpa [Grd.isSize] using hs
  obtain ⟨w1, w2, w3, w4⟩ := hsz
  have HN : Hid (∀ W, Calls Tryz.prog 46 #[.int .i64 (n : Int), .int .i64 (hh : Int)] W fun e w' => ∃ v, e = .returned (.tuple #[.agg #[.int .i64 (n : Int), .int .i64 (hh : Int), v], .int .i64 0]) ∧ OwnG w' W.heap.size v (List.replicate (n * hh) (32, 0, 0, 0)) ∧ Below W.heap.size W w') := fun W => by
    have h := Grd.new_good (n : Int) (hh : Int) W hs
    have e : ((n : Int) * (hh : Int)).toNat = n * hh := by rw [← Int.natCast_mul, Int.toNat_natCast]
    rw [e] at h
    exact h
  have hx0 := heap_alloc_new w (.cells #[.int .i64 0, .int .i64 0, .slice none 0 0, .int .i64 0, .int .i64 0, .bool false, .int .i64 0, .int .i64 0, .int .i64 0, .int .i64 0, .int .i64 0, .int .i64 0, .slice none 0 0, .int .i64 0, .int .i64 0, .int .i64 0, .int .i64 0, .int .i64 0, .int .i64 0, .int .i32 0, .string ⟨#[]⟩, .slice none 0 0] 32)
  have kb : Below w.heap.size w (w.alloc (.cells #[.int .i64 0, .int .i64 0, .slice none 0 0, .int .i64 0, .int .i64 0, .bool false, .int .i64 0, .int .i64 0, .int .i64 0, .int .i64 0, .int .i64 0, .int .i64 0, .slice none 0 0, .int .i64 0, .int .i64 0, .int .i64 0, .int .i64 0, .int .i64 0, .int .i64 0, .int .i32 0, .string ⟨#[]⟩, .slice none 0 0] 32)) := (Below.refl _ _).alloc (Nat.le_refl _) _
  have HX0 : Hid _ := hx0
  have HKB : Hid _ := kb
  clear hs hx0 kb
  go_enter Tryz.func18, Tryz.ntmps18
  go_wp2_with fail
  refine (HN.out _).mono ?_
  rintro e W1 ⟨v, rfl, ho, b1⟩
  have HO : Hid (OwnG W1 _ v (List.replicate (n * hh) (32, 0, 0, 0))) := ho
  obtain ⟨g, cap, rest, t, hv, -, -, -, -⟩ := ho
  rw [List.length_replicate] at hv
  subst hv
  go_upto_region 4 with fail
  have hL : n * hh ≤ 7200 := by have := Nat.mul_le_mul (show n ≤ 120 by omega) (show hh ≤ 60 by omega); omega
  generalize hLL : n * hh = L at *
  have HLL : Hid (n * hh = L) := hLL
  clear hLL
  have HX1 : Hid (W1.heap[w.heap.size]? = _) := Grd.carry HX0.out b1
  have hb1 : Below w.heap.size w W1 := HKB.out.trans (b1.mono HKB.out.size)
  have xg := heap_alloc_new W1 (.cells #[.int .i64 (n : Int), .int .i64 (hh : Int), .slice (some ⟨g, 0, none⟩) L cap] 24)
  have bg : Below W1.heap.size W1 (W1.alloc (.cells #[.int .i64 (n : Int), .int .i64 (hh : Int), .slice (some ⟨g, 0, none⟩) L cap] 24)) := (Below.refl _ _).alloc (Nat.le_refl _) _
  obtain ⟨g0, g1, g2, -⟩ := Grd.cells3 xg
  have HX2 : Hid _ := Grd.carry HX1.out bg
  have HBG : Hid _ := bg
  clear HX0 HKB b1 bg
  generalize (W1.alloc (.cells #[.int .i64 (n : Int), .int .i64 (hh : Int), .slice (some ⟨g, 0, none⟩) L cap] 24)) = X at *
  have hwr : IntKind.i64.wrap ((hh : Int) - 1) = (hh : Int) - 1 := by rw [IntKind.wrap_i64]; omega
  have hms := makeTabs n (by omega)
  have p1 : ScrPtr0 ((X.alloc (.cells (falses n) 4)).alloc (.cells #[.int .i64 0, .int .i64 0, .slice none 0 0, .int .i64 0, .int .i64 0, .bool false, .int .i64 0, .int .i64 0, .int .i64 0, .int .i64 0, .int .i64 0, .int .i64 0, .slice none 0 0, .int .i64 0, .int .i64 0, .int .i64 0, .int .i64 0, .int .i64 0, .int .i64 0, .int .i32 0, .string ⟨#[]⟩, .slice none 0 0] 32)).drew (.pointer (some ⟨X.heap.size + 1, 0, none⟩)) := scrPtr0_of (show ((X.alloc (.cells (falses n) 4)).alloc (.cells #[.int .i64 0, .int .i64 0, .slice none 0 0, .int .i64 0, .int .i64 0, .bool false, .int .i64 0, .int .i64 0, .int .i64 0, .int .i64 0, .int .i64 0, .int .i64 0, .slice none 0 0, .int .i64 0, .int .i64 0, .int .i64 0, .int .i64 0, .int .i64 0, .int .i64 0, .int .i32 0, .string ⟨#[]⟩, .slice none 0 0] 32)).heap[X.heap.size + 1]? = _ from heap_alloc2_new X _ _) rfl
  have p2 : ScrPtr0 ((X.alloc (.cells #[.int .i64 0, .int .i64 0, .slice none 0 0, .int .i64 0, .int .i64 0, .bool false, .int .i64 0, .int .i64 0, .int .i64 0, .int .i64 0, .int .i64 0, .int .i64 0, .slice none 0 0, .int .i64 0, .int .i64 0, .int .i64 0, .int .i64 0, .int .i64 0, .int .i64 0, .int .i32 0, .string ⟨#[]⟩, .slice none 0 0] 32)).alloc (.cells (falses n) 4)).drew (.pointer (some ⟨X.heap.size, 0, none⟩)) := scrPtr0_of (show ((X.alloc (.cells #[.int .i64 0, .int .i64 0, .slice none 0 0, .int .i64 0, .int .i64 0, .bool false, .int .i64 0, .int .i64 0, .int .i64 0, .int .i64 0, .int .i64 0, .int .i64 0, .slice none 0 0, .int .i64 0, .int .i64 0, .int .i64 0, .int .i64 0, .int .i64 0, .int .i64 0, .int .i32 0, .string ⟨#[]⟩, .slice none 0 0] 32)).alloc (.cells (falses n) 4)).heap[X.heap.size]? = _ from (Below.heap_alloc _ _ _ (by simp)).trans (heap_alloc_new _ _)) rfl
  have SK : Hid (∀ w', Below X.heap.size X w' → w'.cell? ⟨W1.heap.size, 0, none⟩ = some (.int .i64 (n : Int)) ∧ w'.cell? ⟨W1.heap.size, 1, none⟩ = some (.int .i64 (hh : Int)) ∧ w'.cell? ⟨W1.heap.size, 2, none⟩ = some (.slice (some ⟨g, 0, none⟩) L cap)) := fun w' h => ⟨cell_stay h g0, cell_stay h g1, cell_stay h g2⟩
  have b0 : Below X.heap.size X X.drew := (Below.refl _ _).drew
  have bF : Below X.heap.size X (X.alloc (.cells (falses n) 4)).drew := ((Below.refl _ _).alloc (Nat.le_refl _) _).drew
  have bZ : Below X.heap.size X (X.alloc (.cells #[.int .i64 0, .int .i64 0, .slice none 0 0, .int .i64 0, .int .i64 0, .bool false, .int .i64 0, .int .i64 0, .int .i64 0, .int .i64 0, .int .i64 0, .int .i64 0, .slice none 0 0, .int .i64 0, .int .i64 0, .int .i64 0, .int .i64 0, .int .i64 0, .int .i64 0, .int .i32 0, .string ⟨#[]⟩, .slice none 0 0] 32)).drew := ((Below.refl _ _).alloc (Nat.le_refl _) _).drew
  have bFZ : Below X.heap.size X ((X.alloc (.cells (falses n) 4)).alloc (.cells #[.int .i64 0, .int .i64 0, .slice none 0 0, .int .i64 0, .int .i64 0, .bool false, .int .i64 0, .int .i64 0, .int .i64 0, .int .i64 0, .int .i64 0, .int .i64 0, .slice none 0 0, .int .i64 0, .int .i64 0, .int .i64 0, .int .i64 0, .int .i64 0, .int .i64 0, .int .i32 0, .string ⟨#[]⟩, .slice none 0 0] 32)).drew := (((Below.refl _ _).alloc (Nat.le_refl _) _).alloc (by simp) _).drew
  have bZF : Below X.heap.size X ((X.alloc (.cells #[.int .i64 0, .int .i64 0, .slice none 0 0, .int .i64 0, .int .i64 0, .bool false, .int .i64 0, .int .i64 0, .int .i64 0, .int .i64 0, .int .i64 0, .int .i64 0, .slice none 0 0, .int .i64 0, .int .i64 0, .int .i64 0, .int .i64 0, .int .i64 0, .int .i64 0, .int .i32 0, .string ⟨#[]⟩, .slice none 0 0] 32)).alloc (.cells (falses n) 4)).drew := (((Below.refl _ _).alloc (Nat.le_refl _) _).alloc (by simp) _).drew
  go_cut [8] from 20 to 26 (fun c wx => ∃ R T, c = .pointer (some ⟨R, 0, none⟩) ∧ X.heap.size ≤ R ∧ X.heap.size ≤ T ∧ R ≠ T ∧ wx.heap[R]? = some (.cells (scrA (preScr (n : Int) (hh : Int) ((hh : Int) - 1)) (.slice (some ⟨g, 0, none⟩) L cap) (.slice (some ⟨T, 0, none⟩) n n) (.slice none 0 0)) 32 (0, 0)) ∧ wx.heap[T]? = some (.cells (falses n) 4 (0, 0)) ∧ Below X.heap.size X wx)
  case first =>
    go_region_held3 (fun w' => w'.cell? ⟨W1.heap.size, 0, none⟩ = some (.int .i64 (n : Int)) ∧ w'.cell? ⟨W1.heap.size, 1, none⟩ = some (.int .i64 (hh : Int)) ∧ w'.cell? ⟨W1.heap.size, 2, none⟩ = some (.slice (some ⟨g, 0, none⟩) L cap))
      (first | exact SK.out _ b0 | exact SK.out _ bF | exact SK.out _ bZ | exact SK.out _ bFZ | exact SK.out _ bZF | exact SK.out _ (below_setRow bFZ (Nat.le_succ _) _) | exact SK.out _ (below_setRow bZF (Nat.le_refl _) _)) (fail)
    all_goals go_wp2_with fail
    all_goals go_meet
    all_goals first
      | exact ⟨X.heap.size + 1, X.heap.size, rfl, Nat.le_succ _, Nat.le_refl _, Nat.succ_ne_self _, setRow_heap _ _ _ _ _ _ (show ((X.alloc (.cells (falses n) 4)).alloc (.cells #[.int .i64 0, .int .i64 0, .slice none 0 0, .int .i64 0, .int .i64 0, .bool false, .int .i64 0, .int .i64 0, .int .i64 0, .int .i64 0, .int .i64 0, .int .i64 0, .slice none 0 0, .int .i64 0, .int .i64 0, .int .i64 0, .int .i64 0, .int .i64 0, .int .i64 0, .int .i32 0, .string ⟨#[]⟩, .slice none 0 0] 32)).heap[X.heap.size + 1]? = _ from heap_alloc2_new X _ _), (setRow_other _ _ _ _ (Nat.ne_of_lt (Nat.lt_succ_self _))).trans (show ((X.alloc (.cells (falses n) 4)).alloc (.cells #[.int .i64 0, .int .i64 0, .slice none 0 0, .int .i64 0, .int .i64 0, .bool false, .int .i64 0, .int .i64 0, .int .i64 0, .int .i64 0, .int .i64 0, .int .i64 0, .slice none 0 0, .int .i64 0, .int .i64 0, .int .i64 0, .int .i64 0, .int .i64 0, .int .i64 0, .int .i32 0, .string ⟨#[]⟩, .slice none 0 0] 32)).heap[X.heap.size]? = _ from (Below.heap_alloc _ _ _ (by simp)).trans (heap_alloc_new _ _)), below_setRow bFZ (Nat.le_succ _) _⟩
      | exact ⟨X.heap.size, X.heap.size + 1, rfl, Nat.le_refl _, Nat.le_succ _, Nat.ne_of_lt (Nat.lt_succ_self _), setRow_heap _ _ _ _ _ _ (show ((X.alloc (.cells #[.int .i64 0, .int .i64 0, .slice none 0 0, .int .i64 0, .int .i64 0, .bool false, .int .i64 0, .int .i64 0, .int .i64 0, .int .i64 0, .int .i64 0, .int .i64 0, .slice none 0 0, .int .i64 0, .int .i64 0, .int .i64 0, .int .i64 0, .int .i64 0, .int .i64 0, .int .i32 0, .string ⟨#[]⟩, .slice none 0 0] 32)).alloc (.cells (falses n) 4)).heap[X.heap.size]? = _ from (Below.heap_alloc _ _ _ (by simp)).trans (heap_alloc_new _ _)), (setRow_other _ _ _ _ (Nat.succ_ne_self _)).trans (show ((X.alloc (.cells #[.int .i64 0, .int .i64 0, .slice none 0 0, .int .i64 0, .int .i64 0, .bool false, .int .i64 0, .int .i64 0, .int .i64 0, .int .i64 0, .int .i64 0, .int .i64 0, .slice none 0 0, .int .i64 0, .int .i64 0, .int .i64 0, .int .i64 0, .int .i64 0, .int .i64 0, .int .i32 0, .string ⟨#[]⟩, .slice none 0 0] 32)).alloc (.cells (falses n) 4)).heap[X.heap.size + 1]? = _ from heap_alloc2_new X _ _), below_setRow bZF (Nat.le_refl _) _⟩
  case rest =>
    obtain ⟨R, T, rfl, hR, hTT, hne, hxR, hxT, hbx⟩ := hcut
    have HXR : Hid _ := hxR
    have HXT : Hid (wc.heap[T]? = some (.cells (falses n) 4 (0, 0))) := hxT
    have HBX : Hid (Below X.heap.size X wc) := hbx
    clear p1 p2 b0 bF bZ bFZ bZF SK g0 g1 g2 hxR hxT hbx hms
    go_wp2_with fail
    go_loopg [9] (n + 8) (fun q i wr => ∃ x : Nat, i = .int .i64 (x : Int) ∧ x % 8 = 0 ∧ 8 ≤ x ∧ x ≤ n + 8 ∧ n + 8 - x ≤ q ∧ wr.heap[R]? = some (.cells (scrA (preScr (n : Int) (hh : Int) ((hh : Int) - 1)) (.slice (some ⟨g, 0, none⟩) L cap) (.slice (some ⟨T, 0, none⟩) n n) (.slice none 0 0)) 32 (0, 0)) ∧ wr.heap[T]? = some (.cells (tabsA n x) 4 (0, 0)) ∧ Below X.heap.size X wr)
    case atStart => exact ⟨8, rfl, by omega, by omega, by omega, by omega, HXR.out, by rw [tabsA_start]; exact HXT.out, HBX.out⟩
    case round =>
      obtain ⟨x, rfl, hx8, hx9, hx10, hq, hyR, hyT, hby⟩ := hrel
      have HYR : Hid (wr.heap[R]? = _) := hyR
      have HYT : Hid (wr.heap[T]? = some (.cells (tabsA n x) 4 (0, 0))) := hyT
      have HBY : Hid (Below X.heap.size X wr) := hby
      clear HXR HXT HBX
      by_cases hlt : x < n
      · have lt1 : ((x : Int) < (n : Int)) := by omega
        have c12 := (scr_cells hyR).2.1.2.1
        have d1 := tabsA_cell hyT hlt
        have f1 := frozen_cells hyT x
        clear hyR hyT hby
        go_wp2_with fail
        go_roundg (n + 8 - (x + 8))
        case measure => omega
        case rel => exact ⟨x + 8, by go_num, by omega, by omega, by omega, by omega, (store_off hne).trans HYR.out, store_at HYT.out (tabsA_set n x hx8 (by omega)), HBY.out.setCell hTT _⟩
      · have lt1 : ¬ ((x : Int) < (n : Int)) := by omega
        clear hyR hyT hby
        have hyZ : wr.heap[w.heap.size]? = _ := Grd.carry HX2.out HBY.out
        have HYZ : Hid _ := hyZ
        clear hyZ
        go_wp2_with (first
          | (refine wpList_load_row rfl 32 (.tmp 8) rfl R rfl _ _ _ _ HYR.out Tryz.underlying32 rfl (by kernel_rfl) ?_)
          | (refine wpList_store_row rfl 32 (.tmp 4) _ rfl w.heap.size (scrA (preScr (n : Int) (hh : Int) ((hh : Int) - 1)) (.slice (some ⟨g, 0, none⟩) L cap) (.slice (some ⟨T, 0, none⟩) n n) (.slice none 0 0)) rfl rfl _ _ HYZ.out (by kernel_rfl) rfl (scr_one _ _ _ _ _ _ _ _ _ _) ?_))
        (try simp only [Exit.inBlock, Exit.then])
        refine bodyPost_ret (v := .tuple #[.agg (scrA (preScr (n : Int) (hh : Int) ((hh : Int) - 1)) (.slice (some ⟨g, 0, none⟩) L cap) (.slice (some ⟨T, 0, none⟩) n n) (.slice none 0 0)), .int .i64 0]) ?_ rfl ⟨.slice (some ⟨g, 0, none⟩) L cap, .slice (some ⟨T, 0, none⟩) n n, .slice none 0 0, rfl, ?_, ?_⟩
        · exact Grd.results_row_tmp rfl _ _ w.heap.size _ _ _ _ rfl (setRow_heap _ _ _ _ _ _ HYZ.out) Tryz.underlying32 rfl (by kernel_rfl) _ rfl
        · have hw1 := hb1.size
          have hw2 := HBG.out.size
          have hw3 := heap_lt HX2.out
          have hbA : Below W1.heap.size W1 wr := HBG.out.trans (HBY.out.mono hw2)
          obtain ⟨g', cap', rest', t', hv', hg', hl', hm', hh'⟩ := HO.out
          injection hv' with hv1 hv2 hv3
          injection hv1 with hv1
          injection hv1 with hv1
          subst hv1 hv3
          have hg2 : w.heap.size < g := by simp at hg'; omega
          refine ⟨.inr ⟨g, cap, rest', t', ?_, by omega, ?_, hm', ?_⟩, ?_, [], World.ownsRow_nil _ _ _ _, rfl, fun i hi => absurd hi (by simp [newScr])⟩
          · show _ = Value.slice _ (List.replicate (n * hh) _).length _
            rw [List.length_replicate, HLL.out]
          · show (List.replicate (n * hh) _).length ≤ _
            rw [HLL.out]
            exact hl'
          · show _ = some (Obj.cells (flat (List.replicate (n * hh) _) ++ rest').toArray _ _)
            rw [HLL.out, setRow_other _ _ _ _ (by omega)]
            exact Grd.carry hh' hbA
          · show (wr.setRow _ _).ownsRow _ _ _ _ (newTabs n).length ((newTabs n).map Value.bool)
            have e := tabsL_all n x (by omega)
            have hlen : (newTabs n).length = n := by simp [newTabs]
            rw [hlen]
            refine ⟨by rw [List.length_map, hlen, Nat.mul_one], .inr ⟨T, n, tabsA n x, rfl, by omega, ?_, Nat.le_refl _, by unfold maxLen; omega, by simp [tabsA, tabsL], ?_⟩⟩
            · rw [setRow_other _ _ _ _ (by omega)]
              exact HYT.out
            · unfold tabsA
              rw [e]
              show List.take (n * 1) ((newTabs n).map Value.bool) = _
              rw [List.take_of_length_le (by rw [List.length_map, hlen, Nat.mul_one]; exact Nat.le_refl _)]
        · exact below_setRow (hb1.trans ((HBG.out.trans (HBY.out.mono HBG.out.size)).mono hb1.size)) (Nat.le_refl _) _
end
end Put
end Go.Proofs.YtooaikdaahpngaaGreatDoor

/- One rune, where nothing rolls and nothing is moved to make room. -/
namespace Go.Proofs.YtooaikdaahpngaaGreatDoor
open Go.ChangeShapes Go.WideShapes Go.ChangeAt Go.RowKit
namespace Put
open Grd (C SliceAt CellsAt gridErr z0 nilV flat rowsL)
open Sty (isSt)
open Txt (wd)
/-- Where a rune of k cells begins. -/
def startS (s : Scr) (k : Int) : Scr := if brkB s k then feedS { s with x := 0 } else s
def printP (q : Scr × List (List C)) (r : Int) : Scr × List (List C) :=
  ({ advS (startS q.1 (wd r)) (wd r) with last := r }, q.2.set (startS q.1 (wd r)).y.toNat (putRune ((startS q.1 (wd r)).sf, (startS q.1 (wd r)).sb, (startS q.1 (wd r)).sx) (q.2.getD (startS q.1 (wd r)).y.toNat []) (startS q.1 (wd r)).x.toNat r))
def stepOk (q : Scr × List (List C)) (r : Int) : Bool :=
  decide (wd r ≠ 0 ∧ wd r ≤ q.1.w ∧ 0 ≤ q.1.x ∧ q.1.x ≤ 120 ∧ 1 ≤ q.1.w ∧ q.1.w ≤ 120 ∧ 1 ≤ q.1.h ∧ q.1.h ≤ 60 ∧ 0 ≤ q.1.y ∧ q.1.y ≤ 60 ∧ (brkB q.1 (wd r) = true → q.1.y ≠ q.1.bot)) &&
  decide ((startS q.1 (wd r)).w = q.1.w ∧ 0 ≤ (startS q.1 (wd r)).x ∧ (startS q.1 (wd r)).x < q.1.w ∧ 0 ≤ (startS q.1 (wd r)).y ∧ (startS q.1 (wd r)).y.toNat < q.2.length ∧ fitsB (startS q.1 (wd r)) (wd r) = true ∧ hasB (startS q.1 (wd r)).modes 1 = false ∧
    ((q.2.getD (startS q.1 (wd r)).y.toNat []).length : Int) = q.1.w ∧ gridErr q.1.w 1 (q.2.getD (startS q.1 (wd r)).y.toNat []) = 0 ∧ isSt ((startS q.1 (wd r)).sf, (startS q.1 (wd r)).sb, (startS q.1 (wd r)).sx) = true)
theorem print_step (W : World) (M N p : Nat) (q : Scr × List (List C)) (r : Int) (hT : Txt.Tab W) (hN : ∀ X, Below N W X → Txt.Tab X) (hS : ShAt 72 W M N p q.1 q.2) (hok : stepOk q r = true) :
    Calls Tryz.prog 17 #[.pointer (some ⟨p, 0, none⟩), .int .i32 r] W (Ran W M N p (printP q r).1 (printP q r).2) := by
  unfold stepOk at hok
  rw [Bool.and_eq_true, decide_eq_true_eq, decide_eq_true_eq] at hok
  obtain ⟨⟨a1, a2, a3, a4, a5, a6, a7, a8, a9, a10, a11⟩, b1, b2, b3, b4, b5, b6, b7, b8, b9, b10⟩ := hok
  unfold printP
  obtain ⟨s1, hs1⟩ : ∃ s1, s1 = startS q.1 (wd r) := ⟨_, rfl⟩
  rw [← hs1] at b1 b2 b3 b4 b5 b6 b7 b8 b9 b10 ⊢
  refine print_main W M N p q.1 s1 q.2 q.2 q.2 _ r hT hS a1 a2 a3 a4 a5 a6 ⟨?_, ?_, b1, b2, by omega⟩ b6 (fun h => by rw [b7] at h; cases h) (fun _ => rfl) ?_
  · intro hb X _ hX
    have h := feed_plain X M N p { q.1 with x := 0 } q.2 hX a9 a10 a7 a8 (a11 hb)
    rw [hs1]
    unfold startS
    rw [hb]
    exact h
  · intro hb
    rw [hs1]
    unfold startS
    rw [hb]
    exact ⟨rfl, rfl⟩
  · intro X hX hSX
    exact write_any X M N p s1 q.2 (hN X hX) hSX r q.1.w.toNat s1.x.toNat s1.y.toNat b5 _ rfl (by omega) (by omega) (by omega) (by omega) (by omega) (by rw [Int.toNat_of_nonneg (by omega)]; exact b9) b10 a1 (by
      have h : wd r ≤ s1.w - s1.x := by simpa [fitsB] using b6
      omega)
end Put
end Go.Proofs.YtooaikdaahpngaaGreatDoor

/- Package sheet: relay, Insert. -/
namespace Go.Proofs.YtooaikdaahpngaaGreatDoor
open Go.ChangeShapes Go.WideShapes Go.ChangeAt Go.RowKit
namespace Put
open Grd (C SliceAt CellsAt gridErr z0 nilV flat rowsL RowB OwnG mendL)
/-- What a function makes of a row: new cells. -/
def Relays (hf : FuncId) (caps : Array Value) (W : World) (v : Value) (row' : List C) : Prop :=
  ∀ W1, Below W.heap.size W W1 → Calls Tryz.prog hf (#[v] ++ caps) W1 fun e W2 => ∃ g cap rest, e = .returned (.slice (some ⟨g, 0, none⟩) row'.length cap) ∧ W1.heap.size ≤ g ∧ row'.length ≤ cap ∧ cap ≤ 9223372036854775807 ∧ W2.heap[g]? = some (.cells (flat row' ++ rest).toArray 54 (0, 0)) ∧ Below W1.heap.size W1 W2
set_option maxHeartbeats 8000000 in
set_option maxRecDepth 100000 in
theorem relay_any (W : World) (M N p : Nat) (s : Scr) (rows : List (List C)) (cv tv gv rv : Value) (gvs vs : List Value) (hS : ShA 72 W M N p s rows cv tv gv rv gvs vs) (hT : Txt.Tab W) (y : Nat) (hsy : s.y = y) (hy : y < rows.length) (hf : FuncId) (hpl : Plain hf) (caps : Array Value) (row' : List C) (hR : Relays hf caps W (vs.getD y nilV) row') (hAl : Grd.Alike row') (hl : row'.length ≤ 1000000) :
    Calls Tryz.prog 74 #[.pointer (some ⟨p, 0, none⟩), .func (.func hf) #[] caps] W (Ran W M N p s (rows.set y (mendL row'))) := by
  obtain ⟨rb, rc, hrv, hrb, hrc1, hrc2, hvl, hrcell, A, hrA⟩ := own_cells hS.rws (by omega)
  obtain ⟨va, vc, hsh⟩ := (hS.rin.2 y hy).shape
  have hyI : (0 : Int) ≤ (y : Int) := by omega
  have hyI2 : (y : Int) < (rows.length : Int) := by omega
  have d1 := hrcell y hy
  have HW : Hid (ShA 72 W M N p s rows cv tv gv rv gvs vs) := hS
  rw [hsh] at d1 hR
  have HR : Hid (Relays hf caps W (.slice va (rows.getD y []).length vc) row') := hR
  have HRA : Hid (W.heap[rb]? = some (.cells A 22 (0, 0))) := hrA
  have HRV : Hid (rv = .slice (some ⟨rb, 0, none⟩) rows.length rc) := hrv
  have HT : Hid (Txt.Tab W) := hT
  have HAL : Hid (Grd.Alike row') := hAl
  have hml := hS.ml
  have hNW : N ≤ W.heap.size := Nat.le_trans hS.lo (Nat.le_of_lt (heap_lt hS.blk))
  obtain ⟨row, hrow⟩ : ∃ row, row = rows.getD y [] := ⟨_, rfl⟩
  rw [← hrow] at d1 HR
  have SK : Hid (∀ V, Below W.heap.size W V → V.cell? ⟨p, 22, none⟩ = some (.slice (some ⟨rb, 0, none⟩) rows.length rc) ∧ V.cell? ⟨p, 4, none⟩ = some (.int .i64 (y : Int)) ∧ V.cell? ⟨rb, y, none⟩ = some (.slice va row.length vc) ∧ V.frozen? ⟨rb, y, none⟩ = false) := fun V h => by
    have hblk := Grd.carry HW.out.blk h
    obtain ⟨⟨-, -, -, -, c4, -⟩, ⟨-, -, -, -, -, -, -, -, -, -, -, c22⟩, -⟩ := sh_cells hblk
    rw [HRV.out] at c22
    rw [hsy] at c4
    exact ⟨c22, c4, cell_stay h d1, Grd.frozen_of (Grd.carry HRA.out h) _⟩
  unfold Plain at hpl
  have b0 : Below W.heap.size W W.drew := (Below.refl _ _).drew
  have e0 : (fun w' => w'.cell? ⟨p, 22, none⟩ = some (.slice (some ⟨rb, 0, none⟩) rows.length rc) ∧ w'.cell? ⟨p, 4, none⟩ = some (.int .i64 (y : Int)) ∧ w'.cell? ⟨rb, y, none⟩ = some (.slice va row.length vc)) W.drew := ⟨(SK.out _ b0).1, (SK.out _ b0).2.1, (SK.out _ b0).2.2.1⟩
  clear hS hR hrA hrcell hsh hrow hrv d1 hT hAl hsy
  go_enter Tryz.func74, Tryz.ntmps74
  go_upto_region 0 with fail
  go_region_held3 (fun w' => w'.cell? ⟨p, 22, none⟩ = some (.slice (some ⟨rb, 0, none⟩) rows.length rc) ∧ w'.cell? ⟨p, 4, none⟩ = some (.int .i64 (y : Int)) ∧ w'.cell? ⟨rb, y, none⟩ = some (.slice va row.length vc))
    (first | exact e1 | exact e0)
    (first | (refine (HR.out W.drew b0).mono ?_; rintro e V ⟨g, cap, rest, rfl, hg, hcap1, hcap2, hgh, b1⟩; have q1 : Below W.heap.size W V := b0.trans (b1.mono b0.size); have e1 : (fun w' => w'.cell? ⟨p, 22, none⟩ = some (.slice (some ⟨rb, 0, none⟩) rows.length rc) ∧ w'.cell? ⟨p, 4, none⟩ = some (.int .i64 (y : Int)) ∧ w'.cell? ⟨rb, y, none⟩ = some (.slice va row.length vc)) V := ⟨(SK.out _ q1).1, (SK.out _ q1).2.1, (SK.out _ q1).2.2.1⟩))
  have hgW : W.heap.size ≤ g := Nat.le_trans b0.size hg
  have hTV : Txt.Tab V := Grd.Tab.next HT.out q1
  have HMD := Grd.mend_any g cap row' [] rest _ V hgh hl hTV (Nat.lt_of_lt_of_le (Txt.Tab.pos HT.out) hgW) HAL.out
  have HQ1 : Hid (Below W.heap.size W V) := q1
  clear e0 e1 q1 b1 b0 hgh hTV HR HAL
  go_wp2_with fail
  refine HMD.mono ?_
  rintro e V2 ⟨rfl, hg2, ap⟩
  have q2 : Below W.heap.size W V2 := HQ1.out.trans (ap.1.mono hgW)
  obtain ⟨c22, c4, dy, fy⟩ := SK.out _ q2
  have HQ2 : Hid (Below W.heap.size W V2) := q2
  have hri : RowIn V2 M (.slice (some ⟨g, 0, none⟩) row'.length cap) (mendL row') := rowIn_rowB (g := g) ⟨cap, rest, by rw [Grd.mendL_len], by rw [Grd.mendL_len]; exact hcap1, hcap2, hg2⟩
  have HRI : Hid (RowIn V2 M (.slice (some ⟨g, 0, none⟩) row'.length cap) (mendL row')) := hri
  clear hri ap hg2 q2 HMD SK HQ1
  go_upto_region 2 with fail
  go_region
  all_goals go_end0
  all_goals exact ⟨rfl, ⟨_, _, _, _, _, _, ShA.next ((ShA.next HW.out HQ2.out).storeRow HRV.out HRI.out) ((Below.refl _ _).drew)⟩, ((HQ2.out.mono hNW).setCell hrb _).drew, ((Framed.of_below HQ2.out).trans (Framed.store (Grd.carry HRA.out HQ2.out) not_other_rows)).trans (Framed.of_below ((Below.refl _ _).drew))⟩
theorem insR_at (row : List C) (x n : Nat) (bk : Int) (h : x + n ≤ row.length) (i : Nat) (hi : i < row.length) : (insR row x n bk).getD i z0 = if i < x then row.getD i z0 else if i < x + n then (32, 0, bk, 0) else row.getD (i - n) z0 := by
  have e1 : (row.take x).length = x := by rw [List.length_take]; omega
  unfold insR
  by_cases h1 : i < x
  · rw [if_pos h1]
    simp only [List.getD]
    rw [List.getElem?_append_left (by omega), List.getElem?_take_of_lt h1]
  · rw [if_neg h1]
    simp only [List.getD]
    rw [List.getElem?_append_right (by omega), e1]
    by_cases h2 : i < x + n
    · rw [if_pos h2, List.getElem?_append_left (by rw [List.length_replicate]; omega), List.getElem?_replicate, if_pos (by omega)]
      rfl
    · rw [if_neg h2, List.getElem?_append_right (by rw [List.length_replicate]; omega), List.length_replicate, List.getElem?_take_of_lt (by omega), List.getElem?_drop, show x + (i - x - n) = i - n by omega]
theorem ins_meant {row : List C} (hr : Grd.Meant row) (x n : Nat) (bk : Int) (hn : 1 ≤ n) (hx : x + n ≤ row.length) (hs : Sty.isSt (0, bk, 0) = true) : Grd.Meant (insR row x n bk) := fun i hi => by
  rw [insR_len _ _ _ _ hx] at hi
  rw [insR_at _ _ _ _ hx i hi]
  by_cases h1 : i < x
  · rw [if_pos h1]
    refine ⟨(hr i hi).1, (hr i hi).2.1, fun h0 hp hw => ?_⟩
    rw [insR_at _ _ _ _ hx (i - 1) (by omega), if_pos (by omega)] at hw ⊢
    exact (hr i hi).2.2 h0 hp hw
  · rw [if_neg h1]
    by_cases h2 : i < x + n
    · rw [if_pos h2]
      exact ⟨fun _ => by dsimp only; rw [Grd.wd32]; decide, hs, fun h => absurd h (by simp)⟩
    · rw [if_neg h2]
      have hi2 : i - n < row.length := by omega
      refine ⟨(hr _ hi2).1, (hr _ hi2).2.1, fun h0 hp hw => ?_⟩
      rw [insR_at _ _ _ _ hx (i - 1) (by omega), if_neg (by omega)] at hw ⊢
      by_cases h3 : i - 1 < x + n
      · rw [if_pos h3] at hw
        dsimp only at hw
        rw [Grd.wd32] at hw
        exact absurd hw (by decide)
      · rw [if_neg h3] at hw ⊢
        rw [show i - 1 - n = i - n - 1 by omega] at hw ⊢
        exact (hr _ hi2).2.2 h0 (by omega) hw
theorem plain_ins : Plain 75 := by
  intro args W
  kernel_rfl
set_option maxHeartbeats 4000000 in
set_option maxRecDepth 100000 in
theorem insert_any (X : World) (M N p : Nat) (s : Scr) (rows : List (List C)) (hS : ShAt 72 X M N p s rows) (hT : Txt.Tab X) (y x n : Nat) (hsy : s.y = y) (hsx : s.x = x) (hy : y < rows.length) (hn1 : 1 ≤ n) (hxn : x + n ≤ (rows.getD y []).length) (hl : (rows.getD y []).length ≤ 120) (hm : Grd.Meant (rows.getD y [])) (hst : Sty.isSt (0, s.sb, 0) = true) :
    Calls Tryz.prog 43 #[.pointer (some ⟨p, 0, none⟩), .int .i64 (n : Int)] X (Ran X M N p s (rows.set y (mendL (insR (rows.getD y []) x n s.sb)))) := by
  have kb : Below X.heap.size X ((X.alloc (.cells #[.pointer (some ⟨p, 0, none⟩)] 49)).alloc (.cells #[.int .i64 (n : Int)] 3)) := ((Below.refl _ _).alloc (Nat.le_refl _) _).alloc (by simp) _
  have h0 : (X.alloc (.cells #[.pointer (some ⟨p, 0, none⟩)] 49)).heap[X.heap.size]? = some (.cells #[.pointer (some ⟨p, 0, none⟩)] 49 (0, 0)) := heap_alloc_new X _
  have h0 := (Below.heap_alloc (X.alloc (.cells #[.pointer (some ⟨p, 0, none⟩)] 49)) (.cells #[.int .i64 (n : Int)] 3) _ (heap_lt h0)).trans h0
  have h1 : ((X.alloc (.cells #[.pointer (some ⟨p, 0, none⟩)] 49)).alloc (.cells #[.int .i64 (n : Int)] 3)).heap[X.heap.size + 1]? = some (.cells #[.int .i64 (n : Int)] 3 (0, 0)) := by
    have h := heap_alloc_new (X.alloc (.cells #[.pointer (some ⟨p, 0, none⟩)] 49)) (.cells #[.int .i64 (n : Int)] 3)
    have e : (X.alloc (.cells #[.pointer (some ⟨p, 0, none⟩)] 49)).heap.size = X.heap.size + 1 := by simp
    rw [e] at h
    exact h
  have q0 : ((X.alloc (.cells #[.pointer (some ⟨p, 0, none⟩)] 49)).alloc (.cells #[.int .i64 (n : Int)] 3)).cell? ⟨X.heap.size, 0, none⟩ = some (.pointer (some ⟨p, 0, none⟩)) := by
    unfold World.cell?
    rw [h0]
    rfl
  have q1 : ((X.alloc (.cells #[.pointer (some ⟨p, 0, none⟩)] 49)).alloc (.cells #[.int .i64 (n : Int)] 3)).cell? ⟨X.heap.size + 1, 0, none⟩ = some (.int .i64 (n : Int)) := by
    unfold World.cell?
    rw [h1]
    rfl
  obtain ⟨cv, tv, gv, rv, gvs, vs, hA⟩ := hS
  have hA2 := ShA.next hA kb
  have hlen := insR_len (rows.getD y []) x n s.sb hxn
  have HRL := relay_any _ M N p s rows cv tv gv rv gvs vs hA2 (Grd.Tab.next hT kb) y hsy hy 75 plain_ins #[.pointer (some ⟨X.heap.size, 0, none⟩), .pointer (some ⟨X.heap.size + 1, 0, none⟩)] (insR (rows.getD y []) x n s.sb) (fun W1 hW1 => by
    have hri := (ShA.next hA2 hW1).rin.2 y hy
    obtain ⟨⟨-, -, -, c3, -, -, -, c7, -⟩, -, -⟩ := sh_cells (ShA.next hA2 hW1).blk
    rw [hsx] at c3
    rcases hri with ⟨he, -⟩ | ⟨hne, b, o, c, hv, hc1, hc2, hC, -⟩
    · have h5 := congrArg List.length he
      rw [List.length_nil] at h5
      omega
    · rw [hv]
      refine (ins1_any W1 p X.heap.size (X.heap.size + 1) b o c x n s.sb (rows.getD y []) (cell_stay hW1 q0) (cell_stay hW1 q1) c3 c7 hC hc1 hn1 hxn hl).mono ?_
      rintro e W2 ⟨v', rfl, hO, b2⟩
      have hO2 : W2.ownsRow W1.heap.size 54 4 v' (insR (rows.getD y []) x n s.sb).length (flat (insR (rows.getD y []) x n s.sb)) := by rw [hlen]; exact hO
      rcases OwnC.of hO2 with ⟨he, -⟩ | ⟨g, cap, rest, ⟨t, ht⟩, hv', hg1, hg2, hg3, hg4⟩
      · have h5 := congrArg List.length he
        rw [hlen, List.length_nil] at h5
        omega
      · subst ht
        rw [hv']
        exact ⟨g, cap, rest, rfl, hg1, hg2, hg3, hg4, b2⟩) (ins_meant hm x n s.sb hn1 hxn hst).alike (by rw [hlen]; omega)
  have HKB : Hid (Below X.heap.size X ((X.alloc (.cells #[.pointer (some ⟨p, 0, none⟩)] 49)).alloc (.cells #[.int .i64 (n : Int)] 3))) := kb
  have hNX : N ≤ X.heap.size := Nat.le_trans hA.lo (Nat.le_of_lt (heap_lt hA.blk))
  clear hA hA2 h0 h1 kb hm hst hsy hsx hlen hT
  generalize mendL (insR (rows.getD y []) x n s.sb) = row2 at *
  go_enter Tryz.func43, Tryz.ntmps43
  go_upto_region 1 with fail
  generalize ((X.alloc (.cells #[.pointer (some ⟨p, 0, none⟩)] 49)).alloc (.cells #[.int .i64 (n : Int)] 3)) = Z at *
  clear q1
  go_wp2_with fail
  refine HRL.mono ?_
  rintro e V ⟨rfl, hV, bV, fV⟩
  have HV : Hid _ := hV
  have HBV : Hid (Below N X V) := (HKB.out.mono hNX).trans bV
  have HFV : Hid (Framed X V) := (Framed.of_below HKB.out).trans fV
  clear hV bV fV HRL q0
  go_wp2_with fail
  go_end0
  exact ⟨rfl, HV.out, HBV.out, HFV.out⟩
end Put
end Go.Proofs.YtooaikdaahpngaaGreatDoor

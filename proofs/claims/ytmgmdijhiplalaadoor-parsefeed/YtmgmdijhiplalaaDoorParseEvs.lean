/- Events that can be read; Feed, whole. -/
import Derived.Test.YtmgmdijhiplalaaDoorParseFeed
import Derived.Test.YtmgmdijhiplalaaDoorParseSame
namespace Go.Proofs.YtmgmdijhiplalaaDoor
open Go.ChangeShapes Go.WideShapes Go.ChangeAt Go.RowKit
namespace Prs
theorem row_cells {w : World} {base : Nat} {e : TypeId} {size : Nat} {v : Value} {n : Nat} {xs : List Value} (h : w.ownsRow base e size v n xs) : (v = .slice none 0 0 ∧ n = 0 ∧ xs = []) ∨ ∃ g cap, v = .slice (some ⟨g, 0, none⟩) n cap ∧ ∀ j u, xs[j]? = some u → w.cell? ⟨g, j, none⟩ = some u := by
  obtain ⟨hl, h | ⟨g, cap, cur, rfl, -, hg, -, -, -, hcur⟩⟩ := h
  · obtain ⟨rfl, rfl⟩ := h
    exact .inl ⟨rfl, rfl, List.eq_nil_of_length_eq_zero (by rw [hl, Nat.zero_mul])⟩
  · refine .inr ⟨g, cap, rfl, fun j u hj => ?_⟩
    have h1 := cells_of_block (W := w) (g := g) (L := cur.toList) (t := e) (by rw [Array.toArray_toList]; exact hg) j u (by
      rw [← hcur] at hj
      rw [List.getElem?_take] at hj
      split at hj
      · exact hj
      · simp at hj)
    rw [Addr.add_mid, Nat.zero_add] at h1
    exact h1
theorem own_intsV {w : World} {base : Nat} {v : Value} {l : List Int} (h : w.ownsRow base 3 1 v l.length (ints l)) : IntsV w v l := by
  rcases row_cells h with ⟨rfl, h0, -⟩ | ⟨g, cap, rfl, hc⟩
  · exact .inl ⟨List.eq_nil_of_length_eq_zero h0, _, _, rfl⟩
  · refine .inr ⟨g, 0, cap, rfl, fun j u hj => ?_⟩
    rw [Addr.add_mid, Nat.zero_add]
    exact hc j u hj
theorem evFlat_get : ∀ (l : List (Ev × Value)) (i j : Nat) (hi : i < l.length), j < 7 → (evFlat l)[7 * i + j]? = (evCells l[i].1 l[i].2)[j]?
  | x :: l, 0, j, _, hj => by
    show (evCells x.1 x.2 ++ evFlat l)[7 * 0 + j]? = _
    rw [Nat.mul_zero, Nat.zero_add, List.getElem?_append_left (by simpa [evCells] using hj)]
    rfl
  | x :: l, i + 1, j, hi, hj => by
    show (evCells x.1 x.2 ++ evFlat l)[7 * (i + 1) + j]? = _
    rw [List.getElem?_append_right (by simp [evCells]; omega)]
    have e7 : (evCells x.1 x.2).length = 7 := rfl
    rw [e7, show 7 * (i + 1) + j - 7 = 7 * i + j by omega, evFlat_get l i j (by simpa using hi) hj]
    rfl
/-- One event, at a place. -/
structure EvAt (w : World) (b o : Nat) (e : Ev) (q : Value) : Prop where
  ps : IntsV w q e.ps
  c0 : w.cell? ⟨b, o, none⟩ = some (.int .i64 e.kind)
  c1 : w.cell? ⟨b, o + 1, none⟩ = some (.int .i32 e.r)
  c2 : w.cell? ⟨b, o + 2, none⟩ = some (.int .u8 e.fin)
  c3 : w.cell? ⟨b, o + 3, none⟩ = some (.int .u8 e.mark)
  c4 : w.cell? ⟨b, o + 4, none⟩ = some (.string e.mid)
  c5 : w.cell? ⟨b, o + 5, none⟩ = some q
  c6 : w.cell? ⟨b, o + 6, none⟩ = some (.string e.txt)
def EvsR (w : World) (v : Value) (es : List Ev) : Prop := (es = [] ∧ ∃ p c, v = .slice p 0 c) ∨ ∃ b o c, v = .slice (some ⟨b, o, none⟩) es.length c ∧ ∀ i (hi : i < es.length), ∃ q, EvAt w b (o + i * 7) es[i] q
theorem EvAt.next {w w' : World} {b o : Nat} {e : Ev} {q : Value} (h : EvAt w b o e q) (hb : Below w.heap.size w w') : EvAt w' b o e q :=
  ⟨h.ps.next hb, cell_stay hb h.c0, cell_stay hb h.c1, cell_stay hb h.c2, cell_stay hb h.c3, cell_stay hb h.c4, cell_stay hb h.c5, cell_stay hb h.c6⟩
theorem EvsR.next {w w' : World} {v : Value} {es : List Ev} (h : EvsR w v es) (hb : Below w.heap.size w w') : EvsR w' v es := by
  rcases h with h | ⟨b, o, c, hv, hc⟩
  · exact .inl h
  · exact .inr ⟨b, o, c, hv, fun i hi => (hc i hi).elim fun q hq => ⟨q, hq.next hb⟩⟩
theorem EvsR.slice {w : World} {v : Value} {es : List Ev} (h : EvsR w v es) : ∃ p c, v = .slice p es.length c := by
  rcases h with ⟨rfl, p0, n0, rfl⟩ | ⟨b, o, c, rfl, -⟩
  · exact ⟨_, _, rfl⟩
  · exact ⟨_, _, rfl⟩
theorem EvsV.read {w : World} {base : Nat} {v : Value} {es : List Ev} (h : EvsV w base v es) : EvsR w v es := by
  obtain ⟨eqs, hown, rfl, hq⟩ := h
  rcases row_cells hown with ⟨rfl, h0, -⟩ | ⟨g, cap, rfl, hc⟩
  · exact .inl ⟨List.eq_nil_of_length_eq_zero h0, _, _, rfl⟩
  · refine .inr ⟨g, 0, cap, rfl, fun i hi => ?_⟩
    have hi' : i < eqs.length := by simpa using hi
    have hg : ∀ j, j < 7 → ∀ u, (evCells eqs[i].1 eqs[i].2)[j]? = some u → w.cell? ⟨g, 0 + i * 7 + j, none⟩ = some u := fun j hj u hu => by
      have := hc (7 * i + j) u (by rw [evFlat_get eqs i j hi' hj]; exact hu)
      rw [show 0 + i * 7 + j = 7 * i + j by omega]
      exact this
    have hm : (eqs.map (·.1))[i]'hi = eqs[i].1 := by simp
    rw [hm]
    exact ⟨eqs[i].2, own_intsV (hq _ (List.getElem_mem hi')), hg 0 (by omega) _ rfl, hg 1 (by omega) _ rfl, hg 2 (by omega) _ rfl, hg 3 (by omega) _ rfl, hg 4 (by omega) _ rfl, hg 5 (by omega) _ rfl, hg 6 (by omega) _ rfl⟩
def zeroV : Value := .agg #[.int .i64 0, .int .u8 0, .string ⟨#[]⟩, .slice none 0 0, .string ⟨#[]⟩, .string ⟨#[]⟩, .bool false]
set_option maxHeartbeats 8000000 in
set_option maxRecDepth 100000 in
theorem feed_bad (s : St) (pv : Value) (b : ByteArray) (w : World) (hT : Tabs w) (hI : IntsV w pv s.ps) (hm : s.mid.size ≤ 9223372036854775807) (ht : s.txt.size ≤ 9223372036854775807) (n : Int) (hn : (okS s = false ∧ n = 5) ∨ (okS s = true ∧ 4000 < b.size ∧ n = 2)) :
    Calls Tryd.prog 6 #[.agg #[.int .i64 s.at', .int .u8 s.mark, .string s.mid, pv, .string s.txt, .string s.left, .bool s.late], .string b] w fun e w' => e = .returned (.tuple #[zeroV, .slice none 0 0, .int .i64 n]) ∧ Below w.heap.size w w' := by
  unfold zeroV
  have x0 : ((w.alloc (.cells #[.int .i64 s.at', .int .u8 s.mark, .string s.mid, pv, .string s.txt, .string s.left, .bool s.late] 24)).alloc (.cells #[.int .i64 0, .int .u8 0, .string ⟨#[]⟩, .slice none 0 0, .string ⟨#[]⟩, .string ⟨#[]⟩, .bool false] 24)).heap[w.heap.size]? = some (.cells #[.int .i64 s.at', .int .u8 s.mark, .string s.mid, pv, .string s.txt, .string s.left, .bool s.late] 24 (0, 0)) := heap_box _ _ (heap_alloc_new w _)
  have x1 := new_two w (.cells #[.int .i64 s.at', .int .u8 s.mark, .string s.mid, pv, .string s.txt, .string s.left, .bool s.late] 24) (.cells #[.int .i64 0, .int .u8 0, .string ⟨#[]⟩, .slice none 0 0, .string ⟨#[]⟩, .string ⟨#[]⟩, .bool false] 24)
  have kk := below_two w (.cells #[.int .i64 s.at', .int .u8 s.mark, .string s.mid, pv, .string s.txt, .string s.left, .bool s.late] 24) (.cells #[.int .i64 0, .int .u8 0, .string ⟨#[]⟩, .slice none 0 0, .string ⟨#[]⟩, .string ⟨#[]⟩, .bool false] 24)
  have HCK := check_any s pv _ (hT.next kk) (hI.next kk) hm ht
  obtain ⟨c0, c1, c2, c3, c4, c5, c6, cf⟩ := cells7 x0
  have HX1 : Hid _ := x1
  have HKK : Hid _ := kk
  clear x0 x1 kk hT hI hm ht cf
  rcases hn with ⟨ho, rfl⟩ | ⟨ho, hb, rfl⟩
  · rw [ho] at HCK
    go_enter Tryd.func6, Tryd.ntmps6
    go_wp2_with fail
    refine HCK.mono ?_
    rintro e W1 ⟨rfl, b1⟩
    have y1 := stay HX1.out b1
    have HK1 : Hid (Below w.heap.size w W1) := HKK.out.trans (b1.mono HKK.out.size)
    clear b1 HX1 HKK c0 c1 c2 c3 c4 c5 c6
    go_wp2_with (refine wpList_store_row rfl 24 (.tmp 4) _ rfl (w.heap.size + 1) #[.int .i64 0, .int .u8 0, .string ⟨#[]⟩, .slice none 0 0, .string ⟨#[]⟩, .string ⟨#[]⟩, .bool false] rfl rfl _ _ y1 (by kernel_rfl) rfl (by simp [Value.oneCell']) ?_)
    (try simp only [Exit.inBlock, Exit.then])
    refine bodyPost_ret (v := .tuple #[.agg #[.int .i64 0, .int .u8 0, .string ⟨#[]⟩, .slice none 0 0, .string ⟨#[]⟩, .string ⟨#[]⟩, .bool false], .slice none 0 0, .int .i64 5]) ?_ rfl ⟨rfl, below_setRow HK1.out (by omega) _⟩
    exact results_row_tmp2 rfl _ _ (w.heap.size + 1) _ _ _ _ rfl (setRow_heap _ _ _ _ _ _ y1) Tryd.underlying24 rfl (by kernel_rfl) _ _ rfl rfl
  · rw [ho] at HCK
    have hb1 : (4000 : Int) < (b.size : Int) := by omega
    go_enter Tryd.func6, Tryd.ntmps6
    go_wp2_with fail
    refine HCK.mono ?_
    rintro e W1 ⟨rfl, b1⟩
    have y1 := stay HX1.out b1
    have HK1 : Hid (Below w.heap.size w W1) := HKK.out.trans (b1.mono HKK.out.size)
    clear b1 HX1 HKK c0 c1 c2 c3 c4 c5 c6
    go_wp2_with (refine wpList_store_row rfl 24 (.tmp 4) _ rfl (w.heap.size + 1) #[.int .i64 0, .int .u8 0, .string ⟨#[]⟩, .slice none 0 0, .string ⟨#[]⟩, .string ⟨#[]⟩, .bool false] rfl rfl _ _ y1 (by kernel_rfl) rfl (by simp [Value.oneCell']) ?_)
    (try simp only [Exit.inBlock, Exit.then])
    refine bodyPost_ret (v := .tuple #[.agg #[.int .i64 0, .int .u8 0, .string ⟨#[]⟩, .slice none 0 0, .string ⟨#[]⟩, .string ⟨#[]⟩, .bool false], .slice none 0 0, .int .i64 2]) ?_ rfl ⟨rfl, below_setRow HK1.out (by omega) _⟩
    exact results_row_tmp2 rfl _ _ (w.heap.size + 1) _ _ _ _ rfl (setRow_heap _ _ _ _ _ _ y1) Tryd.underlying24 rfl (by kernel_rfl) _ _ rfl rfl
theorem feed_right (s : St) (pv : Value) (b : ByteArray) (w : World) (hT : Tabs w) (hI : IntsV w pv s.ps) (ho : Ok s) (hb : b.size ≤ 4000) :
    Calls Tryd.prog 6 #[stV s pv, .string b] w fun e w' => ∃ pv' tv', e = .returned (.tuple #[stV (feed s b.data.toList).1 pv', tv', .int .i64 0]) ∧ IntsV w' pv' (feed s b.data.toList).1.ps ∧ EvsR w' tv' (feed s b.data.toList).2 ∧ Below w.heap.size w w' := by
  refine (feed_ok s pv b w hT hI ho.fit (by have := ho.ms; omega) (by have := ho.tl; omega) (by have := left_small ho.fl; omega) hb (fun W hW => ?_)).mono ?_
  · refine (check_any s pv W (hT.next hW) (hI.next hW) (by have := ho.ms; omega) (by have := ho.tl; omega)).mono ?_
    rintro e W' ⟨rfl, b1⟩
    exact ⟨by rw [(okS_iff s).2 ho], b1⟩
  · rintro e w' ⟨pv', tv', rfl, h1, h2, h3⟩
    exact ⟨pv', tv', rfl, own_intsV h1, h2.read, h3⟩
end Prs
end Go.Proofs.YtmgmdijhiplalaaDoor

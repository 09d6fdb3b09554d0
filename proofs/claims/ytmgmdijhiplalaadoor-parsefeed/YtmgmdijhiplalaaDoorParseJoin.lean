/- Events joined; what a state that was handed back is stored in. -/
import Derived.Test.YtmgmdijhiplalaaDoorParseEqual
import Derived.Deep.Cut
import Derived.BigFrame
namespace Go.Proofs.YtmgmdijhiplalaaDoor
open Go.ChangeShapes Go.WideShapes Go.ChangeAt Go.RowKit
namespace Prs
theorem feed_len : ∀ (l : List UInt8) (s : St), (feed s l).2.length + (feed s l).1.left.size ≤ s.left.size + l.length := fun l => by
  induction l with
  | nil => intro s; simp [feed]
  | cons x l ih =>
    intro s
    have h1 := ih (take s x).1
    have h2 := take_tot s x
    simp only [feed, List.length_append, List.length_cons]
    omega
theorem cut_feed (s : St) (b : ByteArray) (k : Nat) : feed s b.data.toList = ((feed (feed s (b.extract 0 k).data.toList).1 (b.extract k b.size).data.toList).1, (feed s (b.extract 0 k).data.toList).2 ++ (feed (feed s (b.extract 0 k).data.toList).1 (b.extract k b.size).data.toList).2) := by
  have e : b.data.toList = (b.extract 0 k).data.toList ++ (b.extract k b.size).data.toList := by
    rw [ByteArray.data_extract, ByteArray.data_extract, Array.toList_extract, Array.toList_extract, List.extract_eq_take_drop, List.extract_eq_take_drop]
    have h2 : b.size = b.data.toList.length := by rw [Array.length_toList]; rfl
    rw [List.drop_zero, Nat.sub_zero, h2, List.take_of_length_le (l := b.data.toList.drop k) (by rw [List.length_drop]; omega), List.take_append_drop]
  rw [e, feed_append]
theorem old1d {W W1 : World} {o : Obj} (d : Below (W.alloc o).drew.heap.size (W.alloc o).drew W1) : W1.heap[W.heap.size]? = some o := by
  have h : (W.alloc o).drew.heap[W.heap.size]? = some o := heap_alloc_new W o
  exact stay h d
theorem open7 {W : World} {R : Nat} {a b c d e f g : Value} {t : TypeId} (h : W.heap[R]? = some (.cells #[a, b, c, d, e, f, g] t (0, 0))) : W.cell? ⟨R, 0, none⟩ = some a ∧ W.cell? ⟨R, 1, none⟩ = some b ∧ W.cell? ⟨R, 2, none⟩ = some c ∧ W.cell? ⟨R, 3, none⟩ = some d ∧ W.cell? ⟨R, 4, none⟩ = some e ∧ W.cell? ⟨R, 5, none⟩ = some f ∧ W.cell? ⟨R, 6, none⟩ = some g := by
  obtain ⟨c0, c1, c2, c3, c4, c5, c6, -⟩ := cells7 h
  exact ⟨c0, c1, c2, c3, c4, c5, c6⟩
theorem frozen7 {W : World} {R : Nat} {a b c d e f g : Value} {t : TypeId} (h : W.heap[R]? = some (.cells #[a, b, c, d, e, f, g] t (0, 0))) : W.frozen? ⟨R, 0, none⟩ = false ∧ W.frozen? ⟨R, 1, none⟩ = false ∧ W.frozen? ⟨R, 2, none⟩ = false ∧ W.frozen? ⟨R, 3, none⟩ = false ∧ W.frozen? ⟨R, 4, none⟩ = false ∧ W.frozen? ⟨R, 5, none⟩ = false ∧ W.frozen? ⟨R, 6, none⟩ = false := by
  obtain ⟨-, -, -, -, -, -, -, cf⟩ := cells7 h
  exact ⟨cf 0, cf 1, cf 2, cf 3, cf 4, cf 5, cf 6⟩
theorem alloc_next {w W : World} (h : Below w.heap.size w W) (o : Obj) : Below w.heap.size w (W.alloc o) := h.alloc h.size o
theorem drew_next {w W : World} (h : Below w.heap.size w W) : Below w.heap.size w W.drew := h.drew
theorem evs_read {w : World} {base : Nat} {v : Value} {eqs : List (Ev × Value)} (hown : w.ownsRow base 37 7 v eqs.length (evFlat eqs)) (hq : ∀ x, x ∈ eqs → IntsV w x.2 x.1.ps) : EvsR w v (eqs.map (·.1)) := by
  rcases row_cells hown with ⟨rfl, h0, -⟩ | ⟨g, cap, rfl, hc⟩
  · refine .inl ⟨?_, _, _, rfl⟩
    rw [List.eq_nil_of_length_eq_zero h0]
    rfl
  · refine .inr ⟨g, 0, cap, by rw [List.length_map], fun i hi => ?_⟩
    have hi' : i < eqs.length := by simpa using hi
    have hg : ∀ j, j < 7 → ∀ u, (evCells eqs[i].1 eqs[i].2)[j]? = some u → w.cell? ⟨g, 0 + i * 7 + j, none⟩ = some u := fun j hj u hu => by
      have := hc (7 * i + j) u (by rw [evFlat_get eqs i j hi' hj]; exact hu)
      rw [show 0 + i * 7 + j = 7 * i + j by omega]
      exact this
    have hm : (eqs.map (·.1))[i]'hi = eqs[i].1 := by simp
    rw [hm]
    exact ⟨eqs[i].2, hq _ (List.getElem_mem hi'), hg 0 (by omega) _ rfl, hg 1 (by omega) _ rfl, hg 2 (by omega) _ rfl, hg 3 (by omega) _ rfl, hg 4 (by omega) _ rfl, hg 5 (by omega) _ rfl, hg 6 (by omega) _ rfl⟩
theorem evFlat_app (a b : List (Ev × Value)) : evFlat (a ++ b) = evFlat a ++ evFlat b := by simp [evFlat]
theorem join_read {w w' : World} {b2 b3 : Nat} {v v3 : Value} {eqs2 eqs3 : List (Ev × Value)} (hown2 : w.ownsRow b2 37 7 v eqs2.length (evFlat eqs2)) (q2 : ∀ x, x ∈ eqs2 → w.ownsRow b2 3 1 x.2 x.1.ps.length (ints x.1.ps)) (q3 : ∀ x, x ∈ eqs3 → w.ownsRow b3 3 1 x.2 x.1.ps.length (ints x.1.ps))
    (hown3 : w'.ownsRow b2 37 7 v3 (eqs2.length + eqs3.length) (evFlat eqs2 ++ evFlat eqs3)) (hg : w.grownBy w' v.ownBlock) : EvsR w' v3 (eqs2.map (·.1) ++ eqs3.map (·.1)) := by
  rw [← List.map_append]
  have hk : ∀ {b : Nat} {x : Ev × Value}, w.ownsRow b 3 1 x.2 x.1.ps.length (ints x.1.ps) → IntsV w' x.2 x.1.ps := fun {b x} h => own_intsV (row_same h fun g hgx => by
    obtain ⟨A, hA⟩ := row_block h hgx
    exact hg.block g (blk_lt hA) (fun e => row_ne hown2 hA (by decide) e.symm))
  refine evs_read (base := b2) (by rw [List.length_append, evFlat_app]; exact hown3) fun x hx => ?_
  rcases List.mem_append.1 hx with h | h
  · exact hk (q2 x h)
  · exact hk (q3 x h)
theorem evFlat_one {eqs : List (Ev × Value)} (h : ∀ x, x ∈ eqs → x.2.oneCell' = true) : ∀ u, u ∈ evFlat eqs → u.oneCell' = true := fun u hu => by
  unfold evFlat at hu
  obtain ⟨x, hx, hu⟩ := List.mem_flatMap.1 hu
  simp [evCells] at hu
  rcases hu with rfl | rfl | rfl | rfl | rfl | rfl | rfl
  all_goals first | rfl | exact h x hx
theorem row_one {w : World} {base : Nat} {e : TypeId} {size : Nat} {v : Value} {n : Nat} {xs : List Value} (h : w.ownsRow base e size v n xs) : v.oneCell' = true := by
  obtain ⟨a, c, rfl⟩ := row_slice h
  rfl
theorem row_low {w : World} {base : Nat} {e : TypeId} {size : Nat} {v : Value} {n : Nat} {xs : List Value} (h : w.ownsRow base e size v n xs) {k : Nat} (hk : v.ownBlock = some k) : base ≤ k := by
  obtain ⟨-, ⟨rfl, -⟩ | ⟨g, cap, cur, rfl, hb, -⟩⟩ := h
  · simp [Value.ownBlock] at hk
  · simp [Value.ownBlock] at hk
    omega
theorem row_cap {w : World} {base : Nat} {e : TypeId} {size : Nat} {a : Option Addr} {m c : Nat} {n : Nat} {xs : List Value} (h : w.ownsRow base e size (.slice a m c) n xs) : (a = none ∧ c = 0 ∧ m = 0) ∨ ∃ g, a = some ⟨g, 0, none⟩ ∧ m ≤ c := by
  obtain ⟨-, ⟨h, -⟩ | ⟨g, cap, cur, h, -, -, hc, -⟩⟩ := h
  · injection h with h1 h2 h3
    exact .inl ⟨h1, h3, h2⟩
  · injection h with h1 h2 h3
    subst h1 h2 h3
    exact .inr ⟨g, rfl, hc⟩
theorem evFlat_len (eqs : List (Ev × Value)) : (evFlat eqs).length = eqs.length * 7 := by
  induction eqs with
  | nil => rfl
  | cons x l ih =>
    show (evCells x.1 x.2 ++ evFlat l).length = _
    rw [List.length_append, ih, List.length_cons]
    show 7 + l.length * 7 = _
    omega
/-- What Feed handed back, stored: the state in a block of its own, the events as a slice. -/
def Got (w0 : World) (q tv : Value) (s : St) (es : List Ev) (W : World) : Prop := ∃ p pa pc ta tc, q = .pointer (some ⟨p, 0, none⟩) ∧ tv = .slice ta es.length tc ∧ W.heap[p]? = some (.cells #[.int .i64 s.at', .int .u8 s.mark, .string s.mid, .slice pa s.ps.length pc, .string s.txt, .string s.left, .bool s.late] 24 (0, 0)) ∧ W.ownsRow w0.heap.size 3 1 (.slice pa s.ps.length pc) s.ps.length (ints s.ps) ∧ EvsV W w0.heap.size (.slice ta es.length tc) es ∧ Below w0.heap.size w0 W
theorem EvsV.same {w w' : World} {base : Nat} {v : Value} {es : List Ev} (h : EvsV w base v es) (hk : ∀ (g : Nat) (A : Array Value) (t : TypeId), w.heap[g]? = some (.cells A t (0, 0)) → t ≠ 24 → w'.heap[g]? = w.heap[g]?) : EvsV w' base v es := by
  obtain ⟨eqs, h1, h2, h3⟩ := h
  refine ⟨eqs, row_same h1 fun g hg => ?_, h2, fun x hx => row_same (h3 x hx) fun g hg => ?_⟩
  · obtain ⟨A, hA⟩ := row_block h1 hg
    exact hk g A _ hA (by decide)
  · obtain ⟨A, hA⟩ := row_block (h3 x hx) hg
    exact hk g A _ hA (by decide)
theorem got_new {w0 W : World} {s : St} {es : List Ev} {pa ta : Option Addr} {pc tc : Nat} (hO : W.ownsRow w0.heap.size 3 1 (.slice pa s.ps.length pc) s.ps.length (ints s.ps)) (hE : EvsV W w0.heap.size (.slice ta es.length tc) es) (k : Below w0.heap.size w0 W) :
    Got w0 (.pointer (some ⟨W.heap.size, 0, none⟩)) (.slice ta es.length tc) s es (W.alloc (.cells #[.int .i64 s.at', .int .u8 s.mark, .string s.mid, .slice pa s.ps.length pc, .string s.txt, .string s.left, .bool s.late] 24)) := by
  have hk : ∀ (g : Nat) (A : Array Value) (t : TypeId), W.heap[g]? = some (.cells A t (0, 0)) → t ≠ 24 → (W.alloc (.cells #[.int .i64 s.at', .int .u8 s.mark, .string s.mid, .slice pa s.ps.length pc, .string s.txt, .string s.left, .bool s.late] 24)).heap[g]? = W.heap[g]? := fun g A t hg _ => by rw [heap_box _ _ hg, hg]
  refine ⟨_, pa, pc, ta, tc, rfl, rfl, heap_alloc_new W _, row_same hO fun g hg => ?_, hE.same hk, alloc_next k _⟩
  obtain ⟨A, hA⟩ := row_block hO hg
  exact hk g A _ hA (by decide)
theorem got_old {w0 W : World} {s : St} {es : List Ev} {pa ta : Option Addr} {pc tc : Nat} (hO : W.ownsRow w0.heap.size 3 1 (.slice pa s.ps.length pc) s.ps.length (ints s.ps)) (hE : EvsV W w0.heap.size (.slice ta es.length tc) es) (k : Below w0.heap.size w0 W) (hz : W.heap[w0.heap.size]? = some (.cells #[.int .i64 0, .int .u8 0, .string ⟨#[]⟩, .slice none 0 0, .string ⟨#[]⟩, .string ⟨#[]⟩, .bool false] 24 (0, 0))) :
    Got w0 (.pointer (some ⟨w0.heap.size, 0, none⟩)) (.slice ta es.length tc) s es (W.setCells w0.heap.size 0 [.int .i64 s.at', .int .u8 s.mark, .string s.mid, .slice pa s.ps.length pc, .string s.txt, .string s.left, .bool s.late]) := by
  have hk : ∀ (g : Nat) (A : Array Value) (t : TypeId), W.heap[g]? = some (.cells A t (0, 0)) → t ≠ 24 → (W.setCells w0.heap.size 0 [.int .i64 s.at', .int .u8 s.mark, .string s.mid, .slice pa s.ps.length pc, .string s.txt, .string s.left, .bool s.late]).heap[g]? = W.heap[g]? := fun g A t hg ht => heap_setCells_ne _ _ (fun e => by
    rw [e, hz] at hg
    injection hg with hg
    injection hg with _ hg
    exact ht hg.symm) _ _ _
  refine ⟨_, pa, pc, ta, tc, rfl, rfl, heap_setCells w0.heap.size 24 _ 0 W _ hz (by simp), row_same hO fun g hg => ?_, hE.same hk, below_cells (Nat.le_refl _) _ _ _ k⟩
  obtain ⟨A, hA⟩ := row_block hO hg
  exact hk g A _ hA (by decide)
theorem feed_own (s : St) (pv : Value) (b : ByteArray) (w0 : World) (s' : St) (es' : List Ev) (he : feed s b.data.toList = (s', es')) (hT : Tabs w0) (hI : IntsV w0 pv s.ps) (ho : Ok s) (hb : b.size ≤ 4000) (W : World) (hW : Below w0.heap.size w0 W) :
    Calls Tryd.prog 6 #[.agg #[.int .i64 s.at', .int .u8 s.mark, .string s.mid, pv, .string s.txt, .string s.left, .bool s.late], .string b] W fun e w' => ∃ pa2 pc2 ta2 tc2, e = .returned (.tuple #[.agg #[.int .i64 s'.at', .int .u8 s'.mark, .string s'.mid, .slice pa2 s'.ps.length pc2, .string s'.txt, .string s'.left, .bool s'.late], .slice ta2 es'.length tc2, .int .i64 0]) ∧ w'.ownsRow w0.heap.size 3 1 (.slice pa2 s'.ps.length pc2) s'.ps.length (ints s'.ps) ∧ EvsV w' w0.heap.size (.slice ta2 es'.length tc2) es' ∧ Below W.heap.size W w' ∧ Below w0.heap.size w0 w' := by
  have HF := feed_ok s pv b W (hT.next hW) (hI.next hW) ho.fit (by have := ho.ms; omega) (by have := ho.tl; omega) (by have := left_small ho.fl; omega) hb (fun X hX => by
    have hX2 := hW.trans (hX.mono hW.size)
    refine (check_any s pv X (hT.next hX2) (hI.next hX2) (by have := ho.ms; omega) (by have := ho.tl; omega)).mono ?_
    rintro e W' ⟨rfl, b1⟩
    exact ⟨by rw [(okS_iff s).2 ho], b1⟩)
  rw [he] at HF
  refine HF.mono ?_
  rintro e w' ⟨pv', tv', rfl, h1, ⟨eqs, h2, h3, h4⟩, h5⟩
  obtain ⟨pa2, pc2, rfl⟩ := row_slice h1
  obtain ⟨ta2, tc2, rfl⟩ := row_slice h2
  exact ⟨pa2, pc2, ta2, tc2, rfl, row_mono h1 hW.size, ⟨eqs, row_mono h2 hW.size, h3, fun x hx => row_mono (h4 x hx) hW.size⟩, h5, hW.trans (h5.mono hW.size)⟩
end Prs
end Go.Proofs.YtmgmdijhiplalaaDoor

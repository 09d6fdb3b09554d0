/- Feed: all bytes, one after the other. -/
import Derived.Test.YtmgmdijhiplalaaDoorParseCopy
import Derived.Test.YtmgmdijhiplalaaDoorParsePure
namespace Go.Proofs.YtmgmdijhiplalaaDoor
open Go.ChangeShapes Go.WideShapes Go.ChangeAt Go.RowKit
namespace Prs
theorem results_row_tmp2 {P : Program} {fn : Func} {p u v : Tmp} {ty : TypeId} (h : fn.results = #[.cell p ty, .tmp u, .tmp v]) (tmps : Array Value) (w : World) (g : Nat) (t : TypeId) (cs : Array Value) (fr : Nat × Nat) (d : TypeDesc)
    (hp : tmps.getD p undef = .pointer (some ⟨g, 0, none⟩)) (hg : w.heap[g]? = some (.cells cs t fr))
    (hu : P.underlying ty = some d) (hd : (match d with | .struct _ | .array _ _ => true | _ => false) = true) (hi : (P.info? ty).map (·.size) = some cs.size) (x y : Value) (hx : tmps.getD u undef = x) (hy : tmps.getD v undef = y) :
    (results fn tmps).run P w = .ok (.tuple #[.agg cs, x, y]) w := by
  have hp' : tmps[p]?.getD undef = .pointer (some ⟨g, 0, none⟩) := by simpa using hp
  have hx' : tmps[u]?.getD undef = x := by simpa using hx
  have hy' : tmps[v]?.getD undef = y := by simpa using hy
  simp [results, h, hp', hx', hy', asAddr, run_loadVar_row w g t ty cs fr d hg hu hd hi]
theorem set7 (W : World) (g : Nat) (a b c d e f h : Value) : ((((((W.setCell ⟨g, 0, none⟩ a).setCell ⟨g, 1, none⟩ b).setCell ⟨g, 2, none⟩ c).setCell ⟨g, 3, none⟩ d).setCell ⟨g, 4, none⟩ e).setCell ⟨g, 5, none⟩ f).setCell ⟨g, 6, none⟩ h = W.setCells g 0 [a, b, c, d, e, f, h] := rfl
def stV (s : St) (pv : Value) : Value := .agg #[.int .i64 s.at', .int .u8 s.mark, .string s.mid, pv, .string s.txt, .string s.left, .bool s.late]
/-- Events, as a slice tells them. -/
def EvsV (w : World) (base : Nat) (v : Value) (es : List Ev) : Prop := ∃ eqs : List (Ev × Value), w.ownsRow base 37 7 v es.length (evFlat eqs) ∧ eqs.map (·.1) = es ∧ ∀ x, x ∈ eqs → w.ownsRow base 3 1 x.2 x.1.ps.length (ints x.1.ps)
theorem feed_next (s : St) (b : ByteArray) (k : Nat) (hk : k < b.size) : feed s (b.data.toList.take (k + 1)) = ((take (feed s (b.data.toList.take k)).1 b[k]).1, (feed s (b.data.toList.take k)).2 ++ (take (feed s (b.data.toList.take k)).1 b[k]).2) := by
  have hl : k < b.data.toList.length := by rw [Array.length_toList]; exact hk
  rw [List.take_succ_eq_append_getElem hl, feed_snoc]
  rfl
set_option maxHeartbeats 8000000 in
set_option maxRecDepth 100000 in
theorem feed_ok (s : St) (pv : Value) (b : ByteArray) (w : World) (hT : Tabs w) (hI : IntsV w pv s.ps) (hF : Fit s) (hm : s.mid.size ≤ 1000) (ht : s.txt.size ≤ 1000) (hl : s.left.size ≤ 1000) (hb : b.size ≤ 4000)
    (HCK : ∀ W, Below w.heap.size w W → Calls Tryd.prog 9 #[stV s pv] W fun e W' => e = .returned (.bool true) ∧ Below W.heap.size W W') :
    Calls Tryd.prog 6 #[stV s pv, .string b] w fun e w' => ∃ pv' tv', e = .returned (.tuple #[stV (feed s b.data.toList).1 pv', tv', .int .i64 0]) ∧ w'.ownsRow w.heap.size 3 1 pv' (feed s b.data.toList).1.ps.length (ints (feed s b.data.toList).1.ps) ∧ EvsV w' w.heap.size tv' (feed s b.data.toList).2 ∧ Below w.heap.size w w' := by
  unfold stV at HCK ⊢
  have x0 : ((w.alloc (.cells #[.int .i64 s.at', .int .u8 s.mark, .string s.mid, pv, .string s.txt, .string s.left, .bool s.late] 24)).alloc (.cells #[.int .i64 0, .int .u8 0, .string ⟨#[]⟩, .slice none 0 0, .string ⟨#[]⟩, .string ⟨#[]⟩, .bool false] 24)).heap[w.heap.size]? = some (.cells #[.int .i64 s.at', .int .u8 s.mark, .string s.mid, pv, .string s.txt, .string s.left, .bool s.late] 24 (0, 0)) := heap_box _ _ (heap_alloc_new w _)
  have x1 := new_two w (.cells #[.int .i64 s.at', .int .u8 s.mark, .string s.mid, pv, .string s.txt, .string s.left, .bool s.late] 24) (.cells #[.int .i64 0, .int .u8 0, .string ⟨#[]⟩, .slice none 0 0, .string ⟨#[]⟩, .string ⟨#[]⟩, .bool false] 24)
  have kk := below_two w (.cells #[.int .i64 s.at', .int .u8 s.mark, .string s.mid, pv, .string s.txt, .string s.left, .bool s.late] 24) (.cells #[.int .i64 0, .int .u8 0, .string ⟨#[]⟩, .slice none 0 0, .string ⟨#[]⟩, .string ⟨#[]⟩, .bool false] 24)
  generalize hW0 : ((w.alloc (.cells #[.int .i64 s.at', .int .u8 s.mark, .string s.mid, pv, .string s.txt, .string s.left, .bool s.late] 24)).alloc (.cells #[.int .i64 0, .int .u8 0, .string ⟨#[]⟩, .slice none 0 0, .string ⟨#[]⟩, .string ⟨#[]⟩, .bool false] 24)) = W0 at x0 x1 kk
  have HW0 : Hid (_ = W0) := hW0
  have HI : Hid (IntsV w pv s.ps) := hI
  have HF : Hid (Fit s) := hF
  have HT : Hid (Tabs w) := hT
  have HK : Hid (∀ W, Below w.heap.size w W → Calls Tryd.prog 9 #[.agg #[.int .i64 s.at', .int .u8 s.mark, .string s.mid, pv, .string s.txt, .string s.left, .bool s.late]] W fun e W' => e = .returned (.bool true) ∧ Below W.heap.size W W') := HCK
  have h16 : s.ps.length ≤ 16 := hF.2.2.2.1
  have hb1 : ¬ (4000 : Int) < (b.size : Int) := by omega
  clear hW0 hI hF hT HCK
  go_enter Tryd.func6, Tryd.ntmps6
  go_wp2_with fail
  rw [HW0.out]
  refine (HK.out _ kk).mono ?_
  rintro e W2 ⟨rfl, b2⟩
  have y0 := stay x0 b2
  have y1 := stay x1 b2
  have k2 := kk.trans (b2.mono kk.size)
  clear x0 x1 kk HW0 b2
  have kT : Below W2.heap.size W2 (W2.alloc (.cells #[.slice none 0 0] 26)) := (Below.refl _ _).alloc (Nat.le_refl _) _
  obtain ⟨c0, c1, c2, c3, c4, c5, c6, cf⟩ := cells7 (stay y0 kT)
  have HCP := copyOf_any s pv (W2.alloc (.cells #[.slice none 0 0] 26)) (by
    rcases HI.out with h | ⟨b', o', c', hv, hc⟩
    · exact .inl h
    · refine .inr ⟨b', o', c', hv, fun j u hj => ?_⟩
      have h1 := hc j u hj
      rw [Addr.add_mid] at h1 ⊢
      exact cell_stay (k2.trans (kT.mono k2.size)) h1) h16 hm ht hl
  have HTc : Hid (W2.alloc (.cells #[.slice none 0 0] 26) = W2.alloc (.cells #[.slice none 0 0] 26)) := rfl
  have hTn := heap_alloc_new W2 (.cells #[.slice none 0 0] 26)
  have sT : (W2.alloc (.cells #[.slice none 0 0] 26)).heap.size = W2.heap.size + 1 := by simp
  have y1T := stay y1 kT
  clear y0
  go_wp2_with fail
  refine HCP.mono ?_
  rintro e W3 ⟨pv3, rfl, own3, b3⟩
  obtain ⟨pa, pc, rfl⟩ := row_slice own3
  have hT3 := stay hTn b3
  have y3 := stay y1T b3
  have k3 : Below W2.heap.size W2 W3 := kT.trans (b3.mono kT.size)
  have HOW : Hid (W3.ownsRow (W2.alloc (.cells #[.slice none 0 0] 26)).heap.size 3 1 (.slice pa s.ps.length pc) s.ps.length (ints s.ps)) := own3
  clear c0 c1 c2 c3 c4 c5 c6 cf HCP own3 hTn y1T
  go_wp2_with (refine wpList_store_row rfl 46 (.tmp 8) _ rfl W3.heap.size #[.int .i64 s.at', .int .u8 s.mark, .string s.mid, .slice pa s.ps.length pc, .string s.txt, .string s.left, .bool s.late, .func (.func 18) #[] #[.pointer (some ⟨W2.heap.size, 0, none⟩)]] rfl rfl _ _ (heap_alloc_new W3 _) (by kernel_rfl) rfl (by simp [Value.oneCell']) ?_
               have hX := setRow_heap (W3.alloc (.cells #[.int .i64 0, .int .u8 0, .string ⟨#[]⟩, .slice none 0 0, .string ⟨#[]⟩, .string ⟨#[]⟩, .bool false, .nilFunc] 46)) W3.heap.size _ #[.int .i64 s.at', .int .u8 s.mark, .string s.mid, .slice pa s.ps.length pc, .string s.txt, .string s.left, .bool s.late, .func (.func 18) #[] #[.pointer (some ⟨W2.heap.size, 0, none⟩)]] _ _ (heap_alloc_new W3 _)
               have kX : Below W3.heap.size W3 ((W3.alloc (.cells #[.int .i64 0, .int .u8 0, .string ⟨#[]⟩, .slice none 0 0, .string ⟨#[]⟩, .string ⟨#[]⟩, .bool false, .nilFunc] 46)).setRow W3.heap.size #[.int .i64 s.at', .int .u8 s.mark, .string s.mid, .slice pa s.ps.length pc, .string s.txt, .string s.left, .bool s.late, .func (.func 18) #[] #[.pointer (some ⟨W2.heap.size, 0, none⟩)]]) := below_setRow ((Below.refl _ _).alloc (Nat.le_refl _) _) (Nat.le_refl _) _
               generalize ((W3.alloc (.cells #[.int .i64 0, .int .u8 0, .string ⟨#[]⟩, .slice none 0 0, .string ⟨#[]⟩, .string ⟨#[]⟩, .bool false, .nilFunc] 46)).setRow W3.heap.size #[.int .i64 s.at', .int .u8 s.mark, .string s.mid, .slice pa s.ps.length pc, .string s.txt, .string s.left, .bool s.late, .func (.func 18) #[] #[.pointer (some ⟨W2.heap.size, 0, none⟩)]]) = X at *)
  have hRd : Rd W2 W3.heap.size W2.heap.size s [] X W2.heap.size (.slice pa s.ps.length pc) (.slice none 0 0) [] := by
    refine ⟨k3.trans (kX.mono k3.size), k3.size, Nat.le_refl _, hX, stay hT3 kX, ?_, World.ownsRow_nil _ _ _ _, rfl, fun x hx => absurd hx (by simp), Nat.le_refl _, Nat.le_trans k3.size kX.size⟩
    refine row_mono (row_same HOW.out fun g hg => ?_) (by omega)
    obtain ⟨A, hA⟩ := row_block HOW.out hg
    exact kX.block g (blk_lt hA)
  have HR : Hid (Rd W2 W3.heap.size W2.heap.size s [] X W2.heap.size (.slice pa s.ps.length pc) (.slice none 0 0) []) := hRd
  have HT2 : Hid (Tabs W2) := HT.out.next k2
  have HY : Hid (W2.heap[w.heap.size + 1]? = _) := y1
  have hyl := blk_lt y1
  have HK2 : Hid (Below w.heap.size w W2) := k2
  clear hX kX hT3 y3 k3 HOW hRd b3 kT y1 k2 HTc
  go_loopg [24] b.size (fun q i wr => ∃ k : Nat, i = .int .i64 (k : Int) ∧ k ≤ b.size ∧ b.size - k ≤ q ∧ RdE W2 W3.heap.size W2.heap.size (feed s (b.data.toList.take k)).1 (feed s (b.data.toList.take k)).2 wr ∧ Fit (feed s (b.data.toList.take k)).1 ∧ (feed s (b.data.toList.take k)).2.length + (feed s (b.data.toList.take k)).1.left.size ≤ k + s.left.size)
  case atStart => exact ⟨0, rfl, by omega, by omega, ⟨_, _, _, _, HR.out⟩, HF.out, by simp [feed]⟩
  case round =>
    obtain ⟨k, rfl, hk, hq, hRE, hFit, hlen⟩ := hrel
    by_cases hlt : k < b.size
    · have lt1 : ((k : Int) < (b.size : Int)) := by omega
      have HN := feed_next s b k hlt
      have HTK := take_any (b[k]) HT2.out hRE (by omega) hFit
      have htot := take_tot (feed s (b.data.toList.take k)).1 b[k]
      have hfit2 := take_fit (feed s (b.data.toList.take k)).1 b[k] hFit
      have HNX : Hid (Fit (feed s (b.data.toList.take (k + 1))).1 ∧ (feed s (b.data.toList.take (k + 1))).2.length + (feed s (b.data.toList.take (k + 1))).1.left.size ≤ k + 1 + s.left.size) := by
        rw [HN]
        exact ⟨hfit2, by simp only [List.length_append]; omega⟩
      have HTK2 : Hid (Calls Tryd.prog 19 #[.pointer (some ⟨W3.heap.size, 0, none⟩), .int .u8 (b[k].toNat : Int)] wr fun e W' => e = .returned (.tuple #[]) ∧ RdE W2 W3.heap.size W2.heap.size (feed s (b.data.toList.take (k + 1))).1 (feed s (b.data.toList.take (k + 1))).2 W') := by
        rw [HN]
        exact HTK
      clear hRE hFit hlen HN HTK htot hfit2 HR
      go_wp2_with fail
      refine HTK2.out.mono ?_
      rintro e W5 ⟨rfl, h5⟩
      go_wp2_with fail
      go_roundg (b.size - (k + 1))
      case measure => omega
      case rel => exact ⟨k + 1, rfl, by omega, by omega, h5, HNX.out.1, HNX.out.2⟩
    · have lt1 : ¬ ((k : Int) < (b.size : Int)) := by omega
      have hkb : b.data.toList.take k = b.data.toList := List.take_of_length_le (by rw [Array.length_toList]; show b.size ≤ k; omega)
      rw [hkb] at hRE
      have HGoal : ∀ s' es', feed s b.data.toList = (s', es') → True := fun _ _ _ => trivial
      obtain ⟨s', es', hfe⟩ : ∃ s' es', feed s b.data.toList = (s', es') := ⟨_, _, rfl⟩
      rw [hfe] at hRE
      have HFE : Hid (feed s b.data.toList = (s', es')) := hfe
      obtain ⟨N, pv', tv', eqs', hR⟩ := hRE
      (try simp only at hR)
      obtain ⟨c0, c1, c2, c3, c4, c5, c6, c7, cf⟩ := hR.cells
      have ct := (cell1 hR.t).1
      have hy : wr.heap[w.heap.size + 1]? = _ := (hR.low.block _ hyl).trans HY.out
      obtain ⟨d0, d1, d2, d3, d4, d5, d6, df⟩ := cells7 hy
      have df0 := df 0
      have df1 := df 1
      have df2 := df 2
      have df3 := df 3
      have df4 := df 4
      have df5 := df 5
      have df6 := df 6
      obtain ⟨pa', pc', rfl⟩ := row_slice hR.p
      obtain ⟨ta', tc', rfl⟩ := row_slice hR.e
      have HYR : Hid (wr.heap[w.heap.size + 1]? = _) := hy
      have HRR : Hid (Rd W2 W3.heap.size W2.heap.size s' es' wr N _ _ eqs') := hR
      clear hR hFit hlen HR hlt HGoal hfe hkb
      have hYr : (wr.setCells (w.heap.size + 1) 0 [.int .i64 s'.at', .int .u8 s'.mark, .string s'.mid, .slice pa' s'.ps.length pc', .string s'.txt, .string s'.left, .bool s'.late]).heap[w.heap.size + 1]? = some (.cells #[.int .i64 s'.at', .int .u8 s'.mark, .string s'.mid, .slice pa' s'.ps.length pc', .string s'.txt, .string s'.left, .bool s'.late] 24 (0, 0)) := heap_setCells (w.heap.size + 1) 24 [.int .i64 s'.at', .int .u8 s'.mark, .string s'.mid, .slice pa' s'.ps.length pc', .string s'.txt, .string s'.left, .bool s'.late] 0 wr _ HYR.out (by simp)
      have hks := HK2.out.size
      have hrow : ∀ {base : Nat} {e : TypeId} {size : Nat} {v : Value} {n : Nat} {xs : List Value}, wr.ownsRow base e size v n xs → e ≠ 24 → w.heap.size ≤ base → (wr.setCells (w.heap.size + 1) 0 [.int .i64 s'.at', .int .u8 s'.mark, .string s'.mid, .slice pa' s'.ps.length pc', .string s'.txt, .string s'.left, .bool s'.late]).ownsRow w.heap.size e size v n xs := fun ho hne hbase => by
        refine row_mono (row_same ho fun g hg => ?_) hbase
        obtain ⟨A, hA⟩ := row_block ho hg
        refine heap_setCells_ne _ _ (fun e1 => ?_) _ _ _
        rw [e1, HYR.out] at hA
        injection hA with hA
        injection hA with _ hA
        exact hne hA.symm
      have hlow : Below w.heap.size w (wr.setCells (w.heap.size + 1) 0 [.int .i64 s'.at', .int .u8 s'.mark, .string s'.mid, .slice pa' s'.ps.length pc', .string s'.txt, .string s'.left, .bool s'.late]) := below_cells (by omega) _ _ _ (HK2.out.trans (HRR.out.low.mono hks))
      obtain ⟨Y, hY⟩ : ∃ Y, wr.setCells (w.heap.size + 1) 0 [.int .i64 s'.at', .int .u8 s'.mark, .string s'.mid, .slice pa' s'.ps.length pc', .string s'.txt, .string s'.left, .bool s'.late] = Y := ⟨_, rfl⟩
      rw [hY] at hYr hlow
      have HP : Hid (Y.ownsRow w.heap.size 3 1 (.slice pa' s'.ps.length pc') s'.ps.length (ints s'.ps)) := by
        have q := hrow HRR.out.p (by decide) (Nat.le_trans hks HRR.out.n0)
        rw [hY] at q
        exact q
      have HE : Hid (EvsV Y w.heap.size (.slice ta' es'.length tc') es') := by
        refine ⟨eqs', ?_, HRR.out.es, fun x hx => ?_⟩
        · have q := hrow HRR.out.e (by decide) hks
          rw [hY] at q
          exact q
        · have q := hrow (HRR.out.q x hx).1 (by decide) hks
          rw [hY] at q
          exact q
      have HYY : Hid (_ = Y) := hY
      have HLO : Hid (Below w.heap.size w Y) := hlow
      have HYC : Hid (Y.heap[w.heap.size + 1]? = _) := hYr
      clear hY hlow hYr hrow HRR HYR
      go_wp2_with fail
      go_region
      go_wp2_with fail
      (try simp only [Exit.inBlock, Exit.then])
      rw [set7, HYY.out, HFE.out]
      refine bodyPost_ret (v := .tuple #[.agg #[.int .i64 s'.at', .int .u8 s'.mark, .string s'.mid, .slice pa' s'.ps.length pc', .string s'.txt, .string s'.left, .bool s'.late], .slice ta' es'.length tc', .int .i64 0]) ?_ rfl ⟨_, _, rfl, HP.out, HE.out, HLO.out.drew⟩
      exact results_row_tmp2 rfl _ Y.drew (w.heap.size + 1) _ _ _ _ rfl (show Y.drew.heap[w.heap.size + 1]? = _ from HYC.out) Tryd.underlying24 rfl (by kernel_rfl) _ _ rfl rfl
end Prs
end Go.Proofs.YtmgmdijhiplalaaDoor

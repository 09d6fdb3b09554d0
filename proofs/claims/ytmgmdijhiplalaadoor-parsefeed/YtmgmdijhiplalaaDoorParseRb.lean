/- ReadBytes: all bytes, one after the other. -/
import Derived.Test.YtmgmdijhiplalaaDoorParseRo8
import Derived.Test.YtmgmdijhiplalaaDoorParseJoin
import Derived.Laws.EntriesVeiled
namespace Go.Proofs.YtmgmdijhiplalaaDoor
open Go.ChangeShapes Go.WideShapes Go.ChangeAt Go.RowKit
namespace Prs
theorem results_row_tmp {P : Program} {fn : Func} {p u : Tmp} {ty : TypeId} (h : fn.results = #[.cell p ty, .tmp u]) (tmps : Array Value) (w : World) (g : Nat) (t : TypeId) (cs : Array Value) (fr : Nat × Nat) (d : TypeDesc)
    (hp : tmps.getD p undef = .pointer (some ⟨g, 0, none⟩)) (hg : w.heap[g]? = some (.cells cs t fr))
    (hu : P.underlying ty = some d) (hd : (match d with | .struct _ | .array _ _ => true | _ => false) = true) (hi : (P.info? ty).map (·.size) = some cs.size) (v : Value) (hv : tmps.getD u undef = v) :
    (results fn tmps).run P w = .ok (.tuple #[.agg cs, v]) w := by
  rw [results_cell_tmp h, hp, hv]
  simp [asAddr, run_loadVar_row w g t ty cs fr d hg hu hd hi, Result.andThen]
theorem clone_ints (l : List Int) (v : Value) (w : World) (hI : IntsV w v l) (hn : l.length * 8 ≤ 140737488355328) :
    Calls Tryd.prog 5 #[v] w fun e w' => ∃ pa pc, e = .returned (.slice pa l.length pc) ∧ w'.ownsRow w.heap.size 3 1 (.slice pa l.length pc) l.length (ints l) ∧ Below w.heap.size w w' := by
  rcases hI with ⟨rfl, p, c, rfl⟩ | ⟨b, o, c, rfl, hc⟩
  · cases p with
    | none =>
      refine (Tryd.slices_Clone_int_nil 0 c w).mono ?_
      rintro e w' ⟨rfl, rfl⟩
      exact ⟨none, 0, rfl, World.ownsRow_nil _ _ _ _, Below.refl _ _⟩
    | some a =>
      refine (Tryd.slices_Clone_int_zero a c w).mono ?_
      rintro e w' ⟨v', rfl, ho, -, hb⟩
      obtain ⟨pa, pc, rfl⟩ := row_slice ho
      exact ⟨pa, pc, rfl, ho, hb⟩
  · refine (Tryd.slices_Clone_int b o l.length c l w (Nat.le_refl _) hn (ints_cell hc)).mono ?_
    rintro e w' ⟨v', rfl, ho, -, hb⟩
    rw [List.take_length] at ho
    obtain ⟨pa, pc, rfl⟩ := row_slice ho
    exact ⟨pa, pc, rfl, ho, hb⟩
set_option maxHeartbeats 8000000 in
set_option maxRecDepth 100000 in
theorem readBytes_any (s : St) (pp : Option Addr) (pc : Nat) (b : ByteArray) (w : World) (hT : Tabs w) (hI : IntsV w (.slice pp s.ps.length pc) s.ps) (ho : Ok s) (hb : b.size ≤ 4000) :
    Calls Tryd.prog 11 #[.agg #[.int .i64 s.at', .int .u8 s.mark, .string s.mid, .slice pp s.ps.length pc, .string s.txt, .string s.left, .bool s.late], .string b] w fun e w' => ∃ pv' tv', e = .returned (.tuple #[stV (feed s b.data.toList).1 pv', tv']) ∧ IntsV w' pv' (feed s b.data.toList).1.ps ∧ EvsR w' tv' (feed s b.data.toList).2 ∧ Below w.heap.size w w' := by
  have x0 : (((w.alloc (.cells #[.int .i64 s.at', .int .u8 s.mark, .string s.mid, .slice pp s.ps.length pc, .string s.txt, .string s.left, .bool s.late] 24)).alloc (.cells #[.int .i64 0, .int .u8 0, .string ⟨#[]⟩, .slice none 0 0, .string ⟨#[]⟩, .string ⟨#[]⟩, .bool false] 24)).alloc (.cells #[.slice none 0 0] 26)).heap[w.heap.size]? = some (.cells #[.int .i64 s.at', .int .u8 s.mark, .string s.mid, .slice pp s.ps.length pc, .string s.txt, .string s.left, .bool s.late] 24 (0, 0)) := heap_box _ _ (heap_box _ _ (heap_alloc_new w _))
  have x1 : (((w.alloc (.cells #[.int .i64 s.at', .int .u8 s.mark, .string s.mid, .slice pp s.ps.length pc, .string s.txt, .string s.left, .bool s.late] 24)).alloc (.cells #[.int .i64 0, .int .u8 0, .string ⟨#[]⟩, .slice none 0 0, .string ⟨#[]⟩, .string ⟨#[]⟩, .bool false] 24)).alloc (.cells #[.slice none 0 0] 26)).heap[w.heap.size + 1]? = some (.cells #[.int .i64 0, .int .u8 0, .string ⟨#[]⟩, .slice none 0 0, .string ⟨#[]⟩, .string ⟨#[]⟩, .bool false] 24 (0, 0)) := heap_box _ _ (new_two w _ _)
  have x2 : (((w.alloc (.cells #[.int .i64 s.at', .int .u8 s.mark, .string s.mid, .slice pp s.ps.length pc, .string s.txt, .string s.left, .bool s.late] 24)).alloc (.cells #[.int .i64 0, .int .u8 0, .string ⟨#[]⟩, .slice none 0 0, .string ⟨#[]⟩, .string ⟨#[]⟩, .bool false] 24)).alloc (.cells #[.slice none 0 0] 26)).heap[w.heap.size + 1 + 1]? = some (.cells #[.slice none 0 0] 26 (0, 0)) := by
    have h := heap_alloc_new ((w.alloc (.cells #[.int .i64 s.at', .int .u8 s.mark, .string s.mid, .slice pp s.ps.length pc, .string s.txt, .string s.left, .bool s.late] 24)).alloc (.cells #[.int .i64 0, .int .u8 0, .string ⟨#[]⟩, .slice none 0 0, .string ⟨#[]⟩, .string ⟨#[]⟩, .bool false] 24)) (.cells #[.slice none 0 0] 26)
    simpa using h
  have kk : Below w.heap.size w (((w.alloc (.cells #[.int .i64 s.at', .int .u8 s.mark, .string s.mid, .slice pp s.ps.length pc, .string s.txt, .string s.left, .bool s.late] 24)).alloc (.cells #[.int .i64 0, .int .u8 0, .string ⟨#[]⟩, .slice none 0 0, .string ⟨#[]⟩, .string ⟨#[]⟩, .bool false] 24)).alloc (.cells #[.slice none 0 0] 26)) := alloc_next (below_two w _ _) _
  generalize hW0 : ((w.alloc (.cells #[.int .i64 s.at', .int .u8 s.mark, .string s.mid, .slice pp s.ps.length pc, .string s.txt, .string s.left, .bool s.late] 24)).alloc (.cells #[.int .i64 0, .int .u8 0, .string ⟨#[]⟩, .slice none 0 0, .string ⟨#[]⟩, .string ⟨#[]⟩, .bool false] 24)).alloc (.cells #[.slice none 0 0] 26) = W0 at x0 x1 x2 kk
  have HW0 : Hid (_ = W0) := hW0
  have HT : Hid (Tabs w) := hT
  have HI : Hid (IntsV w (.slice pp s.ps.length pc) s.ps) := hI
  have HO : Hid (Ok s) := ho
  have HX0 : Hid (W0.heap[w.heap.size]? = _) := x0
  have HX1 : Hid (W0.heap[w.heap.size + 1]? = _) := x1
  have HX2 : Hid (W0.heap[w.heap.size + 1 + 1]? = _) := x2
  have HKK : Hid (Below w.heap.size w W0) := kk
  have h16 := ho.pl
  obtain ⟨c0, c1, c2, c3, c4, c5, c6, cf⟩ := cells7 x0
  clear hW0 hT hI ho x0 x1 x2 kk
  go_enter Tryd.func11, Tryd.ntmps11
  go_upto_region 2 with fail
  rw [HW0.out]
  have HCL := clone_ints s.ps _ W0 (HI.out.next HKK.out) (by omega)
  go_wp2_with (go_at_call 5
               refine HCL.mono ?_
               rintro e W1 ⟨qa, qc, rfl, hown, b1⟩
               obtain ⟨d0, d1, d2, d3, d4, d5, d6, df⟩ := cells7 (stay HX0.out b1)
               have df3 := df 3
               have HB1 : Hid (Below W0.heap.size W0 W1) := b1
               have HOW : Hid (W1.ownsRow W0.heap.size 3 1 (.slice qa s.ps.length qc) s.ps.length (ints s.ps)) := hown
               clear b1 hown c0 c1 c2 c3 c4 c5 c6 cf)
  have hR1 := stay HX0.out HB1.out
  have hT1 := stay HX2.out HB1.out
  have hZ1 := stay HX1.out HB1.out
  have hs1 := HB1.out.size
  have hk0 := HKK.out.size
  have hXs : (W1.setCell ⟨w.heap.size, 3, none⟩ (.slice qa s.ps.length qc)).heap.size = W1.heap.size := by simp
  have hRX : (W1.setCell ⟨w.heap.size, 3, none⟩ (.slice qa s.ps.length qc)).heap[w.heap.size]? = some (.cells #[.int .i64 s.at', .int .u8 s.mark, .string s.mid, .slice qa s.ps.length qc, .string s.txt, .string s.left, .bool s.late] 24 (0, 0)) := heap_setCell_same W1 w.heap.size 3 _ _ _ hR1
  have hother : ∀ {k : Nat} {o : Obj}, k ≠ w.heap.size → W1.heap[k]? = some o → (((W1.setCell ⟨w.heap.size, 3, none⟩ (.slice qa s.ps.length qc)).alloc (.cells #[groundV w.heap.size] 1)).alloc (.cells #[oneV w.heap.size (w.heap.size + 1 + 1) W1.heap.size (W1.heap.size + 1)] 47)).heap[k]? = some o := fun hk h => heap_box _ _ (heap_box _ _ (by rw [heap_setCell_other _ _ _ _ hk]; exact h))
  have hG : (((W1.setCell ⟨w.heap.size, 3, none⟩ (.slice qa s.ps.length qc)).alloc (.cells #[groundV w.heap.size] 1)).alloc (.cells #[oneV w.heap.size (w.heap.size + 1 + 1) W1.heap.size (W1.heap.size + 1)] 47)).heap[W1.heap.size]? = some (.cells #[groundV w.heap.size] 1 (0, 0)) := heap_box _ _ (by
    have h := heap_alloc_new (W1.setCell ⟨w.heap.size, 3, none⟩ (.slice qa s.ps.length qc)) (.cells #[groundV w.heap.size] 1)
    rw [hXs] at h
    exact h)
  have hO : (((W1.setCell ⟨w.heap.size, 3, none⟩ (.slice qa s.ps.length qc)).alloc (.cells #[groundV w.heap.size] 1)).alloc (.cells #[oneV w.heap.size (w.heap.size + 1 + 1) W1.heap.size (W1.heap.size + 1)] 47)).heap[W1.heap.size + 1]? = some (.cells #[oneV w.heap.size (w.heap.size + 1 + 1) W1.heap.size (W1.heap.size + 1)] 47 (0, 0)) := by
    have h := new_two (W1.setCell ⟨w.heap.size, 3, none⟩ (.slice qa s.ps.length qc)) (.cells #[groundV w.heap.size] 1) (.cells #[oneV w.heap.size (w.heap.size + 1 + 1) W1.heap.size (W1.heap.size + 1)] 47)
    rw [hXs] at h
    exact h
  have hlow : Below w.heap.size w (((W1.setCell ⟨w.heap.size, 3, none⟩ (.slice qa s.ps.length qc)).alloc (.cells #[groundV w.heap.size] 1)).alloc (.cells #[oneV w.heap.size (w.heap.size + 1 + 1) W1.heap.size (W1.heap.size + 1)] 47)) := alloc_next (alloc_next ((HKK.out.trans (HB1.out.mono hk0)).setCell (by exact Nat.le_refl _) _) _) _
  have hps : (((W1.setCell ⟨w.heap.size, 3, none⟩ (.slice qa s.ps.length qc)).alloc (.cells #[groundV w.heap.size] 1)).alloc (.cells #[oneV w.heap.size (w.heap.size + 1 + 1) W1.heap.size (W1.heap.size + 1)] 47)).ownsRow W0.heap.size 3 1 (.slice qa s.ps.length qc) s.ps.length (ints s.ps) := row_same HOW.out fun g hg => by
    obtain ⟨A, hA⟩ := row_block HOW.out hg
    rw [hother (blk_type hA hR1 (by decide)) hA, hA]
  have hVs : (((W1.setCell ⟨w.heap.size, 3, none⟩ (.slice qa s.ps.length qc)).alloc (.cells #[groundV w.heap.size] 1)).alloc (.cells #[oneV w.heap.size (w.heap.size + 1 + 1) W1.heap.size (W1.heap.size + 1)] 47)).heap.size = W1.heap.size + 2 := by simp
  have hRf : Rf w w.heap.size (w.heap.size + 1 + 1) W1.heap.size (W1.heap.size + 1) s [] (((W1.setCell ⟨w.heap.size, 3, none⟩ (.slice qa s.ps.length qc)).alloc (.cells #[groundV w.heap.size] 1)).alloc (.cells #[oneV w.heap.size (w.heap.size + 1 + 1) W1.heap.size (W1.heap.size + 1)] 47)) W0.heap.size (.slice qa s.ps.length qc) (.slice none 0 0) [] :=
    ⟨hlow, Nat.le_refl _, by omega, heap_box _ _ (heap_box _ _ hRX), hother (by omega) hT1, hG, hO, hother (by omega) hZ1, hps, World.ownsRow_nil _ _ _ _, rfl, fun x hx => absurd hx (by simp), hk0, by rw [hVs]; omega⟩
  have HRF : Hid (Rf w w.heap.size (w.heap.size + 1 + 1) W1.heap.size (W1.heap.size + 1) s [] (((W1.setCell ⟨w.heap.size, 3, none⟩ (.slice qa s.ps.length qc)).alloc (.cells #[groundV w.heap.size] 1)).alloc (.cells #[oneV w.heap.size (w.heap.size + 1 + 1) W1.heap.size (W1.heap.size + 1)] 47)) W0.heap.size (.slice qa s.ps.length qc) (.slice none 0 0) []) := hRf
  clear hR1 hT1 hZ1 hs1 hk0 hXs hRX hother hG hO hlow hps hVs hRf d0 d1 d2 d3 d4 d5 d6 df df3
  have hle := left_small HO.out.fl
  go_loopg [18] b.size (fun q i wr => ∃ k : Nat, i = .int .i64 (k : Int) ∧ k ≤ b.size ∧ b.size - k ≤ q ∧ RfE w w.heap.size (w.heap.size + 1 + 1) W1.heap.size (W1.heap.size + 1) (feed s (b.data.toList.take k)).1 (feed s (b.data.toList.take k)).2 wr ∧ Ok (feed s (b.data.toList.take k)).1 ∧ (feed s (b.data.toList.take k)).2.length + (feed s (b.data.toList.take k)).1.left.size ≤ k + s.left.size)
  case atStart => exact ⟨0, rfl, by omega, by omega, ⟨_, _, _, _, HRF.out⟩, HO.out, by simp [feed]⟩
  case round =>
    obtain ⟨k, rfl, hk, hq, hRE, hok, hlen⟩ := hrel
    by_cases hlt : k < b.size
    · have lt1 : ((k : Int) < (b.size : Int)) := by omega
      have HN := feed_next s b k hlt
      have HTK := fun W' (hW : RfE w w.heap.size (w.heap.size + 1 + 1) W1.heap.size (W1.heap.size + 1) (feed s (b.data.toList.take k)).1 (feed s (b.data.toList.take k)).2 W') => one_take (b[k]) HT.out hW hok (by omega)
      have htot := take_tot (feed s (b.data.toList.take k)).1 b[k]
      have hok2 := take_ok (feed s (b.data.toList.take k)).1 b[k] hok
      have HNX : Hid (Ok (feed s (b.data.toList.take (k + 1))).1 ∧ (feed s (b.data.toList.take (k + 1))).2.length + (feed s (b.data.toList.take (k + 1))).1.left.size ≤ k + 1 + s.left.size) := by
        rw [HN]
        exact ⟨hok2, by simp only [List.length_append]; omega⟩
      have HTK2 : Hid (∀ W', RfE w w.heap.size (w.heap.size + 1 + 1) W1.heap.size (W1.heap.size + 1) (feed s (b.data.toList.take k)).1 (feed s (b.data.toList.take k)).2 W' → Calls Tryd.prog 28 #[.int .u8 (b[k].toNat : Int), .pointer (some ⟨w.heap.size, 0, none⟩), .pointer (some ⟨w.heap.size + 1 + 1, 0, none⟩), .pointer (some ⟨W1.heap.size, 0, none⟩), .pointer (some ⟨W1.heap.size + 1, 0, none⟩)] W' fun e W2 => e = .returned (.tuple #[]) ∧ RfE w w.heap.size (w.heap.size + 1 + 1) W1.heap.size (W1.heap.size + 1) (feed s (b.data.toList.take (k + 1))).1 (feed s (b.data.toList.take (k + 1))).2 W2) := fun W' hW => by
        have h := HTK W' hW
        rw [HN]
        exact h
      obtain ⟨N, pv, tv, eqs, hR⟩ := hRE
      obtain ⟨-, -, -, co⟩ := hR.cells
      unfold oneV at co
      have HR : Hid (RfE w w.heap.size (w.heap.size + 1 + 1) W1.heap.size (W1.heap.size + 1) (feed s (b.data.toList.take k)).1 (feed s (b.data.toList.take k)).2 wr) := ⟨N, pv, tv, eqs, hR⟩
      have HRD : Hid (RfE w w.heap.size (w.heap.size + 1 + 1) W1.heap.size (W1.heap.size + 1) (feed s (b.data.toList.take k)).1 (feed s (b.data.toList.take k)).2 wr.drew) := ⟨N, pv, tv, eqs, hR.below ((Below.refl _ _).drew)⟩
      clear hR hok hlen HN HTK htot hok2 HRF
      go_wp2_with fail
      go_region_with (go_at_call 28; refine (HTK2.out _ (by first | exact HRD.out | exact HR.out)).mono ?_; rintro e W5 ⟨rfl, h5⟩)
      all_goals go_wp2_with fail
      all_goals (
        go_roundg (b.size - (k + 1))
        case measure => omega
        case rel => exact ⟨k + 1, by go_num, by omega, by omega, h5, HNX.out.1, HNX.out.2⟩)
    · have lt1 : ¬ ((k : Int) < (b.size : Int)) := by omega
      have hkb : b.data.toList.take k = b.data.toList := List.take_of_length_le (by rw [Array.length_toList]; show b.size ≤ k; omega)
      rw [hkb] at hRE hok hlen
      obtain ⟨s', es', hfe⟩ : ∃ s' es', feed s b.data.toList = (s', es') := ⟨_, _, rfl⟩
      rw [hfe] at hRE
      have HFE : Hid (feed s b.data.toList = (s', es')) := hfe
      obtain ⟨N, pv', tv', eqs', hR⟩ := hRE
      (try simp only at hR)
      obtain ⟨⟨c0, c1, c2, c3, c4, c5, c6, cf⟩, ⟨ct, ctf⟩, cg, co⟩ := hR.cells
      have hy := hR.z
      obtain ⟨d0, d1, d2, d3, d4, d5, d6, df⟩ := cells7 hy
      have df0 := df 0
      have df1 := df 1
      have df2 := df 2
      have df3 := df 3
      have df4 := df 4
      have df5 := df 5
      have df6 := df 6
      obtain ⟨pa', pc', rfl⟩ := row_slice hR.p
      obtain ⟨ta', tc', rfl⟩ := row_slice hR.e
      have HYR : Hid (wr.heap[w.heap.size + 1]? = _) := hy
      have HRR : Hid (Rf w w.heap.size (w.heap.size + 1 + 1) W1.heap.size (W1.heap.size + 1) s' es' wr N _ _ eqs') := hR
      clear hR hok hlen HRF hlt hfe hkb cg co ctf cf df
      have hYr : (wr.setCells (w.heap.size + 1) 0 [.int .i64 s'.at', .int .u8 s'.mark, .string s'.mid, .slice pa' s'.ps.length pc', .string s'.txt, .string s'.left, .bool s'.late]).heap[w.heap.size + 1]? = some (.cells #[.int .i64 s'.at', .int .u8 s'.mark, .string s'.mid, .slice pa' s'.ps.length pc', .string s'.txt, .string s'.left, .bool s'.late] 24 (0, 0)) := heap_setCells (w.heap.size + 1) 24 [.int .i64 s'.at', .int .u8 s'.mark, .string s'.mid, .slice pa' s'.ps.length pc', .string s'.txt, .string s'.left, .bool s'.late] 0 wr _ HYR.out (by simp)
      have hrow : ∀ {base : Nat} {e : TypeId} {size : Nat} {v : Value} {n : Nat} {xs : List Value}, wr.ownsRow base e size v n xs → e ≠ 24 → (wr.setCells (w.heap.size + 1) 0 [.int .i64 s'.at', .int .u8 s'.mark, .string s'.mid, .slice pa' s'.ps.length pc', .string s'.txt, .string s'.left, .bool s'.late]).ownsRow base e size v n xs := fun ho hne => by
        refine row_same ho fun g hg => ?_
        obtain ⟨A, hA⟩ := row_block ho hg
        refine heap_setCells_ne _ _ (fun e1 => ?_) _ _ _
        rw [e1, HYR.out] at hA
        injection hA with hA
        injection hA with _ hA
        exact hne hA.symm
      have hlow : Below w.heap.size w (wr.setCells (w.heap.size + 1) 0 [.int .i64 s'.at', .int .u8 s'.mark, .string s'.mid, .slice pa' s'.ps.length pc', .string s'.txt, .string s'.left, .bool s'.late]) := below_cells (by omega) _ _ _ HRR.out.low
      obtain ⟨Y, hY⟩ : ∃ Y, wr.setCells (w.heap.size + 1) 0 [.int .i64 s'.at', .int .u8 s'.mark, .string s'.mid, .slice pa' s'.ps.length pc', .string s'.txt, .string s'.left, .bool s'.late] = Y := ⟨_, rfl⟩
      have HP : Hid (IntsV Y (.slice pa' s'.ps.length pc') s'.ps) := by
        have q := hrow HRR.out.p (by decide)
        rw [hY] at q
        exact own_intsV q
      have HE : Hid (EvsR Y (.slice ta' es'.length tc') es') := by
        have q := hrow HRR.out.e (by decide)
        rw [hY] at q
        have hl : es'.length = eqs'.length := by rw [← HRR.out.es, List.length_map]
        have q2 := evs_read (eqs := eqs') (by rw [← hl]; exact q) fun x hx => by
          have q3 := hrow (HRR.out.q x hx).1 (by decide)
          rw [hY] at q3
          exact own_intsV q3
        rw [HRR.out.es] at q2
        exact q2
      rw [hY] at hYr hlow
      have HYY : Hid (_ = Y) := hY
      have HLO : Hid (Below w.heap.size w Y) := hlow
      have HYC : Hid (Y.heap[w.heap.size + 1]? = _) := hYr
      clear hY hlow hYr hrow HRR HYR
      go_wp2_with fail
      go_region
      go_wp2_with fail
      (try simp only [Exit.inBlock, Exit.then])
      rw [set7, HYY.out, HFE.out]
      refine bodyPost_ret (v := .tuple #[.agg #[.int .i64 s'.at', .int .u8 s'.mark, .string s'.mid, .slice pa' s'.ps.length pc', .string s'.txt, .string s'.left, .bool s'.late], .slice ta' es'.length tc']) ?_ rfl ⟨_, _, rfl, HP.out.next ((Below.refl _ _).drew), HE.out.next ((Below.refl _ _).drew), HLO.out.drew⟩
      exact results_row_tmp rfl _ Y.drew (w.heap.size + 1) _ _ _ _ rfl (show Y.drew.heap[w.heap.size + 1]? = _ from HYC.out) Tryd.underlying24 rfl (by kernel_rfl) _ rfl
end Prs
end Go.Proofs.YtmgmdijhiplalaaDoor

/- Package split: Parse, of a text that is a split. -/
import Derived.Test.YtckkbmgdaplaaaaDoorSplRead
import Derived.Test.YtckkbmgdaplaaaaDoorSplChk3
namespace Go.Proofs.YtckkbmgdaplaaaaDoor
open Go.ChangeShapes Go.WideShapes Go.ChangeAt Go.RowKit Go.Maps Go.Sort
namespace Spl
open Fo
set_option maxHeartbeats 4000000 in
set_option maxRecDepth 100000 in
theorem parse_good (t b0 b1 b2 : ByteArray) (wy pn sz : Int) (ks : Fo) (w : World) (hts : t.size ≤ 4000) (hB : BrTab w b0 b1 b2) (hb : Br b1 b2) (hT : TsAt t 0 (cons wy pn sz ks nil) 0 t.size) (hcnt : ks.cnt ≤ 2000000) (hc : (chk (cons wy pn sz ks nil)).1 = 0) :
    Calls Tryd.prog 38 #[.string t] w fun e w' => ∃ kv, e = .returned (.tuple #[.agg #[.int .i64 wy, .int .i64 pn, .int .i64 sz, kv], .int .i64 0, .int .i64 0]) ∧ KAt w' kv ks ∧ Below w.heap.size w w' := by
  have kb : Below w.heap.size w (w.alloc (.cells #[.int .i64 0, .int .i64 0, .int .i64 0, .slice none 0 0] 24)) := (Below.refl _ _).alloc (Nat.le_refl _) _
  have e0 := heap_alloc_new w (.cells #[.int .i64 0, .int .i64 0, .int .i64 0, .slice none 0 0] 24)
  have HR := read_good t b0 b1 b2 wy pn sz ks _ (by omega) (hB.below kb) hb hT
  have i1 : ¬ (4000 : Int) < (t.size : Int) := by omega
  clear hT hB hb hts
  go_enter Tryd.func38, Tryd.ntmps38
  go_wp2_with fail
  generalize w.alloc (.cells #[.int .i64 0, .int .i64 0, .int .i64 0, .slice none 0 0] 24) = V at *
  refine HR.mono ?_
  rintro e W ⟨kv, rfl, hk, b⟩
  obtain ⟨ka, kc, rfl, _⟩ := id hk
  have e1 := kept e0 b
  have k1 := kb.trans (b.mono kb.size)
  obtain ⟨⟨c0, c1, c2, c3⟩, _⟩ := four_at e1
  have f0 : ∀ i, W.frozen? ⟨w.heap.size, i, none⟩ = false := fun i => by simp only [World.frozen?, e1]; rfl
  have e2 := set4_same (.int .i64 wy) (.int .i64 pn) (.int .i64 sz) (.slice ka ks.len kc) e1
  have k2 := set4_below (.int .i64 wy) (.int .i64 pn) (.int .i64 sz) (.slice ka ks.len kc) k1 (Nat.le_refl w.heap.size)
  have hk2 := set4_kat (.int .i64 wy) (.int .i64 pn) (.int .i64 sz) (.slice ka ks.len kc) hk (show w.heap.size < V.heap.size from (Array.getElem?_eq_some_iff.1 e0).1)
  have HCH := fun W' (h : KAt W' (.slice ka ks.len kc) ks) => check_any wy pn sz ks (.slice ka ks.len kc) W' h hcnt
  rw [hc] at HCH
  have HP : Hid ((set4 W w.heap.size (.int .i64 wy) (.int .i64 pn) (.int .i64 sz) (.slice ka ks.len kc)).heap[w.heap.size]? = some (.cells #[.int .i64 wy, .int .i64 pn, .int .i64 sz, .slice ka ks.len kc] 24 (0, 0)) ∧ Below w.heap.size w (set4 W w.heap.size (.int .i64 wy) (.int .i64 pn) (.int .i64 sz) (.slice ka ks.len kc)) ∧ KAt (low (set4 W w.heap.size (.int .i64 wy) (.int .i64 pn) (.int .i64 sz) (.slice ka ks.len kc)) V.heap.size) (.slice ka ks.len kc) ks) := ⟨e2, k2, hk2⟩
  have hlt : w.heap.size < V.heap.size := (Array.getElem?_eq_some_iff.1 e0).1
  unfold set4 at HP
  clear HR e1 k1 e2 k2 hk2 hk b e0 kb
  go_wp2_with fail
  generalize (((W.setCell ⟨w.heap.size, 0, none⟩ (.int .i64 wy)).setCell ⟨w.heap.size, 1, none⟩ (.int .i64 pn)).setCell ⟨w.heap.size, 2, none⟩ (.int .i64 sz)).setCell ⟨w.heap.size, 3, none⟩ (.slice ka ks.len kc) = W2 at *
  obtain ⟨e2, k2, hk2⟩ := HP.out
  clear c0 c1 c2 c3 f0
  refine (HCH _ hk2.whole).mono ?_
  rintro e W3 ⟨rfl, b3⟩
  have e3 := kept e2 b3
  have k3 := k2.trans (b3.mono k2.size)
  have hk3 : KAt (low W3 V.heap.size) (.slice ka ks.len kc) ks := hk2.ck (fun b o x hx => low_of (low_cell hx).1 (CK.below b3 _ _ _ (low_cell hx).2))
  obtain ⟨⟨c0, c1, c2, c3⟩, _⟩ := four_at e3
  have f0 : ∀ i, W3.frozen? ⟨w.heap.size, i, none⟩ = false := fun i => by simp only [World.frozen?, e3]; rfl
  have e4 := set4_same (.int .i64 wy) (.int .i64 pn) (.int .i64 sz) (.slice ka ks.len kc) e3
  have k4 := set4_below (.int .i64 wy) (.int .i64 pn) (.int .i64 sz) (.slice ka ks.len kc) k3 (Nat.le_refl w.heap.size)
  have hk4 := (set4_kat (.int .i64 wy) (.int .i64 pn) (.int .i64 sz) (.slice ka ks.len kc) hk3 hlt).whole
  unfold set4 at e4 k4 hk4
  clear e2 k2 hk2 e3 k3 hk3 b3 HCH HP
  go_wp2_with fail
  generalize (((W3.setCell ⟨w.heap.size, 0, none⟩ (.int .i64 wy)).setCell ⟨w.heap.size, 1, none⟩ (.int .i64 pn)).setCell ⟨w.heap.size, 2, none⟩ (.int .i64 sz)).setCell ⟨w.heap.size, 3, none⟩ (.slice ka ks.len kc) = W4 at *
  have hlv := run_loadVar_row (P := Tryd.prog) W4 w.heap.size 24 24 _ _ _ e4 Tryd.underlying24 rfl (by kernel_rfl)
  refine bodyPost_ret (v := .tuple #[.agg #[.int .i64 wy, .int .i64 pn, .int .i64 sz, .slice ka ks.len kc], .int .i64 0, .int .i64 0]) ?_ rfl ⟨_, rfl, hk4, k4⟩
  obtain ⟨⟨y0, y1, y2, y3⟩, _⟩ := four_at e4
  simp [results, Tryd.results38, go_sem, y0, y1, y2, y3]
end Spl
end Go.Proofs.YtckkbmgdaplaaaaDoor

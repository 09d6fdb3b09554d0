/- Package split: Even. (Written by gen_spleven.py.) -/
import Derived.Test.YtckkbmgdaplaaaaDoorSplLeaf
import Derived.Test.YtckkbmgdaplaaaaDoorSplLay2
import Derived.Test.YtckkbmgdaplaaaaDoorSplRead
namespace Go.Proofs.YtckkbmgdaplaaaaDoor
open Go.ChangeShapes Go.WideShapes Go.ChangeAt Go.RowKit Go.Maps
namespace Spl
open Fo
def panesOf (wy pn : Int) (ks : Fo) : List Int := if wy = 0 then [pn] else pnF ks
set_option maxHeartbeats 4000000 in
set_option maxRecDepth 100000 in
theorem Even_bad (wy pn sz : Int) (ks : Fo) (kv : Value) (way : Int) (w : World) (hk : KAt w kv ks) (hcnt : ks.cnt ≤ 2000000) (hc : (chk (cons wy pn sz ks nil)).1 ≠ 0) :
    Calls Tryd.prog 36 #[.agg #[.int .i64 wy, .int .i64 pn, .int .i64 sz, kv], .int .i64 way] w fun e w' => e = .returned (.tuple #[.agg #[.int .i64 0, .int .i64 0, .int .i64 0, .slice none 0 0], .int .i64 (chk (cons wy pn sz ks nil)).1]) ∧ Below w.heap.size w w' := by
  have hl2 := heap_alloc2_new w (.cells #[.int .i64 wy, .int .i64 pn, .int .i64 sz, kv] 24) (.cells #[.int .i64 0, .int .i64 0, .int .i64 0, .slice none 0 0] 24)
  have hl1 := heap_alloc2_old w (.cells #[.int .i64 wy, .int .i64 pn, .int .i64 sz, kv] 24) (.cells #[.int .i64 0, .int .i64 0, .int .i64 0, .slice none 0 0] 24)
  have kb : Below w.heap.size w ((w.alloc (.cells #[.int .i64 wy, .int .i64 pn, .int .i64 sz, kv] 24)).alloc (.cells #[.int .i64 0, .int .i64 0, .int .i64 0, .slice none 0 0] 24)) := ((Below.refl _ _).alloc (Nat.le_refl _) _).alloc (by simp only [World.size_alloc]; omega) _
  have HC := check_any wy pn sz ks kv _ (kat_below hk kb) hcnt
  obtain ⟨er, her⟩ : ∃ er, (chk (cons wy pn sz ks nil)).1 = er := ⟨_, rfl⟩
  rw [her] at HC hc ⊢
  have ie : (er == 0) = false := beq_eq_false_iff_ne.2 hc
  clear her hk
  go_enter Tryd.func36, Tryd.ntmps36
  go_wp2_with fail
  refine HC.mono ?_
  rintro e W1 ⟨rfl, b1⟩
  have t1 := (b1.block _ (Array.getElem?_eq_some_iff.1 hl1).1).trans hl1
  have r1 := (b1.block _ (Array.getElem?_eq_some_iff.1 hl2).1).trans hl2
  have k1 := kb.trans (b1.mono kb.size)
  obtain ⟨⟨c0, c1, c2, c3⟩, _⟩ := four_at t1
  obtain ⟨⟨d0, d1, d2, d3⟩, _⟩ := four_at r1
  have fr1 : ∀ i, W1.frozen? ⟨w.heap.size + 1, i, none⟩ = false := fun i => by simp only [World.frozen?, r1]; rfl
  clear HC kb b1 hl1 hl2
  have v4 := set4_same (.int .i64 0) (.int .i64 0) (.int .i64 0) (.slice none 0 0) r1
  have k4 := set4_below (.int .i64 0) (.int .i64 0) (.int .i64 0) (.slice none 0 0) k1 (Nat.le_succ w.heap.size)
  unfold set4 at v4 k4
  clear t1 r1 k1
  go_wp2_with fail
  obtain ⟨⟨y0, y1, y2, y3⟩, _⟩ := four_at v4
  refine bodyPost_ret (v := .tuple #[.agg #[.int .i64 0, .int .i64 0, .int .i64 0, .slice none 0 0], .int .i64 er]) ?_ rfl ⟨rfl, k4⟩
  simp [results, Tryd.results36, go_sem, y0, y1, y2, y3]
set_option maxHeartbeats 4000000 in
set_option maxRecDepth 100000 in
theorem Even_way (wy pn sz : Int) (ks : Fo) (kv : Value) (way : Int) (w : World) (hk : KAt w kv ks) (hcnt : ks.cnt ≤ 2000000) (hc : (chk (cons wy pn sz ks nil)).1 = 0) (hw : ¬ (way = 1 ∨ way = 2)) :
    Calls Tryd.prog 36 #[.agg #[.int .i64 wy, .int .i64 pn, .int .i64 sz, kv], .int .i64 way] w fun e w' => e = .returned (.tuple #[.agg #[.int .i64 0, .int .i64 0, .int .i64 0, .slice none 0 0], .int .i64 4]) ∧ Below w.heap.size w w' := by
  have hl2 := heap_alloc2_new w (.cells #[.int .i64 wy, .int .i64 pn, .int .i64 sz, kv] 24) (.cells #[.int .i64 0, .int .i64 0, .int .i64 0, .slice none 0 0] 24)
  have hl1 := heap_alloc2_old w (.cells #[.int .i64 wy, .int .i64 pn, .int .i64 sz, kv] 24) (.cells #[.int .i64 0, .int .i64 0, .int .i64 0, .slice none 0 0] 24)
  have kb : Below w.heap.size w ((w.alloc (.cells #[.int .i64 wy, .int .i64 pn, .int .i64 sz, kv] 24)).alloc (.cells #[.int .i64 0, .int .i64 0, .int .i64 0, .slice none 0 0] 24)) := ((Below.refl _ _).alloc (Nat.le_refl _) _).alloc (by simp only [World.size_alloc]; omega) _
  have HC := check_any wy pn sz ks kv _ (kat_below hk kb) hcnt
  rw [hc] at HC
  have HW := fun V => isWay_any way V
  rw [decide_eq_false hw] at HW
  clear hk hc hw
  go_enter Tryd.func36, Tryd.ntmps36
  go_wp2_with fail
  refine HC.mono ?_
  rintro e W1 ⟨rfl, b1⟩
  have t1 := (b1.block _ (Array.getElem?_eq_some_iff.1 hl1).1).trans hl1
  have r1 := (b1.block _ (Array.getElem?_eq_some_iff.1 hl2).1).trans hl2
  have k1 := kb.trans (b1.mono kb.size)
  obtain ⟨⟨c0, c1, c2, c3⟩, _⟩ := four_at t1
  obtain ⟨⟨d0, d1, d2, d3⟩, _⟩ := four_at r1
  have fr1 : ∀ i, W1.frozen? ⟨w.heap.size + 1, i, none⟩ = false := fun i => by simp only [World.frozen?, r1]; rfl
  clear HC kb b1 hl1 hl2
  go_wp2_with fail
  refine (HW _).mono ?_
  rintro e W2 ⟨rfl, hW2⟩
  obtain rfl := hW2.symm
  have v4 := set4_same (.int .i64 0) (.int .i64 0) (.int .i64 0) (.slice none 0 0) r1
  have k4 := set4_below (.int .i64 0) (.int .i64 0) (.int .i64 0) (.slice none 0 0) k1 (Nat.le_succ w.heap.size)
  unfold set4 at v4 k4
  clear t1 r1 k1
  go_wp2_with fail
  obtain ⟨⟨y0, y1, y2, y3⟩, _⟩ := four_at v4
  refine bodyPost_ret (v := .tuple #[.agg #[.int .i64 0, .int .i64 0, .int .i64 0, .slice none 0 0], .int .i64 4]) ?_ rfl ⟨rfl, k4⟩
  simp [results, Tryd.results36, go_sem, y0, y1, y2, y3]
set_option maxHeartbeats 4000000 in
set_option maxRecDepth 100000 in
theorem Even_one (wy pn sz : Int) (ks : Fo) (kv : Value) (way : Int) (w : World) (hk : KAt w kv ks) (hcnt : ks.cnt ≤ 2000000) (hc : (chk (cons wy pn sz ks nil)).1 = 0) (hw : way = 1 ∨ way = 2) (p : Int) (hl : panesOf wy pn ks = [p]) :
    Calls Tryd.prog 36 #[.agg #[.int .i64 wy, .int .i64 pn, .int .i64 sz, kv], .int .i64 way] w fun e w' => e = .returned (.tuple #[.agg #[.int .i64 0, .int .i64 p, .int .i64 1, .slice none 0 0], .int .i64 0]) ∧ Below w.heap.size w w' := by
  have hl2 := heap_alloc2_new w (.cells #[.int .i64 wy, .int .i64 pn, .int .i64 sz, kv] 24) (.cells #[.int .i64 0, .int .i64 0, .int .i64 0, .slice none 0 0] 24)
  have hl1 := heap_alloc2_old w (.cells #[.int .i64 wy, .int .i64 pn, .int .i64 sz, kv] 24) (.cells #[.int .i64 0, .int .i64 0, .int .i64 0, .slice none 0 0] 24)
  have kb : Below w.heap.size w ((w.alloc (.cells #[.int .i64 wy, .int .i64 pn, .int .i64 sz, kv] 24)).alloc (.cells #[.int .i64 0, .int .i64 0, .int .i64 0, .slice none 0 0] 24)) := ((Below.refl _ _).alloc (Nat.le_refl _) _).alloc (by simp only [World.size_alloc]; omega) _
  have HC := check_any wy pn sz ks kv _ (kat_below hk kb) hcnt
  rw [hc] at HC
  have HW := fun V => isWay_any way V
  rw [decide_eq_true hw] at HW
  obtain ⟨h1, h2⟩ := chk_ok hc
  have HP := fun V (hV : KAt V kv ks) => panes_any (ks.cnt + 1) wy pn sz ks kv V (Nat.lt_succ_self _) hcnt (h1.imp id And.right) (Ok.rt ks h2) hV
  rw [show (if wy = 0 then [pn] else pnF ks) = panesOf wy pn ks from rfl] at HP
  have hlen : (panesOf wy pn ks).length ≤ 2000001 := by
    unfold panesOf
    have := pnF_len ks
    split
    · simp
    · omega
  have HK : Hid (∀ V, Below w.heap.size w V → KAt V kv ks) := fun V hV => kat_below hk hV
  rw [hl] at HP hlen
  clear hk hc h1 h2 hw
  go_enter Tryd.func36, Tryd.ntmps36
  go_wp2_with fail
  refine HC.mono ?_
  rintro e W1 ⟨rfl, b1⟩
  have t1 := (b1.block _ (Array.getElem?_eq_some_iff.1 hl1).1).trans hl1
  have r1 := (b1.block _ (Array.getElem?_eq_some_iff.1 hl2).1).trans hl2
  have k1 := kb.trans (b1.mono kb.size)
  obtain ⟨⟨c0, c1, c2, c3⟩, _⟩ := four_at t1
  obtain ⟨⟨d0, d1, d2, d3⟩, _⟩ := four_at r1
  have fr1 : ∀ i, W1.frozen? ⟨w.heap.size + 1, i, none⟩ = false := fun i => by simp only [World.frozen?, r1]; rfl
  clear HC kb b1 hl1 hl2
  go_wp2_with fail
  refine (HW _).mono ?_
  rintro e W2 ⟨rfl, hW2⟩
  obtain rfl := hW2.symm
  go_wp2_with fail
  refine (HP _ (HK.out _ k1)).mono ?_
  rintro e W3 ⟨v3, rfl, o3, b3⟩
  have k3 := k1.trans (b3.mono k1.size)
  have r3 := (b3.block _ (Array.getElem?_eq_some_iff.1 r1).1).trans r1
  have HLV := leaves_any _ v3 W3 o3.sl (by simp)
  have hn3 : w.heap.size + 1 < W3.heap.size := (Array.getElem?_eq_some_iff.1 r3).1
  clear HP b3 o3 t1 r1 k1 c0 c1 c2 c3 d0 d1 d2 d3 fr1
  go_wp2_with fail
  refine HLV.mono ?_
  rintro e W4 ⟨v4, rfl, o4, b4⟩
  have k4 := k3.trans (b4.mono k3.size)
  have r4 := (b4.block _ (Array.getElem?_eq_some_iff.1 r3).1).trans r3
  obtain ⟨⟨d0, d1, d2, d3⟩, _⟩ := four_at r4
  have fr4 : ∀ i, W4.frozen? ⟨w.heap.size + 1, i, none⟩ = false := fun i => by simp only [World.frozen?, r4]; rfl
  have hlow := o4.low
  clear HLV b4 k3 r3 HK
  rcases o4.2 with ⟨_, h⟩ | ⟨g, cap, cur, rfl, hg, hh, hcc, _, hs, ht⟩
  · simp at h
  have cell : ∀ j u, j < 4 → (lfc p)[j]? = some u → W4.cell? ⟨g, j, none⟩ = some u := fun j u hj hu => by
    have e1 : ([p] : List Int).flatMap lfc = lfc p := by simp
    rw [e1] at ht
    unfold World.cell?
    rw [hh]
    rw [← ht, List.getElem?_take_of_lt (by simpa using hj)] at hu
    simpa using hu
  have g0 := cell 0 _ (by decide) rfl
  have g1 := cell 1 _ (by decide) rfl
  have g2 := cell 2 _ (by decide) rfl
  have g3 := cell 3 _ (by decide) rfl
  have v5 := set4_same (.int .i64 0) (.int .i64 p) (.int .i64 1) (.slice none 0 0) r4
  have k5 := set4_below (.int .i64 0) (.int .i64 p) (.int .i64 1) (.slice none 0 0) k4 (Nat.le_succ w.heap.size)
  unfold set4 at v5 k5
  clear k4 r4 o4 hlow hh ht cell hs
  go_wp2_with fail
  obtain ⟨⟨y0, y1, y2, y3⟩, _⟩ := four_at v5
  refine bodyPost_ret (v := .tuple #[.agg #[.int .i64 0, .int .i64 p, .int .i64 1, .slice none 0 0], .int .i64 0]) ?_ rfl ⟨rfl, k5⟩
  simp [results, Tryd.results36, go_sem, y0, y1, y2, y3]
set_option maxHeartbeats 4000000 in
set_option maxRecDepth 100000 in
theorem Even_many (wy pn sz : Int) (ks : Fo) (kv : Value) (way : Int) (w : World) (hk : KAt w kv ks) (hcnt : ks.cnt ≤ 2000000) (hc : (chk (cons wy pn sz ks nil)).1 = 0) (hw : way = 1 ∨ way = 2) (hl : (panesOf wy pn ks).length ≠ 1) :
    Calls Tryd.prog 36 #[.agg #[.int .i64 wy, .int .i64 pn, .int .i64 sz, kv], .int .i64 way] w fun e w' => ∃ v, e = .returned (.tuple #[.agg #[.int .i64 way, .int .i64 0, .int .i64 1, v], .int .i64 0]) ∧ KAt w' v (lfF (panesOf wy pn ks)) ∧ Below w.heap.size w w' := by
  have hl2 := heap_alloc2_new w (.cells #[.int .i64 wy, .int .i64 pn, .int .i64 sz, kv] 24) (.cells #[.int .i64 0, .int .i64 0, .int .i64 0, .slice none 0 0] 24)
  have hl1 := heap_alloc2_old w (.cells #[.int .i64 wy, .int .i64 pn, .int .i64 sz, kv] 24) (.cells #[.int .i64 0, .int .i64 0, .int .i64 0, .slice none 0 0] 24)
  have kb : Below w.heap.size w ((w.alloc (.cells #[.int .i64 wy, .int .i64 pn, .int .i64 sz, kv] 24)).alloc (.cells #[.int .i64 0, .int .i64 0, .int .i64 0, .slice none 0 0] 24)) := ((Below.refl _ _).alloc (Nat.le_refl _) _).alloc (by simp only [World.size_alloc]; omega) _
  have HC := check_any wy pn sz ks kv _ (kat_below hk kb) hcnt
  rw [hc] at HC
  have HW := fun V => isWay_any way V
  rw [decide_eq_true hw] at HW
  obtain ⟨h1, h2⟩ := chk_ok hc
  have HP := fun V (hV : KAt V kv ks) => panes_any (ks.cnt + 1) wy pn sz ks kv V (Nat.lt_succ_self _) hcnt (h1.imp id And.right) (Ok.rt ks h2) hV
  rw [show (if wy = 0 then [pn] else pnF ks) = panesOf wy pn ks from rfl] at HP
  have hlen : (panesOf wy pn ks).length ≤ 2000001 := by
    unfold panesOf
    have := pnF_len ks
    split
    · simp
    · omega
  have HK : Hid (∀ V, Below w.heap.size w V → KAt V kv ks) := fun V hV => kat_below hk hV
  obtain ⟨L, hL⟩ : ∃ L, panesOf wy pn ks = L := ⟨_, rfl⟩
  rw [hL] at HP hlen hl ⊢
  have il : ¬ (L.length : Int) = 1 := by omega
  have ilb : ((L.length : Int) == 1) = false := beq_eq_false_iff_ne.2 il
  have hcn : ks.cnt ≤ 2000000 := hcnt
  have hL9 : L.length ≤ 2000000 := by
    rw [← hL]
    unfold panesOf
    have := pnF_len ks
    split
    · simp
    · omega
  clear hL
  clear hk hc h1 h2 hw
  go_enter Tryd.func36, Tryd.ntmps36
  go_wp2_with fail
  refine HC.mono ?_
  rintro e W1 ⟨rfl, b1⟩
  have t1 := (b1.block _ (Array.getElem?_eq_some_iff.1 hl1).1).trans hl1
  have r1 := (b1.block _ (Array.getElem?_eq_some_iff.1 hl2).1).trans hl2
  have k1 := kb.trans (b1.mono kb.size)
  obtain ⟨⟨c0, c1, c2, c3⟩, _⟩ := four_at t1
  obtain ⟨⟨d0, d1, d2, d3⟩, _⟩ := four_at r1
  have fr1 : ∀ i, W1.frozen? ⟨w.heap.size + 1, i, none⟩ = false := fun i => by simp only [World.frozen?, r1]; rfl
  clear HC kb b1 hl1 hl2
  go_wp2_with fail
  refine (HW _).mono ?_
  rintro e W2 ⟨rfl, hW2⟩
  obtain rfl := hW2.symm
  go_wp2_with fail
  refine (HP _ (HK.out _ k1)).mono ?_
  rintro e W3 ⟨v3, rfl, o3, b3⟩
  have k3 := k1.trans (b3.mono k1.size)
  have r3 := (b3.block _ (Array.getElem?_eq_some_iff.1 r1).1).trans r1
  have HLV := leaves_any _ v3 W3 o3.sl hL9
  have hn3 : w.heap.size + 1 < W3.heap.size := (Array.getElem?_eq_some_iff.1 r3).1
  clear HP b3 o3 t1 r1 k1 c0 c1 c2 c3 d0 d1 d2 d3 fr1
  go_wp2_with fail
  refine HLV.mono ?_
  rintro e W4 ⟨v4, rfl, o4, b4⟩
  have k4 := k3.trans (b4.mono k3.size)
  have r4 := (b4.block _ (Array.getElem?_eq_some_iff.1 r3).1).trans r3
  obtain ⟨⟨d0, d1, d2, d3⟩, _⟩ := four_at r4
  have fr4 : ∀ i, W4.frozen? ⟨w.heap.size + 1, i, none⟩ = false := fun i => by simp only [World.frozen?, r4]; rfl
  have hlow := o4.low
  clear HLV b4 k3 r3 HK
  obtain ⟨a4, c4, hv4⟩ : ∃ a c, v4 = .slice a L.length c := by
    rcases o4.2 with ⟨h, h0⟩ | ⟨g, cap, _, h, _⟩
    · exact ⟨none, 0, by rw [h, h0]⟩
    · exact ⟨_, _, h⟩
  subst hv4
  have v5 := set4_same (.int .i64 way) (.int .i64 0) (.int .i64 1) (.slice a4 L.length c4) r4
  have k5 := set4_below (.int .i64 way) (.int .i64 0) (.int .i64 1) (.slice a4 L.length c4) k4 (Nat.le_succ w.heap.size)
  have h5 := (set4_kat (.int .i64 way) (.int .i64 0) (.int .i64 1) (.slice a4 L.length c4) hlow hn3).whole
  unfold set4 at v5 k5 h5
  clear k4 r4 o4 hlow
  go_wp2_with fail
  obtain ⟨⟨y0, y1, y2, y3⟩, _⟩ := four_at v5
  refine bodyPost_ret (v := .tuple #[.agg #[.int .i64 way, .int .i64 0, .int .i64 1, .slice a4 L.length c4], .int .i64 0]) ?_ rfl ⟨_, rfl, h5, k5⟩
  simp [results, Tryd.results36, go_sem, y0, y1, y2, y3]
end Spl
end Go.Proofs.YtckkbmgdaplaaaaDoor

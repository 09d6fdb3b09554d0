/- The law CopyFinds. -/
import Derived.Test.YtibkkekoaddopaaDoorCpyFindsM
import Derived.Test.YtibkkekoaddopaaDoorCpyCopied
import Derived.Test.YtibkkekoaddopaaDoorTextCleanOf
namespace Go.Proofs.YtibkkekoaddopaaDoor
open Go.ChangeShapes Go.WideShapes Go.ChangeAt Go.RowKit Go.Maps Go.Sort
namespace Cpy
open Txt (Tab bs)
set_option maxHeartbeats 16000000 in
set_option maxRecDepth 100000 in
theorem copyFinds_walk (L : List ByteArray) (v : Value) (k : Cp) (s : ByteArray) (w : World) (h : LsAt w v L) (hT : Tab w) (hM : MaxAt w) :
    Calls Tryd.prog 7 #[v, .agg k.cells, .string s] w fun e w' => e = .returned (.bool true) ∧ Below w.heap.size w w' := by
  have kb : Below w.heap.size w (w.alloc (.cells k.cells 26)) := (Below.refl _ _).alloc (Nat.le_refl _) _
  have Y0 : BoxAt (w.alloc (.cells k.cells 26)) w.heap.size k := heap_alloc_new w (.cells k.cells 26)
  have HLS : Hid (∀ V, Below w.heap.size w V → LsAt V v L) := fun V hV => h.below hV
  have HTB : Hid (∀ V, Below w.heap.size w V → Tab V) := fun V hV => hT.below hV hT.pos
  have HMB : Hid (∀ V, Below w.heap.size w V → MaxAt V) := fun V hV => hM.below hV
  have H1 : Calls Tryd.prog 19 #[v, .agg k.cells, .string s] (w.alloc (.cells k.cells 26)) fun er w' => er = .returned (.tuple #[.agg (fX L k s).cells, .int .i64 (fE L k s)]) ∧ Below (w.alloc (.cells k.cells 26)).heap.size (w.alloc (.cells k.cells 26)) w' :=
    seek_any L v k (seekCK L k s) s (seekCE L k s) _ (HLS.out _ kb) (fun hc => seek_how L v k s _ (HTB.out _ kb) (HMB.out _ kb) hc)
  have HC := fun V (hV : Below w.heap.size w V) => copied_any V (HTB.out V hV) (HMB.out V hV)
  have HF := finds_ok L k s
  have HS4 : fE L k s = 0 → s.size ≤ 4000 := by
    intro he
    by_cases hs : 4000 < s.size
    · exfalso
      unfold fE chgE at he
      by_cases hc : chk L k = 0
      · rw [if_pos hc] at he
        unfold seekCE at he
        rw [if_pos (.inl hs)] at he
        cases he
      · rw [if_neg hc] at he; exact hc he
    · omega
  obtain ⟨a, c, rfl, _⟩ := h
  generalize fX L k s = X at *
  generalize fE L k s = e1 at *
  obtain ⟨⟨c0, c1, c2, c3, c4⟩, _⟩ := Y0.cells
  obtain ⟨kx, ky, kfx, kfy, kon⟩ := k
  by_cases he : e1 = 0
  · subst he
    have hs4 := HS4 rfl
    have HCL := fun V => Txt.cleanOf_any s V (by omega)
    by_cases hx : X.x < 120
    · obtain ⟨q1, q2, q3, q4⟩ := HF rfl hx
      have H2 := fun V (hV : LsAt V (.slice a L.length c) L) => select_any L (.slice a L.length c) X true V hV
      rw [q1] at H2
      rw [show chgK 0 0 (selK X true) = fY X from rfl, show chgE 0 0 = 0 from rfl] at H2
      have H3 := fun V (hV : LsAt V (.slice a L.length c) L) (ht : Tab V) => move_any L (.slice a L.length c) (fY X) (endK L (fY X)) ⟨#[101, 110, 100]⟩ 0 V hV (fun hc => end_how L _ (fY X) V ht hc)
      rw [q2] at H3
      rw [show chgK 0 0 (endK L (fY X)) = fZ L (fY X) from rfl, show chgE 0 0 = 0 from rfl] at H3
      have H4 := fun V (hV : LsAt V (.slice a L.length c) L) (ht : Tab V) => take_any L (.slice a L.length c) (fZ L (fY X)) V hV ht
      have HPX := fun V => Tryd.strings_HasPrefix (takeT L (fZ L (fY X))) (bs (Txt.cleanL (Txt.runes s))) V
      generalize takeT L (fZ L (fY X)) = T at *
      generalize takeE L (fZ L (fY X)) = e4 at *
      generalize fZ L (fY X) = Zp at *
      generalize fY X = Yp at *
      have hxx : ¬ (120 : Int) ≤ X.x := by omega
      obtain ⟨x1, x2, x3, x4, x5⟩ := X
      obtain ⟨y1, y2, y3, y4, y5⟩ := Yp
      obtain ⟨z1, z2, z3, z4, z5⟩ := Zp
      have HQ : Hid (e4 = 10 ∨ e4 = 0 ∧ (120 ≤ z1 ∨ E (what s) <+: T.data.toList)) := q4
      simp only [Cp.cells] at *
      clear q1 q2 q3 q4 HF HS4 hs4
      go_enter Tryd.func7, Tryd.ntmps7
      go_wp2_with fail
      refine H1.mono ?_
      rintro e W1 ⟨rfl, b1⟩
      have k1 := kb.trans (b1.mono kb.size)
      have kA : Below W1.heap.size W1 (W1.alloc (.cells #[.int .i64 x1, .int .i64 x2, .int .i64 x3, .int .i64 x4, .bool x5] 26)) := (Below.refl _ _).alloc (Nat.le_refl _) _
      have X1 : BoxAt (W1.alloc (.cells #[.int .i64 x1, .int .i64 x2, .int .i64 x3, .int .i64 x4, .bool x5] 26)) W1.heap.size ⟨x1, x2, x3, x4, x5⟩ := heap_alloc_new W1 (.cells #[.int .i64 x1, .int .i64 x2, .int .i64 x3, .int .i64 x4, .bool x5] 26)
      have k2 := k1.trans (kA.mono k1.size)
      clear H1 c0 c1 c2 c3 c4 kA
      go_wp2_with fail
      refine (HC _ k2).mono ?_
      rintro e W2 ⟨rfl, b2⟩
      have k3 := k2.trans (b2.mono k2.size)
      obtain ⟨⟨d0, d1, d2, d3, d4⟩, _⟩ := (X1.below b2).cells
      simp only [] at d0 d1 d2 d3 d4
      clear X1 b2 HC
      go_wp2_with fail
      refine (H2 _ (HLS.out _ k3)).mono ?_
      rintro e W3 ⟨rfl, b3⟩
      have k4 := k3.trans (b3.mono k3.size)
      have kA : Below W3.heap.size W3 (W3.alloc (.cells #[.int .i64 y1, .int .i64 y2, .int .i64 y3, .int .i64 y4, .bool y5] 26)) := (Below.refl _ _).alloc (Nat.le_refl _) _
      have X2 : BoxAt (W3.alloc (.cells #[.int .i64 y1, .int .i64 y2, .int .i64 y3, .int .i64 y4, .bool y5] 26)) W3.heap.size ⟨y1, y2, y3, y4, y5⟩ := heap_alloc_new W3 (.cells #[.int .i64 y1, .int .i64 y2, .int .i64 y3, .int .i64 y4, .bool y5] 26)
      have k5 := k4.trans (kA.mono k4.size)
      obtain ⟨⟨f0, f1, f2, f3, f4⟩, _⟩ := X2.cells
      simp only [] at f0 f1 f2 f3 f4
      clear H2 d0 d1 d2 d3 d4 kA
      go_wp2_with fail
      refine (H3 _ (HLS.out _ k5) (HTB.out _ k5)).mono ?_
      rintro e W4 ⟨rfl, b4⟩
      have k6 := k5.trans (b4.mono k5.size)
      have kA : Below W4.heap.size W4 (W4.alloc (.cells #[.int .i64 z1, .int .i64 z2, .int .i64 z3, .int .i64 z4, .bool z5] 26)) := (Below.refl _ _).alloc (Nat.le_refl _) _
      have X3 : BoxAt (W4.alloc (.cells #[.int .i64 z1, .int .i64 z2, .int .i64 z3, .int .i64 z4, .bool z5] 26)) W4.heap.size ⟨z1, z2, z3, z4, z5⟩ := heap_alloc_new W4 (.cells #[.int .i64 z1, .int .i64 z2, .int .i64 z3, .int .i64 z4, .bool z5] 26)
      have k7 := k6.trans (kA.mono k6.size)
      obtain ⟨⟨g0, g1, g2, g3, g4⟩, _⟩ := X3.cells
      simp only [] at g0 g1 g2 g3 g4
      clear H3 f0 f1 f2 f3 f4 kA
      go_wp2_with fail
      refine (H4 _ (HLS.out _ k7) (HTB.out _ k7)).mono ?_
      rintro e W5 ⟨rfl, b5⟩
      have k8 := k7.trans (b5.mono k7.size)
      obtain ⟨⟨m0, m1, m2, m3, m4⟩, _⟩ := (X3.below b5).cells
      simp only [] at m0 m1 m2 m3 m4
      clear H4 g0 g1 g2 g3 g4
      rcases HQ.out with rfl | ⟨rfl, hz | hp⟩
      · go_wp2_with fail
        go_ret
        exact ⟨rfl, k8⟩
      · go_wp2_with fail
        go_ret
        exact ⟨rfl, k8⟩
      · have hpx : Lib.hasPrefix T.data.toList (bs (Txt.cleanL (Txt.runes s))).data.toList = true := by
          rw [bs_data, clean_E]
          exact List.isPrefixOf_iff_prefix.2 hp
        rw [hpx] at HPX
        by_cases hz : (120 : Int) ≤ z1
        · go_wp2_with fail
          go_ret
          exact ⟨rfl, k8⟩
        · go_wp2_with fail
          refine (HCL _).mono ?_
          rintro e W6 ⟨rfl, b6⟩
          have k9 := k8.trans (b6.mono k8.size)
          go_wp2_with fail
          refine (HPX _).mono ?_
          rintro e W7 ⟨rfl, rfl⟩
          go_wp2_with fail
          go_ret
          exact ⟨rfl, k9⟩
    · have hxx : (120 : Int) ≤ X.x := by omega
      obtain ⟨x1, x2, x3, x4, x5⟩ := X
      simp only [Cp.cells] at *
      clear HF HS4 hs4 HCL hx
      go_enter Tryd.func7, Tryd.ntmps7
      go_wp2_with fail
      refine H1.mono ?_
      rintro e W1 ⟨rfl, b1⟩
      have k1 := kb.trans (b1.mono kb.size)
      have kA : Below W1.heap.size W1 (W1.alloc (.cells #[.int .i64 x1, .int .i64 x2, .int .i64 x3, .int .i64 x4, .bool x5] 26)) := (Below.refl _ _).alloc (Nat.le_refl _) _
      have X1 : BoxAt (W1.alloc (.cells #[.int .i64 x1, .int .i64 x2, .int .i64 x3, .int .i64 x4, .bool x5] 26)) W1.heap.size ⟨x1, x2, x3, x4, x5⟩ := heap_alloc_new W1 (.cells #[.int .i64 x1, .int .i64 x2, .int .i64 x3, .int .i64 x4, .bool x5] 26)
      have k2 := k1.trans (kA.mono k1.size)
      clear H1 c0 c1 c2 c3 c4 kA
      go_wp2_with fail
      refine (HC _ k2).mono ?_
      rintro e W2 ⟨rfl, b2⟩
      have k3 := k2.trans (b2.mono k2.size)
      obtain ⟨⟨d0, d1, d2, d3, d4⟩, _⟩ := (X1.below b2).cells
      simp only [] at d0 d1 d2 d3 d4
      clear X1 b2
      go_wp2_with fail
      refine (HC _ k3).mono ?_
      rintro e W3 ⟨rfl, b3⟩
      have k4 := k3.trans (b3.mono k3.size)
      go_wp2_with fail
      go_ret
      exact ⟨rfl, k4⟩
  · have je : (e1 == 0) = false := by rw [beq_eq_false_iff_ne]; exact he
    have jn : (e1 != 0) = true := by rw [bne, je]; rfl
    obtain ⟨x1, x2, x3, x4, x5⟩ := X
    simp only [Cp.cells] at *
    clear HF HS4
    go_enter Tryd.func7, Tryd.ntmps7
    go_wp2_with fail
    refine H1.mono ?_
    rintro e W1 ⟨rfl, b1⟩
    have k1 := kb.trans (b1.mono kb.size)
    have kA : Below W1.heap.size W1 (W1.alloc (.cells #[.int .i64 x1, .int .i64 x2, .int .i64 x3, .int .i64 x4, .bool x5] 26)) := (Below.refl _ _).alloc (Nat.le_refl _) _
    have k2 := k1.trans (kA.mono k1.size)
    clear H1 c0 c1 c2 c3 c4 kA
    go_wp2_with fail
    refine (HC _ k2).mono ?_
    rintro e W2 ⟨rfl, b2⟩
    have k3 := k2.trans (b2.mono k2.size)
    go_wp2_with fail
    refine (HC _ k3).mono ?_
    rintro e W3 ⟨rfl, b3⟩
    have k4 := k3.trans (b3.mono k3.size)
    go_wp2_with fail
    go_ret
    exact ⟨rfl, k4⟩
end Cpy
end Go.Proofs.YtibkkekoaddopaaDoor

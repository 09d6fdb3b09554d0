/- The law's own copy of a split: ownSplit, walked. -/
import Derived.Test.YtckkbmgdaplaaaaDoorSplOwn
import Derived.Test.YtckkbmgdaplaaaaDoorSplShr
namespace Go.Proofs.YtckkbmgdaplaaaaDoor
open Go.ChangeShapes Go.WideShapes Go.ChangeAt Go.RowKit Go.Maps Go.Sort
namespace Spl
open Fo
set_option maxHeartbeats 16000000 in
set_option maxRecDepth 100000 in
theorem own_rec : ∀ (n : Nat) (wy pn sz : Int) (ks : Fo) (kv : Value) (w : World), ks.cnt < n → ks.cnt ≤ 2000000 → KAt w kv ks →
    Calls Tryd.prog 10 #[.agg #[.int .i64 wy, .int .i64 pn, .int .i64 sz, kv]] w fun e w' => ∃ kv', e = .returned (.agg #[.int .i64 wy, .int .i64 pn, .int .i64 sz, kv']) ∧ KAt (low w' w.heap.size) kv' ks ∧ Below w.heap.size w w'
  | 0, _, _, _, _, _, _, h, _, _ => absurd h (Nat.not_lt_zero _)
  | n + 1, wy, pn, sz, ks, kv, w, hn, hcnt, hk => by
    have IH := own_rec n
    obtain ⟨i0, hi, hzz⟩ := Option.map_eq_some_iff.1 sp_info
    simp only [Prod.mk.injEq] at hzz
    obtain ⟨hz0, hz1, hz2⟩ := hzz
    obtain ⟨ka, kc, rfl, hkle, hkk⟩ := hk
    obtain ⟨b, o, hao, hf⟩ : ∃ b o, (ks = nil ∨ ka = some ⟨b, o, none⟩) ∧ FoAt w ks b o := by
      rcases hkk with h | ⟨b, o, h, hf⟩
      · exact ⟨0, 0, .inl h, by rw [h]; trivial⟩
      · exact ⟨b, o, .inr h, hf⟩
    have hl2 := heap_alloc2_new w (.cells #[.int .i64 wy, .int .i64 pn, .int .i64 sz, .slice none 0 0] 24) (.cells #[.int .i64 0, .int .i64 0, .int .i64 0, .slice none 0 0] 24)
    have hl1 := heap_alloc2_old w (.cells #[.int .i64 wy, .int .i64 pn, .int .i64 sz, .slice none 0 0] 24) (.cells #[.int .i64 0, .int .i64 0, .int .i64 0, .slice none 0 0] 24)
    have kb : Below w.heap.size w ((w.alloc (.cells #[.int .i64 wy, .int .i64 pn, .int .i64 sz, .slice none 0 0] 24)).alloc (.cells #[.int .i64 0, .int .i64 0, .int .i64 0, .slice none 0 0] 24)) := ((Below.refl _ _).alloc (Nat.le_refl _) _).alloc (by simp only [World.size_alloc]; omega) _
    have hsz0 : ((w.alloc (.cells #[.int .i64 wy, .int .i64 pn, .int .i64 sz, .slice none 0 0] 24)).alloc (.cells #[.int .i64 0, .int .i64 0, .int .i64 0, .slice none 0 0] 24)).heap.size = w.heap.size + 1 + 1 := by simp only [World.size_alloc]
    have HF0 : Hid (FoAt w ks b o) := hf
    have HAO : Hid (ks = nil ∨ ka = some ⟨b, o, none⟩) := hao
    have hlc := len_le_cnt ks
    clear hf hkk hao
    go_enter Tryd.func10, Tryd.ntmps10
    go_wp2_with fail
    generalize (w.alloc (.cells #[.int .i64 wy, .int .i64 pn, .int .i64 sz, .slice none 0 0] 24)).alloc (.cells #[.int .i64 0, .int .i64 0, .int .i64 0, .slice none 0 0] 24) = V at *
    have row0 : RowAt V (w.heap.size + 1 + 1) w.heap.size (.slice none 0 0) [] nil := ⟨World.ownsRow_nil _ _ _ _, trivial, by intro e; cases e⟩
    have hV1 : w.heap.size + 1 < V.heap.size := by omega
    clear hsz0
    go_loopg [11] ks.len (fun g v11 wr => ∃ (i : Nat) (rs : Fo) (L : List (Int × Int × Int × Value)) (f : Fo) (v : Value), v11 = .int .i64 (i : Int) ∧ i + rs.len = ks.len ∧ rs.len ≤ g ∧ rs.cnt ≤ ks.cnt ∧ FoAt w rs b (o + i * 4) ∧ RowAt wr (w.heap.size + 1 + 1) w.heap.size v L f ∧ f.app rs = ks ∧ wr.heap[w.heap.size]? = some (.cells #[.int .i64 wy, .int .i64 pn, .int .i64 sz, v] 24 (0, 0)) ∧ wr.heap[w.heap.size + 1]? = some (.cells #[.int .i64 0, .int .i64 0, .int .i64 0, .slice none 0 0] 24 (0, 0)) ∧ Below w.heap.size w wr ∧ w.heap.size + 1 < wr.heap.size)
    case atStart => exact ⟨0, ks, [], nil, _, rfl, by omega, Nat.le_refl _, Nat.le_refl _, by simpa using HF0.out, row0, rfl, hl1, hl2, kb, hV1⟩
    case round =>
      obtain ⟨i, rs, L, f, v, rfl, hil, hg, hrc, hfo, row, hfr, eX, e4, hbel, hszr⟩ := hrel
      clear row0 hV1 hl1 hl2 kb HF0
      obtain ⟨vs, vc, rfl⟩ : ∃ (a : Option Addr) (c : Nat), v = .slice a L.length c := by
        rcases row.1.2 with ⟨h, h0⟩ | ⟨g, cap, _, h, _⟩
        · exact ⟨none, 0, by rw [h, h0]⟩
        · exact ⟨_, _, h⟩
      cases hrs : rs with
      | nil =>
        rw [hrs] at hil hfr
        have iex : ¬ (i : Int) < (ks.len : Int) := by simp only [len] at hil; omega
        obtain rfl : f = ks := by rw [← hfr, app_nil]
        obtain ⟨⟨x0, x1, x2, x3⟩, _⟩ := four_at eX
        obtain ⟨⟨z0, z1, z2, z3⟩, _⟩ := four_at e4
        have fr4 : ∀ i, wr.frozen? ⟨w.heap.size + 1, i, none⟩ = false := fun i => by simp only [World.frozen?, e4]; rfl
        have v5 := set4_same (.int .i64 wy) (.int .i64 pn) (.int .i64 sz) (.slice vs L.length vc) e4
        have k5 := set4_below (.int .i64 wy) (.int .i64 pn) (.int .i64 sz) (.slice vs L.length vc) hbel (Nat.le_succ w.heap.size)
        have h5 := (set4_kat (.int .i64 wy) (.int .i64 pn) (.int .i64 sz) (.slice vs L.length vc) row.kat (Nat.lt_succ_self (w.heap.size + 1))).down (show w.heap.size ≤ w.heap.size + 1 + 1 by omega)
        have HE : Hid (_ ∧ _ ∧ _) := ⟨v5, k5, h5⟩
        unfold set4 at HE
        clear row hfr eX e4 hbel hfo IH v5 k5 h5 HAO
        go_wp2_with fail
        obtain ⟨v5, k5, h5⟩ := HE.out
        exact bodyPost_ret (v := .agg #[.int .i64 wy, .int .i64 pn, .int .i64 sz, .slice vs L.length vc]) (results_cell_row rfl _ _ (w.heap.size + 1) _ _ _ _ rfl v5 Tryd.underlying24 rfl (by kernel_rfl)) rfl ⟨_, rfl, h5, k5⟩
      | cons wy2 pn2 sz2 k2 rs2 =>
        rw [hrs] at hil hg hrc hfr hfo
        obtain ⟨kv', h0, h1, h2, h3, hk', hr'⟩ := hfo.head
        simp only [len] at hil hg
        simp only [cnt] at hrc
        obtain rfl : ka = some ⟨b, o, none⟩ := by
          rcases HAO.out with h | h
          · rw [h] at hil; simp [len] at hil
          · exact h
        have hck := CK.below hbel
        have y0 := hck _ _ _ h0
        have y1 := hck _ _ _ h1
        have y2 := hck _ _ _ h2
        have y3 := hck _ _ _ h3
        have HKW : Hid (KAt w kv' k2) := hk'
        obtain ⟨ka', kc', rfl, hkle', _⟩ := hk'
        have iin : (i : Int) < (ks.len : Int) := by omega
        have HR' : Hid (FoAt w rs2 b (o + (i + 1) * 4)) := by
          unfold Hid
          rw [show o + (i + 1) * 4 = o + i * 4 + 4 by omega]
          exact hr'
        have kA : Below wr.heap.size wr (wr.alloc (.cells #[.int .i64 wy2, .int .i64 pn2, .int .i64 sz2, .slice ka' k2.len kc'] 24)) := (Below.refl _ _).alloc (Nat.le_refl _) _
        have eN := heap_alloc_new wr (.cells #[.int .i64 wy2, .int .i64 pn2, .int .i64 sz2, .slice ka' k2.len kc'] 24)
        have row3 := row.but (But.of_below (M := w.heap.size) kA) (by omega)
        have eX3 := (kA.block _ (Array.getElem?_eq_some_iff.1 eX).1).trans eX
        have e43 := (kA.block _ (Array.getElem?_eq_some_iff.1 e4).1).trans e4
        have k3 := hbel.trans (kA.mono hbel.size)
        have hs3 : (wr.alloc (.cells #[.int .i64 wy2, .int .i64 pn2, .int .i64 sz2, .slice ka' k2.len kc'] 24)).heap.size = wr.heap.size + 1 := by rw [World.size_alloc]
        have hX3l : w.heap.size + 1 < (wr.alloc (.cells #[.int .i64 wy2, .int .i64 pn2, .int .i64 sz2, .slice ka' k2.len kc'] 24)).heap.size := by omega
        have HC := fun W (hW : KAt W (.slice ka' k2.len kc') k2) => IH wy2 pn2 sz2 k2 (.slice ka' k2.len kc') W (by omega) (by omega) hW
        have hfl : L.length ≤ 2000000 := by
          have h8 := Reads.len L f row.2.1
          have h9 := app_len f (cons wy2 pn2 sz2 k2 rs2)
          rw [hfr] at h9
          omega
        clear row eX e4 hbel hfo hr' h0 h1 h2 h3 hck IH hrs
        go_wp2_with fail
        generalize wr.alloc (.cells #[.int .i64 wy2, .int .i64 pn2, .int .i64 sz2, .slice ka' k2.len kc'] 24) = W3 at *
        generalize hKB : wr.heap.size = KB at *
        clear hKB hs3 kA y0 y1 y2 y3
        have HP2 := HC W3.drew (KAt.ck (CK.below (k3.drew)) HKW.out)
        obtain ⟨⟨d0, d1, d2, d3⟩, _⟩ := four_at eN
        have m0 : W3.drew.cell? ⟨KB, 0, none⟩ = _ := d0
        have m1 : W3.drew.cell? ⟨KB, 1, none⟩ = _ := d1
        have m2 : W3.drew.cell? ⟨KB, 2, none⟩ = _ := d2
        have m3 : W3.drew.cell? ⟨KB, 3, none⟩ = _ := d3
        have xc := (four_at eX3).1.2.2.2
        have xc' : W3.drew.cell? ⟨w.heap.size, 3, none⟩ = some (.slice vs L.length vc) := xc
        have hnX3 : w.heap.size < W3.heap.size := by omega
        clear eN HC
        go_region_law (first
          | (refine step_go rfl 10 #[.agg #[.int .i64 wy2, .int .i64 pn2, .int .i64 sz2, .slice ka' k2.len kc']] (by go_simp) _ HP2 ?_
             rintro e W4 ⟨kv2, rfl, hkv2, bW4⟩
             obtain ⟨ka2, kc2, rfl, _⟩ := id hkv2
             refine ⟨_, rfl, ?_⟩
             have b4 : Below W3.heap.size W3 W4 := ⟨bW4.os, bW4.tape, bW4.output, bW4.size, bW4.block⟩
             have row4 := row3.but (But.of_below (M := w.heap.size) b4) (by omega)
             have eX4 := (b4.block _ hnX3).trans eX3
             have xcs := (four_at eX4).1.2.2.2
             have own4 := World.ownsRow.alloc row4.1 (.cells #[.int .i64 wy2, .int .i64 pn2, .int .i64 sz2, .slice ka2 k2.len kc2] 24)
             have hnk := cells_of_row (L := [.int .i64 wy2, .int .i64 pn2, .int .i64 sz2, .slice ka2 k2.len kc2]) (heap_alloc_new W4 (.cells #[.int .i64 wy2, .int .i64 pn2, .int .i64 sz2, .slice ka2 k2.len kc2] 24))
             have hX4 : w.heap.size < W4.heap.size := (Array.getElem?_eq_some_iff.1 eX4).1
             have szA : (W4.alloc (.cells #[.int .i64 wy2, .int .i64 pn2, .int .i64 sz2, .slice ka2 k2.len kc2] 24)).heap.size = W4.heap.size + 1 := by rw [World.size_alloc]
             have hXa : w.heap.size < (W4.alloc (.cells #[.int .i64 wy2, .int .i64 pn2, .int .i64 sz2, .slice ka2 k2.len kc2] 24)).heap.size := by omega
             have hbs : w.heap.size + 1 + 1 ≤ (W4.alloc (.cells #[.int .i64 wy2, .int .i64 pn2, .int .i64 sz2, .slice ka2 k2.len kc2] 24)).heap.size := by have := b4.size; omega
             have eXa := (old_at W4 (.cells #[.int .i64 wy2, .int .i64 pn2, .int .i64 sz2, .slice ka2 k2.len kc2] 24) w.heap.size hX4).trans eX4
             have hne4 : some w.heap.size ≠ (Value.slice vs L.length vc).ownBlock := fun e => row4.2.2 e.symm)
          | (refine step_app_at rfl (.tmp 16) (.tmp 19) 22 rfl (w.heap.size + 1 + 1) 24 i0 (.agg #[.int .i64 0, .int .i64 0, .int .i64 0, .slice none 0 0]) 4 48 sp_und hi hz0 hz1 hz2 rfl (by decide) _ L.length (L.flatMap trc) (by simp [Act.eval]) own4 ⟨W4.heap.size, 0, none⟩ 1 1 [.int .i64 wy2, .int .i64 pn2, .int .i64 sz2, .slice ka2 k2.len kc2] (by simp [Act.eval]) rfl hnk (by intro u hu; simp at hu; rcases hu with rfl | rfl | rfl | rfl <;> rfl) (by unfold maxLen; omega) (by omega) hbs ?_
             intro v5 W5 hown5 hgrow5 hblk5
             obtain ⟨vs5, vc5, rfl⟩ : ∃ (a : Option Addr) (c : Nat), v5 = .slice a (L.length + 1) c := by
               rcases hown5.2 with ⟨h, h0⟩ | ⟨g, cap, _, h, _⟩
               · exact absurd h0 (by omega)
               · exact ⟨_, _, h⟩
             have eX5 := (hgrow5.block w.heap.size hXa hne4).trans eXa
             have xc5 := (four_at eX5).1.2.2.2
             have fx5 : W5.frozen? ⟨w.heap.size, 3, none⟩ = false := by simp [World.frozen?, eX5]))
        all_goals
          have HROW := row_own (wy := wy2) (pn := pn2) (sz := sz2) (kv := .slice ka2 k2.len kc2) hX3l row3 eX3 e43 k3 b4 hkv2 hown5 hgrow5 hblk5
          obtain ⟨row6, eX6, e46, k6, s6⟩ := HROW
          have HR6 : Hid (_ ∧ _ ∧ _ ∧ _ ∧ _) := ⟨row6, eX6, e46, k6, s6⟩
          clear row3 eX3 e43 k3 xc xc' hkv2 bW4 b4 row4 eX4 xcs own4 hnk hX4 szA hXa hbs eXa hne4 hown5 hgrow5 hblk5 eX5 xc5 fx5 row6 eX6 e46 k6 s6 m0 m1 m2 m3 d0 d1 d2 d3 HP2
          go_wp2_with fail
          obtain ⟨row6, eX6, e46, k6, s6⟩ := HR6.out
          go_roundg rs2.len
          case measure => omega
          case rel => exact ⟨i + 1, rs2, _, _, _, by go_num, by omega, Nat.le_refl _, by omega, HR'.out, row6, by rw [app_app]; exact hfr, eX6, e46, k6, s6⟩
end Spl
end Go.Proofs.YtckkbmgdaplaaaaDoor

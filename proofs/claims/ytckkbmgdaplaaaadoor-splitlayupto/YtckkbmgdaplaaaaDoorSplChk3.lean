/- Package split: Check. -/
import Derived.Test.YtckkbmgdaplaaaaDoorSplChk2
import Derived.Test.YtckkbmgdaplaaaaDoorSplLv
import Derived.Maps.AppendAt
namespace Go.Proofs.YtckkbmgdaplaaaaDoor
open Go.ChangeShapes Go.WideShapes Go.ChangeAt Go.RowKit Go.Maps
namespace Spl
open Fo
/-- The value of one tree, alone in its list. -/
theorem one_fo {w : World} {wy pn sz : Int} {ks : Fo} {kv : Value} (h : KAt w kv ks) : FoAt (w.alloc (.cells #[.int .i64 wy, .int .i64 pn, .int .i64 sz, kv] 24)) (.cons wy pn sz ks .nil) w.heap.size 0 := by
  have hc : ∀ i, (w.alloc (.cells #[.int .i64 wy, .int .i64 pn, .int .i64 sz, kv] 24)).cell? ⟨w.heap.size, i, none⟩ = #[Value.int .i64 wy, .int .i64 pn, .int .i64 sz, kv][i]? := fun i => by
    unfold World.cell?
    rw [heap_alloc_new]
    rfl
  obtain ⟨a, c, rfl, hle, hk⟩ := h
  refine ⟨⟨a, c, hc 0, hc 1, hc 2, hc 3, hle, ?_⟩, trivial⟩
  rcases hk with hk | ⟨b, o, ha, hk⟩
  · exact .inl hk
  · exact .inr ⟨b, o, ha, hk.ck (CK.below ((Below.refl _ _).alloc (Nat.le_refl _) _))⟩
set_option maxHeartbeats 8000000 in
set_option maxRecDepth 100000 in
theorem check_any (wy pn sz : Int) (ks : Fo) (kv : Value) (w : World) (hk : KAt w kv ks) (hcnt : ks.cnt ≤ 2000000) :
    Calls Tryd.prog 16 #[.agg #[.int .i64 wy, .int .i64 pn, .int .i64 sz, kv]] w fun e w' => e = .returned (.int .i64 (chk (.cons wy pn sz ks .nil)).1) ∧ Below w.heap.size w w' := by
  obtain ⟨i0, hi, hzz⟩ := Option.map_eq_some_iff.1 lv_info
  simp only [Prod.mk.injEq] at hzz
  obtain ⟨hz0, hz1, hz2⟩ := hzz
  have hmm := @run_makeMap Tryd.prog
  obtain ⟨res, hres⟩ : ∃ res, (chk (.cons wy pn sz ks .nil)).1 = res := ⟨_, rfl⟩
  have HRES : Hid ((chkS [(-1, .cons wy pn sz ks .nil)] []).1 = res) := by
    rw [← hres]
    unfold Hid chk
    rw [chkS]
    split
    · rfl
    · rename_i h
      rw [chkS]
      simp only [ne_eq, Decidable.not_not] at h
      exact h.symm
  rw [hres]
  clear hres
  go_enter Tryd.func16, Tryd.ntmps16
  go_wp2_with fail
  have b1 : Below w.heap.size w (w.alloc (.cells #[.int .i64 wy, .int .i64 pn, .int .i64 sz, kv] 24)) := (Below.refl _ _).alloc (Nat.le_refl _) _
  have s1 : (w.alloc (.cells #[.int .i64 wy, .int .i64 pn, .int .i64 sz, kv] 24)).heap.size = w.heap.size + 1 := by rw [World.size_alloc]
  generalize w.alloc (.cells #[.int .i64 wy, .int .i64 pn, .int .i64 sz, kv] 24) = A1 at *
  have m2 := met_made A1
  rw [s1] at m2
  have b2 := b1.alloc b1.size (.map #[] 0)
  have s2 : (A1.alloc (.map #[] 0)).heap.size = w.heap.size + 1 + 1 := by rw [World.size_alloc, s1]
  generalize A1.alloc (.map #[] 0) = A2 at *
  have hk2 : KAt A2 kv ks := hk.ck (CK.below b2)
  have f3 := one_fo (wy := wy) (pn := pn) (sz := sz) hk2
  rw [s2] at f3
  have m3 := m2.keep ((Below.refl _ _).alloc (Nat.le_refl _) (.cells #[.int .i64 wy, .int .i64 pn, .int .i64 sz, kv] 24))
  have b3 := b2.alloc b2.size (.cells #[.int .i64 wy, .int .i64 pn, .int .i64 sz, kv] 24)
  have s3 : (A2.alloc (.cells #[.int .i64 wy, .int .i64 pn, .int .i64 sz, kv] 24)).heap.size = w.heap.size + 1 + 1 + 1 := by rw [World.size_alloc, s2]
  generalize A2.alloc (.cells #[.int .i64 wy, .int .i64 pn, .int .i64 sz, kv] 24) = W1 at *
  have c4 : CK W1 (W1.alloc (.cells #[.int .i64 (-1), .slice (some ⟨w.heap.size + 1 + 1, 0, none⟩) 1 1] 76)) := CK.below ((Below.refl _ _).alloc (Nat.le_refl _) _)
  have r4 : LvRow (W1.alloc (.cells #[.int .i64 (-1), .slice (some ⟨w.heap.size + 1 + 1, 0, none⟩) 1 1] 76)) (w.heap.size + 1 + 1 + 1) (.slice (some ⟨w.heap.size + 1 + 1 + 1, 0, none⟩) 1 1) [(-1, .slice (some ⟨w.heap.size + 1 + 1, 0, none⟩) 1 1)] :=
    ⟨rfl, .inr ⟨w.heap.size + 1 + 1 + 1, 1, _, rfl, Nat.le_refl _, by rw [← s3]; exact heap_alloc_new _ _, Nat.le_refl _, by decide, rfl, rfl⟩⟩
  have m4 := m3.keep ((Below.refl _ _).alloc (Nat.le_refl _) (.cells #[.int .i64 (-1), .slice (some ⟨w.heap.size + 1 + 1, 0, none⟩) 1 1] 76))
  have b4 := b3.alloc b3.size (.cells #[.int .i64 (-1), .slice (some ⟨w.heap.size + 1 + 1, 0, none⟩) 1 1] 76)
  have s4 : w.heap.size + 1 + 1 + 1 ≤ (W1.alloc (.cells #[.int .i64 (-1), .slice (some ⟨w.heap.size + 1 + 1, 0, none⟩) 1 1] 76)).heap.size := by rw [World.size_alloc, s3]; omega
  have k4 : KAt W1 (.slice (some ⟨w.heap.size + 1 + 1, 0, none⟩) 1 1) (.cons wy pn sz ks .nil) := ⟨some ⟨w.heap.size + 1 + 1, 0, none⟩, 1, rfl, Nat.le_refl _, .inr ⟨_, _, rfl, f3⟩⟩
  generalize W1.alloc (.cells #[.int .i64 (-1), .slice (some ⟨w.heap.size + 1 + 1, 0, none⟩) 1 1] 76) = W0 at *
  clear b1 b2 b3 s1 s2 hk hk2 m2 m3 f3
  have HW1 : Hid (W1.heap.size = w.heap.size + 1 + 1 + 1) := s3
  clear s3
  have hK : Hid (szS [((-1 : Int), Fo.cons wy pn sz ks .nil)] ≤ 3000000) := by unfold Hid; simp only [szS, cnt]; omega
  go_loopg [4] (cntS [((-1 : Int), Fo.cons wy pn sz ks .nil)]) (fun g v wr => ∃ (L : List (Int × Value × Fo)) (met : List Int), LvRow wr (w.heap.size + 1 + 1 + 1) v (L.map fun x => (x.1, x.2.1)) ∧ (∀ x ∈ L, KAt W1 x.2.1 x.2.2) ∧ (chkS (L.map fun x => (x.1, x.2.2)).reverse met).1 = res ∧ cntS (L.map fun x => (x.1, x.2.2)).reverse ≤ g ∧ szS (L.map fun x => (x.1, x.2.2)).reverse ≤ 3000000 ∧ met.length ≤ 12 ∧ MetAt wr (w.heap.size + 1) met ∧ CK W1 wr ∧ Below w.heap.size w wr ∧ w.heap.size + 1 + 1 + 1 ≤ wr.heap.size)
  case atStart => exact ⟨[(-1, .slice (some ⟨w.heap.size + 1 + 1, 0, none⟩) 1 1, .cons wy pn sz ks .nil)], [], r4, by intro x hx; rw [List.mem_singleton.1 hx]; exact k4, HRES.out, Nat.le_refl _, hK.out, by simp, m4, c4, b4, s4⟩
  case round =>
    obtain ⟨L, met, hrow, hkat, hch, hcn, hsz, hml, hmet, hck, hbel, hge⟩ := hrel
    clear HRES hK r4 m4 c4 b4 s4 k4 hmm
    rcases List.eq_nil_or_concat L with rfl | ⟨L0, ⟨way, pv, f⟩, rfl⟩
    · have hrow' := hrow.2
      rcases hrow' with ⟨hv, _⟩ | ⟨g, cap, cur, hv, hg, hh, _⟩
      · have e : res = 0 := hch.symm
        subst hv
        clear hch hrow hcn hsz hck hmet hml
        go_wp2_with fail
        go_ret
        exact ⟨ret_e e.symm, hbel⟩
      · have e : res = 0 := hch.symm
        have hv : _ = Value.slice (some ⟨g, 0, none⟩) 0 cap := hv
        subst hv
        clear hch hrow hcn hsz hck hmet hml hh
        go_wp2_with fail
        go_ret
        exact ⟨ret_e e.symm, hbel⟩
    · rw [List.concat_eq_append] at hrow hkat hch hcn hsz
      rw [List.map_append] at hrow hch hcn hsz
      simp only [List.map_cons, List.map_nil] at hrow hch hcn hsz
      rw [List.reverse_append] at hch hcn hsz
      simp only [List.reverse_cons, List.reverse_nil, List.nil_append, List.singleton_append] at hch hcn hsz
      obtain ⟨g, cap, rfl, hbg, hcap, hgl, x0, x1, x2, hpop, hset⟩ := hrow.open
      rw [List.length_map] at *
      have hq : L0.length ≤ 3000000 := by
        have := szS_len (L0.map fun x => (x.1, x.2.2)).reverse
        rw [List.length_reverse, List.length_map] at this
        simp only [szS] at hsz
        omega
      have hpv : KAt W1 pv f := hkat (way, pv, f) (by simp)
      have HKA : Hid (∀ x ∈ L0, KAt W1 x.2.1 x.2.2) := fun x hx => hkat x (by simp [hx])
      have hw1 : wrap64 ((L0.length : Int) + 1 - 1) = (L0.length : Int) := by unfold wrap64; omega
      have hlen0 : (0 : Int) < (L0.length : Int) + 1 := by omega
      clear hrow hkat
      cases f with
      | nil =>
        obtain ⟨ka, kc, rfl, hkle, _⟩ := hpv
        rw [chkS_pop] at hch
        simp only [cntS, szS, cnt, len] at hcn hsz x1
        have HCH : Hid ((chkS (L0.map fun x => (x.1, x.2.2)).reverse met).1 = res) := hch
        have HPO : Hid (LvRow wr (w.heap.size + 1 + 1 + 1) (.slice (some ⟨g, 0, none⟩) L0.length cap) (L0.map fun x => (x.1, x.2.1))) := hpop
        have icap : (L0.length : Int) ≤ (cap : Int) := by omega
        have hq0 : (0 : Int) ≤ (L0.length : Int) := by omega
        clear hch hpop hset hkle x0
        generalize hqq : L0.length = q at *
        go_wp2_with fail
        go_roundg (cntS (L0.map fun x => (x.1, x.2.2)).reverse)
        case measure => omega
        case rel => exact ⟨L0, met, HPO.out, HKA.out, HCH.out, Nat.le_refl _, by omega, hml, hmet, hck, hbel, hge⟩
      | cons wy' pn' sz' ks' rs =>
        obtain ⟨ka, kc, rfl, hkle, hk⟩ := hpv
        obtain ⟨b, o, rfl, hf⟩ := hk.resolve_left (by simp)
        obtain ⟨kv', h0, h1, h2, h3, hk', hr'⟩ := hf.head
        simp only [cntS, szS, cnt, len] at hcn hsz x1 hkle
        have y0 := hck _ _ _ h0
        have y1 := hck _ _ _ h1
        have y2 := hck _ _ _ h2
        have y3 := hck _ _ _ h3
        have HKK : Hid (KAt W1 kv' ks') := hk'
        obtain ⟨ka', kc', rfl, hkle', _⟩ := hk'
        have HCH : Hid ((chkS ((way, .cons wy' pn' sz' ks' rs) :: (L0.map fun x => (x.1, x.2.2)).reverse) met).1 = res) := hch
        have kA : Below wr.heap.size wr (wr.alloc (.cells #[.int .i64 wy', .int .i64 pn', .int .i64 sz', .slice ka' ks'.len kc'] 24)) := (Below.refl _ _).alloc (Nat.le_refl _) _
        have z0 := (kA.cell hgl).trans x0
        have z1 := (kA.cell hgl).trans x1
        have z2 : (wr.alloc (.cells #[.int .i64 wy', .int .i64 pn', .int .i64 sz', .slice ka' ks'.len kc'] 24)).frozen? ⟨g, L0.length * 2 + 1, none⟩ = false := by
          unfold World.frozen? at x2 ⊢
          rw [kA.block g hgl]
          exact x2
        have i1 : (1 : Int) ≤ (rs.len : Int) + 1 := by omega
        have i2 : (0 : Int) < (rs.len : Int) + 1 := by omega
        have HSET : Hid (∀ kv', LvRow (wr.setCell ⟨g, L0.length * 2 + 1, none⟩ kv') (w.heap.size + 1 + 1 + 1) (.slice (some ⟨g, 0, none⟩) (L0.length + 1) cap) ((L0.map fun x => (x.1, x.2.1)) ++ [(way, kv')])) := hset
        clear hch hset hpop hk hf h0 h1 h2 h3 x2
        generalize hqq : L0.length = q at *
        generalize hrl : rs.len = rl at *
        by_cases hc1 : kc = 1
        · subst hc1
          go_wp2_with fail
          have kPV : KAt W1 (.slice (some ⟨b, o, none⟩) 0 0) rs := ⟨_, _, by rw [hrl, show rl = 0 by omega], by omega, .inl (len_nil (by omega))⟩
          have r5 := LvRow.alloc (HSET.out (.slice (some ⟨b, o, none⟩) 0 0)) (.cells #[.int .i64 wy', .int .i64 pn', .int .i64 sz', .slice ka' ks'.len kc'] 24)
          have m5 := (MetAt.setCell (g := g) (i := q * 2 + 1) (u := .slice (some ⟨b, o, none⟩) 0 0) hmet (by omega)).keep ((Below.refl _ _).alloc (Nat.le_refl _) (.cells #[.int .i64 wy', .int .i64 pn', .int .i64 sz', .slice ka' ks'.len kc'] 24))
          have c5 := (CK.setCell (g := g) (i := q * 2 + 1) (u := .slice (some ⟨b, o, none⟩) 0 0) hck (by rw [HW1.out]; exact hbg)).alloc (.cells #[.int .i64 wy', .int .i64 pn', .int .i64 sz', .slice ka' ks'.len kc'] 24)
          have b5 := (hbel.setCell (p := ⟨g, q * 2 + 1, none⟩) (show w.heap.size ≤ g by omega) (.slice (some ⟨b, o, none⟩) 0 0)).alloc (by rw [show (wr.setCell ⟨g, q * 2 + 1, none⟩ (.slice (some ⟨b, o, none⟩) 0 0)).heap.size = wr.heap.size by simp [World.setCell]]; omega) (.cells #[.int .i64 wy', .int .i64 pn', .int .i64 sz', .slice ka' ks'.len kc'] 24)
          have g5 : w.heap.size + 1 + 1 + 1 ≤ ((wr.setCell ⟨g, q * 2 + 1, none⟩ (.slice (some ⟨b, o, none⟩) 0 0)).alloc (.cells #[.int .i64 wy', .int .i64 pn', .int .i64 sz', .slice ka' ks'.len kc'] 24)).heap.size := by rw [World.size_alloc, show (wr.setCell ⟨g, q * 2 + 1, none⟩ (.slice (some ⟨b, o, none⟩) 0 0)).heap.size = wr.heap.size by simp [World.setCell]]; omega
          have x5 : ((wr.setCell ⟨g, q * 2 + 1, none⟩ (.slice (some ⟨b, o, none⟩) 0 0)).alloc (.cells #[.int .i64 wy', .int .i64 pn', .int .i64 sz', .slice ka' ks'.len kc'] 24)).heap[wr.heap.size]? = some (.cells #[.int .i64 wy', .int .i64 pn', .int .i64 sz', .slice ka' ks'.len kc'] 24 (0, 0)) := by
            have := heap_alloc_new (wr.setCell ⟨g, q * 2 + 1, none⟩ (.slice (some ⟨b, o, none⟩) 0 0)) (.cells #[.int .i64 wy', .int .i64 pn', .int .i64 sz', .slice ka' ks'.len kc'] 24)
            rwa [show (wr.setCell ⟨g, q * 2 + 1, none⟩ (.slice (some ⟨b, o, none⟩) 0 0)).heap.size = wr.heap.size by simp [World.setCell]] at this
          generalize ((wr.setCell ⟨g, q * 2 + 1, none⟩ (.slice (some ⟨b, o, none⟩) 0 0)).alloc (.cells #[.int .i64 wy', .int .i64 pn', .int .i64 sz', .slice ka' ks'.len kc'] 24)) = Wc at *
          generalize Value.slice (some ⟨b, o, none⟩) 0 0 = pv2 at *
          have hwne : wr.heap.size ≠ w.heap.size + 1 := by omega
          generalize wr.heap.size = bx at *
          obtain ⟨g', cap', hv', _, _, _, t0, _⟩ := r5.open
          rw [List.length_map, hqq] at hv' t0
          injection hv' with e1 e2 e3
          injection e1 with e1
          injection e1 with e1
          subst e1
          have HC := checkPart_any way wy' pn' sz' ka' ks'.len kc' (w.heap.size + 1) met Wc.drew m5 hml
          have x6 : Wc.drew.heap[bx]? = some (.cells #[.int .i64 wy', .int .i64 pn', .int .i64 sz', .slice ka' ks'.len kc'] 24 (0, 0)) := x5
          obtain ⟨⟨d0, d1, d2, d3⟩, _⟩ := four_at x6
          have t1 : Wc.drew.cell? ⟨g, q * 2, none⟩ = some (.int .i64 way) := t0
          have hpl := part_len way wy' pn' sz' ks'.len met hml
          have HR5 : Hid (LvRow Wc (w.heap.size + 1 + 1 + 1) (.slice (some ⟨g, 0, none⟩) (q + 1) cap) ((L0.map fun x => (x.1, x.2.1)) ++ [(way, pv2)])) := r5
          have HM5 : Hid (MetAt Wc (w.heap.size + 1) met) := m5
          have HC5 : Hid (CK W1 Wc) := c5
          have HB5 : Hid (Below w.heap.size w Wc) := b5
          have HKP : Hid (KAt W1 pv2 rs) := kPV
          by_cases he : (part way wy' pn' sz' ks'.len met).1 = 0
          · rw [chkS_go _ _ _ _ _ _ _ _ he] at HCH
            obtain ⟨pe, hpe⟩ : ∃ pe, part way wy' pn' sz' ks'.len met = pe := ⟨_, rfl⟩
            rw [hpe] at HC he HCH hpl
            rw [he] at HC
            have HPE : Hid (MetAt Wc (w.heap.size + 1) met) := HM5.out
            clear hpe he m5 r5 c5 b5 kPV x5 t0 x0 x1 y0 y1 y2 y3 z0 z1 z2 hck hbel hmet HSET hml hkle hkle' e2 e3
            go_region_with (go_at_call 48; refine HC.mono ?_; rintro e W2 ⟨rfl, mW, bW⟩)
            all_goals
              have bW' := bW.drew
              have r6 := HR5.out.but bW' (by omega)
              have c6 := HC5.out.trans (CK.of_but bW' HM5.out)
              have b6 := HB5.out.trans (bW'.below (by omega) HB5.out.size)
              have g6 := Nat.le_trans g5 bW'.size
              have x7 := bW'.heap x6 hwne
              obtain ⟨⟨f0, f1, f2, f3⟩, _⟩ := four_at x7
              clear HC x6 d0 d1 d2 d3 t1 bW bW' HR5 HM5 HC5 HB5 HPE g5
              have HR6 : Hid (LvRow W2 (w.heap.size + 1 + 1 + 1) (.slice (some ⟨g, 0, none⟩) (q + 1) cap) ((L0.map fun x => (x.1, x.2.1)) ++ [(way, pv2)])) := r6
              have hfrom := r6.from
              clear r6
              go_wp2_with (at_builtin; refine wpList_append_own _ rfl _ _ 77 rfl (w.heap.size + 1 + 1 + 1) 76 i0 (.agg #[.int .i64 0, .slice none 0 0]) 2 32 lv_und hi hz0 hz1 hz2 rfl (by decide) _ _ _ rfl (World.ownsRow.alloc HR6.out _) ⟨W2.heap.size, 0, none⟩ 1 1 [.int .i64 wy', .slice ka' ks'.len kc'] rfl rfl (cells_of_row (heap_alloc_new W2 _)) (by intro u hu; simp at hu; rcases hu with rfl | rfl <;> rfl) (by rw [List.length_append, List.length_map, hqq]; unfold maxLen; simp; omega) (by rw [List.length_append, List.length_map, hqq]; simp; omega) (by simp; omega) ?_; intro v3 W3 hown3 hgrow hnil)
              have hf3 : ∀ k, (Value.slice (some ⟨g, 0, none⟩) (q + 1) cap).ownBlock = some k → w.heap.size + 1 + 1 + 1 ≤ k := hfrom
              have ka2 : Below W2.heap.size W2 (W2.alloc (.cells #[.int .i64 wy', .slice ka' ks'.len kc'] 76)) := (Below.refl _ _).alloc (Nat.le_refl _) _
              have c7 := (c6.alloc (.cells #[.int .i64 wy', .slice ka' ks'.len kc'] 76)).grown hgrow (fun k hk => by rw [HW1.out]; exact hf3 k hk)
              have m7 := (mW.keep ka2).grown hgrow (fun k hk => by have := hf3 k hk; omega)
              have b7 := (b6.alloc b6.size (.cells #[.int .i64 wy', .slice ka' ks'.len kc'] 76)).grown hgrow (b6.alloc b6.size _).size (fun k hk => by have := hf3 k hk; omega)
              have g7 := Nat.le_trans (Nat.le_trans g6 ka2.size) hgrow.size
              go_roundg (2 * ks'.cnt + 1 + (2 * rs.cnt + 1 + cntS (L0.map fun x => (x.1, x.2.2)).reverse))
              case measure => omega
              case rel =>
                refine ⟨L0 ++ [(way, pv2, rs), (wy', .slice ka' ks'.len kc', ks')], pe.2, ?_, ?_, ?_, ?_, ?_, hpl, m7, c7, b7, g7⟩
                · unfold LvRow
                  rw [List.length_append, List.length_map, hqq] at hown3
                  simp only [List.map_append, List.map_cons, List.map_nil, List.length_append, List.length_map, List.length_cons, List.length_nil, hqq]
                  rw [List.flatMap_append, List.append_assoc] at hown3
                  rw [List.flatMap_append]
                  exact hown3
                · intro x hx
                  rcases List.mem_append.1 hx with hx | hx
                  · exact HKA.out x hx
                  · simp only [List.mem_cons, List.not_mem_nil, or_false] at hx
                    rcases hx with rfl | rfl
                    · exact HKP.out
                    · exact HKK.out
                · simpa using HCH.out
                · simp [cntS]
                · simp [szS]
                  omega
          · have hne : ((part way wy' pn' sz' ks'.len met).1 != 0) = true := by rw [bne_iff_ne]; exact he
            rw [chkS_bad _ _ _ _ _ _ _ _ he] at HCH
            have e := HCH.out
            generalize (part way wy' pn' sz' ks'.len met).1 = pe1 at *
            subst e
            clear HCH he m5 r5 c5 b5 kPV x5 t0 x0 x1 y0 y1 y2 y3 z0 z1 z2 hck hbel hmet HSET hml hkle hkle' e2 e3
            go_region_with (go_at_call 48; refine HC.mono ?_; rintro e W2 ⟨rfl, mW, bW⟩)
            all_goals
              have b6 := HB5.out.trans (bW.drew.below (by omega) HB5.out.size)
              clear HC x6 d0 d1 d2 d3 t1 bW HR5 HM5 HC5 HB5 g5
              go_wp2_with fail
              go_ret
              exact ⟨rfl, b6⟩
        · have hc1' : ¬ (kc : Int) = 1 := by omega
          go_wp2_with fail
          have kPV : KAt W1 (.slice (some ⟨b, o + 4, none⟩) rl (kc - 1)) rs := ⟨_, _, by rw [hrl], by omega, .inr ⟨_, _, rfl, hr'⟩⟩
          have r5 := LvRow.alloc (HSET.out (.slice (some ⟨b, o + 4, none⟩) rl (kc - 1))) (.cells #[.int .i64 wy', .int .i64 pn', .int .i64 sz', .slice ka' ks'.len kc'] 24)
          have m5 := (MetAt.setCell (g := g) (i := q * 2 + 1) (u := .slice (some ⟨b, o + 4, none⟩) rl (kc - 1)) hmet (by omega)).keep ((Below.refl _ _).alloc (Nat.le_refl _) (.cells #[.int .i64 wy', .int .i64 pn', .int .i64 sz', .slice ka' ks'.len kc'] 24))
          have c5 := (CK.setCell (g := g) (i := q * 2 + 1) (u := .slice (some ⟨b, o + 4, none⟩) rl (kc - 1)) hck (by rw [HW1.out]; exact hbg)).alloc (.cells #[.int .i64 wy', .int .i64 pn', .int .i64 sz', .slice ka' ks'.len kc'] 24)
          have b5 := (hbel.setCell (p := ⟨g, q * 2 + 1, none⟩) (show w.heap.size ≤ g by omega) (.slice (some ⟨b, o + 4, none⟩) rl (kc - 1))).alloc (by rw [show (wr.setCell ⟨g, q * 2 + 1, none⟩ (.slice (some ⟨b, o + 4, none⟩) rl (kc - 1))).heap.size = wr.heap.size by simp [World.setCell]]; omega) (.cells #[.int .i64 wy', .int .i64 pn', .int .i64 sz', .slice ka' ks'.len kc'] 24)
          have g5 : w.heap.size + 1 + 1 + 1 ≤ ((wr.setCell ⟨g, q * 2 + 1, none⟩ (.slice (some ⟨b, o + 4, none⟩) rl (kc - 1))).alloc (.cells #[.int .i64 wy', .int .i64 pn', .int .i64 sz', .slice ka' ks'.len kc'] 24)).heap.size := by rw [World.size_alloc, show (wr.setCell ⟨g, q * 2 + 1, none⟩ (.slice (some ⟨b, o + 4, none⟩) rl (kc - 1))).heap.size = wr.heap.size by simp [World.setCell]]; omega
          have x5 : ((wr.setCell ⟨g, q * 2 + 1, none⟩ (.slice (some ⟨b, o + 4, none⟩) rl (kc - 1))).alloc (.cells #[.int .i64 wy', .int .i64 pn', .int .i64 sz', .slice ka' ks'.len kc'] 24)).heap[wr.heap.size]? = some (.cells #[.int .i64 wy', .int .i64 pn', .int .i64 sz', .slice ka' ks'.len kc'] 24 (0, 0)) := by
            have := heap_alloc_new (wr.setCell ⟨g, q * 2 + 1, none⟩ (.slice (some ⟨b, o + 4, none⟩) rl (kc - 1))) (.cells #[.int .i64 wy', .int .i64 pn', .int .i64 sz', .slice ka' ks'.len kc'] 24)
            rwa [show (wr.setCell ⟨g, q * 2 + 1, none⟩ (.slice (some ⟨b, o + 4, none⟩) rl (kc - 1))).heap.size = wr.heap.size by simp [World.setCell]] at this
          generalize ((wr.setCell ⟨g, q * 2 + 1, none⟩ (.slice (some ⟨b, o + 4, none⟩) rl (kc - 1))).alloc (.cells #[.int .i64 wy', .int .i64 pn', .int .i64 sz', .slice ka' ks'.len kc'] 24)) = Wc at *
          generalize Value.slice (some ⟨b, o + 4, none⟩) rl (kc - 1) = pv2 at *
          have hwne : wr.heap.size ≠ w.heap.size + 1 := by omega
          generalize wr.heap.size = bx at *
          obtain ⟨g', cap', hv', _, _, _, t0, _⟩ := r5.open
          rw [List.length_map, hqq] at hv' t0
          injection hv' with e1 e2 e3
          injection e1 with e1
          injection e1 with e1
          subst e1
          have HC := checkPart_any way wy' pn' sz' ka' ks'.len kc' (w.heap.size + 1) met Wc.drew m5 hml
          have x6 : Wc.drew.heap[bx]? = some (.cells #[.int .i64 wy', .int .i64 pn', .int .i64 sz', .slice ka' ks'.len kc'] 24 (0, 0)) := x5
          obtain ⟨⟨d0, d1, d2, d3⟩, _⟩ := four_at x6
          have t1 : Wc.drew.cell? ⟨g, q * 2, none⟩ = some (.int .i64 way) := t0
          have hpl := part_len way wy' pn' sz' ks'.len met hml
          have HR5 : Hid (LvRow Wc (w.heap.size + 1 + 1 + 1) (.slice (some ⟨g, 0, none⟩) (q + 1) cap) ((L0.map fun x => (x.1, x.2.1)) ++ [(way, pv2)])) := r5
          have HM5 : Hid (MetAt Wc (w.heap.size + 1) met) := m5
          have HC5 : Hid (CK W1 Wc) := c5
          have HB5 : Hid (Below w.heap.size w Wc) := b5
          have HKP : Hid (KAt W1 pv2 rs) := kPV
          by_cases he : (part way wy' pn' sz' ks'.len met).1 = 0
          · rw [chkS_go _ _ _ _ _ _ _ _ he] at HCH
            obtain ⟨pe, hpe⟩ : ∃ pe, part way wy' pn' sz' ks'.len met = pe := ⟨_, rfl⟩
            rw [hpe] at HC he HCH hpl
            rw [he] at HC
            have HPE : Hid (MetAt Wc (w.heap.size + 1) met) := HM5.out
            clear hpe he m5 r5 c5 b5 kPV x5 t0 x0 x1 y0 y1 y2 y3 z0 z1 z2 hck hbel hmet HSET hml hkle hkle' e2 e3
            go_region_with (go_at_call 48; refine HC.mono ?_; rintro e W2 ⟨rfl, mW, bW⟩)
            all_goals
              have bW' := bW.drew
              have r6 := HR5.out.but bW' (by omega)
              have c6 := HC5.out.trans (CK.of_but bW' HM5.out)
              have b6 := HB5.out.trans (bW'.below (by omega) HB5.out.size)
              have g6 := Nat.le_trans g5 bW'.size
              have x7 := bW'.heap x6 hwne
              obtain ⟨⟨f0, f1, f2, f3⟩, _⟩ := four_at x7
              clear HC x6 d0 d1 d2 d3 t1 bW bW' HR5 HM5 HC5 HB5 HPE g5
              have HR6 : Hid (LvRow W2 (w.heap.size + 1 + 1 + 1) (.slice (some ⟨g, 0, none⟩) (q + 1) cap) ((L0.map fun x => (x.1, x.2.1)) ++ [(way, pv2)])) := r6
              have hfrom := r6.from
              clear r6
              go_wp2_with (at_builtin; refine wpList_append_own _ rfl _ _ 77 rfl (w.heap.size + 1 + 1 + 1) 76 i0 (.agg #[.int .i64 0, .slice none 0 0]) 2 32 lv_und hi hz0 hz1 hz2 rfl (by decide) _ _ _ rfl (World.ownsRow.alloc HR6.out _) ⟨W2.heap.size, 0, none⟩ 1 1 [.int .i64 wy', .slice ka' ks'.len kc'] rfl rfl (cells_of_row (heap_alloc_new W2 _)) (by intro u hu; simp at hu; rcases hu with rfl | rfl <;> rfl) (by rw [List.length_append, List.length_map, hqq]; unfold maxLen; simp; omega) (by rw [List.length_append, List.length_map, hqq]; simp; omega) (by simp; omega) ?_; intro v3 W3 hown3 hgrow hnil)
              have hf3 : ∀ k, (Value.slice (some ⟨g, 0, none⟩) (q + 1) cap).ownBlock = some k → w.heap.size + 1 + 1 + 1 ≤ k := hfrom
              have ka2 : Below W2.heap.size W2 (W2.alloc (.cells #[.int .i64 wy', .slice ka' ks'.len kc'] 76)) := (Below.refl _ _).alloc (Nat.le_refl _) _
              have c7 := (c6.alloc (.cells #[.int .i64 wy', .slice ka' ks'.len kc'] 76)).grown hgrow (fun k hk => by rw [HW1.out]; exact hf3 k hk)
              have m7 := (mW.keep ka2).grown hgrow (fun k hk => by have := hf3 k hk; omega)
              have b7 := (b6.alloc b6.size (.cells #[.int .i64 wy', .slice ka' ks'.len kc'] 76)).grown hgrow (b6.alloc b6.size _).size (fun k hk => by have := hf3 k hk; omega)
              have g7 := Nat.le_trans (Nat.le_trans g6 ka2.size) hgrow.size
              go_roundg (2 * ks'.cnt + 1 + (2 * rs.cnt + 1 + cntS (L0.map fun x => (x.1, x.2.2)).reverse))
              case measure => omega
              case rel =>
                refine ⟨L0 ++ [(way, pv2, rs), (wy', .slice ka' ks'.len kc', ks')], pe.2, ?_, ?_, ?_, ?_, ?_, hpl, m7, c7, b7, g7⟩
                · unfold LvRow
                  rw [List.length_append, List.length_map, hqq] at hown3
                  simp only [List.map_append, List.map_cons, List.map_nil, List.length_append, List.length_map, List.length_cons, List.length_nil, hqq]
                  rw [List.flatMap_append, List.append_assoc] at hown3
                  rw [List.flatMap_append]
                  exact hown3
                · intro x hx
                  rcases List.mem_append.1 hx with hx | hx
                  · exact HKA.out x hx
                  · simp only [List.mem_cons, List.not_mem_nil, or_false] at hx
                    rcases hx with rfl | rfl
                    · exact HKP.out
                    · exact HKK.out
                · simpa using HCH.out
                · simp [cntS]
                · simp [szS]
                  omega
          · have hne : ((part way wy' pn' sz' ks'.len met).1 != 0) = true := by rw [bne_iff_ne]; exact he
            rw [chkS_bad _ _ _ _ _ _ _ _ he] at HCH
            have e := HCH.out
            generalize (part way wy' pn' sz' ks'.len met).1 = pe1 at *
            subst e
            clear HCH he m5 r5 c5 b5 kPV x5 t0 x0 x1 y0 y1 y2 y3 z0 z1 z2 hck hbel hmet HSET hml hkle hkle' e2 e3
            go_region_with (go_at_call 48; refine HC.mono ?_; rintro e W2 ⟨rfl, mW, bW⟩)
            all_goals
              have b6 := HB5.out.trans (bW.drew.below (by omega) HB5.out.size)
              clear HC x6 d0 d1 d2 d3 t1 bW HR5 HM5 HC5 HB5 g5
              go_wp2_with fail
              go_ret
              exact ⟨rfl, b6⟩
end Spl
end Go.Proofs.YtckkbmgdaplaaaaDoor

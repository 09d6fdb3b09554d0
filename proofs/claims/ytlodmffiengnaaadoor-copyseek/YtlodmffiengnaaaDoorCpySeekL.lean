/- The law CopySeek. (Written by gen_cpyseekl.py.) -/
import Derived.Test.YtlodmffiengnaaaDoorCpySeekM
import Derived.Test.YtlodmffiengnaaaDoorCpyBad
import Derived.Test.YtlodmffiengnaaaDoorCpyCopied
import Derived.Test.YtlodmffiengnaaaDoorCpyEndOf
import Derived.Test.YtlodmffiengnaaaDoorCpyBet
import Derived.Test.YtlodmffiengnaaaDoorTextCleanOf
namespace Go.Proofs.YtlodmffiengnaaaDoor
open Go.ChangeShapes Go.WideShapes Go.ChangeAt Go.RowKit Go.Maps Go.Sort
namespace Cpy
open Txt (Tab bs okRune cleanL runes)
/-- A pointer to a place, or to none. -/
def PtAt (V : World) (u : Value) : Option (Int × Int) → Prop
  | none => u = .pointer none
  | some m => ∃ b, u = .pointer (some ⟨b, 0, none⟩) ∧ V.heap[b]? = some (.cells #[.int .i64 m.1, .int .i64 m.2] 24 (0, 0))
theorem PtAt.below {V V' : World} {u : Value} : ∀ {o : Option (Int × Int)}, PtAt V u o → Below V.heap.size V V' → PtAt V' u o
  | none, h, _ => h
  | some _, ⟨b, h1, h2⟩, hb => ⟨b, h1, kept h2 hb⟩
theorem w64_s {n : Int} (h0 : -9 ≤ n) (h1 : n ≤ 100000) : wrap64 n = n := by unfold wrap64; omega
theorem cells5' {w : World} {g : Nat} {a b c d e : Value} {t : TypeId} (h : w.heap[g]? = some (.cells #[a, b, c, d, e] t (0, 0))) : w.cell? ⟨g, 0, none⟩ = some a ∧ w.cell? ⟨g, 1, none⟩ = some b ∧ w.cell? ⟨g, 2, none⟩ = some c ∧ w.cell? ⟨g, 3, none⟩ = some d ∧ w.cell? ⟨g, 4, none⟩ = some e := by
  unfold World.cell?
  rw [h]
  exact ⟨rfl, rfl, rfl, rfl, rfl⟩
theorem has_prefix (ws rs : List Int) (k : Nat) (h1 : ∀ r ∈ ws, okRune r) (h2 : ∀ r ∈ rs, okRune r) : Lib.hasPrefix (runesBytes ((rs.drop k).take (rs.length - k))).data.toList (E ws) = ws.isPrefixOf (rs.drop k) := by
  rw [List.take_of_length_le (by rw [List.length_drop]; exact Nat.le_refl _), bytes_E]
  unfold Lib.hasPrefix
  have h := prefix_E ws (rs.drop k) h1 (fun r hr => h2 r (List.mem_of_mem_drop hr))
  rw [Bool.eq_iff_iff, List.isPrefixOf_iff_prefix, List.isPrefixOf_iff_prefix]
  exact h
theorem what_ok (s : ByteArray) : ∀ r ∈ what s, okRune r := by
  intro r hr
  obtain ⟨z, hz, rfl⟩ := List.mem_map.1 hr
  exact sp_ok s z hz
theorem clean_size (s : ByteArray) (hs : s.size ≤ 4000) : (bs (E (what s))).size ≤ 70368744177664 := by
  rw [← clean_E]
  have h1 := clean_length (runes s)
  have h2 := rs_len s s.size 0
  show (cleanL (runes s)).toArray.size ≤ _
  rw [List.size_toArray]
  unfold Txt.runes at h1 ⊢
  omega
theorem zs_what (s : ByteArray) : zs (bs (E (what s))) = (sp s).map (·.1) := by rw [← clean_E]; exact zs_clean s
set_option maxHeartbeats 16000000 in
set_option maxRecDepth 100000 in
theorem copySeek_walk (L : List ByteArray) (v : Value) (k : Cp) (s : ByteArray) (w : World) (h : LsAt w v L) (hT : Tab w) (hM : MaxAt w) (hsz : s.size ≤ 281474976710656) :
    Calls Tryd.prog 5 #[v, .agg k.cells, .string s] w fun e w' => e = .returned (.bool true) ∧ Below w.heap.size w w' := by
  have kb : Below w.heap.size w (w.alloc (.cells k.cells 26)) := (Below.refl _ _).alloc (Nat.le_refl _) _
  have Y0 : BoxAt (w.alloc (.cells k.cells 26)) w.heap.size k := heap_alloc_new w (.cells k.cells 26)
  have HLS : Hid (∀ V, Below w.heap.size w V → LsAt V v L) := fun V hV => h.below hV
  have HTB : Hid (∀ V, Below w.heap.size w V → Tab V) := fun V hV => hT.below hV hT.pos
  have HMB : Hid (∀ V, Below w.heap.size w V → MaxAt V) := fun V hV => hM.below hV
  have HC := fun V (hV : Below w.heap.size w V) => copied_any V (HTB.out V hV) (HMB.out V hV)
  have H1 := fun V (hV : Below w.heap.size w V) => seek_any L v k (seekCK L k s) s (seekCE L k s) V (HLS.out V hV) (fun hc => seek_how L v k s V (HTB.out V hV) (HMB.out V hV) hc)
  have H3 := fun V (hV : Below w.heap.size w V) => bad_any L v k V (HLS.out V hV)
  have HCL := fun V => Txt.cleanOf_any s V hsz
  rw [clean_E] at HCL
  have HCK : Hid (chk L k = 0 → 1 ≤ L.length ∧ L.length ≤ 110 ∧ (∀ s ∈ L, s.size ≤ 4000) ∧ (0 ≤ k.y ∧ k.y < L.length ∧ 0 ≤ k.x ∧ k.x ≤ 120) ∧ (0 ≤ k.fy ∧ k.fy < L.length ∧ 0 ≤ k.fx ∧ k.fx ≤ 120)) := chk_zero
  have HEE : Hid (seekCE L k s = if 4000 < s.size ∨ what s = [] then 1 else seekE (seekM L k.x k.y.toNat (what s))) := rfl
  have HKK : Hid (seekCK L k s = if 4000 < s.size ∨ what s = [] then k else seekK k (seekM L k.x k.y.toNat (what s))) := rfl
  obtain ⟨a, c, rfl, _⟩ := h
  clear hT hM
  by_cases hR : chk L k = 0
  rotate_left
  · have hk1 : chgK (chk L k) (seekCE L k s) (seekCK L k s) = zCp := by unfold chgK; rw [if_neg (fun h => hR h.1)]
    have he1 : chgE (chk L k) (seekCE L k s) = chk L k := by unfold chgE; rw [if_neg hR]
    rw [hk1, he1] at H1
    clear hk1 he1 HCK HEE HKK
    generalize chk L k = R at *
    generalize bs (E (what s)) = u at *
    obtain ⟨x, y, fx, fy, on⟩ := k
    simp only [Cp.cells, zCp] at *
    have jR : (R == 0) = false := by rw [beq_eq_false_iff_ne]; exact hR
    have jn : (R != 0) = true := by rw [bne, jR]; rfl
    go_enter Tryd.func5, Tryd.ntmps5
    go_wp2_with fail
    refine (H1 _ kb).mono ?_
    rintro e W1 ⟨rfl, b1⟩
    have k1 := kb.trans (b1.mono kb.size)
    have kA : Below W1.heap.size W1 (W1.alloc (.cells #[.int .i64 0, .int .i64 0, .int .i64 0, .int .i64 0, .bool false] 26)) := (Below.refl _ _).alloc (Nat.le_refl _) _
    have X1 := heap_alloc_new W1 (.cells #[.int .i64 0, .int .i64 0, .int .i64 0, .int .i64 0, .bool false] 26)
    have k2 := k1.trans (kA.mono k1.size)
    have Y2 := (Y0.below b1).below kA
    have hW1 : w.heap.size < W1.heap.size := (Y0.below b1).lt
    obtain ⟨⟨c0, c1, c2, c3, c4⟩, _⟩ := Y2.cells
    simp only [] at c0 c1 c2 c3 c4
    clear H1 kA b1 Y0
    go_wp2_with fail
    refine (H3 _ k2).mono ?_
    rintro e W2 ⟨rfl, b2⟩
    have k3 := k2.trans (b2.mono k2.size)
    have Y3 := Y2.below b2
    have X3 := kept X1 b2
    clear H3 b2 Y2 X1 c0 c1 c2 c3 c4
    go_wp2_with fail
    refine (HCL _).mono ?_
    rintro e W3 ⟨rfl, b3⟩
    have k4 := k3.trans (b3.mono k3.size)
    have Y4 := Y3.below b3
    have X4 := kept X3 b3
    clear HCL b3 Y3 X3
    go_wp2_with fail
    refine (HC _ k4).mono ?_
    rintro e W4 ⟨rfl, b4⟩
    have k5 := k4.trans (b4.mono k4.size)
    have Y5 := Y4.below b4
    have X5 := kept X4 b4
    clear b4 Y4 X4
    go_wp2_with fail
    refine (HC _ k5).mono ?_
    rintro e W5 ⟨rfl, b5⟩
    have k6 := k5.trans (b5.mono k5.size)
    obtain ⟨x0, x1, x2, x3, x4⟩ := cells5' (kept X5 b5)
    clear HC b5 Y5
    go_wp2_with fail
    go_ret
    exact ⟨rfl, k6⟩
  rw [hR] at H1 H3
  by_cases hw : 4000 < s.size ∨ what s = []
  · have hk1 : chgK 0 (seekCE L k s) (seekCK L k s) = zCp := by unfold chgK; rw [if_neg (fun h => by rw [HEE.out, if_pos hw] at h; exact absurd h.2 (by decide))]
    have he1 : chgE 0 (seekCE L k s) = 1 := by unfold chgE; rw [if_pos rfl, HEE.out, if_pos hw]
    rw [hk1, he1] at H1
    clear hk1 he1 HCK HEE HKK
    by_cases h0 : what s = []
    · rw [h0, show bs (E []) = ⟨#[]⟩ from rfl] at HCL
      clear hw h0
      obtain ⟨x, y, fx, fy, on⟩ := k
      simp only [Cp.cells, zCp] at *
      go_enter Tryd.func5, Tryd.ntmps5
      go_wp2_with fail
      refine (H1 _ kb).mono ?_
      rintro e W1 ⟨rfl, b1⟩
      have k1 := kb.trans (b1.mono kb.size)
      have kA : Below W1.heap.size W1 (W1.alloc (.cells #[.int .i64 0, .int .i64 0, .int .i64 0, .int .i64 0, .bool false] 26)) := (Below.refl _ _).alloc (Nat.le_refl _) _
      have X1 := heap_alloc_new W1 (.cells #[.int .i64 0, .int .i64 0, .int .i64 0, .int .i64 0, .bool false] 26)
      have k2 := k1.trans (kA.mono k1.size)
      have Y2 := (Y0.below b1).below kA
      have hW1 : w.heap.size < W1.heap.size := (Y0.below b1).lt
      obtain ⟨⟨c0, c1, c2, c3, c4⟩, _⟩ := Y2.cells
      simp only [] at c0 c1 c2 c3 c4
      clear H1 kA b1 Y0
      go_wp2_with fail
      refine (H3 _ k2).mono ?_
      rintro e W2 ⟨rfl, b2⟩
      have k3 := k2.trans (b2.mono k2.size)
      have Y3 := Y2.below b2
      have X3 := kept X1 b2
      clear H3 b2 Y2 X1 c0 c1 c2 c3 c4
      go_wp2_with fail
      refine (HCL _).mono ?_
      rintro e W3 ⟨rfl, b3⟩
      have k4 := k3.trans (b3.mono k3.size)
      have Y4 := Y3.below b3
      have X4 := kept X3 b3
      clear HCL b3 Y3 X3
      go_wp2_with fail
      refine (HC _ k4).mono ?_
      rintro e W4 ⟨rfl, b4⟩
      have k5 := k4.trans (b4.mono k4.size)
      have Y5 := Y4.below b4
      have X5 := kept X4 b4
      clear b4 Y4 X4
      go_wp2_with fail
      refine (HC _ k5).mono ?_
      rintro e W5 ⟨rfl, b5⟩
      have k6 := k5.trans (b5.mono k5.size)
      obtain ⟨x0, x1, x2, x3, x4⟩ := cells5' (kept X5 b5)
      clear HC b5 Y5
      go_wp2_with fail
      go_ret
      exact ⟨rfl, k6⟩
    · have h4 : 4000 < s.size := hw.resolve_right h0
      have is : (4000 : Int) < (s.size : Int) := Int.ofNat_lt.2 h4
      have hne2 : ((bs (E (what s))).toList == []) = false := by
        rw [beq_eq_false_iff_ne, Lib.toList_data, bs_data]
        exact E_ne h0
      clear hw h0
      generalize bs (E (what s)) = u at *
      obtain ⟨x, y, fx, fy, on⟩ := k
      simp only [Cp.cells, zCp] at *
      go_enter Tryd.func5, Tryd.ntmps5
      go_wp2_with fail
      refine (H1 _ kb).mono ?_
      rintro e W1 ⟨rfl, b1⟩
      have k1 := kb.trans (b1.mono kb.size)
      have kA : Below W1.heap.size W1 (W1.alloc (.cells #[.int .i64 0, .int .i64 0, .int .i64 0, .int .i64 0, .bool false] 26)) := (Below.refl _ _).alloc (Nat.le_refl _) _
      have X1 := heap_alloc_new W1 (.cells #[.int .i64 0, .int .i64 0, .int .i64 0, .int .i64 0, .bool false] 26)
      have k2 := k1.trans (kA.mono k1.size)
      have Y2 := (Y0.below b1).below kA
      have hW1 : w.heap.size < W1.heap.size := (Y0.below b1).lt
      obtain ⟨⟨c0, c1, c2, c3, c4⟩, _⟩ := Y2.cells
      simp only [] at c0 c1 c2 c3 c4
      clear H1 kA b1 Y0
      go_wp2_with fail
      refine (H3 _ k2).mono ?_
      rintro e W2 ⟨rfl, b2⟩
      have k3 := k2.trans (b2.mono k2.size)
      have Y3 := Y2.below b2
      have X3 := kept X1 b2
      clear H3 b2 Y2 X1 c0 c1 c2 c3 c4
      go_wp2_with fail
      refine (HCL _).mono ?_
      rintro e W3 ⟨rfl, b3⟩
      have k4 := k3.trans (b3.mono k3.size)
      have Y4 := Y3.below b3
      have X4 := kept X3 b3
      clear HCL b3 Y3 X3
      go_wp2_with fail
      refine (HC _ k4).mono ?_
      rintro e W4 ⟨rfl, b4⟩
      have k5 := k4.trans (b4.mono k4.size)
      have Y5 := Y4.below b4
      have X5 := kept X4 b4
      clear b4 Y4 X4
      go_wp2_with fail
      refine (HC _ k5).mono ?_
      rintro e W5 ⟨rfl, b5⟩
      have k6 := k5.trans (b5.mono k5.size)
      obtain ⟨x0, x1, x2, x3, x4⟩ := cells5' (kept X5 b5)
      clear HC b5 Y5
      go_wp2_with fail
      go_ret
      exact ⟨rfl, k6⟩
  obtain ⟨n1, n2, n3, ⟨n4, n5, n6, n7⟩, _⟩ := HCK.out hR
  obtain ⟨hsl, hwn⟩ := not_or.1 hw
  have is : ¬ (4000 : Int) < (s.size : Int) := fun h => hsl (Int.ofNat_lt.1 h)
  have hne2 : ((bs (E (what s))).toList == []) = false := by
    rw [beq_eq_false_iff_ne, Lib.toList_data, bs_data]
    exact E_ne hwn
  obtain ⟨x, y, fx, fy, on⟩ := k
  simp only [] at n4 n5 n6 n7
  obtain ⟨y, rfl⟩ := Int.eq_ofNat_of_zero_le n4
  have hyl : y < L.length := Int.ofNat_lt.1 n5
  rw [HEE.out, HKK.out, if_neg hw, if_neg hw] at H1
  simp only [Int.toNat_natCast] at H1
  rw [seek_best L (what s) x y hyl] at H1
  have HWOK : Hid (∀ r ∈ what s, okRune r) := what_ok s
  have HWU : Hid ((bs (E (what s))).data.toList = E (what s)) := bs_data _
  generalize what s = ws at *
  obtain ⟨M, hM⟩ : ∃ M, bestM ws L x y = M := ⟨_, rfl⟩
  rw [hM] at H1
  have HBM : Hid (((hitsTo ws L L.length).find? (behind x y)).or (hitsTo ws L L.length).head? = M) := hM
  obtain ⟨E0, hE0⟩ : ∃ E0, seekE M = E0 := ⟨_, rfl⟩
  have he1 : chgE 0 (seekE M) = seekE M := by unfold chgE; rw [if_pos rfl]
  obtain ⟨XK, hXK⟩ : ∃ XK, chgK 0 (seekE M) (seekK ⟨x, y, fx, fy, on⟩ M) = XK := ⟨_, rfl⟩
  rw [he1, hXK, hE0] at H1
  have HE0 : Hid (seekE M = E0) := hE0
  obtain ⟨u0, u1, u2, u3, u4⟩ := XK
  have HXK : Hid (chgK 0 (seekE M) (seekK ⟨x, y, fx, fy, on⟩ M) = ⟨u0, u1, u2, u3, u4⟩) := hXK
  have HLL : Hid (∀ s ∈ L, s.size ≤ 4000) := n3
  clear he1 hE0 hXK hM HEE HKK HCK hw hwn n3 n4 n5 hsl hR
  generalize bs (E ws) = u at *
  simp only [Cp.cells] at *
  go_enter Tryd.func5, Tryd.ntmps5
  go_wp2_with fail
  refine (H1 _ kb).mono ?_
  rintro e W1 ⟨rfl, b1⟩
  have k1 := kb.trans (b1.mono kb.size)
  have kA : Below W1.heap.size W1 (W1.alloc (.cells #[.int .i64 u0, .int .i64 u1, .int .i64 u2, .int .i64 u3, .bool u4] 26)) := (Below.refl _ _).alloc (Nat.le_refl _) _
  have X1 := heap_alloc_new W1 (.cells #[.int .i64 u0, .int .i64 u1, .int .i64 u2, .int .i64 u3, .bool u4] 26)
  have k2 := k1.trans (kA.mono k1.size)
  have Y2 := (Y0.below b1).below kA
  have hW1 : w.heap.size < W1.heap.size := (Y0.below b1).lt
  obtain ⟨⟨c0, c1, c2, c3, c4⟩, _⟩ := Y2.cells
  simp only [] at c0 c1 c2 c3 c4
  clear H1 kA b1 Y0
  go_wp2_with fail
  refine (H3 _ k2).mono ?_
  rintro e W2 ⟨rfl, b2⟩
  have k3 := k2.trans (b2.mono k2.size)
  have Y3 := Y2.below b2
  have X3 := kept X1 b2
  clear H3 b2 Y2 X1 c0 c1 c2 c3 c4
  go_wp2_with fail
  refine (HCL _).mono ?_
  rintro e W3 ⟨rfl, b3⟩
  have k4 := k3.trans (b3.mono k3.size)
  have Y4 := Y3.below b3
  have X4 := kept X3 b3
  clear HCL b3 Y3 X3
  go_wp2_with fail
  refine (HC _ k4).mono ?_
  rintro e W4 ⟨rfl, b4⟩
  have k5 := k4.trans (b4.mono k4.size)
  have Y5 := Y4.below b4
  have X5 := kept X4 b4
  clear b4 Y4 X4
  have HX5 : Hid (W4.heap[W1.heap.size]? = some (.cells #[.int .i64 u0, .int .i64 u1, .int .i64 u2, .int .i64 u3, .bool u4] 26 (0, 0))) := X5
  have HY5 : Hid (BoxAt W4 w.heap.size ⟨x, y, fx, fy, on⟩) := Y5
  have HPX := fun t V => Tryd.strings_HasPrefix t u V
  clear HC
  go_wp2_with fail
  go_loopg [11, 12, 61] L.length (fun g u11 u12 u61 wr => ∃ n : Nat, u61 = .int .i64 (n : Int) ∧ n ≤ L.length ∧ L.length - n ≤ g ∧ PtAt wr u11 ((hitsTo ws L n).find? (behind x y)) ∧ PtAt wr u12 (hitsTo ws L n).head? ∧ Below W4.heap.size W4 wr)
  case atStart => exact ⟨0, rfl, Nat.zero_le _, by omega, rfl, rfl, Below.refl _ _⟩
  case round =>
    obtain ⟨n, rfl, hn1, hg, hpb, hpf, hbl⟩ := hrel
    by_cases hlt : n < L.length
    · have iyl : (n : Int) < (L.length : Int) := Int.ofNat_lt.2 hlt
      have k6 := k5.trans (hbl.mono k5.size)
      obtain ⟨b', o', c', hv, q9⟩ := (HLS.out _ k6).get hlt
      injection hv with e1 e2 e3
      subst e1 e3
      have HTO : Hid (hitsTo ws L (n + 1) = hitsTo ws L n ++ hitsI ws n (sp (ln L n)) (sp (ln L n)).length) := by
        show _ = _
        rw [hitsI_all]
        exact hitsTo_succ ws L n hlt
      have hs2 := ln_size HLL.out n
      have hsl2 := sp_len (ln L n)
      have HSP2 := Txt.spots_any (ln L n) wr (by omega)
      rw [show Txt.spotsL (Txt.runes (ln L n)) 0 = sp (ln L n) from rfl] at HSP2
      have HCO := fun V => Txt.cleanOf_any (ln L n) V (by omega)
      rw [clean_E] at HCO
      have HCV := runesV_conv (bs (E (what (ln L n)))) (clean_size (ln L n) hs2)
      rw [zs_what, List.length_map] at HCV
      have HSO : Hid (∀ r ∈ (sp (ln L n)).map (·.1), okRune r) := what_ok (ln L n)
      have HRB : Hid (∀ (W : World) (l : List Int), Below W.heap.size W (runesV W l)) := below_runesV
      have HCELL : Hid (∀ (W : World) (l : List Int) (j : Nat) (r : Int), l[j]? = some r → (runesV W l).cell? ⟨W.heap.size, 0 + j, none⟩ = some (.int .i32 r)) := runesV_cell
      have HG : Hid (∀ (W : World) (l : List Int), l.length ≤ grownCap W l.length 0 21) := fun W l => grownCap_ge W l.length 0 21
      generalize bs (E (what (ln L n))) = cu at *
      generalize sp (ln L n) = S at *
      generalize ln L n = sn at *
      have HS4 : Hid (S.length ≤ 4000) := Nat.le_trans hsl2 hs2
      have HPB0 : Hid (PtAt wr u11 ((hitsTo ws L n).find? (behind x y))) := hpb
      have HPF0 : Hid (PtAt wr u12 (hitsTo ws L n).head?) := hpf
      have HBL : Hid (Below W4.heap.size W4 wr) := hbl
      clear hs2 hsl2 hpb hpf hbl
      go_wp2_with fail
      refine HSP2.mono ?_
      rintro e W5 ⟨v5, rfl, hown, b5⟩
      obtain ⟨sa, sc, rfl, hsc⟩ := spot_cells hown
      clear HSP2 hown q9
      go_wp2_with fail
      refine (HCO _).mono ?_
      rintro e W6 ⟨rfl, b6⟩
      have HSC6 : Hid (S = [] ∨ ∃ g, sa = some ⟨g, 0, none⟩ ∧ ∀ (i : Nat) (hi : i < S.length), W6.cell? ⟨g, i * 2 + 1, none⟩ = some (.int .i64 S[i].2)) := by
        rcases hsc with h | ⟨g, h1, h2⟩
        · exact .inl h
        · exact .inr ⟨g, h1, fun i hi => CK.below b6 _ _ _ (h2 i hi).2⟩
      clear hsc HCO
      have b56 := b5.trans (b6.mono b5.size)
      have HB56 : Hid (Below wr.heap.size wr W6) := b56
      clear b5 b6 b56
      go_wp2_with fail
      have kr := HRB.out W6 (S.map (·.1))
      have hcr := HCELL.out W6 (S.map (·.1))
      have hgr := HG.out W6 (S.map (·.1))
      rw [List.length_map] at hgr
      generalize grownCap W6 S.length 0 21 = gc at *
      generalize runesV W6 (S.map (·.1)) = W7 at *
      have HCR : Hid (∀ (j : Nat) (r : Int), (S.map (·.1))[j]? = some r → W7.cell? ⟨W6.heap.size, 0 + j, none⟩ = some (.int .i32 r)) := hcr
      have HGR : Hid (S.length ≤ gc) := hgr
      have HB7 : Hid (Below wr.heap.size wr W7) := HB56.out.trans (kr.mono HB56.out.size)
      have HSC : Hid (S = [] ∨ ∃ g, sa = some ⟨g, 0, none⟩ ∧ ∀ (i : Nat) (hi : i < S.length), W7.cell? ⟨g, i * 2 + 1, none⟩ = some (.int .i64 S[i].2)) := by
        rcases HSC6.out with h | ⟨g, h1, h2⟩
        · exact .inl h
        · exact .inr ⟨g, h1, fun i hi => CK.below kr _ _ _ (h2 i hi)⟩
      have HPB7 : Hid (PtAt W7 u11 ((hitsTo ws L n).find? (behind x y))) := HPB0.out.below HB7.out
      have HPF7 : Hid (PtAt W7 u12 (hitsTo ws L n).head?) := HPF0.out.below HB7.out
      have HBL7 : Hid (Below W4.heap.size W4 W7) := HBL.out.trans (HB7.out.mono HBL.out.size)
      clear kr hcr hgr HSC6 HB56 HCELL HRB HG HCV HPB0 HPF0 HBL HB7
      go_loopg [11, 12, 73] S.length (fun g u11 u12 u73 wr => ∃ k9 : Nat, u73 = .int .i64 (k9 : Int) ∧ k9 ≤ S.length ∧ S.length - k9 ≤ g ∧ PtAt wr u11 ((hitsTo ws L n ++ hitsI ws n S k9).find? (behind x y)) ∧ PtAt wr u12 (hitsTo ws L n ++ hitsI ws n S k9).head? ∧ Below W7.heap.size W7 wr)
      case atStart => exact ⟨0, rfl, Nat.zero_le _, by omega, by rw [hitsI, List.append_nil]; exact HPB7.out, by rw [hitsI, List.append_nil]; exact HPF7.out, Below.refl _ _⟩
      case round =>
        obtain ⟨k9, rfl, hk1, hg2, hpb, hpf, hb7⟩ := hrel
        by_cases hk : k9 < S.length
        · have ik : (k9 : Int) < (S.length : Int) := Int.ofNat_lt.2 hk
          have ikl : (k9 : Int) ≤ (S.length : Int) := Int.le_of_lt ik
          have ikc : (k9 : Int) ≤ (gc : Int) := Int.ofNat_le.2 (Nat.le_trans hk1 HGR.out)
          have hgk : ¬ gc = k9 := by
            have := HGR.out
            omega
          have hk4 : k9 < 4000 := Nat.lt_of_lt_of_le hk HS4.out
          have HCV9 := conv_part (fr := k9) (t9 := S.length) (V := wr) (rb := W6.heap.size) (ro := 0) (rs := S.map (·.1)) (fun j r hj => CK.below hb7 _ _ _ (HCR.out j r hj)) (by rw [List.length_map]; exact Nat.le_refl _)
          have hpx := HPX (runesBytes (((S.map (·.1)).drop k9).take (S.length - k9))) wr
          have hhp := has_prefix ws (S.map (·.1)) k9 HWOK.out HSO.out
          rw [List.length_map] at hhp
          rw [HWU.out, hhp] at hpx
          have HNI : Hid (hitsI ws n S (k9 + 1) = hitsI ws n S k9 ++ (if ws.isPrefixOf ((S.map (·.1)).drop k9) then [((S.map (·.2)).getD k9 0, (n : Int))] else [])) := rfl
          generalize runesBytes (((S.map (·.1)).drop k9).take (S.length - k9)) = tx at *
          have hgd : (S.map (·.2)).getD k9 0 = S[k9].2 := by
            rw [List.getD_eq_getElem?_getD, List.getElem?_map, List.getElem?_eq_getElem hk]
            rfl
          rw [hgd] at HNI
          obtain ⟨gs, rfl, hgs⟩ := HSC.out.resolve_left (by intro e; rw [e] at hk; simp at hk)
          have q3 := CK.below hb7 _ _ _ (hgs k9 hk)
          generalize S[k9].2 = cl at *
          have HPB1 : Hid (PtAt wr u11 ((hitsTo ws L n ++ hitsI ws n S k9).find? (behind x y))) := hpb
          have HPF1 : Hid (PtAt wr u12 (hitsTo ws L n ++ hitsI ws n S k9).head?) := hpf
          have HB8 : Hid (Below W7.heap.size W7 wr) := hb7
          clear hhp hgd hgs hpb hpf hb7 HPB7 HPF7
          go_wp2_with fail
          refine hpx.mono ?_
          rintro e W8 ⟨rfl, hw8⟩
          obtain rfl := hw8.symm
          cases hpf : ws.isPrefixOf ((S.map (·.1)).drop k9)
          · rw [hpf] at HNI
            go_wp2_with fail
            go_roundg (S.length - (k9 + 1))
            case measure => omega
            case rel => exact ⟨k9 + 1, by go_num, by omega, Nat.le_refl _, by rw [HNI.out]; simpa using HPB1.out, by rw [HNI.out]; simpa using HPF1.out, HB8.out⟩
          · rw [hpf] at HNI
            have HNX : Hid (hitsTo ws L n ++ hitsI ws n S (k9 + 1) = (hitsTo ws L n ++ hitsI ws n S k9) ++ [(cl, (n : Int))]) := by
              show _ = _
              rw [HNI.out, List.append_assoc]
              rfl
            obtain ⟨B, hB⟩ : ∃ B, (hitsTo ws L n ++ hitsI ws n S k9).find? (behind x y) = B := ⟨_, rfl⟩
            obtain ⟨F, hF⟩ : ∃ F, (hitsTo ws L n ++ hitsI ws n S k9).head? = F := ⟨_, rfl⟩
            have HBQ : Hid ((hitsTo ws L n ++ hitsI ws n S k9).find? (behind x y) = B) := hB
            have HFQ : Hid ((hitsTo ws L n ++ hitsI ws n S k9).head? = F) := hF
            rw [hB] at HPB1
            rw [hF] at HPF1
            clear hB hF HCV9
            have HM8 : Hid ((wr.alloc (.cells #[.int .i64 cl, .int .i64 n] 24)).heap[wr.heap.size]? = some (.cells #[.int .i64 cl, .int .i64 n] 24 (0, 0))) := heap_alloc_new wr (.cells #[.int .i64 cl, .int .i64 n] 24)
            have kM : Below wr.heap.size wr (wr.alloc (.cells #[.int .i64 cl, .int .i64 n] 24)) := (Below.refl _ _).alloc (Nat.le_refl _) _
            have HPB : Hid (PtAt (wr.alloc (.cells #[.int .i64 cl, .int .i64 n] 24)) u11 B) := HPB1.out.below kM
            have HPF : Hid (PtAt (wr.alloc (.cells #[.int .i64 cl, .int .i64 n] 24)) u12 F) := HPF1.out.below kM
            have HK9 : Hid (Below W7.heap.size W7 (wr.alloc (.cells #[.int .i64 cl, .int .i64 n] 24))) := HB8.out.trans (kM.mono HB8.out.size)
            have HY9 : Hid (BoxAt (wr.alloc (.cells #[.int .i64 cl, .int .i64 n] 24)) w.heap.size ⟨x, y, fx, fy, on⟩) := HY5.out.below (HBL7.out.trans (HK9.out.mono HBL7.out.size))
            have hsW : wr.heap.size < (wr.alloc (.cells #[.int .i64 cl, .int .i64 n] 24)).heap.size := by rw [World.size_alloc]; omega
            clear kM
            cases hFc : F with
            | none =>
              subst hFc
              obtain rfl := HPF.out
              go_upto_region 21 with fail
              generalize hW9 : wr.alloc (.cells #[.int .i64 cl, .int .i64 n] 24) = W9 at *
              have HM9 : Hid (W9.heap[wr.heap.size]? = some (.cells #[.int .i64 cl, .int .i64 n] 24 (0, 0))) := HM8.out
              go_cut [119] from 94 to 119 (fun u wx => u = .bool (B.isNone && behind x y (cl, (n : Int))) ∧ Below W9.heap.size W9 wx)
              case first =>
                obtain ⟨⟨c0, c1, _⟩, _⟩ := HY9.out.cells
                simp only [] at c0 c1
                obtain ⟨m0, m1⟩ := cells2 HM9.out
                have g0 := fun d os => cell_regrown c0 d os
                have g1 := fun d os => cell_regrown c1 d os
                have g2 := fun d os => cell_regrown m0 d os
                have g3 := fun d os => cell_regrown m1 d os
                cases hB : B with
                | some mb =>
                  subst hB
                  obtain ⟨bb, rfl, _⟩ := HPB.out
                  have hh : Hid (false = ((some mb).isNone && behind x y (cl, (n : Int)))) := rfl
                  refine wp_region_quiet_below (by kernel_rfl) (by kernel_rfl) ?_
                  repeat (first | go_big_quiet_skip | quiet_step (fail))
                  refine wpQuiet_nil ?_
                  intro _ hw'
                  obtain ⟨⟨dq, os⟩, hw''⟩ := hw'
                  subst hw''
                  have kR := below_regrown W9 dq os
                  go_wp2_with fail
                  go_meet
                  exact ⟨congrArg Value.bool hh.out, kR⟩

                | none =>
                  subst hB
                  obtain rfl := HPB.out
                  have HBE : Hid (((none : Option (Int × Int)).isNone && behind x y (cl, (n : Int))) = (decide ((y : Int) < (n : Int)) || (decide ((n : Int) = (y : Int)) && decide (x < cl)))) := rfl
                  by_cases h1 : (y : Int) < (n : Int)
                  · have h1n : y < n := Int.ofNat_lt.1 h1
                    have h1d : decide ((y : Int) < (n : Int)) = true := decide_eq_true h1
                    have h1e : decide (y < n) = true := decide_eq_true h1n
                    have hh : Hid (true = ((none : Option (Int × Int)).isNone && behind x y (cl, (n : Int)))) := by
                      show _ = _
                      rw [HBE.out, h1d]
                      rfl
                    refine wp_region_quiet_below (by kernel_rfl) (by kernel_rfl) ?_
                    repeat (first | go_big_quiet_skip | quiet_step (fail))
                    refine wpQuiet_nil ?_
                    intro _ hw'
                    obtain ⟨⟨dq, os⟩, hw''⟩ := hw'
                    subst hw''
                    have kR := below_regrown W9 dq os
                    go_wp2_with fail
                    go_meet
                    exact ⟨congrArg Value.bool hh.out, kR⟩

                  · have h1n : ¬ y < n := fun h => h1 (Int.ofNat_lt.2 h)
                    have h1d : decide ((y : Int) < (n : Int)) = false := decide_eq_false h1
                    have h1e : decide (y < n) = false := decide_eq_false h1n
                    by_cases h2 : n = y
                    · have j2 : ((n : Int) == (y : Int)) = true := by rw [beq_iff_eq, h2]
                      have j3 : (n == y) = true := by rw [beq_iff_eq]; exact h2
                      have hh : Hid (decide (x < cl) = ((none : Option (Int × Int)).isNone && behind x y (cl, (n : Int)))) := by
                        show _ = _
                        rw [HBE.out, h1d, decide_eq_true (show (n : Int) = (y : Int) by rw [h2])]
                        simp
                      clear h2
                      refine wp_region_quiet_below (by kernel_rfl) (by kernel_rfl) ?_
                      repeat (first | go_big_quiet_skip | quiet_step (fail))
                      refine wpQuiet_nil ?_
                      intro _ hw'
                      obtain ⟨⟨dq, os⟩, hw''⟩ := hw'
                      subst hw''
                      have kR := below_regrown W9 dq os
                      go_wp2_with fail
                      go_meet
                      exact ⟨congrArg Value.bool hh.out, kR⟩

                    · have j2 : ((n : Int) == (y : Int)) = false := by
                        rw [beq_eq_false_iff_ne]
                        exact fun h => h2 (Int.ofNat_inj.1 h)
                      have j3 : (n == y) = false := by rw [beq_eq_false_iff_ne]; exact h2
                      have hh : Hid (false = ((none : Option (Int × Int)).isNone && behind x y (cl, (n : Int)))) := by
                        show _ = _
                        rw [HBE.out, h1d, decide_eq_false (fun h => h2 (Int.ofNat_inj.1 h))]
                        rfl
                      refine wp_region_quiet_below (by kernel_rfl) (by kernel_rfl) ?_
                      repeat (first | go_big_quiet_skip | quiet_step (fail))
                      refine wpQuiet_nil ?_
                      intro _ hw'
                      obtain ⟨⟨dq, os⟩, hw''⟩ := hw'
                      subst hw''
                      have kR := below_regrown W9 dq os
                      go_wp2_with fail
                      go_meet
                      exact ⟨congrArg Value.bool hh.out, kR⟩

              case rest =>
                obtain ⟨rfl, b10⟩ := hcut
                have k10 := HK9.out.trans (b10.mono HK9.out.size)
                have m10 := kept HM9.out b10
                have p10 := HPB.out.below b10
                cases hc : (B.isNone && behind x y (cl, (n : Int)))
                · go_wp2_with fail
                  go_roundg (S.length - (k9 + 1))
                  case measure => omega
                  case rel =>
                    refine ⟨k9 + 1, by go_num, by omega, Nat.le_refl _, ?_, ?_, k10⟩
                    · rw [HNX.out, List.find?_append, HBQ.out]
                      cases hB : B with
                      | some mb => rw [hB] at p10; exact p10
                      | none =>
                        rw [hB] at hc p10
                        have hc2 : behind x y (cl, (n : Int)) = false := hc
                        rw [Option.none_or, List.find?_cons, hc2]
                        exact p10
                    · rw [HNX.out, List.head?_append, HFQ.out]
                      exact ⟨_, rfl, m10⟩
                · go_wp2_with fail
                  go_roundg (S.length - (k9 + 1))
                  case measure => omega
                  case rel =>
                    refine ⟨k9 + 1, by go_num, by omega, Nat.le_refl _, ?_, ?_, k10⟩
                    · rw [HNX.out, List.find?_append, HBQ.out]
                      cases hB : B with
                      | some mb => rw [hB] at hc; exact absurd hc (by simp)
                      | none =>
                        rw [hB] at hc
                        have hc2 : behind x y (cl, (n : Int)) = true := hc
                        rw [Option.none_or, List.find?_cons, hc2]
                        exact ⟨_, rfl, m10⟩
                    · rw [HNX.out, List.head?_append, HFQ.out]
                      exact ⟨_, rfl, m10⟩
            | some mf =>
              subst hFc
              obtain ⟨bf, rfl, hbf⟩ := HPF.out
              have HBF : Hid (PtAt (wr.alloc (.cells #[.int .i64 cl, .int .i64 n] 24)) (.pointer (some ⟨bf, 0, none⟩)) (some mf)) := ⟨bf, rfl, hbf⟩
              clear hbf
              go_upto_region 21 with fail
              generalize hW9 : wr.alloc (.cells #[.int .i64 cl, .int .i64 n] 24) = W9 at *
              have HM9 : Hid (W9.heap[wr.heap.size]? = some (.cells #[.int .i64 cl, .int .i64 n] 24 (0, 0))) := HM8.out
              go_cut [119] from 94 to 119 (fun u wx => u = .bool (B.isNone && behind x y (cl, (n : Int))) ∧ Below W9.heap.size W9 wx)
              case first =>
                obtain ⟨⟨c0, c1, _⟩, _⟩ := HY9.out.cells
                simp only [] at c0 c1
                obtain ⟨m0, m1⟩ := cells2 HM9.out
                have g0 := fun d os => cell_regrown c0 d os
                have g1 := fun d os => cell_regrown c1 d os
                have g2 := fun d os => cell_regrown m0 d os
                have g3 := fun d os => cell_regrown m1 d os
                cases hB : B with
                | some mb =>
                  subst hB
                  obtain ⟨bb, rfl, _⟩ := HPB.out
                  have hh : Hid (false = ((some mb).isNone && behind x y (cl, (n : Int)))) := rfl
                  refine wp_region_quiet_below (by kernel_rfl) (by kernel_rfl) ?_
                  repeat (first | go_big_quiet_skip | quiet_step (fail))
                  refine wpQuiet_nil ?_
                  intro _ hw'
                  obtain ⟨⟨dq, os⟩, hw''⟩ := hw'
                  subst hw''
                  have kR := below_regrown W9 dq os
                  go_wp2_with fail
                  go_meet
                  exact ⟨congrArg Value.bool hh.out, kR⟩

                | none =>
                  subst hB
                  obtain rfl := HPB.out
                  have HBE : Hid (((none : Option (Int × Int)).isNone && behind x y (cl, (n : Int))) = (decide ((y : Int) < (n : Int)) || (decide ((n : Int) = (y : Int)) && decide (x < cl)))) := rfl
                  by_cases h1 : (y : Int) < (n : Int)
                  · have h1n : y < n := Int.ofNat_lt.1 h1
                    have h1d : decide ((y : Int) < (n : Int)) = true := decide_eq_true h1
                    have h1e : decide (y < n) = true := decide_eq_true h1n
                    have hh : Hid (true = ((none : Option (Int × Int)).isNone && behind x y (cl, (n : Int)))) := by
                      show _ = _
                      rw [HBE.out, h1d]
                      rfl
                    refine wp_region_quiet_below (by kernel_rfl) (by kernel_rfl) ?_
                    repeat (first | go_big_quiet_skip | quiet_step (fail))
                    refine wpQuiet_nil ?_
                    intro _ hw'
                    obtain ⟨⟨dq, os⟩, hw''⟩ := hw'
                    subst hw''
                    have kR := below_regrown W9 dq os
                    go_wp2_with fail
                    go_meet
                    exact ⟨congrArg Value.bool hh.out, kR⟩

                  · have h1n : ¬ y < n := fun h => h1 (Int.ofNat_lt.2 h)
                    have h1d : decide ((y : Int) < (n : Int)) = false := decide_eq_false h1
                    have h1e : decide (y < n) = false := decide_eq_false h1n
                    by_cases h2 : n = y
                    · have j2 : ((n : Int) == (y : Int)) = true := by rw [beq_iff_eq, h2]
                      have j3 : (n == y) = true := by rw [beq_iff_eq]; exact h2
                      have hh : Hid (decide (x < cl) = ((none : Option (Int × Int)).isNone && behind x y (cl, (n : Int)))) := by
                        show _ = _
                        rw [HBE.out, h1d, decide_eq_true (show (n : Int) = (y : Int) by rw [h2])]
                        simp
                      clear h2
                      refine wp_region_quiet_below (by kernel_rfl) (by kernel_rfl) ?_
                      repeat (first | go_big_quiet_skip | quiet_step (fail))
                      refine wpQuiet_nil ?_
                      intro _ hw'
                      obtain ⟨⟨dq, os⟩, hw''⟩ := hw'
                      subst hw''
                      have kR := below_regrown W9 dq os
                      go_wp2_with fail
                      go_meet
                      exact ⟨congrArg Value.bool hh.out, kR⟩

                    · have j2 : ((n : Int) == (y : Int)) = false := by
                        rw [beq_eq_false_iff_ne]
                        exact fun h => h2 (Int.ofNat_inj.1 h)
                      have j3 : (n == y) = false := by rw [beq_eq_false_iff_ne]; exact h2
                      have hh : Hid (false = ((none : Option (Int × Int)).isNone && behind x y (cl, (n : Int)))) := by
                        show _ = _
                        rw [HBE.out, h1d, decide_eq_false (fun h => h2 (Int.ofNat_inj.1 h))]
                        rfl
                      refine wp_region_quiet_below (by kernel_rfl) (by kernel_rfl) ?_
                      repeat (first | go_big_quiet_skip | quiet_step (fail))
                      refine wpQuiet_nil ?_
                      intro _ hw'
                      obtain ⟨⟨dq, os⟩, hw''⟩ := hw'
                      subst hw''
                      have kR := below_regrown W9 dq os
                      go_wp2_with fail
                      go_meet
                      exact ⟨congrArg Value.bool hh.out, kR⟩

              case rest =>
                obtain ⟨rfl, b10⟩ := hcut
                have k10 := HK9.out.trans (b10.mono HK9.out.size)
                have m10 := kept HM9.out b10
                have p10 := HPB.out.below b10
                cases hc : (B.isNone && behind x y (cl, (n : Int)))
                · go_wp2_with fail
                  go_roundg (S.length - (k9 + 1))
                  case measure => omega
                  case rel =>
                    refine ⟨k9 + 1, by go_num, by omega, Nat.le_refl _, ?_, ?_, k10⟩
                    · rw [HNX.out, List.find?_append, HBQ.out]
                      cases hB : B with
                      | some mb => rw [hB] at p10; exact p10
                      | none =>
                        rw [hB] at hc p10
                        have hc2 : behind x y (cl, (n : Int)) = false := hc
                        rw [Option.none_or, List.find?_cons, hc2]
                        exact p10
                    · rw [HNX.out, List.head?_append, HFQ.out]
                      exact HBF.out.below b10
                · go_wp2_with fail
                  go_roundg (S.length - (k9 + 1))
                  case measure => omega
                  case rel =>
                    refine ⟨k9 + 1, by go_num, by omega, Nat.le_refl _, ?_, ?_, k10⟩
                    · rw [HNX.out, List.find?_append, HBQ.out]
                      cases hB : B with
                      | some mb => rw [hB] at hc; exact absurd hc (by simp)
                      | none =>
                        rw [hB] at hc
                        have hc2 : behind x y (cl, (n : Int)) = true := hc
                        rw [Option.none_or, List.find?_cons, hc2]
                        exact ⟨_, rfl, m10⟩
                    · rw [HNX.out, List.head?_append, HFQ.out]
                      exact HBF.out.below b10
        · obtain rfl : k9 = S.length := by omega
          have ik : ¬ (S.length : Int) < (S.length : Int) := Int.lt_irrefl _
          have h1 := hpb
          have h2 := hpf
          rw [← HTO.out] at h1 h2
          have HP1 : Hid (PtAt wr u11 ((hitsTo ws L (n + 1)).find? (behind x y))) := h1
          have HP2 : Hid (PtAt wr u12 (hitsTo ws L (n + 1)).head?) := h2
          have HB8 : Hid (Below W4.heap.size W4 wr) := HBL7.out.trans (hb7.mono HBL7.out.size)
          clear h1 h2 hpb hpf hb7 HPB7 HPF7
          go_wp2_with fail
          go_roundg (L.length - (n + 1))
          case measure => omega
          case rel => exact ⟨n + 1, by go_num, by omega, Nat.le_refl _, HP1.out, HP2.out, HB8.out⟩
    · have hnl : n = L.length := by omega
      have iyl : ¬ (n : Int) < (L.length : Int) := fun h => hlt (Int.ofNat_lt.1 h)
      have hbm0 := HBM.out
      rw [← hnl] at hbm0
      generalize (hitsTo ws L n).find? (behind x y) = B at *
      generalize (hitsTo ws L n).head? = F at *
      clear HLS HTB HMB HLL HPX HWOK HWU
      cases hB : B with
      | none =>
        subst hB
        obtain rfl := hpb
        rw [Option.none_or] at hbm0
        cases hF : F with
        | none =>
          subst hF
          obtain rfl := hpf
          have k6 := k5.trans (hbl.mono k5.size)
          obtain ⟨x0, x1, x2, x3, x4⟩ := cells5' (kept X5 hbl)
          have hz : (⟨u0, u1, u2, u3, u4⟩ : Cp) = ⟨0, 0, 0, 0, false⟩ := by
            rw [← HXK.out, ← hbm0]
            rfl
          injection hz with z0 z1 z2 z3 z4
          subst z0 z1 z2 z3 z4
          have he : E0 = 8 := by rw [← HE0.out, ← hbm0]; rfl
          subst he
          clear hbm0
          go_wp2_with fail
          go_ret
          exact ⟨rfl, k6⟩
        | some m =>
          subst hF
          obtain ⟨b9, rfl, hbm⟩ := hpf
          have hMm : M = some m := hbm0.symm
          clear hbm0
          have k6 := k5.trans (hbl.mono k5.size)
          have hX9 := kept X5 hbl
          have hY9 := Y5.below hbl
          obtain ⟨x0, x1, x2, x3, x4⟩ := cells5' hX9
          obtain ⟨⟨c0, c1, c2, c3, c4⟩, hfY⟩ := hY9.cells
          simp only [] at c0 c1 c2 c3 c4
          obtain ⟨m0, m1⟩ := cells2 hbm
          have f0 := hfY 0
          have f1 := hfY 1
          have hn3 : W1.heap.size ≠ w.heap.size := by omega
          have hn4 := hn3.symm
          have hz : (⟨u0, u1, u2, u3, u4⟩ : Cp) = ⟨min m.1 120, m.2, fx, fy, on⟩ := by
            rw [← HXK.out, hMm]
            rfl
          injection hz with z0 z1 z2 z3 z4
          subst z0 z1 z2 z3 z4
          have he : E0 = 0 := by rw [← HE0.out, hMm]; rfl
          subst he
          obtain ⟨mx, my⟩ := m
          simp only [] at *
          have kE := (k6.setCell (p := ⟨w.heap.size, 0, none⟩) (Nat.le_refl _) (.int .i64 (min mx 120))).setCell (p := ⟨w.heap.size, 1, none⟩) (Nat.le_refl _) (.int .i64 my)
          have kF := (Below.drew k6 |>.setCell (p := ⟨w.heap.size, 0, none⟩) (Nat.le_refl _) (.int .i64 (min mx 120))).setCell (p := ⟨w.heap.size, 1, none⟩) (Nat.le_refl _) (.int .i64 my)
          go_upto_region 29 with fail
          go_region
          all_goals
            go_wp2_with fail
            go_ret
            exact ⟨rfl, by first | exact kE | exact kF | exact Below.drew kE⟩
      | some m =>
        subst hB
        obtain ⟨b9, rfl, hbm⟩ := hpb
        have hMm : M = some m := hbm0.symm
        clear hbm0
        have k6 := k5.trans (hbl.mono k5.size)
        have hX9 := kept X5 hbl
        have hY9 := Y5.below hbl
        obtain ⟨x0, x1, x2, x3, x4⟩ := cells5' hX9
        obtain ⟨⟨c0, c1, c2, c3, c4⟩, hfY⟩ := hY9.cells
        simp only [] at c0 c1 c2 c3 c4
        obtain ⟨m0, m1⟩ := cells2 hbm
        have f0 := hfY 0
        have f1 := hfY 1
        have hn3 : W1.heap.size ≠ w.heap.size := by omega
        have hn4 := hn3.symm
        have hz : (⟨u0, u1, u2, u3, u4⟩ : Cp) = ⟨min m.1 120, m.2, fx, fy, on⟩ := by
          rw [← HXK.out, hMm]
          rfl
        injection hz with z0 z1 z2 z3 z4
        subst z0 z1 z2 z3 z4
        have he : E0 = 0 := by rw [← HE0.out, hMm]; rfl
        subst he
        obtain ⟨mx, my⟩ := m
        simp only [] at *
        have kE := (k6.setCell (p := ⟨w.heap.size, 0, none⟩) (Nat.le_refl _) (.int .i64 (min mx 120))).setCell (p := ⟨w.heap.size, 1, none⟩) (Nat.le_refl _) (.int .i64 my)
        have kF := (Below.drew k6 |>.setCell (p := ⟨w.heap.size, 0, none⟩) (Nat.le_refl _) (.int .i64 (min mx 120))).setCell (p := ⟨w.heap.size, 1, none⟩) (Nat.le_refl _) (.int .i64 my)
        go_upto_region 29 with fail
        go_region
        all_goals
          go_wp2_with fail
          go_ret
          exact ⟨rfl, by first | exact kE | exact kF | exact Below.drew kE⟩
end Cpy
end Go.Proofs.YtlodmffiengnaaaDoor

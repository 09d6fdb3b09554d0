/- The reference's LeastOf. (Written by gen_spllsof.py.) -/
import Derived.Test.YtckkbmgdaplaaaaDoorSplShr
namespace Go.Proofs.YtckkbmgdaplaaaaDoor
open Go.ChangeShapes Go.WideShapes Go.ChangeAt Go.RowKit Go.Maps
namespace Spl
open Fo
set_option maxHeartbeats 8000000 in
set_option maxRecDepth 100000 in
theorem leastOf_rec : ∀ (n : Nat) (wy pn sz : Int) (ks : Fo) (kv : Value) (w : World), ks.cnt < n → ks.cnt ≤ 2000000 → (wy = 0 ∨ ((wy = 1 ∨ wy = 2) ∧ ks ≠ .nil)) → Ok ks → KAt w kv ks →
    Calls Tryd.prog 17 #[.agg #[.int .i64 wy, .int .i64 pn, .int .i64 sz, kv]] w fun e w' => e = .returned (.tuple #[.int .i64 ((ls wy ks).1 : Nat), .int .i64 ((ls wy ks).2 : Nat)]) ∧ Below w.heap.size w w'
  | 0, _, _, _, _, _, _, h, _, _, _, _ => absurd h (Nat.not_lt_zero _)
  | n + 1, wy, pn, sz, ks, kv, w, hn, hcnt, hroot, hrt, hk => by
    have IH := leastOf_rec n
    have kb : Below w.heap.size w (w.alloc (.cells #[.int .i64 wy, .int .i64 pn, .int .i64 sz, kv] 24)) := (Below.refl _ _).alloc (Nat.le_refl _) _
    have xb := heap_alloc_new w (.cells #[.int .i64 wy, .int .i64 pn, .int .i64 sz, kv] 24)
    unfold ls ls1
    by_cases h0 : wy = 0
    · rw [if_pos h0]
      subst h0
      clear IH hk hrt hroot xb
      go_enter Tryd.func17, Tryd.ntmps17
      go_wp2_with fail
      go_ret2
      exact ⟨rfl, kb⟩
    · rw [if_neg h0]
      obtain ⟨hwy, hne⟩ := hroot.resolve_left h0
      obtain ⟨ka, kc, rfl, hkle, hkk⟩ := hk
      obtain ⟨b, o, rfl, hf⟩ := hkk.resolve_left hne
      have HF0 : Hid (FoAt w ks b o) := hf
      have hlc := len_le_cnt ks
      have hsm := lsF_small ks
      have hl1 : 1 ≤ ks.len := by
        rcases Nat.eq_zero_or_pos ks.len with h | h
        · exact absurd (len_nil h) hne
        · exact h
      obtain ⟨S, hS⟩ : ∃ S, lsF ks = S := ⟨_, rfl⟩
      have HS : Hid (lsF ks = S) := hS
      rw [hS] at hsm ⊢
      have hwl : wrap64 ((ks.len : Int) - 1) = ((ks.len - 1 : Nat) : Int) := by unfold wrap64; omega
      have HXB : Hid (_ = some (Obj.cells #[.int .i64 wy, .int .i64 pn, .int .i64 sz, .slice (some ⟨b, o, none⟩) ks.len kc] 24 (0, 0))) := xb
      clear hroot hf hkk h0 xb hS
      rcases hwy with rfl | rfl
      · rw [if_pos rfl]
        simp only
        go_enter Tryd.func17, Tryd.ntmps17
        go_wp2_with fail
        clear hwl
        go_loopg [4, 5, 20] ks.len (fun g v4 v5 v20 wr => ∃ (i : Nat) (rs : Fo) (al ac : Nat), v4 = .int .i64 (al : Int) ∧ v5 = .int .i64 (ac : Int) ∧ v20 = .int .i64 (i : Int) ∧ i + rs.len = ks.len ∧ rs.len ≤ g ∧ rs.cnt ≤ ks.cnt ∧ Ok rs ∧ FoAt w rs b (o + i * 4) ∧ al + (lsF rs).1 = (ks.len - 1) + S.1 ∧ max ac (lsF rs).2.2.2 = S.2.2.2 ∧ Below w.heap.size w wr ∧ wr.heap[w.heap.size]? = some (.cells #[.int .i64 1, .int .i64 pn, .int .i64 sz, .slice (some ⟨b, o, none⟩) ks.len kc] 24 (0, 0)))
        case atStart => exact ⟨0, ks, ks.len - 1, 0, congrArg (Value.int .i64) (by omega), rfl, rfl, by omega, Nat.le_refl _, Nat.le_refl _, hrt, by simpa using HF0.out, by rw [HS.out], by rw [HS.out]; omega, kb, HXB.out⟩
        case round =>
          obtain ⟨i, rs, al, ac, rfl, rfl, rfl, hil, hg, hrc, hrr, hfo, hal, hac, hbel, hx⟩ := hrel
          obtain ⟨⟨x0, x1, x2, x3⟩, _⟩ := four_at hx
          clear kb HF0 hrt HS HXB
          cases rs with
          | nil =>
            have iex : ¬ (i : Int) < (ks.len : Int) := by simp only [len] at hil; omega
            simp only [lsF, Nat.add_zero, Nat.max_zero] at hal hac
            have HE1 : Hid ((al : Int) = ((S.1 + (ks.len - 1) : Nat) : Int)) := by unfold Hid; omega
            have HE2 : Hid ((ac : Int) = ((S.2.2.2 : Nat) : Int)) := by unfold Hid; omega
            clear hfo hil IH hal hac hx hsm
            go_wp2_with fail
            go_ret2
            exact ⟨ret_2 HE1.out HE2.out, hbel⟩
          | cons wy' pn' sz' ks' rs' =>
            obtain ⟨kv', h0, h1, h2, h3, hk', hr'⟩ := hfo.head
            obtain ⟨q1, q2, q3, q4⟩ := hrr
            simp only [len] at hil hg
            simp only [cnt] at hrc
            have hck := CK.below hbel
            have y0 := hck _ _ _ h0
            have y1 := hck _ _ _ h1
            have y2 := hck _ _ _ h2
            have y3 := hck _ _ _ h3
            have hkw : KAt wr kv' ks' := hk'.ck hck
            obtain ⟨ka', kc', rfl, hkle', _⟩ := hk'
            have iin : (i : Int) < (ks.len : Int) := by omega
            have kA : Below wr.heap.size wr (wr.alloc (.cells #[.int .i64 wy', .int .i64 pn', .int .i64 sz', .slice ka' ks'.len kc'] 24)) := (Below.refl _ _).alloc (Nat.le_refl _) _
            have HC := IH wy' pn' sz' ks' (.slice ka' ks'.len kc') _ (by omega) (by omega) q2 q3 (hkw.ck (CK.below kA))
            have hxA := (kA.block _ (Array.getElem?_eq_some_iff.1 hx).1).trans hx
            have HR' : Hid (FoAt w rs' b (o + (i + 1) * 4)) := by
              unfold Hid
              rw [show o + (i + 1) * 4 = o + i * 4 + 4 by omega]
              exact hr'
            have kAA := hbel.alloc hbel.size (.cells #[.int .i64 wy', .int .i64 pn', .int .i64 sz', .slice ka' ks'.len kc'] 24)
            simp only [lsF] at hal hac
            have hi20 : i < 2000000 := by omega
            unfold ls at HC
            obtain ⟨L, hL⟩ : ∃ L, ls1 wy' ks'.len (lsF ks') = L := ⟨_, rfl⟩
            rw [hL] at HC hal hac
            have hal2 : al + L.1 + (lsF rs').1 = (ks.len - 1) + S.1 := by omega
            have hac2 : max (max ac L.2) (lsF rs').2.2.2 = S.2.2.2 := by omega
            have HAL : Hid (al + L.1 + (lsF rs').1 = (ks.len - 1) + S.1) := hal2
            have HAC : Hid (max (max ac L.2) (lsF rs').2.2.2 = S.2.2.2) := hac2
            have HWA : Hid (wrap64 ((al : Int) + (L.1 : Int)) = ((al + L.1 : Nat) : Int)) := by unfold Hid wrap64; omega
            clear IH hfo hr' h0 h1 h2 h3 hkw q1 q2 q3 hck hal hac hal2 hac2 hL hx x0 x1 x2 x3 hsm
            go_wp2_with fail
            refine HC.mono ?_
            rintro e W2 ⟨rfl, b2⟩
            have k2 := kAA.trans (b2.mono kAA.size)
            have hx2 := (b2.block _ (Array.getElem?_eq_some_iff.1 hxA).1).trans hxA
            obtain ⟨⟨x0, x1, x2, x3⟩, _⟩ := four_at hx2
            clear HC y0 y1 y2 y3 hxA
            go_wp2_with fail
            go_roundg rs'.len
            case measure => omega
            case rel => exact ⟨i + 1, rs', al + L.1, max ac L.2, congrArg (Value.int .i64) HWA.out, congrArg (Value.int .i64) (by omega), by go_num, by omega, Nat.le_refl _, by omega, q4, HR'.out, HAL.out, HAC.out, k2, hx2⟩
      · rw [if_neg (by decide)]
        simp only
        go_enter Tryd.func17, Tryd.ntmps17
        go_wp2_with fail
        clear hwl
        go_loopg [4, 5, 20] ks.len (fun g v4 v5 v20 wr => ∃ (i : Nat) (rs : Fo) (al ac : Nat), v4 = .int .i64 (al : Int) ∧ v5 = .int .i64 (ac : Int) ∧ v20 = .int .i64 (i : Int) ∧ i + rs.len = ks.len ∧ rs.len ≤ g ∧ rs.cnt ≤ ks.cnt ∧ Ok rs ∧ FoAt w rs b (o + i * 4) ∧ al + (lsF rs).2.2.1 = (ks.len - 1) + S.2.2.1 ∧ max ac (lsF rs).2.1 = S.2.1 ∧ Below w.heap.size w wr ∧ wr.heap[w.heap.size]? = some (.cells #[.int .i64 2, .int .i64 pn, .int .i64 sz, .slice (some ⟨b, o, none⟩) ks.len kc] 24 (0, 0)))
        case atStart => exact ⟨0, ks, ks.len - 1, 0, congrArg (Value.int .i64) (by omega), rfl, rfl, by omega, Nat.le_refl _, Nat.le_refl _, hrt, by simpa using HF0.out, by rw [HS.out], by rw [HS.out]; omega, kb, HXB.out⟩
        case round =>
          obtain ⟨i, rs, al, ac, rfl, rfl, rfl, hil, hg, hrc, hrr, hfo, hal, hac, hbel, hx⟩ := hrel
          obtain ⟨⟨x0, x1, x2, x3⟩, _⟩ := four_at hx
          clear kb HF0 hrt HS HXB
          cases rs with
          | nil =>
            have iex : ¬ (i : Int) < (ks.len : Int) := by simp only [len] at hil; omega
            simp only [lsF, Nat.add_zero, Nat.max_zero] at hal hac
            have HE1 : Hid ((al : Int) = ((S.2.2.1 + (ks.len - 1) : Nat) : Int)) := by unfold Hid; omega
            have HE2 : Hid ((ac : Int) = ((S.2.1 : Nat) : Int)) := by unfold Hid; omega
            clear hfo hil IH hal hac hx hsm
            go_wp2_with fail
            go_ret2
            exact ⟨ret_2 HE2.out HE1.out, hbel⟩
          | cons wy' pn' sz' ks' rs' =>
            obtain ⟨kv', h0, h1, h2, h3, hk', hr'⟩ := hfo.head
            obtain ⟨q1, q2, q3, q4⟩ := hrr
            simp only [len] at hil hg
            simp only [cnt] at hrc
            have hck := CK.below hbel
            have y0 := hck _ _ _ h0
            have y1 := hck _ _ _ h1
            have y2 := hck _ _ _ h2
            have y3 := hck _ _ _ h3
            have hkw : KAt wr kv' ks' := hk'.ck hck
            obtain ⟨ka', kc', rfl, hkle', _⟩ := hk'
            have iin : (i : Int) < (ks.len : Int) := by omega
            have kA : Below wr.heap.size wr (wr.alloc (.cells #[.int .i64 wy', .int .i64 pn', .int .i64 sz', .slice ka' ks'.len kc'] 24)) := (Below.refl _ _).alloc (Nat.le_refl _) _
            have HC := IH wy' pn' sz' ks' (.slice ka' ks'.len kc') _ (by omega) (by omega) q2 q3 (hkw.ck (CK.below kA))
            have hxA := (kA.block _ (Array.getElem?_eq_some_iff.1 hx).1).trans hx
            have HR' : Hid (FoAt w rs' b (o + (i + 1) * 4)) := by
              unfold Hid
              rw [show o + (i + 1) * 4 = o + i * 4 + 4 by omega]
              exact hr'
            have kAA := hbel.alloc hbel.size (.cells #[.int .i64 wy', .int .i64 pn', .int .i64 sz', .slice ka' ks'.len kc'] 24)
            simp only [lsF] at hal hac
            have hi20 : i < 2000000 := by omega
            unfold ls at HC
            obtain ⟨L, hL⟩ : ∃ L, ls1 wy' ks'.len (lsF ks') = L := ⟨_, rfl⟩
            rw [hL] at HC hal hac
            have hal2 : al + L.2 + (lsF rs').2.2.1 = (ks.len - 1) + S.2.2.1 := by omega
            have hac2 : max (max ac L.1) (lsF rs').2.1 = S.2.1 := by omega
            have HAL : Hid (al + L.2 + (lsF rs').2.2.1 = (ks.len - 1) + S.2.2.1) := hal2
            have HAC : Hid (max (max ac L.1) (lsF rs').2.1 = S.2.1) := hac2
            have HWA : Hid (wrap64 ((al : Int) + (L.2 : Int)) = ((al + L.2 : Nat) : Int)) := by unfold Hid wrap64; omega
            clear IH hfo hr' h0 h1 h2 h3 hkw q1 q2 q3 hck hal hac hal2 hac2 hL hx x0 x1 x2 x3 hsm
            go_wp2_with fail
            refine HC.mono ?_
            rintro e W2 ⟨rfl, b2⟩
            have k2 := kAA.trans (b2.mono kAA.size)
            have hx2 := (b2.block _ (Array.getElem?_eq_some_iff.1 hxA).1).trans hxA
            obtain ⟨⟨x0, x1, x2, x3⟩, _⟩ := four_at hx2
            clear HC y0 y1 y2 y3 hxA
            go_wp2_with fail
            go_roundg rs'.len
            case measure => omega
            case rel => exact ⟨i + 1, rs', al + L.2, max ac L.1, congrArg (Value.int .i64) HWA.out, congrArg (Value.int .i64) (by omega), by go_num, by omega, Nat.le_refl _, by omega, q4, HR'.out, HAL.out, HAC.out, k2, hx2⟩
theorem leastOf_any (wy pn sz : Int) (ks : Fo) (kv : Value) (w : World) (hcnt : ks.cnt ≤ 2000000) (h1 : wy = 0 ∨ ((wy = 1 ∨ wy = 2) ∧ ks ≠ .nil)) (hok : Ok ks) (hk : KAt w kv ks) :
    Calls Tryd.prog 17 #[.agg #[.int .i64 wy, .int .i64 pn, .int .i64 sz, kv]] w fun e w' => e = .returned (.tuple #[.int .i64 ((ls wy ks).1 : Nat), .int .i64 ((ls wy ks).2 : Nat)]) ∧ Below w.heap.size w w' :=
  leastOf_rec (ks.cnt + 1) wy pn sz ks kv w (Nat.lt_succ_self _) hcnt h1 hok hk
end Spl
end Go.Proofs.YtckkbmgdaplaaaaDoor

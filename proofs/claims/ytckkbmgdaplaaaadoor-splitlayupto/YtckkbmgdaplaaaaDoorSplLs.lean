/- Package split: least. -/
import Derived.Test.YtckkbmgdaplaaaaDoorSplPn
namespace Go.Proofs.YtckkbmgdaplaaaaDoor
open Go.ChangeShapes Go.WideShapes Go.ChangeAt Go.RowKit Go.Maps
namespace Spl
open Fo
/-- What one tree takes, out of what its kids take: the sum and the greatest of the widths, and of the heights. -/
def ls1 (wy : Int) (n : Nat) (s : Nat × Nat × Nat × Nat) : Nat × Nat := if wy = 0 then (1, 1) else if wy = 1 then (s.1 + (n - 1), s.2.2.2) else (s.2.1, s.2.2.1 + (n - 1))
def lsF : Fo → Nat × Nat × Nat × Nat
  | nil => (0, 0, 0, 0)
  | cons wy _ _ ks rs => ((ls1 wy ks.len (lsF ks)).1 + (lsF rs).1, max (ls1 wy ks.len (lsF ks)).1 (lsF rs).2.1, (ls1 wy ks.len (lsF ks)).2 + (lsF rs).2.2.1, max (ls1 wy ks.len (lsF ks)).2 (lsF rs).2.2.2)
def ls (wy : Int) (ks : Fo) : Nat × Nat := ls1 wy ks.len (lsF ks)
theorem ls1_le (wy : Int) (n : Nat) (s : Nat × Nat × Nat × Nat) (b : Nat) (h1 : s.1 ≤ 2 * b) (h2 : s.2.1 ≤ 2 * b) (h3 : s.2.2.1 ≤ 2 * b) (h4 : s.2.2.2 ≤ 2 * b) (hb : n ≤ b) : (ls1 wy n s).1 ≤ 3 * b + 1 ∧ (ls1 wy n s).2 ≤ 3 * b + 1 := by
  unfold ls1
  split
  · simp
  · split
    · simp only; omega
    · simp only; omega
theorem lsF_le : ∀ f : Fo, (lsF f).1 + f.len ≤ 3 * f.cnt ∧ (lsF f).2.1 + f.len ≤ 3 * f.cnt ∧ (lsF f).2.2.1 + f.len ≤ 3 * f.cnt ∧ (lsF f).2.2.2 + f.len ≤ 3 * f.cnt ∨ f = nil
  | nil => .inr rfl
  | cons wy pn sz ks rs => by
    left
    have hk : (lsF ks).1 + ks.len ≤ 3 * ks.cnt ∧ (lsF ks).2.1 + ks.len ≤ 3 * ks.cnt ∧ (lsF ks).2.2.1 + ks.len ≤ 3 * ks.cnt ∧ (lsF ks).2.2.2 + ks.len ≤ 3 * ks.cnt := by
      rcases lsF_le ks with h | rfl
      · exact h
      · simp [lsF, len, cnt]
    have hr : (lsF rs).1 + rs.len ≤ 3 * rs.cnt ∧ (lsF rs).2.1 + rs.len ≤ 3 * rs.cnt ∧ (lsF rs).2.2.1 + rs.len ≤ 3 * rs.cnt ∧ (lsF rs).2.2.2 + rs.len ≤ 3 * rs.cnt := by
      rcases lsF_le rs with h | rfl
      · exact h
      · simp [lsF, len, cnt]
    have h1 : (ls1 wy ks.len (lsF ks)).1 ≤ 3 * ks.cnt + 1 ∧ (ls1 wy ks.len (lsF ks)).2 ≤ 3 * ks.cnt + 1 := by
      unfold ls1
      split
      · simp
      · split
        · simp only; omega
        · simp only; omega
    simp only [lsF, len, cnt]
    omega
theorem lsF_small (f : Fo) : (lsF f).1 ≤ 3 * f.cnt ∧ (lsF f).2.1 ≤ 3 * f.cnt ∧ (lsF f).2.2.1 ≤ 3 * f.cnt ∧ (lsF f).2.2.2 ≤ 3 * f.cnt := by
  rcases lsF_le f with h | rfl
  · omega
  · simp [lsF]
theorem ret_2 {a b c d : Int} (h1 : a = c) (h2 : b = d) : Ending.returned (.tuple #[.int .i64 a, .int .i64 b]) = Ending.returned (.tuple #[.int .i64 c, .int .i64 d]) := by rw [h1, h2]
set_option maxHeartbeats 8000000 in
set_option maxRecDepth 100000 in
theorem least_any : ∀ (n : Nat) (wy pn sz : Int) (ks : Fo) (kv : Value) (w : World), ks.cnt < n → ks.cnt ≤ 2000000 → (wy = 0 ∨ ks ≠ .nil) → Rt ks → KAt w kv ks →
    Calls Tryd.prog 44 #[.agg #[.int .i64 wy, .int .i64 pn, .int .i64 sz, kv]] w fun e w' => e = .returned (.tuple #[.int .i64 ((ls wy ks).1 : Nat), .int .i64 ((ls wy ks).2 : Nat)]) ∧ Below w.heap.size w w'
  | 0, _, _, _, _, _, _, h, _, _, _, _ => absurd h (Nat.not_lt_zero _)
  | n + 1, wy, pn, sz, ks, kv, w, hn, hcnt, hroot, hrt, hk => by
    have IH := least_any n
    have kb : Below w.heap.size w (w.alloc (.cells #[.int .i64 wy, .int .i64 pn, .int .i64 sz, kv] 24)) := (Below.refl _ _).alloc (Nat.le_refl _) _
    have xb := heap_alloc_new w (.cells #[.int .i64 wy, .int .i64 pn, .int .i64 sz, kv] 24)
    unfold ls ls1
    by_cases h0 : wy = 0
    · rw [if_pos h0]
      subst h0
      clear IH hk hrt hroot xb
      go_enter Tryd.func44, Tryd.ntmps44
      go_wp2_with fail
      go_ret2
      exact ⟨rfl, kb⟩
    · rw [if_neg h0]
      have j0 : (wy == 0) = false := by rw [beq_eq_false_iff_ne]; exact h0
      obtain ⟨ka, kc, rfl, hkle, hkk⟩ := hk
      obtain ⟨b, o, rfl, hf⟩ := hkk.resolve_left (hroot.resolve_left h0)
      have HF0 : Hid (FoAt w ks b o) := hf
      have hlc := len_le_cnt ks
      have hsm := lsF_small ks
      have hl1 : 1 ≤ ks.len := by
        rcases Nat.eq_zero_or_pos ks.len with h | h
        · exact absurd (len_nil h) (hroot.resolve_left h0)
        · exact h
      have HXB : Hid (_ = some (Obj.cells #[.int .i64 wy, .int .i64 pn, .int .i64 sz, .slice (some ⟨b, o, none⟩) ks.len kc] 24 (0, 0))) := xb
      clear hroot hf hkk h0 xb
      obtain ⟨S, hS⟩ : ∃ S, lsF ks = S := ⟨_, rfl⟩
      have HS : Hid (lsF ks = S) := hS
      rw [hS] at hsm ⊢
      clear hS
      have hwl : wrap64 ((ks.len : Int) - 1) = ((ks.len - 1 : Nat) : Int) := by unfold wrap64; omega
      by_cases h1 : wy = 1
      · rw [if_pos h1]
        subst h1
        simp only
        go_enter Tryd.func44, Tryd.ntmps44
        go_wp2_with fail
        go_loopg [2, 3, 19] ks.len (fun g v2 v3 v19 wr => ∃ (i : Nat) (rs : Fo) (aw ah : Nat), v2 = .int .i64 (aw : Int) ∧ v3 = .int .i64 (ah : Int) ∧ v19 = .int .i64 (i : Int) ∧ i + rs.len = ks.len ∧ rs.len ≤ g ∧ rs.cnt ≤ ks.cnt ∧ Rt rs ∧ FoAt w rs b (o + i * 4) ∧ aw + (lsF rs).1 = S.1 ∧ max ah (lsF rs).2.2.2 = S.2.2.2 ∧ Below w.heap.size w wr ∧ wr.heap[w.heap.size]? = some (.cells #[.int .i64 1, .int .i64 pn, .int .i64 sz, .slice (some ⟨b, o, none⟩) ks.len kc] 24 (0, 0)))
        case atStart => exact ⟨0, ks, 0, 0, rfl, rfl, rfl, by omega, Nat.le_refl _, Nat.le_refl _, hrt, by simpa using HF0.out, by rw [HS.out]; omega, by rw [HS.out]; omega, kb, HXB.out⟩
        case round =>
          obtain ⟨i, rs, aw, ah, rfl, rfl, rfl, hil, hg, hrc, hrr, hfo, haw, hah, hbel, hx⟩ := hrel
          obtain ⟨⟨x0, x1, x2, x3⟩, _⟩ := four_at hx
          clear kb HF0 hrt HS HXB
          cases rs with
          | nil =>
            have iex : ¬ (i : Int) < (ks.len : Int) := by simp only [len] at hil; omega
            simp only [lsF, Nat.add_zero, Nat.max_zero] at haw hah
            have HE1 : Hid (wrap64 ((aw : Int) + ((ks.len : Int) - 1)) = ((S.1 + (ks.len - 1) : Nat) : Int)) := by unfold Hid wrap64; omega
            have HE2 : Hid ((ah : Int) = ((S.2.2.2 : Nat) : Int)) := by unfold Hid; omega
            clear hfo hil IH haw hah hx hsm
            go_wp2_with fail
            go_ret2
            exact ⟨ret_2 HE1.out HE2.out, hbel⟩
          | cons wy' pn' sz' ks' rs' =>
            obtain ⟨kv', h0, h1, h2, h3, hk', hr'⟩ := hfo.head
            obtain ⟨q1, q2, q3⟩ := hrr
            simp only [len] at hil hg
            simp only [cnt] at hrc
            have hck := CK.below hbel
            have y0 := hck _ _ _ h0
            have y1 := hck _ _ _ h1
            have y2 := hck _ _ _ h2
            have y3 := hck _ _ _ h3
            have hkw : KAt wr kv' ks' := hk'.ck hck
            obtain ⟨ka', kc', rfl, hkle', _⟩ := hk'
            have iin : (i : Int) < (ks.len : Int) := by omega
            have kA : Below wr.heap.size wr (wr.alloc (.cells #[.int .i64 wy', .int .i64 pn', .int .i64 sz', .slice ka' ks'.len kc'] 24)) := (Below.refl _ _).alloc (Nat.le_refl _) _
            have HC := IH wy' pn' sz' ks' (.slice ka' ks'.len kc') _ (by omega) (by omega) q1 q2 (hkw.ck (CK.below kA))
            have hxA := (kA.block _ (Array.getElem?_eq_some_iff.1 hx).1).trans hx
            have HR' : Hid (FoAt w rs' b (o + (i + 1) * 4)) := by
              unfold Hid
              rw [show o + (i + 1) * 4 = o + i * 4 + 4 by omega]
              exact hr'
            have kAA := hbel.alloc hbel.size (.cells #[.int .i64 wy', .int .i64 pn', .int .i64 sz', .slice ka' ks'.len kc'] 24)
            simp only [lsF] at haw hah
            have hi20 : i < 2000000 := by omega
            unfold ls at HC
            obtain ⟨L, hL⟩ : ∃ L, ls1 wy' ks'.len (lsF ks') = L := ⟨_, rfl⟩
            rw [hL] at HC haw hah
            have haw2 : aw + L.1 + (lsF rs').1 = S.1 := by omega
            have hah2 : max (max ah L.2) (lsF rs').2.2.2 = S.2.2.2 := by omega
            have HAW : Hid (aw + L.1 + (lsF rs').1 = S.1) := haw2
            have HAH : Hid (max (max ah L.2) (lsF rs').2.2.2 = S.2.2.2) := hah2
            have HWA : Hid (wrap64 ((aw : Int) + (L.1 : Int)) = ((aw + L.1 : Nat) : Int)) := by unfold Hid wrap64; omega
            clear IH hfo hr' h0 h1 h2 h3 hkw q1 q2 hck haw hah haw2 hah2 hL hx x0 x1 x2 x3 hsm
            go_wp2_with fail
            refine HC.mono ?_
            rintro e W2 ⟨rfl, b2⟩
            have k2 := kAA.trans (b2.mono kAA.size)
            have hx2 := (b2.block _ (Array.getElem?_eq_some_iff.1 hxA).1).trans hxA
            obtain ⟨⟨x0, x1, x2, x3⟩, _⟩ := four_at hx2
            clear HC y0 y1 y2 y3 hxA
            go_wp2_with fail
            go_roundg rs'.len
            case measure => omega
            case rel => exact ⟨i + 1, rs', aw + L.1, max ah L.2, congrArg (Value.int .i64) HWA.out, congrArg (Value.int .i64) (by omega), by go_num, by omega, Nat.le_refl _, by omega, q3, HR'.out, HAW.out, HAH.out, k2, hx2⟩
      · rw [if_neg h1]
        have j1 : (wy == 1) = false := by rw [beq_eq_false_iff_ne]; exact h1
        clear h1
        simp only
        go_enter Tryd.func44, Tryd.ntmps44
        go_wp2_with fail
        go_loopg [2, 3, 19] ks.len (fun g v2 v3 v19 wr => ∃ (i : Nat) (rs : Fo) (aw ah : Nat), v2 = .int .i64 (aw : Int) ∧ v3 = .int .i64 (ah : Int) ∧ v19 = .int .i64 (i : Int) ∧ i + rs.len = ks.len ∧ rs.len ≤ g ∧ rs.cnt ≤ ks.cnt ∧ Rt rs ∧ FoAt w rs b (o + i * 4) ∧ max aw (lsF rs).2.1 = S.2.1 ∧ ah + (lsF rs).2.2.1 = S.2.2.1 ∧ Below w.heap.size w wr ∧ wr.heap[w.heap.size]? = some (.cells #[.int .i64 wy, .int .i64 pn, .int .i64 sz, .slice (some ⟨b, o, none⟩) ks.len kc] 24 (0, 0)))
        case atStart => exact ⟨0, ks, 0, 0, rfl, rfl, rfl, by omega, Nat.le_refl _, Nat.le_refl _, hrt, by simpa using HF0.out, by rw [HS.out]; omega, by rw [HS.out]; omega, kb, HXB.out⟩
        case round =>
          obtain ⟨i, rs, aw, ah, rfl, rfl, rfl, hil, hg, hrc, hrr, hfo, haw, hah, hbel, hx⟩ := hrel
          obtain ⟨⟨x0, x1, x2, x3⟩, _⟩ := four_at hx
          clear kb HF0 hrt HS HXB
          cases rs with
          | nil =>
            have iex : ¬ (i : Int) < (ks.len : Int) := by simp only [len] at hil; omega
            simp only [lsF, Nat.add_zero, Nat.max_zero] at haw hah
            have HE1 : Hid ((aw : Int) = ((S.2.1 : Nat) : Int)) := by unfold Hid; omega
            have HE2 : Hid (wrap64 ((ah : Int) + ((ks.len : Int) - 1)) = ((S.2.2.1 + (ks.len - 1) : Nat) : Int)) := by unfold Hid wrap64; omega
            clear hfo hil IH haw hah hx hsm
            go_wp2_with fail
            go_ret2
            exact ⟨ret_2 HE1.out HE2.out, hbel⟩
          | cons wy' pn' sz' ks' rs' =>
            obtain ⟨kv', h0, h1, h2, h3, hk', hr'⟩ := hfo.head
            obtain ⟨q1, q2, q3⟩ := hrr
            simp only [len] at hil hg
            simp only [cnt] at hrc
            have hck := CK.below hbel
            have y0 := hck _ _ _ h0
            have y1 := hck _ _ _ h1
            have y2 := hck _ _ _ h2
            have y3 := hck _ _ _ h3
            have hkw : KAt wr kv' ks' := hk'.ck hck
            obtain ⟨ka', kc', rfl, hkle', _⟩ := hk'
            have iin : (i : Int) < (ks.len : Int) := by omega
            have kA : Below wr.heap.size wr (wr.alloc (.cells #[.int .i64 wy', .int .i64 pn', .int .i64 sz', .slice ka' ks'.len kc'] 24)) := (Below.refl _ _).alloc (Nat.le_refl _) _
            have HC := IH wy' pn' sz' ks' (.slice ka' ks'.len kc') _ (by omega) (by omega) q1 q2 (hkw.ck (CK.below kA))
            have hxA := (kA.block _ (Array.getElem?_eq_some_iff.1 hx).1).trans hx
            have HR' : Hid (FoAt w rs' b (o + (i + 1) * 4)) := by
              unfold Hid
              rw [show o + (i + 1) * 4 = o + i * 4 + 4 by omega]
              exact hr'
            have kAA := hbel.alloc hbel.size (.cells #[.int .i64 wy', .int .i64 pn', .int .i64 sz', .slice ka' ks'.len kc'] 24)
            simp only [lsF] at haw hah
            have hi20 : i < 2000000 := by omega
            unfold ls at HC
            obtain ⟨L, hL⟩ : ∃ L, ls1 wy' ks'.len (lsF ks') = L := ⟨_, rfl⟩
            rw [hL] at HC haw hah
            have haw2 : max (max aw L.1) (lsF rs').2.1 = S.2.1 := by omega
            have hah2 : ah + L.2 + (lsF rs').2.2.1 = S.2.2.1 := by omega
            have HAW : Hid (max (max aw L.1) (lsF rs').2.1 = S.2.1) := haw2
            have HAH : Hid (ah + L.2 + (lsF rs').2.2.1 = S.2.2.1) := hah2
            have HWA : Hid (wrap64 ((ah : Int) + (L.2 : Int)) = ((ah + L.2 : Nat) : Int)) := by unfold Hid wrap64; omega
            clear IH hfo hr' h0 h1 h2 h3 hkw q1 q2 hck haw hah haw2 hah2 hL hx x0 x1 x2 x3 hsm
            go_wp2_with fail
            refine HC.mono ?_
            rintro e W2 ⟨rfl, b2⟩
            have k2 := kAA.trans (b2.mono kAA.size)
            have hx2 := (b2.block _ (Array.getElem?_eq_some_iff.1 hxA).1).trans hxA
            obtain ⟨⟨x0, x1, x2, x3⟩, _⟩ := four_at hx2
            clear HC y0 y1 y2 y3 hxA
            go_wp2_with fail
            go_roundg rs'.len
            case measure => omega
            case rel => exact ⟨i + 1, rs', max aw L.1, ah + L.2, congrArg (Value.int .i64) (by omega), congrArg (Value.int .i64) HWA.out, by go_num, by omega, Nat.le_refl _, by omega, q3, HR'.out, HAW.out, HAH.out, k2, hx2⟩
end Spl
end Go.Proofs.YtckkbmgdaplaaaaDoor

/- Package split: the closed fact: three panes. -/
import Derived.Test.YtckkbmgdaplaaaaDoorSplParse
import Derived.Test.YtckkbmgdaplaaaaDoorSplLay2
import Derived.Test.YtckkbmgdaplaaaaDoorSplEq
namespace Go.Proofs.YtckkbmgdaplaaaaDoor
open Go.ChangeShapes Go.WideShapes Go.ChangeAt Go.RowKit Go.Maps
namespace Spl
open Fo
def pt : ByteArray := ⟨#[123, 49, 44, 91, 50, 44, 51, 93, 42, 50, 125]⟩
theorem stop_b {t : ByteArray} {q : Nat} (h : (if h : q < t.size then !(decide (48 ≤ (t[q]'h).toNat) && decide ((t[q]'h).toNat ≤ 57)) else true) = true) : Stop t q := by
  intro hq
  rw [dif_pos hq] at h
  simp at h
  omega
theorem dg_b {t : ByteArray} {p : Nat} (h : (if h : p < t.size then (decide (49 ≤ (t[p]'h).toNat) && decide ((t[p]'h).toNat ≤ 57)) else false) = true) : p < t.size ∧ Dg t p 1 ∧ ∀ h : p < t.size, (t[p]'h).toNat ≠ 48 := by
  by_cases hp : p < t.size
  · rw [dif_pos hp, Bool.and_eq_true, decide_eq_true_eq, decide_eq_true_eq] at h
    refine ⟨hp, fun j hj => ?_, fun _ => by omega⟩
    obtain rfl : j = 0 := by omega
    exact ⟨hp, by show 48 ≤ (t[p]'hp).toNat; omega, h.2⟩
  · rw [dif_neg hp] at h
    cases h
theorem nm_1 {t : ByteArray} {p : Nat} {n : Int} (h : (if h : p < t.size then (decide (49 ≤ (t[p]'h).toNat) && decide ((t[p]'h).toNat ≤ 57)) else false) = true) (hs : (if h : p + 1 < t.size then !(decide (48 ≤ (t[p + 1]'h).toNat) && decide ((t[p + 1]'h).toNat ≤ 57)) else true) = true) (ha : Lib.atoi (t.extract p (p + 1)).data.toList = some n) (hn : n ≠ 0) : Nm t p 1 n := by
  obtain ⟨h1, h2, h3⟩ := dg_b h
  exact ⟨Nat.le_refl _, by decide, h1, h2, fun _ => stop_b hs, h3, ha, hn⟩
def pk : Fo := cons 0 1 1 nil (cons 2 0 2 (cons 0 2 1 nil (cons 0 3 1 nil nil)) nil)
theorem pt_says : TsAt pt 0 (cons 1 0 1 pk nil) 0 pt.size := by
  refine ⟨11, 11, .inr ⟨.inl rfl, rfl, by decide, by decide, 10, ?_, by decide, rfl⟩, .inl ⟨by decide, rfl, rfl⟩, .inl ⟨rfl, rfl, by decide⟩⟩
  refine ⟨2, 2, .inl ⟨rfl, rfl, 1, nm_1 (by decide) (by decide) (by decide) (by decide), rfl, by decide, by decide⟩, .inl ⟨by decide, rfl, rfl⟩, .inr ⟨by decide, ?_⟩⟩
  refine ⟨8, 10, .inr ⟨.inr rfl, rfl, by decide, by decide, 7, ?_, by decide, rfl⟩, .inr ⟨by decide, by decide, 1, nm_1 (by decide) (by decide) (by decide) (by decide), rfl⟩, .inl ⟨rfl, rfl, by decide⟩⟩
  refine ⟨5, 5, .inl ⟨rfl, rfl, 1, nm_1 (by decide) (by decide) (by decide) (by decide), rfl, by decide, by decide⟩, .inl ⟨by decide, rfl, rfl⟩, .inr ⟨by decide, ?_⟩⟩
  exact ⟨7, 7, .inl ⟨rfl, rfl, 1, nm_1 (by decide) (by decide) (by decide) (by decide), rfl, by decide, by decide⟩, .inl ⟨by decide, rfl, rfl⟩, .inl ⟨rfl, rfl, by decide⟩⟩
theorem pk_chk : (chk (cons 1 0 1 pk nil)).1 = 0 := by decide
theorem pk_ls : ls 1 pk = (3, 3) := by decide
def pps : List Pl := [(1, 0, 0, 3, 5), (2, 4, 0, 7, 2), (3, 4, 3, 7, 2)]
theorem pk_lay : layT 1 0 pk 0 0 11 5 = pps := by decide
theorem pps_cells : pps.flatMap plc = [.int .i64 1, .int .i64 0, .int .i64 0, .int .i64 3, .int .i64 5, .int .i64 2, .int .i64 4, .int .i64 0, .int .i64 7, .int .i64 2, .int .i64 3, .int .i64 4, .int .i64 3, .int .i64 7, .int .i64 2] := rfl
set_option maxHeartbeats 4000000 in
set_option maxRecDepth 100000 in
theorem parted_any (b0 b1 b2 : ByteArray) (w : World) (hB : BrTab w b0 b1 b2) (hb : Br b1 b2) :
    Calls Tryd.prog 14 #[] w fun e w' => e = .returned (.bool true) ∧ Below w.heap.size w w' := by
  have HP := parse_good pt b0 b1 b2 1 0 1 pk w (by decide) hB hb pt_says (by decide) pk_chk
  have HL := fun V kv (hV : KAt V kv pk) => Lay_good 1 0 1 pk kv 11 5 V hV (by decide) pk_chk (by rw [pk_ls]; decide) (by decide) (by rw [pk_ls]; decide) (by decide)
  rw [pk_lay] at HL
  unfold pt at HP
  clear hB hb
  go_enter Tryd.func14, Tryd.ntmps14
  go_wp2_with fail
  refine HP.mono ?_
  rintro e W ⟨kv, rfl, hk, b⟩
  obtain ⟨ka, kc, rfl, _⟩ := id hk
  have kA : Below W.heap.size W (W.alloc (.cells #[.int .i64 1, .int .i64 0, .int .i64 1, .slice ka pk.len kc] 24)) := (Below.refl _ _).alloc (Nat.le_refl _) _
  have hkA := kat_below hk kA
  have k1 := b.trans (kA.mono b.size)
  have HLA := HL _ _ hkA
  clear HP hk b HL
  go_wp2_with fail
  refine HLA.mono ?_
  rintro e W2 ⟨v, rfl, ow, b2⟩
  have k2 := k1.trans (b2.mono k1.size)
  have kB : Below W2.heap.size W2 (W2.alloc (.cells #[.int .i64 1, .int .i64 0, .int .i64 0, .int .i64 3, .int .i64 5, .int .i64 2, .int .i64 4, .int .i64 0, .int .i64 7, .int .i64 2, .int .i64 3, .int .i64 4, .int .i64 3, .int .i64 7, .int .i64 2] 46)) := (Below.refl _ _).alloc (Nat.le_refl _) _
  have hB := heap_alloc_new W2 (.cells #[.int .i64 1, .int .i64 0, .int .i64 0, .int .i64 3, .int .i64 5, .int .i64 2, .int .i64 4, .int .i64 0, .int .i64 7, .int .i64 2, .int .i64 3, .int .i64 4, .int .i64 3, .int .i64 7, .int .i64 2] 46)
  have hown2 : OwnP (W2.alloc (.cells #[.int .i64 1, .int .i64 0, .int .i64 0, .int .i64 3, .int .i64 5, .int .i64 2, .int .i64 4, .int .i64 0, .int .i64 7, .int .i64 2, .int .i64 3, .int .i64 4, .int .i64 3, .int .i64 7, .int .i64 2] 46)) 0 (.slice (some ⟨W2.heap.size, 0, none⟩) 3 3) pps :=
    ⟨rfl, .inr ⟨W2.heap.size, 3, _, rfl, Nat.zero_le _, hB, Nat.le_refl _, by decide, rfl, rfl⟩⟩
  have HE := equalp_any v (.slice (some ⟨W2.heap.size, 0, none⟩) 3 3) pps _ (ow.below kB).sl hown2.sl (by decide)
  have k3 := k2.trans (kB.mono k2.size)
  clear HLA ow hown2 hB kB hkA
  go_wp2_with fail
  refine HE.mono ?_
  rintro e W3 ⟨rfl, b3⟩
  go_wp2_with fail
  go_ret
  exact ⟨rfl, k3.trans (b3.mono k3.size)⟩
end Spl
end Go.Proofs.YtckkbmgdaplaaaaDoor

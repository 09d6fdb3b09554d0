/- What is clean stays so; and the walk of the law TextClean. -/
import Derived.Test.YtgbenpokncmfmabDoorTextClean
import Derived.Test.YtgbenpokncmfmabDoorTextCleanMath
import Derived.Lib.RuneCount
namespace Go.Proofs.YtgbenpokncmfmabDoor
open Go.ChangeShapes Go.WideShapes Go.ChangeAt Go.RowKit Go.Maps
namespace Txt
/-- The runes that take a cell, each with how many bytes it takes when it is written anew. -/
def anew : List (Int × Nat) → List (Int × Nat)
  | [] => []
  | x :: t => if 0 < wd x.1 then (x.1, (Lib.encodeRune x.1).length) :: anew t else anew t
theorem rn_clean : ∀ L : List (Int × Nat), (∀ x ∈ L, okRune x.1) → rn (cleanL L) = anew L
  | [], _ => rfl
  | x :: t, h => by
    have ht := rn_clean t (fun y hy => h y (by simp [hy]))
    unfold cleanL anew
    split
    · rw [rn_encode x.1 (h x (by simp)), ht]
    · simpa using ht
theorem clean_anew : ∀ L : List (Int × Nat), cleanL (anew L) = cleanL L
  | [] => rfl
  | x :: t => by
    unfold anew
    split
    · rename_i h; simp [cleanL, h, clean_anew t]
    · rename_i h; simp [cleanL, h, clean_anew t]
theorem wide_anew : ∀ L : List (Int × Nat), wideL (anew L) = wideL L
  | [] => rfl
  | x :: t => by
    have := wd_range x.1
    unfold anew
    split
    · simp [wideL, wide_anew t]
    · simp only [wideL, wide_anew t]; omega
theorem cols_anew : ∀ (L : List (Int × Nat)) (c : Int), (colsL L c).length = (anew L).length
  | [], _ => rfl
  | x :: t, c => by
    unfold anew colsL
    split
    · simp [cols_anew t]
    · exact cols_anew t c
theorem anew_length : ∀ L : List (Int × Nat), (anew L).length ≤ L.length
  | [] => by simp [anew]
  | x :: t => by
    have := anew_length t
    unfold anew
    split
    · simp; omega
    · simp; omega
theorem clean_length : ∀ L : List (Int × Nat), (cleanL L).length ≤ 4 * L.length
  | [] => by simp [cleanL]
  | x :: t => by
    have := clean_length t
    have := encodeRune_length x.1
    unfold cleanL
    split
    · simp; omega
    · simp; omega
theorem count_rs (s : ByteArray) : ∀ f pos : Nat, Lib.runeCountFrom s f pos = (rs s f pos).length
  | 0, _ => rfl
  | f + 1, pos => by
    unfold Lib.runeCountFrom rs
    split
    · rw [count_rs s f]; simp; omega
    · rfl
theorem count_runes (s : ByteArray) : Lib.runeCount s = (runes s).length := count_rs s _ _

set_option maxHeartbeats 1000000 in
theorem textClean_walk (s : ByteArray) (w : World) (hT : Tab w) (hs : s.size ≤ 1099511627776) :
    Calls Tryd.prog 3 #[.string s] w fun e w' => e = .returned (.bool true) ∧ Below w.heap.size w w' := by
  have hpos := hT.pos
  have HT : Hid (Tab w) := hT
  clear hT
  have hok : ∀ x ∈ runes s, okRune x.1 := by rw [runes_rn]; exact rl_ok _ _
  have hrl := rs_length s s.size 0 (Nat.zero_le _)
  have hR : runes (bs (cleanL (runes s))) = anew (runes s) := by rw [runes_rn, bs_data]; exact rn_clean _ hok
  have hcl := clean_length (runes s)
  have hsz : (bs (cleanL (runes s))).size ≤ 17592186044416 := by rw [bs_size]; unfold runes at hcl ⊢; omega
  have hal := anew_length (runes s)
  have hal2 : (anew (runes s)).length ≤ s.size := by unfold runes at hal ⊢; omega
  have H1 : Hid (∀ w0, Tab w0 → _) := fun w0 h0 => clean_any s w0 h0 (by omega)
  have h2 := fun w0 h0 => clean_any (bs (cleanL (runes s))) w0 h0 hsz
  rw [hR, clean_anew] at h2
  have H2 : Hid (∀ w0, Tab w0 → _) := h2
  have h3 := fun w0 h0 => wide_any (bs (cleanL (runes s))) w0 h0 (by omega)
  unfold wideS at h3
  rw [hR, wide_anew] at h3
  have H3 : Hid (∀ w0, Tab w0 → _) := h3
  have H4 : Hid (∀ w0, Tab w0 → _) := fun w0 h0 => wide_any s w0 h0 (by omega)
  have h5 := fun w0 h0 => columns_any s w0 h0 (by omega)
  rw [cols_anew] at h5
  have H5 : Hid (∀ w0, Tab w0 → _) := h5
  have h6 := fun w0 => Tryd.utf8_RuneCountInString (bs (cleanL (runes s))) w0 (by omega)
  rw [count_runes, hR] at h6
  have H6 : Hid (∀ w0, _) := h6
  clear h2 h3 h5 h6 hok hrl hR hcl hal hsz
  unfold wideS at H4
  generalize wideL (runes s) = wi at *
  generalize (colsL (runes s) 0).map (Value.int .i64) = CM at *
  generalize cleanL (runes s) = cl at *
  generalize (anew (runes s)).length = an at *
  go_enter Tryd.func3, Tryd.ntmps3
  go_wp2_with fail
  refine (H1.out _ HT.out).mono ?_
  rintro e W1 ⟨rfl, b1⟩
  go_wp2_with fail
  refine (written_yes _ (HT.out.below b1 hpos)).mono ?_
  rintro e W2 ⟨rfl, b2⟩
  have b12 := b1.trans (b2.mono b1.size)
  clear b1 b2
  go_wp2_with fail
  refine (H2.out _ (HT.out.below b12 hpos)).mono ?_
  rintro e W3 ⟨rfl, b3⟩
  have b13 := b12.trans (b3.mono b12.size)
  clear b12 b3
  go_wp2_with fail
  refine (H3.out _ (HT.out.below b13 hpos)).mono ?_
  rintro e W4 ⟨rfl, b4⟩
  have b14 := b13.trans (b4.mono b13.size)
  clear b13 b4
  go_wp2_with fail
  refine (H4.out _ (HT.out.below b14 hpos)).mono ?_
  rintro e W5 ⟨rfl, b5⟩
  have b15 := b14.trans (b5.mono b14.size)
  clear b14 b5
  go_wp2_with fail
  refine (H5.out _ (HT.out.below b15 hpos)).mono ?_
  rintro e W6 ⟨v, rfl, hV, b6⟩
  have b16 := b15.trans (b6.mono b15.size)
  clear b15 b6
  obtain ⟨ao, cap, rfl⟩ : ∃ ao cap, v = .slice ao an cap := by
    rcases hV.2 with ⟨rfl, rfl⟩ | ⟨g, cap, cur, rfl, _⟩
    · exact ⟨none, 0, rfl⟩
    · exact ⟨_, cap, rfl⟩
  clear hV
  go_wp2_with fail
  refine (H6.out _).mono ?_
  rintro e W7 ⟨rfl, pos, rfl⟩
  go_wp2
  go_ret
  exact ⟨rfl, b16.alloc b16.size _⟩
end Txt
end Go.Proofs.YtgbenpokncmfmabDoor

/- Package keys: a number, and what it says of what is held. -/
import Derived.Test.YtjilgapoioploaaDoorKeysRd1
import Derived.Test.YtjilgapoioploaaDoorKeysN
import Derived.Lib.IndexLaws
import Derived.Lib.AtoiErrMem
namespace Go.Proofs.YtjilgapoioploaaDoor
open Go.ChangeShapes Go.WideShapes Go.ChangeAt Go.RowKit
namespace Kys
open Txt (wd bs dec)
/-- The library's two errors lie somewhere. -/
def ErrAt (w : World) (g : Nat) : Prop := ∃ ev, w.cell? ⟨g, 0, none⟩ = some ev ∧ (ev = .nilIface ∨ ∃ te pe, ev = .iface te pe)
def Errs (w : World) : Prop := ErrAt w 10 ∧ ErrAt w 11
theorem ErrAt.below {w w' : World} {g : Nat} (h : ErrAt w g) (hb : Below w.heap.size w w') : ErrAt w' g := by
  obtain ⟨ev, h1, h2⟩ := h
  exact ⟨ev, by rw [hb.cell (Txt.lt_of_cell h1)]; exact h1, h2⟩
theorem Errs.below {w w' : World} (h : Errs w) (hb : Below w.heap.size w w') : Errs w' := ⟨h.1.below hb, h.2.below hb⟩
def okN (l : List UInt8) : Bool := match Lib.atoiAll l with
  | .ok _ => true
  | _ => false
theorem atoi_ok (s : ByteArray) (hs : s.size ≤ 281474976710656) (w : World) (v : Int) (h : Lib.atoiAll s.data.toList = .ok v) : Calls Tryd.prog 53 #[.string s] w fun e w' => e = .returned (.tuple #[.int .i64 v, .nilIface]) ∧ Below w.heap.size w w' := by
  refine (Tryd.strconv_Atoi_ok s (by omega) v h w).mono ?_
  rintro e w' ⟨rfl, rfl | ⟨t, rfl⟩⟩
  · exact ⟨rfl, Below.refl _ _⟩
  · exact ⟨rfl, Lib.bytesWorld_below _ _ _⟩
theorem atoi_no (s : ByteArray) (hs : s.size ≤ 281474976710656) (w : World) (hE : Errs w) (h : okN s.data.toList = false) : Calls Tryd.prog 53 #[.string s] w fun e w' => ∃ N, e = .returned (.tuple #[.int .i64 (atoiN s.data.toList), .iface 120 (.pointer (some ⟨N, 0, none⟩))]) ∧ Below w.heap.size w w' := by
  unfold okN at h
  unfold atoiN
  cases ha : Lib.atoiAll s.data.toList with
  | ok v => rw [ha] at h; cases h
  | «syntax» =>
    obtain ⟨ev, h1, h2⟩ := hE.1
    refine (Tryd.strconv_Atoi_syntax s hs ha ev w h1 h2).mono ?_
    rintro e w' ⟨N, rfl, _, _, hb⟩
    exact ⟨N, rfl, hb⟩
  | range =>
    obtain ⟨ev, h1, h2⟩ := hE.2
    refine (Tryd.strconv_Atoi_range s hs ha ev w h1 h2).mono ?_
    rintro e w' ⟨N, rfl, _, _, hb⟩
    exact ⟨N, rfl, hb⟩
set_option maxHeartbeats 4000000 in
theorem heldOf_any (s : ByteArray) (hs : s.size ≤ 281474976710656) (w : World) (hE : Errs w) : Calls Tryd.prog 94 #[.string s] w fun e w' => e = .returned (.tuple #[.int .i64 ((heldN s.data.toList).getD 0), .bool (heldN s.data.toList).isSome]) ∧ Below w.heap.size w w' := by
  cases hk : okN s.data.toList with
  | true =>
    obtain ⟨v, hv⟩ : ∃ v, Lib.atoiAll s.data.toList = .ok v := by
      unfold okN at hk
      split at hk
      · exact ⟨_, by assumption⟩
      · cases hk
    have HA := atoi_ok s hs w v hv
    have e : heldN s.data.toList = if 1 ≤ v ∧ v ≤ 8 then some (v - 1) else none := by unfold heldN; rw [hv]
    rw [e]
    clear e hE hk hv
    by_cases h1 : 1 ≤ v
    · by_cases h8 : v ≤ 8
      · rw [if_pos ⟨h1, h8⟩]
        have i1 : ¬ v < 1 := by omega
        have i2 : ¬ 8 < v := by omega
        have hw : wrap64 (v - 1) = v - 1 := by unfold wrap64; omega
        go_enter Tryd.func94, Tryd.ntmps94
        go_wp2_with (go_at_call 53; refine HA.mono ?_; rintro e W1 ⟨rfl, b1⟩)
        go_ret2
        exact ⟨rfl, b1⟩
      · rw [if_neg (fun h => h8 h.2)]
        have i1 : ¬ v < 1 := by omega
        have i2 : 8 < v := by omega
        go_enter Tryd.func94, Tryd.ntmps94
        go_wp2_with (go_at_call 53; refine HA.mono ?_; rintro e W1 ⟨rfl, b1⟩)
        go_ret2
        exact ⟨rfl, b1⟩
    · rw [if_neg (fun h => h1 h.1)]
      have i1 : v < 1 := by omega
      go_enter Tryd.func94, Tryd.ntmps94
      go_wp2_with (go_at_call 53; refine HA.mono ?_; rintro e W1 ⟨rfl, b1⟩)
      go_ret2
      exact ⟨rfl, b1⟩
  | false =>
    have HA := atoi_no s hs w hE hk
    have e : heldN s.data.toList = none := by
      unfold heldN
      unfold okN at hk
      split at hk
      · cases hk
      · rename_i hh
        split
        · rename_i v hv
          exact absurd hv (hh v)
        · rfl
    rw [e]
    clear e hE hk
    go_enter Tryd.func94, Tryd.ntmps94
    go_wp2_with (go_at_call 53; refine HA.mono ?_; rintro e W1 ⟨N, rfl, b1⟩)
    go_ret2
    exact ⟨rfl, b1⟩
/-- Texts as bytes. -/
theorem toL_extract (t : ByteArray) (a b : Nat) : (t.extract a b).data.toList = (t.data.toList.take b).drop a := by
  simp [ByteArray.data_extract, List.drop_take]
set_option maxHeartbeats 2000000 in
theorem slcut_any (t : ByteArray) (ht : t.size ≤ 1048576) (w : World) : Calls Tryd.prog 102 #[.string t, .string ⟨#[59]⟩] w fun e w' => e = .returned (.tuple #[.string (bs (cutA t.data.toList)), .string (bs (cutB t.data.toList)), .bool (cutF t.data.toList)]) ∧ Below w.heap.size w w' := by
  have HI := Tryd.stringslite_Index_one t 59 w
  have hge := Lib.indexByte_ge t.data.toList 59
  by_cases h : Lib.indexByte t.data.toList 59 < 0
  · have e1 : bs (cutA t.data.toList) = t := by unfold cutA; rw [if_pos h]; rfl
    have e2 : bs (cutB t.data.toList) = ⟨#[]⟩ := by unfold cutB; rw [if_pos h]; rfl
    have e3 : cutF t.data.toList = false := by unfold cutF; exact decide_eq_false (by omega)
    rw [e1, e2, e3]
    clear e1 e2 e3
    generalize Lib.indexByte t.data.toList 59 = k at *
    have h1 : ¬ (0 ≤ k) := by omega
    go_enter Tryd.func102, Tryd.ntmps102
    go_wp2_with fail
    refine HI.mono ?_
    rintro e w' ⟨rfl, rfl⟩
    go_wp2_with fail
    go_ret3
    exact ⟨rfl, Below.refl _ _⟩
  · obtain ⟨k, hk⟩ : ∃ k : Nat, Lib.indexByte t.data.toList 59 = (k : Int) := ⟨(Lib.indexByte t.data.toList 59).toNat, by omega⟩
    have hs := (Lib.indexByte_some hk).1
    have hlt : k < t.size := by
      have := (List.getElem?_eq_some_iff.1 hs).1
      rw [Array.length_toList] at this
      exact this
    have e1 : bs (cutA t.data.toList) = t.extract 0 k := by
      unfold cutA
      rw [if_neg h, hk]
      apply ByteArray.ext
      apply Array.toList_inj.1
      rw [toL_extract]
      simp [bs]
    have e2 : bs (cutB t.data.toList) = t.extract (k + 1) t.size := by
      unfold cutB
      rw [if_neg h, hk]
      apply ByteArray.ext
      apply Array.toList_inj.1
      rw [toL_extract, List.take_of_length_le (by rw [Array.length_toList]; exact Nat.le_refl _)]
      simp [bs]
    have e3 : cutF t.data.toList = true := by unfold cutF; rw [hk]; exact decide_eq_true (by omega)
    rw [e1, e2, e3]
    rw [hk] at HI
    clear e1 e2 e3 hk hs h hge
    have a1 : k ≤ t.size := by omega
    have a2 : k + 1 ≤ t.size := by omega
    have a3 : (k : Int) + 1 ≤ 9223372036854775807 := by omega
    have a4 : wrap64 ((k : Int) + 1) = (k : Int) + 1 := by
      unfold wrap64
      omega
    go_enter Tryd.func102, Tryd.ntmps102
    go_wp2_with fail
    refine HI.mono ?_
    rintro e w' ⟨rfl, rfl⟩
    go_wp2_with fail
    go_region
    go_wp2_with fail
    go_ret3
    exact ⟨rfl, (Below.refl _ _).drew⟩
set_option maxHeartbeats 2000000 in
theorem cut_any (t : ByteArray) (ht : t.size ≤ 1048576) (w : World) : Calls Tryd.prog 93 #[.string t, .string ⟨#[59]⟩] w fun e w' => e = .returned (.tuple #[.string (bs (cutA t.data.toList)), .string (bs (cutB t.data.toList)), .bool (cutF t.data.toList)]) ∧ Below w.heap.size w w' := by
  have HI := slcut_any t ht w
  go_enter Tryd.func93, Tryd.ntmps93
  go_wp2_with fail
  refine HI.mono ?_
  rintro e w' ⟨rfl, hb⟩
  go_wp2_with fail
  go_ret3
  exact ⟨rfl, hb⟩
end Kys
end Go.Proofs.YtjilgapoioploaaDoor

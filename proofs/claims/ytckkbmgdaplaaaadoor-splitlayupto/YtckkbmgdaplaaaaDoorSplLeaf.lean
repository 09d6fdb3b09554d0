/- Package split: leaves. -/
import Derived.Test.YtckkbmgdaplaaaaDoorSplPn
import Derived.Test.YtckkbmgdaplaaaaDoorSplHas
import Derived.Test.YtckkbmgdaplaaaaDoorSplRest
namespace Go.Proofs.YtckkbmgdaplaaaaDoor
open Go.ChangeShapes Go.WideShapes Go.ChangeAt Go.RowKit Go.Maps
namespace Spl
open Fo
/-- Leaves of Size 1. -/
def lfF : List Int → Fo
  | [] => nil
  | p :: l => cons 0 p 1 nil (lfF l)
theorem lfF_len : ∀ l, (lfF l).len = l.length
  | [] => rfl
  | _ :: l => by simp [lfF, len, lfF_len l]
theorem lfF_cnt : ∀ l, (lfF l).cnt = l.length
  | [] => rfl
  | _ :: l => by simp [lfF, cnt, lfF_cnt l]
def lfc (p : Int) : List Value := [.int .i64 0, .int .i64 p, .int .i64 1, .slice none 0 0]
theorem lfc_len : ∀ l : List Int, (l.flatMap lfc).length = l.length * 4
  | [] => rfl
  | p :: l => by rw [List.flatMap_cons, List.length_append, lfc_len l]; simp [lfc]; omega
theorem lf_at {w : World} {b : Nat} : ∀ (l : List Int) (o : Nat), (∀ j u, (l.flatMap lfc)[j]? = some u → w.cell? ⟨b, o + j, none⟩ = some u) → FoAt w (lfF l) b o
  | [], _, _ => trivial
  | p :: l, o, h => by
    refine ⟨⟨none, 0, h 0 _ rfl, h 1 _ rfl, h 2 _ rfl, h 3 _ rfl, Nat.le_refl _, .inl rfl⟩, lf_at l (o + 4) (fun j u hj => ?_)⟩
    rw [show o + 4 + j = o + (4 + j) by omega]
    refine h (4 + j) u ?_
    rw [List.flatMap_cons, List.getElem?_append_right (by simp [lfc])]
    rwa [show 4 + j - (lfc p).length = j by simp [lfc]]
/-- A row of leaves in a block of its own. -/
def OwnL (w : World) (base : Nat) (v : Value) (l : List Int) : Prop := w.ownsRow base 24 4 v l.length (l.flatMap lfc)
theorem OwnL.low {w : World} {base : Nat} {v : Value} {l : List Int} (h : OwnL w base v l) : KAt (low w base) v (lfF l) := by
  rcases h.2 with ⟨hv, hn⟩ | ⟨g, cap, cur, hv, hg, hh, hc, _, hs, ht⟩
  · obtain rfl := List.length_eq_zero_iff.1 hn
    exact ⟨none, 0, hv, Nat.le_refl _, .inl rfl⟩
  · refine ⟨some ⟨g, 0, none⟩, cap, by rw [hv, lfF_len], by rw [lfF_len]; exact hc, .inr ⟨g, 0, rfl, lf_at l 0 (fun j u hj => low_of hg ?_)⟩⟩
    have hlt : j < l.length * 4 := by
      have := (List.getElem?_eq_some_iff.1 hj).1
      rwa [lfc_len] at this
    rw [Nat.zero_add]
    rw [← ht, List.getElem?_take_of_lt hlt] at hj
    unfold World.cell?
    rw [hh]
    simpa using hj
theorem OwnL.from {w : World} {base : Nat} {v : Value} {l : List Int} (h : OwnL w base v l) : ∀ k, v.ownBlock = some k → base ≤ k := by
  intro k hk
  obtain ⟨_, h | ⟨q, cap, cur, rfl, hq, _⟩⟩ := h
  · rw [h.1] at hk; simp [Value.ownBlock] at hk
  · simp only [Value.ownBlock, Option.some.injEq] at hk; omega
theorem OwnL.put {w : World} {base g i : Nat} {v u : Value} {l : List Int} (h : OwnL w base v l) (hne : ∀ q, v.ownBlock = some q → q ≠ g) : OwnL (w.setCell ⟨g, i, none⟩ u) base v l := by
  refine ⟨h.1, ?_⟩
  rcases h.2 with h2 | ⟨q, cap, cur, hv, hq, hh, r⟩
  · exact .inl h2
  · exact .inr ⟨q, cap, cur, hv, hq, by rw [RowKit.Below.heap_setCell _ _ _ _ (hne q (by rw [hv]; rfl))]; exact hh, r⟩
theorem SlI.slice {w : World} {v : Value} {l : List Int} (h : SlI w v l) : ∃ a c, v = .slice a l.length c := by
  rcases h with ⟨rfl, a, c, hv⟩ | ⟨b, o, c, hv, _⟩
  · exact ⟨a, c, hv⟩
  · exact ⟨_, _, hv⟩
theorem SlI.get {w : World} {v : Value} {l : List Int} (h : SlI w v l) (hne : l ≠ []) : ∃ b o c, v = .slice (some ⟨b, o, none⟩) l.length c ∧ ∀ j x, l[j]? = some x → w.cell? ⟨b, o + j, none⟩ = some (Value.int .i64 x) := by
  rcases h with ⟨h, _⟩ | h
  · exact absurd h hne
  · exact h
set_option maxHeartbeats 4000000 in
set_option maxRecDepth 100000 in
theorem leaves_any (l : List Int) (v : Value) (w : World) (hs : SlI w v l) (hl : l.length ≤ 2000000) :
    Calls Tryd.prog 54 #[v] w fun e w' => ∃ v', e = .returned v' ∧ OwnL w' w.heap.size v' l ∧ Below w.heap.size w w' := by
  obtain ⟨i0, hi, hzz⟩ := Option.map_eq_some_iff.1 sp_info
  simp only [Prod.mk.injEq] at hzz
  obtain ⟨hz0, hz1, hz2⟩ := hzz
  obtain ⟨a, c, rfl⟩ := hs.slice
  have HS : Hid (SlI w (.slice a l.length c) l) := hs
  have h0 : OwnL w w.heap.size (.slice none 0 0) [] := World.ownsRow_nil _ _ _ _
  clear hs
  go_enter Tryd.func54, Tryd.ntmps54
  go_wp2_with fail
  go_loopg [3, 8] (l.length + 1) (fun g v3 v8 wr => ∃ i : Nat, v8 = .int .i64 (i : Int) ∧ i ≤ l.length ∧ l.length - i < g ∧ OwnL wr w.heap.size v3 (l.take i) ∧ Below w.heap.size w wr)
  case atStart => exact ⟨0, rfl, Nat.zero_le _, by omega, h0, Below.refl _ _⟩
  case round =>
    obtain ⟨i, rfl, hi', hg, hown, hbel⟩ := hrel
    clear h0
    by_cases hil : i < l.length
    · have iin : (i : Int) < (l.length : Int) := Int.ofNat_lt.2 hil
      obtain ⟨b, o, c', hv, hc⟩ := HS.out.get (by intro h; rw [h] at hil; simp at hil)
      injection hv with e1 e2 e3
      subst e1 e3
      have q0 := hc i l[i] (List.getElem?_eq_getElem hil)
      have q1 : wr.cell? ⟨b, o + i, none⟩ = some (.int .i64 l[i]) := by rw [hbel.cell (lt_of_cell q0)]; exact q0
      obtain ⟨p, hp⟩ : ∃ p, l[i] = p := ⟨_, rfl⟩
      rw [hp] at q1
      have HTK : Hid (l.take (i + 1) = l.take i ++ [p]) := by
        show _ = _
        rw [List.take_succ_eq_append_getElem hil, hp]
      have HO : Hid (OwnL (wr.alloc (.cells #[.int .i64 0, .int .i64 p, .int .i64 1, .slice none 0 0] 24)) w.heap.size _ (l.take i)) := World.ownsRow.alloc hown _
      have kA := hbel.alloc hbel.size (.cells #[.int .i64 0, .int .i64 p, .int .i64 1, .slice none 0 0] 24)
      have hnk := cells_of_row (L := [.int .i64 0, .int .i64 p, .int .i64 1, .slice none 0 0]) (heap_alloc_new wr (.cells #[.int .i64 0, .int .i64 p, .int .i64 1, .slice none 0 0] 24))
      have hfr := hown.from
      have htl : (l.take i).length = i := by rw [List.length_take]; omega
      clear hown hc q0 hp
      go_wp2_with (at_builtin; refine wpList_append_own _ rfl _ _ 22 rfl w.heap.size 24 i0 (.agg #[.int .i64 0, .int .i64 0, .int .i64 0, .slice none 0 0]) 4 48 sp_und hi hz0 hz1 hz2 rfl (by decide) _ _ _ rfl HO.out ⟨wr.heap.size, 0, none⟩ 1 1 [.int .i64 0, .int .i64 p, .int .i64 1, .slice none 0 0] rfl rfl hnk (by intro u hu; simp at hu; rcases hu with rfl | rfl | rfl | rfl <;> rfl) (by unfold maxLen; omega) (by omega) kA.size ?_; intro v3 W4 hown3 hgrow hnil)
      go_roundg (l.length - i)
      case measure => omega
      case rel =>
        refine ⟨i + 1, by go_num, by omega, by omega, ?_, kA.grown hgrow kA.size (fun k hk => hfr k hk)⟩
        unfold OwnL
        rw [HTK.out, List.length_append, List.flatMap_append]
        exact hown3
    · have iex : ¬ (i : Int) < (l.length : Int) := fun h => hil (Int.ofNat_lt.1 h)
      have hlt : l.take i = l := List.take_of_length_le (by omega)
      rw [hlt] at hown
      go_wp2_with fail
      go_ret
      exact ⟨_, rfl, hown, hbel⟩
end Spl
end Go.Proofs.YtckkbmgdaplaaaaDoor

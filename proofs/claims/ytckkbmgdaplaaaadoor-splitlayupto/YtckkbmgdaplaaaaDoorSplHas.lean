/- slices.Index and slices.Contains, of numbers. -/
import Derived.Test.YtckkbmgdaplaaaaDoorSplPn
namespace Go.Proofs.YtckkbmgdaplaaaaDoor
open Go.ChangeShapes Go.WideShapes Go.ChangeAt Go.RowKit Go.Maps
namespace Spl
/-- A slice of numbers, wherever it lies. -/
def SlI (w : World) (v : Value) (l : List Int) : Prop := (l = [] ∧ ∃ a c, v = .slice a 0 c) ∨ ∃ b o c, v = .slice (some ⟨b, o, none⟩) l.length c ∧ ∀ j x, l[j]? = some x → w.cell? ⟨b, o + j, none⟩ = some (Value.int .i64 x)
theorem SlI.ck {w w' : World} {v : Value} {l : List Int} (h : SlI w v l) (hb : CK w w') : SlI w' v l := by
  rcases h with h | ⟨b, o, c, hv, hc⟩
  · exact .inl h
  · exact .inr ⟨b, o, c, hv, fun j x hx => hb _ _ _ (hc j x hx)⟩
theorem OwnI.sl {w : World} {base : Nat} {v : Value} {l : List Int} (h : OwnI w base v l) : SlI w v l := by
  by_cases hl : l = []
  · left
    refine ⟨hl, ?_⟩
    rcases h.2 with ⟨hv, _⟩ | ⟨g, cap, cur, hv, _⟩
    · exact ⟨none, 0, hv⟩
    · exact ⟨some ⟨g, 0, none⟩, cap, by rw [hv, hl]; rfl⟩
  · obtain ⟨g, cap, hv, _, _, _, hc⟩ := h.open hl
    refine .inr ⟨g, 0, cap, hv, fun j x hx => ?_⟩
    have := hc j (.int .i64 x) (by rw [List.getElem?_map, hx]; rfl)
    rwa [Addr.add_mid] at this
/-- Where a number stands first; -1, if it doesn't. -/
def idxI : List Int → Int → Nat → Int
  | [], _, _ => -1
  | x :: l, p, k => if p = x then (k : Int) else idxI l p (k + 1)
theorem idxI_ge : ∀ (l : List Int) (p : Int) (k : Nat), (0 ≤ idxI l p k ↔ p ∈ l)
  | [], p, k => by simp [idxI]
  | x :: l, p, k => by
    unfold idxI
    by_cases h : p = x
    · rw [if_pos h]; simp [h]
    · rw [if_neg h, idxI_ge l p (k + 1)]; simp [h]
theorem ret_b' {a b : Bool} (h : a = b) : Ending.returned (.bool a) = Ending.returned (.bool b) := by rw [h]
theorem ret_i {a b : Int} (h : a = b) : Ending.returned (.int .i64 a) = Ending.returned (.int .i64 b) := by rw [h]
set_option maxHeartbeats 4000000 in
set_option maxRecDepth 100000 in
theorem index_any (l : List Int) (v : Value) (p : Int) (w : World) (hs : SlI w v l) (hl : l.length ≤ 3000000) : Calls Tryd.prog 33 #[v, .int .i64 p] w fun e w' => e = .returned (.int .i64 (idxI l p 0)) ∧ Below w.heap.size w w' := by
  obtain ⟨R, hR⟩ : ∃ R, idxI l p 0 = R := ⟨_, rfl⟩
  rw [hR]
  have HR : Hid (idxI l p 0 = R) := hR
  clear hR
  have hv : ∃ a c, v = .slice a l.length c := by
    rcases hs with ⟨rfl, a, c, rfl⟩ | ⟨b, o, c, rfl, _⟩
    · exact ⟨a, c, rfl⟩
    · exact ⟨_, _, rfl⟩
  obtain ⟨a, c, rfl⟩ := hv
  have hcell : l = [] ∨ ∃ b o, a = some ⟨b, o, none⟩ ∧ ∀ j x, l[j]? = some x → w.cell? ⟨b, o + j, none⟩ = some (Value.int .i64 x) := by
    rcases hs with ⟨h, _⟩ | ⟨b, o, c', hv, hc⟩
    · exact .inl h
    · injection hv with e1
      exact .inr ⟨b, o, e1, hc⟩
  have HCC : Hid (l = [] ∨ ∃ b o, a = some ⟨b, o, none⟩ ∧ ∀ j x, l[j]? = some x → w.cell? ⟨b, o + j, none⟩ = some (Value.int .i64 x)) := hcell
  clear hcell hs
  go_enter Tryd.func33, Tryd.ntmps33
  go_wp2_with fail
  go_loopg [8] l.length (fun g u wr => ∃ i : Nat, u = .int .i64 (i : Int) ∧ i ≤ l.length ∧ l.length - i ≤ g ∧ idxI (l.drop i) p i = R ∧ Below w.heap.size w wr)
  case atStart => exact ⟨0, rfl, Nat.zero_le _, Nat.le_refl _, HR.out, Below.refl _ _⟩
  case round =>
    obtain ⟨i, rfl, hi, hg, hix, hb⟩ := hrel
    have HX : Hid (idxI (l.drop i) p i = R) := hix
    clear hix HR
    by_cases hil : i < l.length
    · have iin : (i : Int) < (l.length : Int) := by omega
      obtain ⟨b, o, rfl, hc⟩ := HCC.out.resolve_left (by intro h; rw [h] at hil; simp at hil)
      have q := (CK.below hb) _ _ _ (hc i l[i] (List.getElem?_eq_getElem hil))
      have hd : l.drop i = l[i] :: l.drop (i + 1) := List.drop_eq_getElem_cons hil
      have HXX := HX.out
      rw [hd, idxI] at HXX
      generalize l[i] = x at *
      by_cases hp : p = x
      · rw [if_pos hp] at HXX
        have jp : (p == x) = true := by rw [beq_iff_eq]; exact hp
        subst HXX
        clear HX hp hd hc HCC
        go_wp2_with fail
        go_ret
        exact ⟨rfl, hb⟩
      · rw [if_neg hp] at HXX
        have jp : (p == x) = false := by rw [beq_eq_false_iff_ne]; exact hp
        have HX2 : Hid (idxI (l.drop (i + 1)) p (i + 1) = R) := HXX
        clear HX HXX hp hd hc
        go_wp2_with fail
        go_roundg (l.length - (i + 1))
        case measure => omega
        case rel => exact ⟨i + 1, by go_num, by omega, Nat.le_refl _, HX2.out, hb⟩
    · have iex : ¬ (i : Int) < (l.length : Int) := by omega
      have e : R = -1 := by
        rw [← HX.out, List.drop_of_length_le (by omega)]
        rfl
      subst e
      clear HX hil
      go_wp2_with fail
      go_ret
      exact ⟨rfl, hb⟩
set_option maxHeartbeats 4000000 in
theorem contains_any (l : List Int) (v : Value) (p : Int) (w : World) (hs : SlI w v l) (hl : l.length ≤ 3000000) : Calls Tryd.prog 25 #[v, .int .i64 p] w fun e w' => e = .returned (.bool (decide (p ∈ l))) ∧ Below w.heap.size w w' := by
  have HI := index_any l v p w hs hl
  have hge := idxI_ge l p 0
  generalize idxI l p 0 = R at *
  by_cases hp : p ∈ l
  · rw [decide_eq_true hp]
    have h0 : 0 ≤ R := hge.2 hp
    clear hge hp hs
    go_enter Tryd.func25, Tryd.ntmps25
    go_wp2_with fail
    refine HI.mono ?_
    rintro e W ⟨rfl, bW⟩
    go_wp2_with fail
    go_ret
    exact ⟨rfl, bW⟩
  · rw [decide_eq_false hp]
    have h0 : ¬ 0 ≤ R := fun h => hp (hge.1 h)
    clear hge hp hs
    go_enter Tryd.func25, Tryd.ntmps25
    go_wp2_with fail
    refine HI.mono ?_
    rintro e W ⟨rfl, bW⟩
    go_wp2_with fail
    go_ret
    exact ⟨ret_b' (decide_eq_false (by omega)), bW⟩
end Spl
end Go.Proofs.YtckkbmgdaplaaaaDoor

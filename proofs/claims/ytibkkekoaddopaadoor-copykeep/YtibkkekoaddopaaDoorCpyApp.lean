/- append of one row of texts to another, within an expression that is guarded; slices.Clone of texts. -/
import Derived.Test.YtibkkekoaddopaaDoorCpyKeep2
import Derived.Deep.Upon
namespace Go.Proofs.YtibkkekoaddopaaDoor
open Go.ChangeShapes Go.WideShapes Go.ChangeAt Go.RowKit Go.Maps Go.Sort
namespace Cpy
open Txt (bs)
theorem choose_run (R : Result Value) (hk : ∃ r : Value × World, R = .ok r.1 r.2) (r : Value × World) (h : R = .ok r.1 r.2) : Classical.choose hk = r := by
  have h2 := Classical.choose_spec hk
  generalize Classical.choose hk = c at h2
  have h3 := h.symm.trans h2
  clear h2 hk h
  injection h3 with e1 e2
  exact Prod.ext e1.symm e2.symm
def AppOk (W : World) (x y : Value) : Prop := ∃ r : Value × World, (Builtin.append_ #[22, 22] 22 #[x, y]).run Tryd.prog W = .ok r.1 r.2
open Classical in
noncomputable def appR (W : World) (x y : Value) : Value × World := if h : AppOk W x y then Classical.choose h else (undef, W)
theorem appR_eq {W : World} {x y : Value} {r : Value × World} (h : (Builtin.append_ #[22, 22] 22 #[x, y]).run Tryd.prog W = .ok r.1 r.2) : AppOk W x y ∧ appR W x y = r := by
  have hk : AppOk W x y := ⟨r, h⟩
  refine ⟨hk, ?_⟩
  unfold appR
  rw [dif_pos hk]
  exact choose_run _ hk r h
theorem app_go (a : Act) (dst : Option Tmp) (x y : Operand) (pos : String) (after : Array Edge) (guard : Option (Nat × Bool)) (W : World) (h : AppOk W (a.eval x) (a.eval y)) :
    (execOp a.eval { dst, op := .call { callee := .builtin .append, args := #[x, y], argTypes := #[22, 22] }, type := 22, pos, after, guard }).run Tryd.prog W = .ok (.value (appR W (a.eval x) (a.eval y)).1) (appR W (a.eval x) (a.eval y)).2 := by
  obtain ⟨r, hr⟩ := h
  have e := (appR_eq hr).2
  rw [e]
  unfold execOp
  simp only [resolve, invoke, builtin, Sem.run_bind, Sem.run_pure, Result.andThen_ok, List.map_toArray, List.map_cons, List.map_nil, hr]
theorem oneTexts (ks : List ByteArray) : ∀ u ∈ ks.map Value.string, u.oneCell' = true := by
  intro u hu
  obtain ⟨k, _, rfl⟩ := List.mem_map.1 hu
  rfl
set_option maxRecDepth 100000 in
/-- Texts behind texts. -/
theorem app_texts {W : World} {base : Nat} {x : Value} {ks ms : List ByteArray} {a : Option Addr} {c : Nat} (hx : Own W base x ks) (hb : base ≤ W.heap.size) (hn : ks.length + ms.length ≤ 100000) (ha : a = none → c = 0)
    (hm : ms = [] ∨ ∃ b o, a = some ⟨b, o, none⟩ ∧ ∀ j z, ms[j]? = some z → W.cell? ⟨b, o + j, none⟩ = some (.string z)) : ∃ x' W', AppOk W x (.slice a ms.length c) ∧ appR W x (.slice a ms.length c) = (x', W') ∧ Own W' base x' (ks ++ ms) ∧ Below base W W' := by
  obtain ⟨i0, hi, hzz⟩ := Option.map_eq_some_iff.1 info_st
  simp only [Prod.mk.injEq] at hzz
  obtain ⟨hz0, hz1, hz2⟩ := hzz
  cases a with
  | none =>
    obtain rfl := ha rfl
    have hm0 : ms = [] := by
      rcases hm with h | ⟨b, o, h, _⟩
      · exact h
      · cases h
    subst hm0
    have hr : (Builtin.append_ #[22, 22] 22 #[x, .slice none 0 0]).run Tryd.prog W = .ok (x, W).1 (x, W).2 := by
      obtain ⟨_, ⟨rfl, _⟩ | ⟨g, cap, cur, rfl, _, _, hnc, _⟩⟩ := hx
      · exact run_append_nothing W _ _ _ _ i0 und_st hi none 0 0 (Nat.le_refl _) _ (Src.ofNil W und_st 0)
      · exact run_append_nothing W _ _ _ _ i0 und_st hi _ _ _ hnc _ (Src.ofNil W und_st 0)
    obtain ⟨p, q⟩ := appR_eq hr
    exact ⟨x, W, p, q, by rw [List.append_nil]; exact hx, Below.refl _ _⟩
  | some ad =>
    have hcell : ∀ j u, (ms.map Value.string)[j]? = some u → W.cell? (ad.add j) = some u := fun j u hu => by
      rcases hm with rfl | ⟨b, o, h, hc⟩
      · simp at hu
      · obtain rfl := Option.some.inj h
        rw [List.getElem?_map] at hu
        obtain ⟨z, hz, rfl⟩ := Option.map_eq_some_iff.1 hu
        rw [Addr.add_mid]
        exact hc j z hz
    obtain ⟨v', W', hr, ho, hgr, _⟩ := run_append_own (P := Tryd.prog) W base 22 22 9 i0 _ 1 16 und_st hi hz0 hz1 hz2 rfl (by decide) x ks.length (ks.map Value.string) hx ad ms.length c (ms.map Value.string) (by simp) hcell (oneTexts ms) (by unfold maxLen; omega) (by omega) hb
    obtain ⟨p, q⟩ := appR_eq (r := (v', W')) hr
    refine ⟨v', W', p, q, ?_, (Below.refl _ _).grown hgr hb (fun k hk => (hx.lt k hk).1)⟩
    unfold Own
    rw [List.length_append, List.map_append]
    exact ho
/-- slices.Clone of texts. -/
theorem clone_texts (L : List ByteArray) (a : Option Addr) (c : Nat) (w : World) (hbig : L.length * 16 ≤ 140737488355328) (h : L = [] ∨ ∃ b o, a = some ⟨b, o, none⟩ ∧ ∀ j x, L[j]? = some x → w.cell? ⟨b, o + j, none⟩ = some (.string x)) :
    Calls Tryd.prog 23 #[.slice a L.length c] w fun e w' => ∃ a' c', e = .returned (.slice a' L.length c') ∧ L.length ≤ c' ∧ (L = [] ∨ ∃ b o, a' = some ⟨b, o, none⟩ ∧ ∀ j x, L[j]? = some x → w'.cell? ⟨b, o + j, none⟩ = some (.string x)) ∧ Below w.heap.size w w' := by
  by_cases h0 : L = []
  · subst h0
    cases a with
    | none =>
      refine (Tryd.slices_Clone_string_nil 0 c w).mono ?_
      rintro e w' ⟨rfl, rfl⟩
      exact ⟨none, 0, rfl, Nat.le_refl _, .inl rfl, Below.refl _ _⟩
    | some ad =>
      refine (Tryd.slices_Clone_string_zero ad c w).mono ?_
      rintro e w' ⟨v', rfl, ho, _, hb⟩
      obtain ⟨a', c', rfl, hc, _⟩ := Own.open (L := []) (show Own w' w.heap.size v' [] from ho)
      exact ⟨a', c', rfl, hc, .inl rfl, hb⟩
  · obtain ⟨b, o, rfl, hc⟩ := h.resolve_left h0
    refine (Tryd.slices_Clone_string b o L.length c L w (Nat.le_refl _) hbig ?_).mono ?_
    · intro j hj
      rw [hc j _ (List.getElem?_eq_getElem hj), List.getD_eq_getElem?_getD, List.getElem?_eq_getElem hj]
      rfl
    · rintro e w' ⟨v', rfl, ho, _, hb⟩
      rw [List.take_of_length_le (Nat.le_refl _)] at ho
      obtain ⟨a', c', rfl, hc', hh⟩ := Own.open (L := L) (show Own w' w.heap.size v' L from ho)
      exact ⟨a', c', rfl, hc', hh, hb⟩
end Cpy
end Go.Proofs.YtibkkekoaddopaaDoor

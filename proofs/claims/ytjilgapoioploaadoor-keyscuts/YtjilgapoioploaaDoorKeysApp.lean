/- append of one row of keys to another, within an expression that is guarded. -/
import Derived.Test.YtjilgapoioploaaDoorKeysStruck
import Derived.Deep.Upon
namespace Go.Proofs.YtjilgapoioploaaDoor
open Go.ChangeShapes Go.WideShapes Go.ChangeAt Go.RowKit
namespace Kys
open Txt (wd bs dec)
theorem choose_run (R : Result Value) (hk : ∃ r : Value × World, R = .ok r.1 r.2) (r : Value × World) (h : R = .ok r.1 r.2) : Classical.choose hk = r := by
  have h2 := Classical.choose_spec hk
  generalize Classical.choose hk = c at h2
  have h3 := h.symm.trans h2
  clear h2 hk h
  injection h3 with e1 e2
  exact Prod.ext e1.symm e2.symm
def AppOk (W : World) (x y : Value) : Prop := ∃ r : Value × World, (Builtin.append_ #[31, 31] 31 #[x, y]).run Tryd.prog W = .ok r.1 r.2
open Classical in
noncomputable def appR (W : World) (x y : Value) : Value × World := if h : AppOk W x y then Classical.choose h else (undef, W)
theorem appR_eq {W : World} {x y : Value} {r : Value × World} (h : (Builtin.append_ #[31, 31] 31 #[x, y]).run Tryd.prog W = .ok r.1 r.2) : AppOk W x y ∧ appR W x y = r := by
  have hk : AppOk W x y := ⟨r, h⟩
  refine ⟨hk, ?_⟩
  unfold appR
  rw [dif_pos hk]
  exact choose_run _ hk r h
theorem app_go (a : Act) (dst : Option Tmp) (x y : Operand) (pos : String) (after : Array Edge) (guard : Option (Nat × Bool)) (W : World) (h : AppOk W (a.eval x) (a.eval y)) :
    (execOp a.eval { dst, op := .call { callee := .builtin .append, args := #[x, y], argTypes := #[31, 31] }, type := 31, pos, after, guard }).run Tryd.prog W = .ok (.value (appR W (a.eval x) (a.eval y)).1) (appR W (a.eval x) (a.eval y)).2 := by
  obtain ⟨r, hr⟩ := h
  have e := (appR_eq hr).2
  rw [e]
  unfold execOp
  simp only [resolve, invoke, builtin, Sem.run_bind, Sem.run_pure, Result.andThen_ok, List.map_toArray, List.map_cons, List.map_nil, hr]
theorem oneCells (ks : List Ky) : ∀ u ∈ flatK ks, u.oneCell' = true := by
  intro u hu
  obtain ⟨k, _, hu⟩ := List.mem_flatMap.1 hu
  simp [kc] at hu
  rcases hu with rfl | rfl | rfl | rfl <;> rfl
/-- Two rows of their own, one behind the other. -/
theorem app_any {W : World} {base base2 : Nat} {x y : Value} {ks ms : List Ky} (hx : OwnK W base x ks) (hy : OwnK W base2 y ms) (hb : base ≤ W.heap.size) (hn : ks.length + ms.length ≤ 100000) : ∃ x' W', AppOk W x y ∧ appR W x y = (x', W') ∧ OwnK W' base x' (ks ++ ms) ∧ Below base W W' := by
  obtain ⟨i0, hi, hzz⟩ := Option.map_eq_some_iff.1 info_key
  simp only [Prod.mk.injEq] at hzz
  obtain ⟨hz0, hz1, hz2⟩ := hzz
  obtain ⟨hl, h1 | ⟨g, cap, cur, rfl, hg, hh, hnc, hc, hs, ht⟩⟩ := hy
  · obtain ⟨rfl, h0⟩ := h1
    have hm : ms = [] := List.length_eq_zero_iff.1 h0
    subst hm
    have hr : (Builtin.append_ #[31, 31] 31 #[x, .slice none 0 0]).run Tryd.prog W = .ok (x, W).1 (x, W).2 := by
      obtain ⟨_, ⟨rfl, _⟩ | ⟨g, cap, cur, rfl, _, _, hnc, _⟩⟩ := hx
      · exact run_append_nothing W _ _ _ _ i0 und_keys hi none 0 0 (Nat.le_refl _) _ (Src.ofNil W und_keys 0)
      · exact run_append_nothing W _ _ _ _ i0 und_keys hi _ _ _ hnc _ (Src.ofNil W und_keys 0)
    obtain ⟨a, b⟩ := appR_eq hr
    exact ⟨x, W, a, b, by rw [List.append_nil]; exact hx, Below.refl _ _⟩
  · have hcell : ∀ j u, (flatK ms)[j]? = some u → W.cell? ((⟨g, 0, none⟩ : Addr).add j) = some u := fun j u hu => by
      have hi' : j < ms.length * 4 := by rw [← hl]; exact (List.getElem?_eq_some_iff.1 hu).1
      have : cur[j]? = some u := by
        rw [← ht, List.getElem?_take_of_lt hi'] at hu
        simpa using hu
      rw [Addr.add_mid, Nat.zero_add]
      unfold World.cell?
      rw [hh]
      exact this
    obtain ⟨v', W', hr, ho, hgr, _⟩ := run_append_own (P := Tryd.prog) W base 31 31 23 i0 _ 4 32 und_keys hi hz0 hz1 hz2 rfl (by decide) x ks.length (flatK ks) hx ⟨g, 0, none⟩ ms.length cap (flatK ms) hl hcell (oneCells ms) (by unfold maxLen; omega) (by omega) hb
    obtain ⟨a, b⟩ := appR_eq (r := (v', W')) hr
    refine ⟨v', W', a, b, ?_, (Below.refl _ _).grown hgr hb (own_from hx)⟩
    unfold OwnK flatK
    rw [List.length_append, List.flatMap_append]
    exact ho
end Kys
end Go.Proofs.YtjilgapoioploaaDoor

/- Package split: a row of places. -/
import Derived.Test.YtckkbmgdaplaaaaDoorSplShr
namespace Go.Proofs.YtckkbmgdaplaaaaDoor
open Go.ChangeShapes Go.WideShapes Go.ChangeAt Go.RowKit Go.Maps
namespace Spl
open Fo
def plc (p : Pl) : List Value := [.int .i64 p.1, .int .i64 p.2.1, .int .i64 p.2.2.1, .int .i64 p.2.2.2.1, .int .i64 p.2.2.2.2]
/-- A row of places in a block of its own. -/
def OwnP (w : World) (base : Nat) (v : Value) (l : List Pl) : Prop := w.ownsRow base 46 5 v l.length (l.flatMap plc)
theorem plc_len : ∀ l : List Pl, (l.flatMap plc).length = l.length * 5
  | [] => rfl
  | p :: l => by rw [List.flatMap_cons, List.length_append, plc_len l]; simp [plc]; omega
theorem OwnP.below {w w' : World} {base : Nat} {v : Value} {l : List Pl} (h : OwnP w base v l) (hb : Below w.heap.size w w') : OwnP w' base v l := by
  refine ⟨h.1, ?_⟩
  rcases h.2 with h2 | ⟨g, cap, cur, hv, hg, hh, r⟩
  · exact .inl h2
  · exact .inr ⟨g, cap, cur, hv, hg, by rw [hb.block g (Array.getElem?_eq_some_iff.1 hh).1]; exact hh, r⟩
theorem OwnP.set {w : World} {base g i : Nat} {v u : Value} {l : List Pl} (h : OwnP w base v l) (hne : ∀ q, base ≤ q → q < w.heap.size → q ≠ g) : OwnP (w.setCell ⟨g, i, none⟩ u) base v l := by
  refine ⟨h.1, ?_⟩
  rcases h.2 with h2 | ⟨q, cap, cur, hv, hq, hh, r⟩
  · exact .inl h2
  · exact .inr ⟨q, cap, cur, hv, hq, by rw [RowKit.Below.heap_setCell _ _ _ _ (hne q hq (Array.getElem?_eq_some_iff.1 hh).1)]; exact hh, r⟩
theorem OwnP.down {w : World} {base base' : Nat} {v : Value} {l : List Pl} (h : OwnP w base v l) (hb : base' ≤ base) : OwnP w base' v l := by
  refine ⟨h.1, ?_⟩
  rcases h.2 with h2 | ⟨q, cap, cur, hv, hq, r⟩
  · exact .inl h2
  · exact .inr ⟨q, cap, cur, hv, Nat.le_trans hb hq, r⟩
theorem OwnP.from {w : World} {base : Nat} {v : Value} {l : List Pl} (h : OwnP w base v l) : ∀ k, v.ownBlock = some k → base ≤ k := by
  intro k hk
  obtain ⟨_, h | ⟨q, cap, cur, rfl, hq, _⟩⟩ := h
  · rw [h.1] at hk; simp [Value.ownBlock] at hk
  · simp only [Value.ownBlock, Option.some.injEq] at hk; omega
theorem OwnP.lt {w : World} {base : Nat} {v : Value} {l : List Pl} (h : OwnP w base v l) : ∀ k, v.ownBlock = some k → k < w.heap.size := by
  intro k hk
  obtain ⟨_, h | ⟨q, cap, cur, rfl, _, hh, _⟩⟩ := h
  · rw [h.1] at hk; simp [Value.ownBlock] at hk
  · simp only [Value.ownBlock, Option.some.injEq] at hk
    subst hk
    exact (Array.getElem?_eq_some_iff.1 hh).1
theorem OwnP.put {w : World} {base g i : Nat} {v u : Value} {l : List Pl} (h : OwnP w base v l) (hne : ∀ q, v.ownBlock = some q → q ≠ g) : OwnP (w.setCell ⟨g, i, none⟩ u) base v l := by
  refine ⟨h.1, ?_⟩
  rcases h.2 with h2 | ⟨q, cap, cur, hv, hq, hh, r⟩
  · exact .inl h2
  · exact .inr ⟨q, cap, cur, hv, hq, by rw [RowKit.Below.heap_setCell _ _ _ _ (hne q (by rw [hv]; rfl))]; exact hh, r⟩
theorem OwnP.open {w : World} {base : Nat} {v : Value} {l : List Pl} (h : OwnP w base v l) (hne : l ≠ []) : ∃ g cap, v = .slice (some ⟨g, 0, none⟩) l.length cap ∧ base ≤ g ∧ g < w.heap.size ∧ l.length ≤ cap ∧ ∀ j u, (l.flatMap plc)[j]? = some u → w.cell? ((⟨g, 0, none⟩ : Addr).add j) = some u := by
  rcases h.2 with ⟨_, h2⟩ | ⟨g, cap, cur, hv, hg, hh, hnc, _, _, ht⟩
  · exact absurd (List.length_eq_zero_iff.1 h2) hne
  · refine ⟨g, cap, hv, hg, (Array.getElem?_eq_some_iff.1 hh).1, hnc, fun j u hj => ?_⟩
    have hlt : j < l.length * 5 := by
      have := (List.getElem?_eq_some_iff.1 hj).1
      rwa [plc_len] at this
    rw [← ht, List.getElem?_take_of_lt hlt] at hj
    rw [Addr.add_mid, Nat.zero_add]
    unfold World.cell?
    rw [hh]
    simpa using hj
theorem pl_info : (Tryd.prog.info? 46).map (fun i => (i.zero, i.size, i.bytes)) = some (some (.agg #[.int .i64 0, .int .i64 0, .int .i64 0, .int .i64 0, .int .i64 0]), 5, 40) := by kernel_rfl
theorem pls_und : Tryd.prog.underlying 29 = some (.slice 46) := by kernel_rfl
theorem plc_one (l : List Pl) : ∀ u ∈ l.flatMap plc, u.oneCell' = true := by
  intro u hu
  obtain ⟨p, _, hp⟩ := List.mem_flatMap.1 hu
  simp only [plc, List.mem_cons, List.not_mem_nil, or_false] at hp
  rcases hp with rfl | rfl | rfl | rfl | rfl <;> rfl
theorem layT_ne (wy pn : Int) (ks : Fo) (x y W H : Int) (h : wy = 0 ∨ layF ks wy (leftT wy (ls wy ks) W H) (szF ks) 0 x y W H ≠ []) : layT wy pn ks x y W H ≠ [] := by
  unfold layT
  by_cases h0 : wy = 0
  · rw [if_pos h0]; simp
  · rw [if_neg h0]; exact h.resolve_left h0
theorem layF_ne : ∀ (f : Fo) (wy left all S x y w h : Int), Ok f → f ≠ nil → layF f wy left all S x y w h ≠ []
  | nil, _, _, _, _, _, _, _, _, _, hn => absurd rfl hn
  | cons wy' pn' sz' ks' rs', wy, left, all, S, x, y, w, h, hok, _ => by
    rw [layF_cons]
    split
    · intro e
      refine layT_ne wy' pn' ks' _ _ _ _ ?_ (List.append_eq_nil_iff.1 e).1
      rcases hok.2.1 with h0 | ⟨_, hne⟩
      · exact .inl h0
      · exact .inr (layF_ne ks' _ _ _ _ _ _ _ _ hok.2.2.1 hne)
    · intro e
      refine layT_ne wy' pn' ks' _ _ _ _ ?_ (List.append_eq_nil_iff.1 e).1
      rcases hok.2.1 with h0 | ⟨_, hne⟩
      · exact .inl h0
      · exact .inr (layF_ne ks' _ _ _ _ _ _ _ _ hok.2.2.1 hne)
theorem layT_len : ∀ (f : Fo) (wy left all S x y w h : Int), (layF f wy left all S x y w h).length = (pnF f).length
  | nil, _, _, _, _, _, _, _, _ => rfl
  | cons wy' pn' sz' ks' rs', wy, left, all, S, x, y, w, h => by
    have IH1 := layT_len ks'
    have IH2 := layT_len rs'
    rw [layF_cons, pnF_cons]
    unfold layT
    split <;> split <;> rw [List.length_append, List.length_append, IH2] <;> simp [IH1]
end Spl
end Go.Proofs.YtckkbmgdaplaaaaDoor

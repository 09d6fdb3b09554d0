/- Package split: Panes; slices.Equal of numbers that read alike. -/
import Derived.Test.YtckkbmgdaplaaaaDoorSplLeaf
import Derived.Test.YtckkbmgdaplaaaaDoorSplLay2
import Derived.BigQuiet
namespace Go.Proofs.YtckkbmgdaplaaaaDoor
open Go.ChangeShapes Go.WideShapes Go.ChangeAt Go.RowKit Go.Maps Go.Sort
namespace Spl
open Fo
set_option maxHeartbeats 4000000 in
set_option maxRecDepth 100000 in
theorem equalI_full (b1 o1 c1 b2 o2 c2 : Nat) (l : List Int) (w : World) (h1 : ∀ j x, l[j]? = some x → w.cell? ⟨b1, o1 + j, none⟩ = some (Value.int .i64 x)) (h2 : ∀ j x, l[j]? = some x → w.cell? ⟨b2, o2 + j, none⟩ = some (Value.int .i64 x)) (hn : l.length ≤ 3000000) :
    Calls Tryd.prog 18 #[.slice (some ⟨b1, o1, none⟩) l.length c1, .slice (some ⟨b2, o2, none⟩) l.length c2] w fun e w' => e = .returned (.bool true) ∧ Below w.heap.size w w' := by
  have H1 : Hid (∀ j x, l[j]? = some x → w.cell? ⟨b1, o1 + j, none⟩ = some (Value.int .i64 x)) := h1
  have H2 : Hid (∀ j x, l[j]? = some x → w.cell? ⟨b2, o2 + j, none⟩ = some (Value.int .i64 x)) := h2
  clear h1 h2
  generalize hl : l.length = L at *
  have HL : Hid (l.length = L) := hl
  clear hl
  have ne : ((L : Int) != (L : Int)) = false := by simp
  go_enter Tryd.func18, Tryd.ntmps18
  go_wp2_with fail
  go_loopg [13] L (fun g i wr => ∃ k : Nat, i = .int .i64 (k : Int) ∧ k ≤ L ∧ L - k ≤ g ∧ Below w.heap.size w wr)
  case atStart => exact ⟨0, rfl, by omega, by omega, Below.refl _ _⟩
  case round =>
    obtain ⟨k, rfl, hk, hg, hb⟩ := hrel
    by_cases hlt : k < L
    · have lt1 : ((k : Int) < (L : Int)) := by omega
      obtain ⟨x, hx⟩ : ∃ x, l[k]? = some x := ⟨_, List.getElem?_eq_getElem (by rw [HL.out]; exact hlt)⟩
      have p0 : wr.cell? ⟨b1, o1 + k, none⟩ = some (.int .i64 x) := CK.below hb _ _ _ (H1.out k x hx)
      have q0 : wr.cell? ⟨b2, o2 + k, none⟩ = some (.int .i64 x) := CK.below hb _ _ _ (H2.out k x hx)
      have nx : (x != x) = false := by simp
      clear hx
      go_wp2_with fail
      go_region
      go_wp2_with fail
      go_roundg (L - (k + 1))
      case measure => omega
      case rel => exact ⟨k + 1, rfl, by omega, by omega, hb.drew⟩
    · have lt1 : ¬ ((k : Int) < (L : Int)) := by omega
      go_wp2_with fail
      go_ret
      exact ⟨rfl, hb⟩
set_option maxHeartbeats 4000000 in
theorem equalI_empty (a1 a2 : Option Addr) (c1 c2 : Nat) (w : World) :
    Calls Tryd.prog 18 #[.slice a1 0 c1, .slice a2 0 c2] w fun e w' => e = .returned (.bool true) ∧ Below w.heap.size w w' := by
  go_enter Tryd.func18, Tryd.ntmps18
  go_wp2_with fail
  go_loopg [13] 1 (fun g i wr => i = .int .i64 0 ∧ wr = w)
  case atStart => exact ⟨rfl, rfl⟩
  case round =>
    obtain ⟨rfl, rfl⟩ := hrel
    go_wp2_with fail
    go_ret
    exact ⟨rfl, Below.refl _ _⟩
theorem equalI_any (v1 v2 : Value) (l : List Int) (w : World) (h1 : SlI w v1 l) (h2 : SlI w v2 l) (hn : l.length ≤ 3000000) :
    Calls Tryd.prog 18 #[v1, v2] w fun e w' => e = .returned (.bool true) ∧ Below w.heap.size w w' := by
  by_cases hl : l = []
  · obtain ⟨a1, c1, rfl⟩ := h1.slice
    obtain ⟨a2, c2, rfl⟩ := h2.slice
    subst hl
    exact equalI_empty a1 a2 c1 c2 w
  · obtain ⟨b1, o1, c1, rfl, hc1⟩ := h1.get hl
    obtain ⟨b2, o2, c2, rfl, hc2⟩ := h2.get hl
    exact equalI_full b1 o1 c1 b2 o2 c2 l w hc1 hc2 hn
set_option maxHeartbeats 4000000 in
set_option maxRecDepth 100000 in
theorem Panes_good (wy pn sz : Int) (ks : Fo) (kv : Value) (w : World) (hk : KAt w kv ks) (hcnt : ks.cnt ≤ 2000000) (hc : (chk (cons wy pn sz ks nil)).1 = 0) :
    Calls Tryd.prog 19 #[.agg #[.int .i64 wy, .int .i64 pn, .int .i64 sz, kv]] w fun e w' => ∃ v, e = .returned v ∧ SlI w' v (if wy = 0 then [pn] else pnF ks) ∧ Below w.heap.size w w' := by
  have kb : Below w.heap.size w (w.alloc (.cells #[.int .i64 wy, .int .i64 pn, .int .i64 sz, kv] 24)) := (Below.refl _ _).alloc (Nat.le_refl _) _
  have xb := heap_alloc_new w (.cells #[.int .i64 wy, .int .i64 pn, .int .i64 sz, kv] 24)
  have HC := check_any wy pn sz ks kv _ (kat_below hk kb) hcnt
  rw [hc] at HC
  obtain ⟨h1, h2⟩ := chk_ok hc
  have HP := fun V (hV : KAt V kv ks) => panes_any (ks.cnt + 1) wy pn sz ks kv V (Nat.lt_succ_self _) hcnt (h1.imp id And.right) (Ok.rt ks h2) hV
  have HK : Hid (∀ V, Below w.heap.size w V → KAt V kv ks) := fun V hV => kat_below hk hV
  obtain ⟨LL, hLL⟩ : ∃ LL, (if wy = 0 then [pn] else pnF ks) = LL := ⟨_, rfl⟩
  rw [hLL] at HP ⊢
  clear hk hc h1 h2 hLL
  go_enter Tryd.func19, Tryd.ntmps19
  go_wp2_with fail
  refine HC.mono ?_
  rintro e W ⟨rfl, b⟩
  have k1 := kb.trans (b.mono kb.size)
  have x1 := (b.block _ (Array.getElem?_eq_some_iff.1 xb).1).trans xb
  obtain ⟨⟨c0, c1, c2, c3⟩, _⟩ := four_at x1
  clear HC xb kb x1
  go_wp2_with fail
  refine (HP _ (HK.out _ k1)).mono ?_
  rintro e W2 ⟨v, rfl, o, b2⟩
  go_wp2_with fail
  go_ret
  exact ⟨_, rfl, o.sl, k1.trans (b2.mono k1.size)⟩
end Spl
end Go.Proofs.YtckkbmgdaplaaaaDoor

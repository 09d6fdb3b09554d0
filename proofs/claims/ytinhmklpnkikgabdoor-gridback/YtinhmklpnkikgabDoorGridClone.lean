/- slices.Clone of cells. -/
import Derived.Test.YtinhmklpnkikgabDoorGridNear
import Derived.Lib.SliceRun
namespace Go.Proofs.YtinhmklpnkikgabDoor
open Go.ChangeShapes Go.WideShapes Go.ChangeAt Go.RowKit
namespace Grd
theorem own_of_row {w : World} {base : Nat} {v : Value} {cs : List C} (h : w.ownsRow base 30 4 v cs.length (flat cs)) (hn : v ≠ .slice none 0 0) : OwnG w base v cs := by
  obtain ⟨_, h | ⟨g, cap, cur, hv, hg, hh, hc, hm, hs, htk⟩⟩ := h
  · exact absurd h.1 hn
  · refine ⟨g, cap, cur.toList.drop (cs.length * 4), ⟨30, rfl⟩, hv, hg, hc, by unfold maxLen at hm; omega, ?_⟩
    rw [hh, ← htk, List.take_append_drop]
theorem cellsAt_src {w : World} {b o : Nat} {cs : List C} (h : CellsAt w b o cs) : ∀ j u, (flat cs)[j]? = some u → w.cell? ((⟨b, o, none⟩ : Addr).add j) = some u := by
  intro j u hj
  have hlt := (List.getElem?_eq_some_iff.1 hj).1
  rw [flat_len] at hlt
  have hd : j / 4 < cs.length := by omega
  have hm : j % 4 < 4 := by omega
  have e : j = j / 4 * 4 + j % 4 := by omega
  rw [e, flat_at cs (j / 4) (j % 4) hd hm] at hj
  obtain ⟨h0, h1, h2, h3⟩ := h (j / 4) hd
  rw [add_plain, show o + j = o + j / 4 * 4 + j % 4 by omega, ← hj]
  generalize j / 4 = d at *
  rcases (show j % 4 = 0 ∨ j % 4 = 1 ∨ j % 4 = 2 ∨ j % 4 = 3 by omega) with hq | hq | hq | hq <;> rw [hq]
  · exact h0
  · exact h1
  · exact h2
  · exact h3
set_option maxHeartbeats 1000000 in
theorem clone_cells (b o c : Nat) (cs : List C) (w : World) (hC : CellsAt w b o cs) (hbig : cs.length * 32 ≤ 140737488355328) :
    Calls Tryd.prog 36 #[.slice (some ⟨b, o, none⟩) cs.length c] w fun e w' => ∃ v', e = .returned v' ∧ OwnG w' w.heap.size v' cs ∧ Below w.heap.size w w' := by
  obtain ⟨i0, hi, hzz⟩ := Option.map_eq_some_iff.1 info_cell
  simp only [Prod.mk.injEq] at hzz
  obtain ⟨hz0, hz1, hz2⟩ := hzz
  have kb : Below w.heap.size w (w.alloc (.cells #[] 30)) := (Below.refl _ _).alloc (Nat.le_refl _) _
  have HS : Hid (∀ j u, (flat cs)[j]? = some u → (w.alloc (.cells #[] 30)).cell? ((⟨b, o, none⟩ : Addr).add j) = some u) := cellsAt_src (hC.below kb)
  have HF : Hid ((flat cs).length = cs.length * 4) := flat_len cs
  have HO : Hid (∀ u ∈ flat cs, u.oneCell' = true) := flat_one cs
  have qn : ∀ (w : World) (a : Option Addr) (n c n' c' : Nat), (binOp .eql 22 (.slice a n c) (.slice none n' c')).run Tryd.prog w = .ok (.bool a.isNone) w := fun w a n c n' c' => Lib.run_eql_slice_nil w _ _ a n c n' c' und_cells
  clear hC
  go_enter Tryd.func36, Tryd.ntmps36
  go_wp2_with (at_builtin; refine wpList_append_own _ rfl _ _ 22 rfl w.heap.size 30 i0 (.agg #[.int .i32 0, .int .i64 0, .int .i64 0, .int .i64 0]) 4 32 und_cells hi hz0 hz1 hz2 rfl (by decide) _ _ _ rfl (World.ownsRow_made w #[] 0 (Nat.le_refl _) (Nat.zero_le _) rfl) ⟨b, o, none⟩ cs.length c (flat cs) rfl HF.out HS.out HO.out ?qc4 ?qc5 ?qc6 ?_)
  case qc4 => unfold maxLen; omega
  case qc5 => omega
  case qc6 => simp
  intro v' w1 hown hgrow hnil
  go_wp2_with fail
  go_ret
  exact ⟨v', rfl, own_of_row hown hnil, ((Below.refl _ w).alloc (Nat.le_refl _) _).grown hgrow (by simp) (by intro k hk; simp [Value.ownBlock] at hk; omega)⟩
end Grd
end Go.Proofs.YtinhmklpnkikgabDoor

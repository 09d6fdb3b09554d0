/- A screen: its data, its words in memory; the small questions of package put. -/
import Derived.Test.YtnkeahfcpbepjaaDoorPartD
import Derived.Test.YtnkeahfcpbepjaaDoorPartF
import Derived.Lib.RuneCount
import Derived.Lib.SliceRun
import Derived.Deep.MidRow
import Derived.WalkSmall
import Derived.Maps.AppendAt
namespace Go.Proofs.YtnkeahfcpbepjaaDoor
open Go.ChangeShapes Go.WideShapes Go.ChangeAt Go.RowKit
namespace Put
open Grd (C SliceAt CellsAt gridErr z0)
open Sty (isSt)
open Txt (wd)
structure Scr where
  w : Int
  h : Int
  cs : List C
  x : Int
  y : Int
  late : Bool
  sf : Int
  sb : Int
  sx : Int
  top : Int
  bot : Int
  modes : Int
  tabs : List Bool
  kx : Int
  ky : Int
  kf : Int
  kb : Int
  kbits : Int
  km : Int
  last : Int
  title : ByteArray
  gone : List (List C)
def scrA (s : Scr) (cv tv gv : Value) : Array Value := #[.int .i64 s.w, .int .i64 s.h, cv, .int .i64 s.x, .int .i64 s.y, .bool s.late, .int .i64 s.sf, .int .i64 s.sb, .int .i64 s.sx, .int .i64 s.top, .int .i64 s.bot, .int .i64 s.modes, tv, .int .i64 s.kx, .int .i64 s.ky, .int .i64 s.kf, .int .i64 s.kb, .int .i64 s.kbits, .int .i64 s.km, .int .i32 s.last, .string s.title, gv]
def BoolsV (w : World) (v : Value) (l : List Bool) : Prop := (l = [] ∧ ∃ p c, v = .slice p 0 c) ∨ ∃ b o c, v = .slice (some ⟨b, o, none⟩) l.length c ∧ l.length ≤ c ∧ c ≤ 9223372036854775807 ∧ ∀ j, j < l.length → w.cell? ⟨b, o + j, none⟩ = some (.bool (l.getD j false))
def RowsV (w : World) (v : Value) (l : List (List C)) : Prop := (l = [] ∧ ∃ p c, v = .slice p 0 c) ∨ ∃ b o c, v = .slice (some ⟨b, o, none⟩) l.length c ∧ l.length ≤ c ∧ c ≤ 9223372036854775807 ∧ ∀ j, j < l.length → ∃ rv, w.cell? ⟨b, o + j, none⟩ = some rv ∧ SliceAt w rv (l.getD j [])
theorem cell_stay {w w' : World} (hb : Below w.heap.size w w') {a : Addr} {v : Value} (h : w.cell? a = some v) : w'.cell? a = some v := Grd.cell_keep hb h
theorem BoolsV.next {w w' : World} {v : Value} {l : List Bool} (h : BoolsV w v l) (hb : Below w.heap.size w w') : BoolsV w' v l := by
  rcases h with h | ⟨b, o, c, hv, h1, h2, hc⟩
  · exact .inl h
  · exact .inr ⟨b, o, c, hv, h1, h2, fun j hj => cell_stay hb (hc j hj)⟩
theorem BoolsV.slice {w : World} {v : Value} {l : List Bool} (h : BoolsV w v l) : ∃ p c, v = .slice p l.length c := by
  rcases h with ⟨rfl, p, c, rfl⟩ | ⟨b, o, c, rfl, -⟩
  · exact ⟨p, c, rfl⟩
  · exact ⟨_, c, rfl⟩
theorem RowsV.next {w w' : World} {v : Value} {l : List (List C)} (h : RowsV w v l) (hb : Below w.heap.size w w') : RowsV w' v l := by
  rcases h with h | ⟨b, o, c, hv, h1, h2, hc⟩
  · exact .inl h
  · refine .inr ⟨b, o, c, hv, h1, h2, fun j hj => ?_⟩
    obtain ⟨rv, h1, h2⟩ := hc j hj
    exact ⟨rv, cell_stay hb h1, h2.below hb⟩
theorem RowsV.slice {w : World} {v : Value} {l : List (List C)} (h : RowsV w v l) : ∃ p c, v = .slice p l.length c := by
  rcases h with ⟨rfl, p, c, rfl⟩ | ⟨b, o, c, rfl, -⟩
  · exact ⟨p, c, rfl⟩
  · exact ⟨_, c, rfl⟩
/-- A screen's words, and what they speak of. -/
structure ScrV (W : World) (s : Scr) (cv tv gv : Value) : Prop where
  c : SliceAt W cv s.cs
  t : BoolsV W tv s.tabs
  g : RowsV W gv s.gone
theorem ScrV.next {W W' : World} {s : Scr} {cv tv gv : Value} (h : ScrV W s cv tv gv) (hb : Below W.heap.size W W') : ScrV W' s cv tv gv := ⟨h.c.below hb, h.t.next hb, h.g.next hb⟩
theorem cells22 {W : World} {R : Nat} {t : TypeId} {v0 v1 v2 v3 v4 v5 v6 v7 v8 v9 v10 v11 v12 v13 v14 v15 v16 v17 v18 v19 v20 v21 : Value} (h : W.heap[R]? = some (.cells #[v0, v1, v2, v3, v4, v5, v6, v7, v8, v9, v10, v11, v12, v13, v14, v15, v16, v17, v18, v19, v20, v21] t (0, 0))) :
    (W.cell? ⟨R, 0, none⟩ = some v0 ∧ W.cell? ⟨R, 1, none⟩ = some v1 ∧ W.cell? ⟨R, 2, none⟩ = some v2 ∧ W.cell? ⟨R, 3, none⟩ = some v3 ∧ W.cell? ⟨R, 4, none⟩ = some v4 ∧ W.cell? ⟨R, 5, none⟩ = some v5 ∧ W.cell? ⟨R, 6, none⟩ = some v6 ∧ W.cell? ⟨R, 7, none⟩ = some v7 ∧ W.cell? ⟨R, 8, none⟩ = some v8 ∧ W.cell? ⟨R, 9, none⟩ = some v9 ∧ W.cell? ⟨R, 10, none⟩ = some v10) ∧
    (W.cell? ⟨R, 11, none⟩ = some v11 ∧ W.cell? ⟨R, 12, none⟩ = some v12 ∧ W.cell? ⟨R, 13, none⟩ = some v13 ∧ W.cell? ⟨R, 14, none⟩ = some v14 ∧ W.cell? ⟨R, 15, none⟩ = some v15 ∧ W.cell? ⟨R, 16, none⟩ = some v16 ∧ W.cell? ⟨R, 17, none⟩ = some v17 ∧ W.cell? ⟨R, 18, none⟩ = some v18 ∧ W.cell? ⟨R, 19, none⟩ = some v19 ∧ W.cell? ⟨R, 20, none⟩ = some v20 ∧ W.cell? ⟨R, 21, none⟩ = some v21) ∧ ∀ i, W.frozen? ⟨R, i, none⟩ = false := by
  refine ⟨?_, ?_, fun i => by simp [World.frozen?, h]⟩ <;> simp [World.cell?, h]
theorem scr_cells {W : World} {R : Nat} {t : TypeId} {s : Scr} {cv tv gv : Value} (h : W.heap[R]? = some (.cells (scrA s cv tv gv) t (0, 0))) :
    (W.cell? ⟨R, 0, none⟩ = some (.int .i64 s.w) ∧ W.cell? ⟨R, 1, none⟩ = some (.int .i64 s.h) ∧ W.cell? ⟨R, 2, none⟩ = some (cv) ∧ W.cell? ⟨R, 3, none⟩ = some (.int .i64 s.x) ∧ W.cell? ⟨R, 4, none⟩ = some (.int .i64 s.y) ∧ W.cell? ⟨R, 5, none⟩ = some (.bool s.late) ∧ W.cell? ⟨R, 6, none⟩ = some (.int .i64 s.sf) ∧ W.cell? ⟨R, 7, none⟩ = some (.int .i64 s.sb) ∧ W.cell? ⟨R, 8, none⟩ = some (.int .i64 s.sx) ∧ W.cell? ⟨R, 9, none⟩ = some (.int .i64 s.top) ∧ W.cell? ⟨R, 10, none⟩ = some (.int .i64 s.bot)) ∧
    (W.cell? ⟨R, 11, none⟩ = some (.int .i64 s.modes) ∧ W.cell? ⟨R, 12, none⟩ = some (tv) ∧ W.cell? ⟨R, 13, none⟩ = some (.int .i64 s.kx) ∧ W.cell? ⟨R, 14, none⟩ = some (.int .i64 s.ky) ∧ W.cell? ⟨R, 15, none⟩ = some (.int .i64 s.kf) ∧ W.cell? ⟨R, 16, none⟩ = some (.int .i64 s.kb) ∧ W.cell? ⟨R, 17, none⟩ = some (.int .i64 s.kbits) ∧ W.cell? ⟨R, 18, none⟩ = some (.int .i64 s.km) ∧ W.cell? ⟨R, 19, none⟩ = some (.int .i32 s.last) ∧ W.cell? ⟨R, 20, none⟩ = some (.string s.title) ∧ W.cell? ⟨R, 21, none⟩ = some (gv)) ∧ ∀ i, W.frozen? ⟨R, i, none⟩ = false := cells22 h
/- The questions. -/
def hasC (w h x y : Int) : Bool := decide (0 ≤ x) && (decide (x < w) && (decide (0 ≤ y) && decide (y < h)))
def regionOk (h top bot : Int) : Bool := decide (0 ≤ top) && (decide (top ≤ bot) && (decide (bot < h) && (decide (top < bot) || decide (h = 1))))
def titleOk (t : ByteArray) : Bool := (t.toList == (Txt.bs (Txt.cleanL (Txt.runes t))).toList) && decide (Lib.runeCount t ≤ 20)
def goneBad (l : List (List C)) : Bool := l.any fun row => !decide (gridErr row.length 1 row = 0)
def goneErr (l : List (List C)) : Int := if 50 < l.length then 2 else if goneBad l then 5 else 0
theorem ret_bool {a b : Bool} (h : a = b) : Ending.returned (.bool a) = Ending.returned (.bool b) := by rw [h]
theorem ret_int {a b : Int} (h : a = b) : Ending.returned (.int .i64 a) = Ending.returned (.int .i64 b) := by rw [h]
set_option maxHeartbeats 2000000 in
theorem hasCell_any (a h : Int) (cv : Value) (x y : Int) (w : World) : Calls Tryd.prog 42 #[.agg #[.int .i64 a, .int .i64 h, cv], .int .i64 x, .int .i64 y] w fun e w' => e = .returned (.bool (hasC a h x y)) ∧ Below w.heap.size w w' := by
  have x0 := heap_alloc_new w (.cells #[.int .i64 a, .int .i64 h, cv] 24)
  obtain ⟨c0, c1, c2, -⟩ := Grd.cells3 x0
  have kb : Below w.heap.size w (w.alloc (.cells #[.int .i64 a, .int .i64 h, cv] 24)) := (Below.refl _ _).alloc (Nat.le_refl _) _
  have HKB : Hid _ := kb
  clear kb x0
  go_enter Tryd.func42, Tryd.ntmps42
  go_wp2
  all_goals (go_ret; refine ⟨ret_bool ?_, HKB.out⟩; clear c0 c1 c2)
  all_goals (unfold hasC; rw [Bool.eq_iff_iff]; simp; try omega)
set_option maxHeartbeats 4000000 in
theorem hasRegion_any (s : Scr) (cv tv gv : Value) (w : World) : Calls Tryd.prog 43 #[.agg (scrA s cv tv gv)] w fun e w' => e = .returned (.bool (regionOk s.h s.top s.bot)) ∧ Below w.heap.size w w' := by
  have x0 := heap_alloc_new w (.cells (scrA s cv tv gv) 32)
  have kb : Below w.heap.size w (w.alloc (.cells (scrA s cv tv gv) 32)) := (Below.refl _ _).alloc (Nat.le_refl _) _
  unfold scrA at x0 kb ⊢
  obtain ⟨⟨c0, c1, c2, c3, c4, c5, c6, c7, c8, c9, c10⟩, -, -⟩ := cells22 x0
  have HKB : Hid _ := kb
  clear kb x0 c0 c2 c3 c4 c5 c6 c7 c8
  go_enter Tryd.func43, Tryd.ntmps43
  go_wp2
  all_goals (go_ret; refine ⟨ret_bool ?_, HKB.out⟩; clear c1 c9 c10)
  all_goals (unfold regionOk; rw [Bool.eq_iff_iff]; simp; try omega)
theorem iter_below (w : World) (t : ByteArray) (pos : Nat) : Below w.heap.size w (w.iter t pos) := by
  exact (Below.refl _ w).alloc (Nat.le_refl _) _
set_option maxHeartbeats 4000000 in
theorem isTitle_any (t : ByteArray) (w : World) (hT : Txt.Tab w) (ht : t.size ≤ 1048576) : Calls Tryd.prog 46 #[.string t] w fun e w' => e = .returned (.bool (titleOk t)) ∧ Below w.heap.size w w' := by
  have HC := Txt.clean_any t w hT (by omega)
  have HE : Hid (titleOk t = ((t.toList == (Txt.bs (Txt.cleanL (Txt.runes t))).toList) && decide (Lib.runeCount t ≤ 20))) := rfl
  generalize titleOk t = res at HE ⊢
  generalize Txt.bs (Txt.cleanL (Txt.runes t)) = u at HC HE
  have HRC := fun W => Tryd.utf8_RuneCountInString t W (by omega)
  clear hT
  cases hq : (t.toList == u.toList) with
  | false =>
    rw [hq] at HE
    go_enter Tryd.func46, Tryd.ntmps46
    go_wp2_with fail
    refine HC.mono ?_
    rintro e W1 ⟨rfl, b1⟩
    go_wp2_with fail
    go_ret
    exact ⟨ret_bool (by rw [HE.out]; rfl), b1⟩
  | true =>
    rw [hq, Bool.true_and] at HE
    go_enter Tryd.func46, Tryd.ntmps46
    go_wp2_with fail
    refine HC.mono ?_
    rintro e W1 ⟨rfl, b1⟩
    go_wp2_with fail
    refine (HRC W1).mono ?_
    rintro e W2 ⟨rfl, pos, hW2⟩
    have b2 : Below W1.heap.size W1 W2 := by rw [hW2]; exact iter_below _ _ _
    clear hW2
    go_wp2_with fail
    go_ret
    refine ⟨ret_bool ?_, b1.trans (b2.mono b1.size)⟩
    rw [HE.out, decide_eq_decide]
    omega
theorem any_drop {α : Type} (p : α → Bool) (l : List α) (k : Nat) (h : k < l.length) (d : α) : (l.drop k).any p = (p (l.getD k d) || (l.drop (k + 1)).any p) := by
  rw [List.drop_eq_getElem_cons h, List.any_cons, List.getD_eq_getElem?_getD, List.getElem?_eq_getElem h]
  rfl
set_option maxHeartbeats 4000000 in
set_option maxRecDepth 100000 in
theorem checkGone_any (l : List (List C)) (v : Value) (w : World) (hT : Txt.Tab w) (hR : RowsV w v l) (hl : l.length ≤ 1048576) : Calls Tryd.prog 47 #[v] w fun e w' => e = .returned (.int .i64 (goneErr l)) ∧ Below w.heap.size w w' := by
  obtain ⟨pa, pc, hv⟩ := hR.slice
  have HR : Hid (RowsV w v l) := hR
  have HT : Hid (Txt.Tab w) := hT
  subst hv
  have HE : Hid (goneErr l = if 50 < l.length then 2 else if goneBad l then 5 else 0) := rfl
  generalize goneErr l = res at HE ⊢
  clear hR hT
  by_cases h50 : 50 < l.length
  · have h51 : (50 : Int) < (l.length : Int) := by omega
    rw [if_pos h50] at HE
    go_enter Tryd.func47, Tryd.ntmps47
    go_wp2_with fail
    go_ret
    exact ⟨ret_int HE.out.symm, Below.refl _ _⟩
  · have h51 : ¬ (50 : Int) < (l.length : Int) := by omega
    rw [if_neg h50] at HE
    go_enter Tryd.func47, Tryd.ntmps47
    go_wp2_with fail
    go_loopg [10] l.length (fun q i wr => ∃ k : Nat, k ≤ l.length ∧ l.length - k ≤ q ∧ i = .int .i64 k ∧ Below w.heap.size w wr ∧ goneBad (l.drop k) = goneBad l)
    case atStart => exact ⟨0, by omega, by omega, rfl, Below.refl _ _, rfl⟩
    case round =>
      obtain ⟨k, hk, hq, rfl, hb, hg⟩ := hrel
      have HB : Hid (Below w.heap.size w wr) := hb
      have HG : Hid (goneBad (l.drop k) = goneBad l) := hg
      clear hb hg
      by_cases hlt : k < l.length
      · have lt1 : ((k : Int) < (l.length : Int)) := by omega
        rcases HR.out with ⟨he, -⟩ | ⟨b, o, c, hvv, -, -, hc⟩
        · rw [he] at hlt
          exact absurd hlt (by simp)
        injection hvv with hvv1 hvv2 hvv3
        subst hvv1 hvv3
        obtain ⟨rv, hc1, hS⟩ := hc k hlt
        have q0 := cell_stay HB.out hc1
        have HS : Hid (SliceAt wr rv (l.getD k [])) := hS.below HB.out
        have HD : Hid (goneBad l = (!decide (gridErr (l.getD k []).length 1 (l.getD k []) = 0) || goneBad (l.drop (k + 1)))) := by
          unfold Hid
          rw [← HG.out]
          exact any_drop _ l k hlt []
        generalize l.getD k [] = row at *
        obtain ⟨ra, rc, hrv⟩ := hS.shape
        subst hrv
        have HCK := Grd.check_any (row.length : Int) 1 (.slice ra row.length rc) row wr (HT.out.below HB.out (HT.out.pos)) HS.out
        clear hc hc1 hS
        by_cases hz : gridErr row.length 1 row = 0
        · rw [hz] at HCK
          have HD2 : Hid (goneBad (l.drop (k + 1)) = goneBad l) := by
            unfold Hid
            rw [HD.out, hz]
            rfl
          go_wp2_with fail
          refine HCK.mono ?_
          rintro e W1 ⟨rfl, b1⟩
          clear HCK
          go_wp2_with fail
          go_roundg (l.length - (k + 1))
          case measure => omega
          case rel => exact ⟨k + 1, by omega, by omega, by go_num, HB.out.trans (b1.mono HB.out.size), HD2.out⟩
        · have HD2 : Hid (goneBad l = true) := by
            unfold Hid
            rw [HD.out, decide_eq_false hz]
            rfl
          have HZ : Hid (¬ gridErr row.length 1 row = 0) := hz
          have hzb : (gridErr row.length 1 row == 0) = false := by rw [beq_eq_false_iff_ne]; exact hz
          have hzc : (gridErr row.length 1 row != 0) = true := by simp [bne, hzb]
          clear hz
          generalize gridErr row.length 1 row = ge at *
          go_wp2_with fail
          refine HCK.mono ?_
          rintro e W1 ⟨rfl, b1⟩
          clear HCK
          go_wp2_with fail
          go_ret
          exact ⟨ret_int (by rw [HE.out, HD2.out]; rfl), HB.out.trans (b1.mono HB.out.size)⟩
      · have lt1 : ¬ ((k : Int) < (l.length : Int)) := by omega
        have HD2 : Hid (goneBad l = false) := by
          unfold Hid
          rw [← HG.out, List.drop_eq_nil_of_le (by omega)]
          rfl
        go_wp2_with fail
        go_ret
        exact ⟨ret_int (by rw [HE.out, HD2.out]; rfl), HB.out⟩
end Put
end Go.Proofs.YtnkeahfcpbepjaaDoor

/- near, reach, holds, and the reference's limit. -/
namespace Go.Proofs.YtnkeahfcpbepjaaDoor
open Go.ChangeShapes Go.WideShapes Go.ChangeAt Go.RowKit
namespace Grd
theorem min2 (a b : Int) (w : World) : (Builtin.min_ #[3, 3] 3 #[.int .i64 a, .int .i64 b]).run Tryd.prog w = .ok (.int .i64 (min a b)) w := by
  simp [Builtin.min_, Builtin.min2, go_sem]
  repeat' split
  all_goals omega
theorem max2 (a b : Int) (w : World) : (Builtin.max_ #[3, 3] 3 #[.int .i64 a, .int .i64 b]).run Tryd.prog w = .ok (.int .i64 (max a b)) w := by
  simp [Builtin.max_, Builtin.max2, go_sem]
  repeat' split
  all_goals omega
def nearI (n : Int) : Int := min (max n (-1000)) 1000
end Grd
end Go.Proofs.YtnkeahfcpbepjaaDoor

/- slices.Clone of cells. -/
namespace Go.Proofs.YtnkeahfcpbepjaaDoor
open Go.ChangeShapes Go.WideShapes Go.ChangeAt Go.RowKit
namespace Grd
theorem own_of_row {w : World} {base : Nat} {v : Value} {cs : List C} (h : w.ownsRow base 63 4 v cs.length (flat cs)) (hn : v ≠ .slice none 0 0) : OwnG w base v cs := by
  obtain ⟨_, h | ⟨g, cap, cur, hv, hg, hh, hc, hm, hs, htk⟩⟩ := h
  · exact absurd h.1 hn
  · refine ⟨g, cap, cur.toList.drop (cs.length * 4), ⟨63, rfl⟩, hv, hg, hc, by unfold maxLen at hm; omega, ?_⟩
    rw [hh, ← htk, List.take_append_drop]
theorem cellsAt_src {w : World} {b o : Nat} {cs : List C} (h : CellsAt w b o cs) : ∀ j u, (flat cs)[j]? = some u → w.cell? ((⟨b, o, none⟩ : Addr).add j) = some u := by
  intro j u hj
  have hlt := (List.getElem?_eq_some_iff.1 hj).1
  rw [flat_len] at hlt
  have hd : j / 4 < cs.length := by omega
  have hm : j % 4 < 4 := by omega
  have e : j = j / 4 * 4 + j % 4 := by omega
  rw [e, flat_at cs (j / 4) (j % 4) hd hm] at hj
  obtain ⟨h0, h1, h2, h3⟩ := h (j / 4) hd
  rw [add_plain, show o + j = o + j / 4 * 4 + j % 4 by omega, ← hj]
  generalize j / 4 = d at *
  rcases (show j % 4 = 0 ∨ j % 4 = 1 ∨ j % 4 = 2 ∨ j % 4 = 3 by omega) with hq | hq | hq | hq <;> rw [hq]
  · exact h0
  · exact h1
  · exact h2
  · exact h3
set_option maxHeartbeats 1000000 in
theorem clone_cells (b o c : Nat) (cs : List C) (w : World) (hC : CellsAt w b o cs) (hbig : cs.length * 32 ≤ 140737488355328) :
    Calls Tryd.prog 107 #[.slice (some ⟨b, o, none⟩) cs.length c] w fun e w' => ∃ v', e = .returned v' ∧ OwnG w' w.heap.size v' cs ∧ Below w.heap.size w w' := by
  obtain ⟨i0, hi, hzz⟩ := Option.map_eq_some_iff.1 info_cell
  simp only [Prod.mk.injEq] at hzz
  obtain ⟨hz0, hz1, hz2⟩ := hzz
  have kb : Below w.heap.size w (w.alloc (.cells #[] 63)) := (Below.refl _ _).alloc (Nat.le_refl _) _
  have HS : Hid (∀ j u, (flat cs)[j]? = some u → (w.alloc (.cells #[] 63)).cell? ((⟨b, o, none⟩ : Addr).add j) = some u) := cellsAt_src (hC.below kb)
  have HF : Hid ((flat cs).length = cs.length * 4) := flat_len cs
  have HO : Hid (∀ u ∈ flat cs, u.oneCell' = true) := flat_one cs
  have qn : ∀ (w : World) (a : Option Addr) (n c n' c' : Nat), (binOp .eql 22 (.slice a n c) (.slice none n' c')).run Tryd.prog w = .ok (.bool a.isNone) w := fun w a n c n' c' => Lib.run_eql_slice_nil w _ _ a n c n' c' und_cells
  clear hC
  go_enter Tryd.func107, Tryd.ntmps107
  go_wp2_with (at_builtin; refine wpList_append_own _ rfl _ _ 22 rfl w.heap.size 63 i0 (.agg #[.int .i32 0, .int .i64 0, .int .i64 0, .int .i64 0]) 4 32 und_cells hi hz0 hz1 hz2 rfl (by decide) _ _ _ rfl (World.ownsRow_made w #[] 0 (Nat.le_refl _) (Nat.zero_le _) rfl) ⟨b, o, none⟩ cs.length c (flat cs) rfl HF.out HS.out HO.out ?qc4 ?qc5 ?qc6 ?_)
  case qc4 => unfold maxLen; omega
  case qc5 => omega
  case qc6 => simp
  intro v' w1 hown hgrow hnil
  go_wp2_with fail
  go_ret
  exact ⟨v', rfl, own_of_row hown hnil, ((Below.refl _ w).alloc (Nat.le_refl _) _).grown hgrow (by simp) (by intro k hk; simp [Value.ownBlock] at hk; omega)⟩
end Grd
end Go.Proofs.YtnkeahfcpbepjaaDoor

/- copyOf, holds. -/
namespace Go.Proofs.YtnkeahfcpbepjaaDoor
open Go.ChangeShapes Go.WideShapes Go.ChangeAt Go.RowKit
namespace Grd
end Grd
end Go.Proofs.YtnkeahfcpbepjaaDoor

/- One cell stored into a row in the middle of a block. -/
namespace Go.Proofs.YtnkeahfcpbepjaaDoor
open Go.ChangeShapes Go.WideShapes Go.ChangeAt Go.RowKit
namespace Grd
theorem set_take (L : List Value) (o : Nat) (v : Value) (h : o < L.length) : (L.set o v).take (o + 1) = L.take o ++ [v] := by
  rw [List.set_eq_take_append_cons_drop, if_pos h, List.take_append, List.length_take, Nat.min_eq_left (by omega), Nat.add_sub_cancel_left, List.take_of_length_le (by rw [List.length_take]; omega)]
  rfl
theorem set_drop (L : List Value) (o k : Nat) (v : Value) (h : o < k) : (L.set o v).drop k = L.drop k := by
  rw [List.drop_set, if_pos h]
theorem heap_setCells (g : Nat) (t : TypeId) : ∀ (vs : List Value) (o : Nat) (w : World) (L : List Value), w.heap[g]? = some (.cells L.toArray t (0, 0)) → o + vs.length ≤ L.length → (w.setCells g o vs).heap[g]? = some (.cells (L.take o ++ (vs ++ L.drop (o + vs.length))).toArray t (0, 0))
  | [], o, w, L, h, _ => by
    show w.heap[g]? = _
    rw [h]; simp
  | v :: r, o, w, L, h, hl => by
    rw [List.length_cons] at hl
    have h1 := heap_setCell_same w g o _ t v h
    have h2 := heap_setCells g t r (o + 1) (w.setCell ⟨g, o, none⟩ v) (L.set o v) (by rw [h1]; simp) (by rw [List.length_set]; omega)
    show ((w.setCell ⟨g, o, none⟩ v).setCells g (o + 1) r).heap[g]? = _
    rw [h2, set_take L o v (by omega), set_drop L o _ v (by omega), List.append_assoc, List.length_cons, show o + 1 + r.length = o + (r.length + 1) by omega]
    rfl
theorem words_len (c : C) : (words c).length = 4 := rfl
theorem flat_cut (cs : List C) (x : Nat) (h : x < cs.length) : flat cs = flat (cs.take x) ++ (words (cs.getD x z0) ++ flat (cs.drop (x + 1))) := by
  have e : cs = cs.take x ++ (cs.getD x z0 :: cs.drop (x + 1)) := by
    have : cs.getD x z0 = cs[x] := by simp [List.getD, h]
    rw [this, List.getElem_cons_drop, List.take_append_drop]
  conv => lhs; rw [e]
  rw [flat_append]; rfl
theorem flat_put (cs : List C) (x : Nat) (c : C) (h : x < cs.length) : flat (cs.set x c) = flat (cs.take x) ++ (words c ++ flat (cs.drop (x + 1))) := by
  rw [List.set_eq_take_append_cons_drop, if_pos h, flat_append]; rfl
/-- A cell stored at x of the row that lies behind 'pre'. -/
theorem store_cell {w : World} {g : Nat} {t : TypeId} {pre post : List Value} {cs : List C} (h : w.heap[g]? = some (.cells (pre ++ (flat cs ++ post)).toArray t (0, 0))) (x : Nat) (hx : x < cs.length) (c : C) :
    (w.setCells g (pre.length + x * 4) (words c)).heap[g]? = some (.cells (pre ++ (flat (cs.set x c) ++ post)).toArray t (0, 0)) := by
  have hl : (flat (cs.take x)).length = x * 4 := by rw [flat_len, List.length_take, Nat.min_eq_left (by omega)]
  have h1 := heap_setCells g t (words c) (pre.length + x * 4) w _ h (by
    rw [List.length_append, List.length_append, flat_len, words_len]; omega)
  rw [h1, flat_put cs x c hx, flat_cut cs x hx]
  have e1 : (pre ++ ((flat (cs.take x) ++ (words (cs.getD x z0) ++ flat (cs.drop (x + 1)))) ++ post)).take (pre.length + x * 4) = pre ++ flat (cs.take x) := by
    rw [List.take_append, List.take_of_length_le (by omega), Nat.add_sub_cancel_left, List.append_assoc, List.take_left' hl]
  have e2 : (pre ++ ((flat (cs.take x) ++ (words (cs.getD x z0) ++ flat (cs.drop (x + 1)))) ++ post)).drop (pre.length + x * 4 + (words c).length) = flat (cs.drop (x + 1)) ++ post := by
    rw [words_len, Nat.add_assoc, List.drop_append, List.drop_of_length_le (by omega), Nat.add_sub_cancel_left, List.append_assoc, ← hl, List.drop_append, List.drop_of_length_le (by omega), Nat.add_sub_cancel_left, List.append_assoc]
    rfl
  rw [e1, e2]
  simp only [List.append_assoc]
theorem there_cell {w : World} {g : Nat} {t : TypeId} {pre post : List Value} {cs : List C} (h : w.heap[g]? = some (.cells (pre ++ (flat cs ++ post)).toArray t (0, 0))) (x : Nat) (hx : x < cs.length) : w.there g (pre.length + x * 4) 4 := fun j hj => by
  refine ⟨?_, frozen_of h _⟩
  unfold World.cell?
  rw [h]
  have : pre.length + x * 4 + j < (pre ++ (flat cs ++ post)).length := by rw [List.length_append, List.length_append, flat_len]; omega
  simp [List.getElem?_eq_getElem this]
theorem range_cell {w : World} {b o : Nat} {cs : List C} (h : CellsAt w b o cs) (x : Nat) (hx : x < cs.length) : w.rangeAt b (o + x * 4) (words (cs.getD x z0)) := fun j v hv => by
  obtain ⟨h0, h1, h2, h3⟩ := h x hx
  have hj : j < 4 := by have := (List.getElem?_eq_some_iff.1 hv).1; rwa [words_len] at this
  match j, hj with
  | 0, _ => rw [← hv]; exact h0
  | 1, _ => rw [← hv]; exact h1
  | 2, _ => rw [← hv]; exact h2
  | 3, _ => rw [← hv]; exact h3
theorem words_agg (c : C) : (.agg (words c).toArray : Value) = .agg #[.int .i32 c.1, .int .i64 c.2.1, .int .i64 c.2.2.1, .int .i64 c.2.2.2] := rfl
theorem words_one (c : C) : (#[.int .i32 c.1, .int .i64 c.2.1, .int .i64 c.2.2.1, .int .i64 c.2.2.2] : Array Value).all (·.oneCell') = true := by simp [Value.oneCell']
end Grd
end Go.Proofs.YtnkeahfcpbepjaaDoor

/- The reference's MendRow. -/
namespace Go.Proofs.YtnkeahfcpbepjaaDoor
open Go.ChangeShapes Go.WideShapes Go.ChangeAt Go.RowKit
namespace Grd
open Txt (wd)
/-- The cells below i are mended, the others not yet. -/
def mendPre (cs : List C) (i : Nat) : List C := (mendM cs).take i ++ cs.drop i
theorem mendPre_len (cs : List C) (i : Nat) (h : i ≤ cs.length) : (mendPre cs i).length = cs.length := by
  unfold mendPre; rw [List.length_append, List.length_take, List.length_drop, mendM_len]; omega
theorem mendPre_at (cs : List C) (i j : Nat) (hi : i ≤ cs.length) (h : i ≤ j) : (mendPre cs i).getD j z0 = cs.getD j z0 := by
  unfold mendPre
  simp only [List.getD]
  rw [List.getElem?_append_right (by rw [List.length_take, mendM_len]; omega), List.length_take, mendM_len, Nat.min_eq_left hi, List.getElem?_drop, show i + (j - i) = j by omega]
theorem mendPre_same (cs : List C) (i : Nat) (h : i < cs.length) (hl : loose cs i = false) : mendPre cs (i + 1) = mendPre cs i := by
  unfold mendPre
  have e1 : (mendM cs).take (i + 1) = (mendM cs).take i ++ [cs.getD i z0] := by
    rw [List.take_add_one]
    congr 1
    have := mendM_at cs i h
    rw [hl] at this
    simp only [List.getD] at this
    have hlt : i < (mendM cs).length := by rw [mendM_len]; exact h
    rw [List.getElem?_eq_getElem hlt] at this ⊢
    simp only [Option.getD_some] at this
    rw [this]
    rfl
  have e2 : cs.drop i = cs.getD i z0 :: cs.drop (i + 1) := by
    have : cs.getD i z0 = cs[i] := by simp [List.getD, h]
    rw [this, List.getElem_cons_drop]
  rw [e1, e2, List.append_assoc]
  rfl
theorem mendPre_set (cs : List C) (i : Nat) (h : i < cs.length) (hl : loose cs i = true) : mendPre cs (i + 1) = setR (mendPre cs i) i := by
  have hle := mendPre_len cs i (by omega)
  have hle2 := mendPre_len cs (i + 1) (by omega)
  refine ext_getD _ _ (by unfold setR; rw [List.length_set, hle, hle2]) fun j hj => ?_
  rw [hle2] at hj
  unfold setR
  rw [getD_set _ _ _ _ (by rw [hle]; exact h), mendPre_at cs i i (by omega) (Nat.le_refl _)]
  by_cases hji : j = i
  · subst hji
    rw [if_pos rfl]
    unfold mendPre
    have hlt : j < (mendM cs).length := by rw [mendM_len]; exact h
    have := mendM_at cs j h
    rw [if_pos hl] at this
    rw [← this]
    simp only [List.getD]
    rw [List.getElem?_append_left (by rw [List.length_take]; omega), List.getElem?_take]
    simp
  · rw [if_neg hji]
    by_cases hlt : i < j
    · rw [mendPre_at cs (i + 1) j (by omega) (by omega), mendPre_at cs i j (by omega) (by omega)]
    · unfold mendPre
      simp only [List.getD]
      rw [List.getElem?_append_left (by rw [List.length_take, mendM_len]; omega), List.getElem?_append_left (by rw [List.length_take, mendM_len]; omega), List.getElem?_take, List.getElem?_take, if_pos (by omega), if_pos (by omega)]
theorem mendPre_zero (cs : List C) : mendPre cs 0 = cs := by simp [mendPre]
theorem mendPre_all (cs : List C) (i : Nat) (h : cs.length ≤ i) : mendPre cs i = mendL cs := by
  unfold mendPre
  rw [mendL_eq, List.take_of_length_le (by rw [mendM_len]; exact h), List.drop_of_length_le h, List.append_nil]
/-- The cell at i is the second half of the rune before it. -/
def second (cs : List C) (i : Nat) : Bool := decide (0 < i ∧ i < cs.length ∧ (cs.getD i z0).1 = 0 ∧ wd (cs.getD (i - 1) z0).1 = 2)
theorem loose_wide (cs : List C) (i : Nat) (hw : wd (cs.getD i z0).1 = 2) : loose cs i = (decide (i + 1 = cs.length) || decide ((cs.getD (i + 1) z0).1 ≠ 0)) := by
  have hn : ¬ (cs.getD i z0).1 = 0 := by intro h; rw [h, wd0] at hw; exact absurd hw (by decide)
  unfold loose
  rw [if_neg hn, hw]
  simp
theorem loose_none (cs : List C) (i : Nat) (hi : i < cs.length) (hr : (cs.getD i z0).1 = 0) (hs : second cs i = false) : loose cs i = true := by
  unfold loose
  unfold second at hs
  rw [if_pos hr]
  rw [decide_eq_false_iff_not] at hs
  by_cases h0 : i = 0
  · simp [h0]
  · have : wd (cs.getD (i - 1) z0).1 ≠ 2 := fun h => hs ⟨by omega, hi, hr, h⟩
    simp [this, -List.getD_eq_getElem?_getD]
theorem loose_narrow (cs : List C) (i : Nat) (hr : ¬ (cs.getD i z0).1 = 0) (hw : ¬ wd (cs.getD i z0).1 = 2) : loose cs i = false := by
  unfold loose
  rw [if_neg hr]
  simp [hw, -List.getD_eq_getElem?_getD]
end Grd
end Go.Proofs.YtnkeahfcpbepjaaDoor

/- The walk of the reference's MendRow. -/
namespace Go.Proofs.YtnkeahfcpbepjaaDoor
open Go.ChangeShapes Go.WideShapes Go.ChangeAt Go.RowKit
namespace Grd
open Txt (wd)
theorem widthOf_to (r : Int) (w : World) (v : Int) (h : wd r = v) : Calls Tryd.prog 51 #[.int .i32 r] w fun e w' => e = .returned (.int .i64 v) ∧ Below w.heap.size w w' := by
  have := Txt.widthOf_any r w
  rwa [h] at this
/-- A slice that reads as a row, alone in the block g. -/
def RowB (w : World) (g : Nat) (v : Value) (row : List C) : Prop := ∃ (cap : Nat) (rest : List Value), v = .slice (some ⟨g, 0, none⟩) row.length cap ∧ row.length ≤ cap ∧ cap ≤ 9223372036854775807 ∧ w.heap[g]? = some (.cells (flat row ++ rest).toArray 63 (0, 0))
theorem RowB.below {w w' : World} {g : Nat} {v : Value} {row : List C} (h : RowB w g v row) (hb : Below w.heap.size w w') : RowB w' g v row := by
  obtain ⟨cap, rest, hv, h1, h2, h3⟩ := h
  exact ⟨cap, rest, hv, h1, h2, carry h3 hb⟩
theorem RowB.cells {w : World} {g : Nat} {v : Value} {row : List C} (h : RowB w g v row) : CellsAt w g 0 row := by
  obtain ⟨cap, rest, _, _, _, h3⟩ := h
  exact cellsAt_flat h3
theorem RowB.own {w : World} {g base : Nat} {v : Value} {row : List C} (h : RowB w g v row) (hb : base ≤ g) : OwnG w base v row := by
  obtain ⟨cap, rest, hv, h1, h2, h3⟩ := h
  exact ⟨g, cap, rest, ⟨_, rfl⟩, hv, hb, h1, h2, h3⟩
theorem rowB_of_row {w : World} {base : Nat} {v : Value} {cs : List C} (h : w.ownsRow base 63 4 v cs.length (flat cs)) (hn : v ≠ .slice none 0 0) : ∃ g, base ≤ g ∧ RowB w g v cs := by
  obtain ⟨_, h | ⟨g, cap, cur, hv, hg, hh, hc, hm, hs, htk⟩⟩ := h
  · exact absurd h.1 hn
  · refine ⟨g, hg, cap, cur.toList.drop (cs.length * 4), hv, hc, by unfold maxLen at hm; omega, ?_⟩
    rw [hh, ← htk, List.take_append_drop]
set_option maxHeartbeats 1000000 in
theorem clone_row (b o c : Nat) (cs : List C) (w : World) (hC : CellsAt w b o cs) (hbig : cs.length * 32 ≤ 140737488355328) :
    Calls Tryd.prog 107 #[.slice (some ⟨b, o, none⟩) cs.length c] w fun e w' => ∃ v' g, e = .returned v' ∧ w.heap.size ≤ g ∧ RowB w' g v' cs ∧ Below w.heap.size w w' := by
  obtain ⟨i0, hi, hzz⟩ := Option.map_eq_some_iff.1 info_cell
  simp only [Prod.mk.injEq] at hzz
  obtain ⟨hz0, hz1, hz2⟩ := hzz
  have kb : Below w.heap.size w (w.alloc (.cells #[] 63)) := (Below.refl _ _).alloc (Nat.le_refl _) _
  have HS : Hid (∀ j u, (flat cs)[j]? = some u → (w.alloc (.cells #[] 63)).cell? ((⟨b, o, none⟩ : Addr).add j) = some u) := cellsAt_src (hC.below kb)
  have HF : Hid ((flat cs).length = cs.length * 4) := flat_len cs
  have HO : Hid (∀ u ∈ flat cs, u.oneCell' = true) := flat_one cs
  have qn : ∀ (w : World) (a : Option Addr) (n c n' c' : Nat), (binOp .eql 22 (.slice a n c) (.slice none n' c')).run Tryd.prog w = .ok (.bool a.isNone) w := fun w a n c n' c' => Lib.run_eql_slice_nil w _ _ a n c n' c' und_cells
  clear hC
  go_enter Tryd.func107, Tryd.ntmps107
  go_wp2_with (at_builtin; refine wpList_append_own _ rfl _ _ 22 rfl w.heap.size 63 i0 (.agg #[.int .i32 0, .int .i64 0, .int .i64 0, .int .i64 0]) 4 32 und_cells hi hz0 hz1 hz2 rfl (by decide) _ _ _ rfl (World.ownsRow_made w #[] 0 (Nat.le_refl _) (Nat.zero_le _) rfl) ⟨b, o, none⟩ cs.length c (flat cs) rfl HF.out HS.out HO.out ?qc4 ?qc5 ?qc6 ?_)
  case qc4 => unfold maxLen; omega
  case qc5 => omega
  case qc6 => simp
  intro v' w1 hown hgrow hnil
  obtain ⟨g, hg, hrow⟩ := rowB_of_row (by simpa using hown) hnil
  go_wp2_with fail
  go_ret
  exact ⟨v', g, rfl, hg, hrow, ((Below.refl _ w).alloc (Nat.le_refl _) _).grown hgrow (by simp) (by intro k hk; simp [Value.ownBlock] at hk; omega)⟩
set_option maxHeartbeats 4000000 in
theorem mendRow_any (b o c : Nat) (cs : List C) (w : World) (hC : CellsAt w b o cs) (hn : cs.length ≤ 1000000) :
    Calls Tryd.prog 65 #[.slice (some ⟨b, o, none⟩) cs.length c] w fun e w' => ∃ v' g, e = .returned v' ∧ w.heap.size ≤ g ∧ RowB w' g v' (mendL cs) ∧ Below w.heap.size w w' := by
  have HC := clone_row b o c cs w hC (by omega)
  clear hC
  generalize hl : cs.length = L at *
  have HL : Hid (cs.length = L) := hl
  clear hl
  go_enter Tryd.func65, Tryd.ntmps65
  go_wp2_with (go_at_call 107; refine HC.mono ?_; rintro e W1 ⟨_, g, rfl, hg, ⟨cap, rest, rfl, hlc, hcm, hgh⟩, b1⟩)
  rw [HL.out] at hlc
  have hgW : g < W1.heap.size := blk_lt hgh
  have ap0 : Apart w.heap.size [g] w W1 := .of b1 (Nat.le_refl _)
  have hl0 : cs.length = L := HL.out
  simp only [hl0]
  clear hl0 HC
  go_loopg [4] L (fun q i wr => ∃ k : Nat, i = .int .i64 (k : Int) ∧ k ≤ L ∧ L - k ≤ q ∧ second cs k = false ∧ Apart w.heap.size [g] w wr ∧ wr.heap[g]? = some (.cells (flat (mendPre cs k) ++ rest).toArray 63 (0, 0)))
  case atStart => exact ⟨0, rfl, by omega, by omega, by simp [second], ap0, by rw [mendPre_zero]; exact hgh⟩
  case round =>
    clear hgh ap0 b1
    obtain ⟨k, rfl, hk, hq, hsec, hap, hv⟩ := hrel
    by_cases hlt : k < L
    · have lt1 : ((k : Int) < (L : Int)) := by omega
      have hpl : (mendPre cs k).length = L := by rw [mendPre_len cs k (by rw [HL.out]; omega), HL.out]
      have hC : CellsAt wr g 0 (mendPre cs k) := cellsAt_flat hv
      have c0 := (hC k (by rw [hpl]; exact hlt)).1
      rw [mendPre_at cs k k (by rw [HL.out]; omega) (Nat.le_refl _), Nat.zero_add] at c0
      have c1 : k + 1 < L → wr.cell? ⟨g, (k + 1) * 4, none⟩ = some (.int .i32 (cs.getD (k + 1) z0).1) := fun h => by
        have := (hC (k + 1) (by rw [hpl]; exact h)).1
        rwa [mendPre_at cs k (k + 1) (by rw [HL.out]; omega) (by omega), Nat.zero_add] at this
      have hNW : w.heap.size ≤ wr.heap.size := hap.1.size
      clear hC
      by_cases hw2 : wd (cs.getD k z0).1 = 2
      · by_cases hk1 : k + 1 < L
        · have c1 := c1 hk1
          by_cases hz : (cs.getD (k + 1) z0).1 = 0
          · have HE : Hid (mendPre cs (k + 2) = mendPre cs k) := by
              have l0 : loose cs k = false := by
                rw [loose_wide cs k hw2, hz, HL.out]
                simp
                omega
              have l1 : loose cs (k + 1) = false := by
                unfold loose
                rw [if_pos hz, Nat.add_sub_cancel]
                simp [hw2, -List.getD_eq_getElem?_getD]
              unfold Hid
              rw [mendPre_same cs (k + 1) (by rw [HL.out]; exact hk1) l1, mendPre_same cs k (by rw [HL.out]; exact hlt) l0]
            have HS2 : Hid (second cs (k + 2) = false) := by
              unfold Hid second
              rw [decide_eq_false_iff_not]
              rintro ⟨_, _, _, h2⟩
              rw [show k + 2 - 1 = k + 1 by omega, hz, wd0] at h2
              exact absurd h2 (by decide)
            have HW : Hid (wd (cs.getD k z0).1 = 2) := hw2
            have lt2 : ((k : Int) + 1 < (L : Int)) := by omega
            rw [hz] at c1
            clear hsec hw2 hz hpl
            generalize (cs.getD k z0).1 = r0 at *
            go_wp2_with (go_at_call 51; refine (widthOf_to r0 _ _ HW.out).mono ?_; rintro e W2 ⟨rfl, b2⟩; have d0 := cell_keep b2 c0; have d1 := cell_keep b2 c1; have hv2 := carry hv b2; have hfz : W2.frozen? ⟨g, k * 4, none⟩ = false := frozen_of hv2 _)
            go_roundg (L - (k + 2))
            case measure => omega
            case rel => exact ⟨k + 2, by first | rfl | (simp; omega), by omega, by omega, HS2.out, hap.step b2 hNW, by rw [HE.out]; exact hv2⟩
          · have hlo : loose cs k = true := by
              rw [loose_wide cs k hw2]
              simp [hz, -List.getD_eq_getElem?_getD]
            have HE : Hid (flat (mendPre cs (k + 1)) ++ rest = (flat (mendPre cs k) ++ rest).set (k * 4) (.int .i32 32)) := by
              unfold Hid
              rw [mendPre_set cs k (by rw [HL.out]; exact hlt) hlo, List.set_append_left _ _ (by rw [flat_len, hpl]; omega), flat_set _ k (by rw [hpl]; exact hlt)]
            have HS1 : Hid (second cs (k + 1) = false) := by
              unfold Hid second
              rw [decide_eq_false_iff_not]
              rintro ⟨_, _, h1, h2⟩
              rw [Nat.add_sub_cancel] at h2
              exact hz h1
            have HW : Hid (wd (cs.getD k z0).1 = 2) := hw2
            have lt2 : ((k : Int) + 1 < (L : Int)) := by omega
            have ne : ((cs.getD (k + 1) z0).1 == 0) = false := by simpa [-List.getD_eq_getElem?_getD] using hz
            clear hsec hw2 hz hpl hlo
            generalize (cs.getD k z0).1 = r0 at *
            generalize (cs.getD (k + 1) z0).1 = r1 at *
            go_wp2_with (go_at_call 51; refine (widthOf_to r0 _ _ HW.out).mono ?_; rintro e W2 ⟨rfl, b2⟩; have d0 := cell_keep b2 c0; have d1 := cell_keep b2 c1; have hv2 := carry hv b2; have hfz : W2.frozen? ⟨g, k * 4, none⟩ = false := frozen_of hv2 _)
            go_roundg (L - (k + 1))
            case measure => omega
            case rel =>
              refine ⟨k + 1, rfl, by omega, by omega, HS1.out, (hap.step b2 hNW).setCell g _ _ (by simp) hg, ?_⟩
              rw [HE.out]
              have := heap_setCell_same W2 g (k * 4) _ _ (.int .i32 32) hv2
              simpa using this
        · have hlo : loose cs k = true := by
            rw [loose_wide cs k hw2, HL.out]
            simp
            omega
          have HE : Hid (flat (mendPre cs (k + 1)) ++ rest = (flat (mendPre cs k) ++ rest).set (k * 4) (.int .i32 32)) := by
            unfold Hid
            rw [mendPre_set cs k (by rw [HL.out]; exact hlt) hlo, List.set_append_left _ _ (by rw [flat_len, hpl]; omega), flat_set _ k (by rw [hpl]; exact hlt)]
          have HS1 : Hid (second cs (k + 1) = false) := by
            unfold Hid second
            rw [decide_eq_false_iff_not]
            rintro ⟨_, h0, _⟩
            rw [HL.out] at h0
            omega
          have HW : Hid (wd (cs.getD k z0).1 = 2) := hw2
          have lt2 : ¬ ((k : Int) + 1 < (L : Int)) := by omega
          have ld2 : decide ((k : Int) + 1 < (L : Int)) = false := decide_eq_false lt2
          clear hsec hw2 hpl hlo c1
          generalize (cs.getD k z0).1 = r0 at *
          go_wp2_with (go_at_call 51; refine (widthOf_to r0 _ _ HW.out).mono ?_; rintro e W2 ⟨rfl, b2⟩; have d0 := cell_keep b2 c0; have hv2 := carry hv b2; have hfz : W2.frozen? ⟨g, k * 4, none⟩ = false := frozen_of hv2 _)
          go_roundg (L - (k + 1))
          case measure => omega
          case rel =>
            refine ⟨k + 1, rfl, by omega, by omega, HS1.out, (hap.step b2 hNW).setCell g _ _ (by simp) hg, ?_⟩
            rw [HE.out]
            have := heap_setCell_same W2 g (k * 4) _ _ (.int .i32 32) hv2
            simpa using this
      · by_cases hz : (cs.getD k z0).1 = 0
        · have hlo : loose cs k = true := loose_none cs k (by rw [HL.out]; exact hlt) hz hsec
          have HE : Hid (flat (mendPre cs (k + 1)) ++ rest = (flat (mendPre cs k) ++ rest).set (k * 4) (.int .i32 32)) := by
            unfold Hid
            rw [mendPre_set cs k (by rw [HL.out]; exact hlt) hlo, List.set_append_left _ _ (by rw [flat_len, hpl]; omega), flat_set _ k (by rw [hpl]; exact hlt)]
          have HS1 : Hid (second cs (k + 1) = false) := by
            unfold Hid second
            rw [decide_eq_false_iff_not]
            rintro ⟨_, _, h1, h2⟩
            rw [Nat.add_sub_cancel] at h2
            exact hw2 h2
          have HW : Hid (wd (cs.getD k z0).1 = 0) := by unfold Hid; rw [hz, wd0]
          rw [hz] at c0 HW
          clear hsec hw2 hz hpl hlo c1
          obtain ⟨r0, hr0⟩ : ∃ q : Int, q = 0 := ⟨0, rfl⟩
          rw [← hr0] at c0 HW
          subst hr0
          go_wp2_with (go_at_call 51; refine (widthOf_to 0 _ _ HW.out).mono ?_; rintro e W2 ⟨rfl, b2⟩; have d0 := cell_keep b2 c0; have hv2 := carry hv b2; have hfz : W2.frozen? ⟨g, k * 4, none⟩ = false := frozen_of hv2 _)
          go_roundg (L - (k + 1))
          case measure => omega
          case rel =>
            refine ⟨k + 1, rfl, by omega, by omega, HS1.out, (hap.step b2 hNW).setCell g _ _ (by simp) hg, ?_⟩
            rw [HE.out]
            have := heap_setCell_same W2 g (k * 4) _ _ (.int .i32 32) hv2
            simpa using this
        · have hlo : loose cs k = false := loose_narrow cs k hz hw2
          have HE : Hid (mendPre cs (k + 1) = mendPre cs k) := mendPre_same cs k (by rw [HL.out]; exact hlt) hlo
          have HS1 : Hid (second cs (k + 1) = false) := by
            unfold Hid second
            rw [decide_eq_false_iff_not]
            rintro ⟨_, _, h1, h2⟩
            rw [Nat.add_sub_cancel] at h2
            exact hw2 h2
          obtain ⟨wv, hwv⟩ : ∃ q, wd (cs.getD k z0).1 = q := ⟨_, rfl⟩
          have HW : Hid (wd (cs.getD k z0).1 = wv) := hwv
          have n2 : (wv == 2) = false := by rw [← hwv]; simpa [-List.getD_eq_getElem?_getD] using hw2
          have nz : ((cs.getD k z0).1 == 0) = false := by simpa [-List.getD_eq_getElem?_getD] using hz
          clear hsec hw2 hz hpl hlo c1 hwv
          generalize (cs.getD k z0).1 = r0 at *
          go_wp2_with (go_at_call 51; refine (widthOf_to r0 _ _ HW.out).mono ?_; rintro e W2 ⟨rfl, b2⟩; have d0 := cell_keep b2 c0; have hv2 := carry hv b2; have hfz : W2.frozen? ⟨g, k * 4, none⟩ = false := frozen_of hv2 _)
          go_roundg (L - (k + 1))
          case measure => omega
          case rel => exact ⟨k + 1, rfl, by omega, by omega, HS1.out, hap.step b2 hNW, by rw [HE.out]; exact hv2⟩
    · have lt1 : ¬ ((k : Int) < (L : Int)) := by omega
      have hml : (mendL cs).length = L := by rw [mendL_len, HL.out]
      rw [mendPre_all cs k (by rw [HL.out]; omega)] at hv
      go_wp2_with fail
      go_ret
      exact ⟨_, rfl, g, hg, ⟨cap, rest, by rw [hml]; rfl, by rw [hml]; exact hlc, hcm, hv⟩, hap.1⟩
end Grd
end Go.Proofs.YtnkeahfcpbepjaaDoor

/- The reference's Rows. -/
namespace Go.Proofs.YtnkeahfcpbepjaaDoor
open Go.ChangeShapes Go.WideShapes Go.ChangeAt Go.RowKit Go.Maps
namespace Grd
theorem ownsRow_below {w w' : World} {base : Nat} {e : TypeId} {size : Nat} {v : Value} {n : Nat} {xs : List Value} (h : w.ownsRow base e size v n xs) (hb : Below w.heap.size w w') : w'.ownsRow base e size v n xs := by
  refine ⟨h.1, ?_⟩
  rcases h.2 with h2 | ⟨g, cap, cur, hv, hg, hh, r⟩
  · exact .inl h2
  · exact .inr ⟨g, cap, cur, hv, hg, by rw [hb.block g (Array.getElem?_eq_some_iff.1 hh).1]; exact hh, r⟩
theorem ownsRow_mono {w : World} {base base' : Nat} {e : TypeId} {size : Nat} {v : Value} {n : Nat} {xs : List Value} (h : w.ownsRow base e size v n xs) (hb : base' ≤ base) : w.ownsRow base' e size v n xs := by
  refine ⟨h.1, ?_⟩
  rcases h.2 with h2 | ⟨g, cap, cur, hv, hg, r⟩
  · exact .inl h2
  · exact .inr ⟨g, cap, cur, hv, Nat.le_trans hb hg, r⟩
def nilV : Value := .slice none 0 0
/-- Slices that read as rows, each alone in a block of its own. -/
def RowsAt (w : World) (base : Nat) (vs : List Value) (gs : List Nat) (rows : List (List C)) : Prop :=
  vs.length = rows.length ∧ gs.length = rows.length ∧ gs.Nodup ∧ ∀ i, i < rows.length → base ≤ gs.getD i 0 ∧ RowB w (gs.getD i 0) (vs.getD i nilV) (rows.getD i [])
theorem RowsAt.kept {w w' : World} {base : Nat} {vs : List Value} {gs : List Nat} {rows : List (List C)} (h : RowsAt w base vs gs rows) (hk : ∀ i, i < rows.length → w'.heap[gs.getD i 0]? = w.heap[gs.getD i 0]?) : RowsAt w' base vs gs rows := by
  refine ⟨h.1, h.2.1, h.2.2.1, fun i hi => ?_⟩
  obtain ⟨hb, cap, rest, hv, h1, h2, h3⟩ := h.2.2.2 i hi
  exact ⟨hb, cap, rest, hv, h1, h2, by rw [hk i hi]; exact h3⟩
theorem RowsAt.lt {w : World} {base : Nat} {vs : List Value} {gs : List Nat} {rows : List (List C)} (h : RowsAt w base vs gs rows) (i : Nat) (hi : i < rows.length) : gs.getD i 0 < w.heap.size := by
  obtain ⟨_, cap, rest, hv, h1, h2, h3⟩ := h.2.2.2 i hi
  exact blk_lt h3
theorem RowsAt.below {w w' : World} {base : Nat} {vs : List Value} {gs : List Nat} {rows : List (List C)} (h : RowsAt w base vs gs rows) (hb : Below w.heap.size w w') : RowsAt w' base vs gs rows :=
  h.kept fun i hi => hb.block _ (h.lt i hi)
theorem getD_snoc_lt {α : Type} (l : List α) (x d : α) (i : Nat) (h : i < l.length) : (l ++ [x]).getD i d = l.getD i d := by
  simp [List.getD, List.getElem?_append_left h]
theorem getD_snoc_eq {α : Type} (l : List α) (x d : α) : (l ++ [x]).getD l.length d = x := by simp [List.getD]
theorem RowsAt.snoc {w : World} {base : Nat} {vs : List Value} {gs : List Nat} {rows : List (List C)} (h : RowsAt w base vs gs rows) (g : Nat) (v : Value) (row : List C) (hb : base ≤ g) (hr : RowB w g v row) (hne : ∀ i, i < rows.length → gs.getD i 0 ≠ g) : RowsAt w base (vs ++ [v]) (gs ++ [g]) (rows ++ [row]) := by
  obtain ⟨h1, h2, h3, h4⟩ := h
  refine ⟨by simp [h1], by simp [h2], ?_, fun i hi => ?_⟩
  · rw [List.nodup_append]
    refine ⟨h3, by simp, fun a ha b hb => ?_⟩
    obtain rfl : b = g := by simpa using hb
    obtain ⟨i, hi, rfl⟩ := List.getElem_of_mem ha
    have := hne i (by omega)
    simpa [List.getD, List.getElem?_eq_getElem hi] using this
  · rw [List.length_append, List.length_singleton] at hi
    by_cases hlt : i < rows.length
    · rw [getD_snoc_lt _ _ _ _ (by omega), getD_snoc_lt _ _ _ _ (by omega), getD_snoc_lt _ _ _ _ hlt]
      exact h4 i hlt
    · obtain rfl : i = rows.length := by omega
      have e1 := getD_snoc_eq gs g 0
      have e2 := getD_snoc_eq vs v nilV
      have e3 := getD_snoc_eq rows row []
      rw [h2] at e1
      rw [h1] at e2
      rw [e1, e2, e3]
      exact ⟨hb, hr⟩
/-- An owned row of slices lies in no block of cells. -/
theorem own_ne {w : World} {base : Nat} {v : Value} {n : Nat} {xs : List Value} (h : w.ownsRow base 22 1 v n xs) {g : Nat} {A : Array Value} (hg : w.heap[g]? = some (.cells A 63 (0, 0))) : some g ≠ v.ownBlock := by
  obtain ⟨_, h | ⟨q, cap, cur, rfl, _, hq, _⟩⟩ := h
  · rw [h.1]; simp [Value.ownBlock]
  · intro e
    simp only [Value.ownBlock, Option.some.injEq] at e
    subst e
    rw [hq] at hg
    simp at hg
theorem RowsAt.grown {w w' : World} {base base' : Nat} {vs : List Value} {gs : List Nat} {rows : List (List C)} {v : Value} {n : Nat} {xs : List Value} (h : RowsAt w base vs gs rows) (ho : w.ownsRow base' 22 1 v n xs) (hg : w.grownBy w' v.ownBlock) : RowsAt w' base vs gs rows :=
  h.kept fun i hi => by
    obtain ⟨_, cap, rest, _, _, _, h3⟩ := h.2.2.2 i hi
    exact hg.block _ (blk_lt h3) (own_ne ho h3)
theorem RowB.grown {w w' : World} {base' : Nat} {g : Nat} {u : Value} {row : List C} {v : Value} {n : Nat} {xs : List Value} (h : RowB w g u row) (ho : w.ownsRow base' 22 1 v n xs) (hg : w.grownBy w' v.ownBlock) : RowB w' g u row := by
  obtain ⟨cap, rest, h0, h1, h2, h3⟩ := h
  exact ⟨cap, rest, h0, h1, h2, by rw [hg.block _ (blk_lt h3) (own_ne ho h3)]; exact h3⟩
theorem RowB.one {w : World} {g : Nat} {v : Value} {row : List C} (h : RowB w g v row) : v.oneCell' = true := by
  obtain ⟨cap, rest, rfl, _⟩ := h; rfl
def rowsL (n : Nat) (cs : List C) (k : Nat) : List (List C) := (List.range k).map (rowAt n cs)
theorem rowsL_succ (n : Nat) (cs : List C) (k : Nat) : rowsL n cs (k + 1) = rowsL n cs k ++ [rowAt n cs k] := by simp [rowsL, List.range_succ]
theorem rowsL_len (n : Nat) (cs : List C) (k : Nat) : (rowsL n cs k).length = k := by simp [rowsL]
theorem und_rows : Tryd.prog.underlying 30 = some (.slice 22) := by kernel_rfl
theorem info_cells : (Tryd.prog.info? 22).map (fun i => (i.zero, i.size, i.bytes)) = some (some (.slice none 0 0), 1, 24) := by kernel_rfl
theorem own_from {w : World} {base : Nat} {e : TypeId} {size : Nat} {v : Value} {n : Nat} {xs : List Value} (h : w.ownsRow base e size v n xs) : ∀ k, v.ownBlock = some k → base ≤ k := by
  intro k hk
  obtain ⟨_, h | ⟨q, cap, cur, rfl, hq, _⟩⟩ := h
  · rw [h.1] at hk; simp [Value.ownBlock] at hk
  · simp only [Value.ownBlock, Option.some.injEq] at hk; omega
set_option maxHeartbeats 4000000 in
set_option maxRecDepth 100000 in
theorem rows_any (n hh b o cx : Nat) (cs : List C) (w : World) (hC : CellsAt w b o cs) (hs : isSize n hh = true) (hL : cs.length = n * hh) (hc : cs.length ≤ cx) :
    Calls Tryd.prog 109 #[.agg #[.int .i64 (n : Int), .int .i64 (hh : Int), .slice (some ⟨b, o, none⟩) cs.length cx]] w fun e w' => ∃ v vs gs, e = .returned v ∧ w'.ownsRow w.heap.size 22 1 v hh vs ∧ RowsAt w' w.heap.size vs gs (rowsL n cs hh) ∧ Below w.heap.size w w' := by
  have ⟨p0, p1, p2, p3, p4, p5⟩ := prod_in n hh hs
  have HC : Hid (CellsAt w b o cs) := hC
  have HL : Hid (cs.length = n * hh) := hL
  have hl2 : cs.length ≤ 7200 := by
    have : ((n * hh : Nat) : Int) ≤ 7200 := by rw [Int.natCast_mul]; exact p1
    omega
  obtain ⟨i0, hi, hzz⟩ := Option.map_eq_some_iff.1 info_cells
  simp only [Prod.mk.injEq] at hzz
  obtain ⟨hz0, hz1, hz2⟩ := hzz
  have kk : Below w.heap.size w (w.alloc (.cells #[.int .i64 (n : Int), .int .i64 (hh : Int), .slice (some ⟨b, o, none⟩) cs.length cx] 24)) := (Below.refl _ _).alloc (Nat.le_refl _) _
  have x0 := heap_alloc_new w (.cells #[.int .i64 (n : Int), .int .i64 (hh : Int), .slice (some ⟨b, o, none⟩) cs.length cx] 24)
  clear hC hL p0 p1 hs
  go_enter Tryd.func109, Tryd.ntmps109
  go_wp2_with fail
  go_loopg [3, 4] hh (fun q v y wr => ∃ (k : Nat) (vs : List Value) (gs : List Nat), y = .int .i64 (k : Int) ∧ k ≤ hh ∧ hh - k ≤ q ∧ wr.ownsRow (w.heap.size + 1) 22 1 v k vs ∧ RowsAt wr (w.heap.size + 1) vs gs (rowsL n cs k) ∧ Below w.heap.size w wr ∧ wr.heap[w.heap.size]? = some (.cells #[.int .i64 (n : Int), .int .i64 (hh : Int), .slice (some ⟨b, o, none⟩) cs.length cx] 24 (0, 0)))
  case atStart => exact ⟨0, [], [], rfl, by omega, by omega, World.ownsRow_nil _ _ _ _, ⟨rfl, rfl, List.nodup_nil, fun i hi => absurd hi (by simp [rowsL])⟩, kk, x0⟩
  case round =>
    clear kk x0
    obtain ⟨k, vs, gs, rfl, hk, hq, hown, hrows, hb, hv⟩ := hrel
    have ⟨c0, c1, c2, _⟩ := cells3 hv
    have HO : Hid (wr.ownsRow (w.heap.size + 1) 22 1 _ k vs) := hown
    have HRS : Hid (RowsAt wr (w.heap.size + 1) vs gs (rowsL n cs k)) := hrows
    clear hown hrows
    by_cases hlt : k < hh
    · have lt1 : ((k : Int) < (hh : Int)) := by omega
      have hfit := row_fits n hh _ k HL.out hlt
      have hrl := row_len n hh cs k HL.out hlt
      obtain ⟨p, hp⟩ : ∃ p, p = k * n := ⟨_, rfl⟩
      have hq2 : (k + 1) * n = p + n := by rw [hp, Nat.add_mul, Nat.one_mul]
      rw [hq2] at hfit
      have e1 : (k : Int) * (n : Int) = (p : Int) := by rw [hp]; simp
      have e2 : ((k : Int) + 1) * (n : Int) = ((p + n : Nat) : Int) := by rw [← hq2]; simp
      have e3 : p + n - p = n := by omega
      have HCL : Hid (∀ c, Calls Tryd.prog 107 #[.slice (some ⟨b, o + p * 4, none⟩) n c] wr fun e w' => ∃ v' g, e = .returned v' ∧ wr.heap.size ≤ g ∧ RowB w' g v' (rowAt n cs k) ∧ Below wr.heap.size wr w') := fun c => by
        have hpt := (HC.out.below hb).part (k * n) n (by rw [← hp]; omega)
        have := clone_row b (o + k * n * 4) c (rowAt n cs k) wr hpt (by rw [hrl]; omega)
        rw [hrl] at this
        rw [hp]
        exact this
      clear hrl hq2 hp
      go_wp2_with (first
        | (go_at_call 107; rw [e3]; refine (HCL.out _).mono ?_; rintro e W2 ⟨v2, g2, rfl, hg2, hr2, b2⟩
           have HR2 : Hid (RowB W2 g2 v2 (rowAt n cs k)) := hr2
           obtain ⟨cap2, _, rfl, _⟩ := hr2
           have hown2 : W2.ownsRow (w.heap.size + 1) 22 1 _ k vs := ownsRow_below HO.out b2)
        | (at_builtin; refine wpList_append_own _ rfl _ _ 30 rfl (w.heap.size + 1) 22 i0 (.slice none 0 0) 1 24 und_rows hi hz0 hz1 hz2 rfl (by decide) _ _ _ rfl (hown2.alloc _) ⟨W2.heap.size, 0, none⟩ 1 1 [.slice (some ⟨g2, 0, none⟩) (rowAt n cs k).length cap2] rfl rfl (cell_one_new _ _ _) (by intro u hu; simp at hu; rw [hu]; rfl) (by unfold maxLen; omega) (by omega) (by have := hb.size; have := b2.size; have := blk_lt hv; simp; omega) ?_
           intro v3 W3 hown3 hgrow hnil))
      have kZ : Below W2.heap.size W2 (W2.alloc (.cells #[.slice (some ⟨g2, 0, none⟩) (rowAt n cs k).length cap2] 22)) := (Below.refl _ _).alloc (Nat.le_refl _) _
      have hfrom := own_from HO.out
      have kb2 := hb.trans (b2.mono hb.size)
      have hN := blk_lt hv
      have hN2 := b2.size
      go_roundg (hh - (k + 1))
      case measure => omega
      case rel =>
        refine ⟨k + 1, vs ++ [.slice (some ⟨g2, 0, none⟩) (rowAt n cs k).length cap2], gs ++ [g2], rfl, by omega, by omega, hown3, ?_, ?_, ?_⟩
        · rw [rowsL_succ]
          refine ((((HRS.out.below b2).below kZ).grown (hown2.alloc _) hgrow)).snoc g2 _ _ (by omega) ((HR2.out.below kZ).grown (hown2.alloc _) hgrow) (fun i hi => ?_)
          have := HRS.out.lt i hi
          omega
        · exact (kb2.alloc kb2.size _).grown hgrow (by simp; omega) (fun q hq => by have := hfrom q hq; omega)
        · rw [hgrow.block _ (by simp; omega) (fun e => by have := hfrom _ e.symm; omega)]
          exact carry (carry hv b2) kZ
    · have lt1 : ¬ ((k : Int) < (hh : Int)) := by omega
      have hkh : k = hh := by omega
      subst hkh
      go_wp2_with fail
      go_ret
      exact ⟨_, rfl, vs, ownsRow_mono HO.out (by omega), ⟨gs, ⟨HRS.out.1, HRS.out.2.1, HRS.out.2.2.1, fun i hi => ⟨by have := (HRS.out.2.2.2 i hi).1; omega, (HRS.out.2.2.2 i hi).2⟩⟩⟩, hb⟩
end Grd
end Go.Proofs.YtnkeahfcpbepjaaDoor

/- slices.Clone of tabs and of rows: in memory of their own. -/
namespace Go.Proofs.YtnkeahfcpbepjaaDoor
open Go.ChangeShapes Go.WideShapes Go.ChangeAt Go.RowKit
namespace Put
open Grd (C SliceAt CellsAt gridErr z0 nilV)
theorem und_bools : Tryd.prog.underlying 27 = some (.slice 4) := by kernel_rfl
theorem info_bool : (Tryd.prog.info? 4).map (fun i => (i.zero, i.size, i.bytes)) = some (some (.bool false), 1, 1) := by kernel_rfl
theorem bools_len (l : List Bool) : (l.map Value.bool).length = l.length * 1 := by simp
theorem bools_one (l : List Bool) : ∀ u ∈ l.map Value.bool, u.oneCell' = true := by
  intro u hu
  obtain ⟨b, _, rfl⟩ := List.mem_map.1 hu
  rfl
theorem bools_src {w : World} {b o : Nat} {l : List Bool} (h : ∀ j, j < l.length → w.cell? ⟨b, o + j, none⟩ = some (.bool (l.getD j false))) : ∀ j u, (l.map Value.bool)[j]? = some u → w.cell? ((⟨b, o, none⟩ : Addr).add j) = some u := by
  intro j u hj
  have hlt := (List.getElem?_eq_some_iff.1 hj).1
  rw [List.length_map] at hlt
  have h1 := h j hlt
  rw [List.getElem?_map, List.getElem?_eq_getElem hlt] at hj
  rw [add_plain, h1, ← hj]
  simp [List.getD, List.getElem?_eq_getElem hlt]
set_option maxHeartbeats 1000000 in
theorem cloneBools_any (v : Value) (l : List Bool) (w : World) (hV : BoolsV w v l) (hl : l.length ≤ 1048576) :
    Calls Tryd.prog 108 #[v] w fun e w' => ∃ v', e = .returned v' ∧ w'.ownsRow w.heap.size 4 1 v' l.length (l.map Value.bool) ∧ Below w.heap.size w w' := by
  obtain ⟨i0, hi, hzz⟩ := Option.map_eq_some_iff.1 info_bool
  simp only [Prod.mk.injEq] at hzz
  obtain ⟨hz0, hz1, hz2⟩ := hzz
  have qn : ∀ (w : World) (a : Option Addr) (n c n' c' : Nat), (binOp .eql 27 (.slice a n c) (.slice none n' c')).run Tryd.prog w = .ok (.bool a.isNone) w := fun w a n c n' c' => Lib.run_eql_slice_nil w _ _ a n c n' c' und_bools
  have kb : Below w.heap.size w (w.alloc (.cells #[] 4)) := (Below.refl _ _).alloc (Nat.le_refl _) _
  have HF : Hid ((l.map Value.bool).length = l.length * 1) := bools_len l
  have HO : Hid (∀ u ∈ l.map Value.bool, u.oneCell' = true) := bools_one l
  rcases hV with ⟨rfl, p, c, rfl⟩ | ⟨b, o, c, rfl, hc, hm, hC⟩
  · cases p with
    | none =>
      go_enter Tryd.func108, Tryd.ntmps108
      go_wp2_with fail
      go_ret
      exact ⟨_, rfl, World.ownsRow_nil _ _ _ _, Below.refl _ _⟩
    | some ad =>
      go_enter Tryd.func108, Tryd.ntmps108
      go_wp2_with (at_builtin; refine wpList_append_own _ rfl _ _ 27 rfl w.heap.size 4 i0 (.bool false) 1 1 und_bools hi hz0 hz1 hz2 rfl (by decide) _ _ _ rfl (World.ownsRow_made w #[] 0 (Nat.le_refl _) (Nat.zero_le _) rfl) ad 0 c [] rfl rfl (by simp) (by simp) (by unfold maxLen; omega) (by omega) (by simp) ?_)
      intro v' w1 hown hgrow hnil
      go_wp2_with fail
      go_ret
      exact ⟨v', rfl, hown, ((Below.refl _ w).alloc (Nat.le_refl _) _).grown hgrow (by simp) (by intro k hk; simp [Value.ownBlock] at hk; omega)⟩
  · have HS : Hid (∀ j u, (l.map Value.bool)[j]? = some u → (w.alloc (.cells #[] 4)).cell? ((⟨b, o, none⟩ : Addr).add j) = some u) := bools_src (fun j hj => cell_stay kb (hC j hj))
    clear hC
    go_enter Tryd.func108, Tryd.ntmps108
    go_wp2_with (at_builtin; refine wpList_append_own _ rfl _ _ 27 rfl w.heap.size 4 i0 (.bool false) 1 1 und_bools hi hz0 hz1 hz2 rfl (by decide) _ _ _ rfl (World.ownsRow_made w #[] 0 (Nat.le_refl _) (Nat.zero_le _) rfl) ⟨b, o, none⟩ l.length c (l.map Value.bool) rfl HF.out HS.out HO.out ?qc4 ?qc5 ?qc6 ?_)
    case qc4 => unfold maxLen; omega
    case qc5 => omega
    case qc6 => simp
    intro v' w1 hown hgrow hnil
    go_wp2_with fail
    go_ret
    refine ⟨v', rfl, ?_, ((Below.refl _ w).alloc (Nat.le_refl _) _).grown hgrow (by simp) (by intro k hk; simp [Value.ownBlock] at hk; omega)⟩
    simpa using hown
/- Rows: a slice of slices of cells. -/
theorem und_rows : Tryd.prog.underlying 30 = some (.slice 22) := by kernel_rfl
theorem info_rows : (Tryd.prog.info? 22).map (fun i => (i.zero, i.size, i.bytes)) = some (some (.slice none 0 0), 1, 24) := by kernel_rfl
/-- The values of rows, each a slice of its cells. -/
def RowsL (W : World) (vs : List Value) (rows : List (List C)) : Prop := vs.length = rows.length ∧ ∀ i, i < rows.length → SliceAt W (vs.getD i nilV) (rows.getD i [])
theorem RowsL.next {W W' : World} {vs : List Value} {rows : List (List C)} (h : RowsL W vs rows) (hb : Below W.heap.size W W') : RowsL W' vs rows := ⟨h.1, fun i hi => (h.2 i hi).below hb⟩
theorem rowsV_list {w : World} {b o : Nat} : ∀ {l : List (List C)}, (∀ j, j < l.length → ∃ rv, w.cell? ⟨b, o + j, none⟩ = some rv ∧ SliceAt w rv (l.getD j [])) → ∃ vs : List Value, RowsL w vs l ∧ ∀ j, j < l.length → w.cell? ⟨b, o + j, none⟩ = some (vs.getD j nilV) := by
  intro l h
  refine ⟨(List.range l.length).map fun j => (w.cell? ⟨b, o + j, none⟩).getD nilV, ⟨by simp, fun i hi => ?_⟩, fun j hj => ?_⟩
  · obtain ⟨rv, h1, h2⟩ := h i hi
    have e : ((List.range l.length).map fun j => (w.cell? ⟨b, o + j, none⟩).getD nilV).getD i nilV = rv := by
      simp [List.getD, hi, h1]
    rw [e]
    exact h2
  · obtain ⟨rv, h1, h2⟩ := h j hj
    have e : ((List.range l.length).map fun j => (w.cell? ⟨b, o + j, none⟩).getD nilV).getD j nilV = rv := by
      simp [List.getD, hj, h1]
    rw [e, h1]
theorem SliceAt.one {w : World} {v : Value} {cs : List C} (h : SliceAt w v cs) : v.oneCell' = true := by
  obtain ⟨a, c, rfl⟩ := h.shape
  rfl
theorem RowsL.one {W : World} {vs : List Value} {rows : List (List C)} (h : RowsL W vs rows) : ∀ u ∈ vs, u.oneCell' = true := by
  intro u hu
  obtain ⟨i, hi, rfl⟩ := List.mem_iff_getElem.1 hu
  have := h.2 i (by rw [← h.1]; exact hi)
  have e : vs.getD i nilV = vs[i] := by simp [List.getD, hi]
  rw [e] at this
  exact SliceAt.one this
theorem rows_src {w : World} {b o : Nat} {vs : List Value} (h : ∀ j, j < vs.length → w.cell? ⟨b, o + j, none⟩ = some (vs.getD j nilV)) : ∀ j u, vs[j]? = some u → w.cell? ((⟨b, o, none⟩ : Addr).add j) = some u := by
  intro j u hj
  have hlt := (List.getElem?_eq_some_iff.1 hj).1
  have h1 := h j hlt
  rw [add_plain, h1]
  simp [List.getD, hj]
set_option maxHeartbeats 1000000 in
theorem cloneRows_any (v : Value) (l : List (List C)) (w : World) (hV : RowsV w v l) (hl : l.length ≤ 1048576) :
    Calls Tryd.prog 110 #[v] w fun e w' => ∃ v' vs, e = .returned v' ∧ w'.ownsRow w.heap.size 22 1 v' l.length vs ∧ RowsL w vs l ∧ (∀ w0, Below w0.heap.size w0 w → RowsV w0 v l → RowsL w0 vs l) ∧ Below w.heap.size w w' := by
  obtain ⟨i0, hi, hzz⟩ := Option.map_eq_some_iff.1 info_rows
  simp only [Prod.mk.injEq] at hzz
  obtain ⟨hz0, hz1, hz2⟩ := hzz
  have qn : ∀ (w : World) (a : Option Addr) (n c n' c' : Nat), (binOp .eql 30 (.slice a n c) (.slice none n' c')).run Tryd.prog w = .ok (.bool a.isNone) w := fun w a n c n' c' => Lib.run_eql_slice_nil w _ _ a n c n' c' und_rows
  have kb : Below w.heap.size w (w.alloc (.cells #[] 22)) := (Below.refl _ _).alloc (Nat.le_refl _) _
  rcases hV with ⟨rfl, p, c, rfl⟩ | ⟨b, o, c, rfl, hc, hm, hC⟩
  · cases p with
    | none =>
      go_enter Tryd.func110, Tryd.ntmps110
      go_wp2_with fail
      go_ret
      exact ⟨_, [], rfl, World.ownsRow_nil _ _ _ _, ⟨rfl, fun i hi => absurd hi (by simp)⟩, fun _ _ _ => ⟨rfl, fun i hi => absurd hi (by simp)⟩, Below.refl _ _⟩
    | some ad =>
      go_enter Tryd.func110, Tryd.ntmps110
      go_wp2_with (at_builtin; refine wpList_append_own _ rfl _ _ 30 rfl w.heap.size 22 i0 (.slice none 0 0) 1 24 und_rows hi hz0 hz1 hz2 rfl (by decide) _ _ _ rfl (World.ownsRow_made w #[] 0 (Nat.le_refl _) (Nat.zero_le _) rfl) ad 0 c [] rfl rfl (by simp) (by simp) (by unfold maxLen; omega) (by omega) (by simp) ?_)
      intro v' w1 hown hgrow hnil
      go_wp2_with fail
      go_ret
      exact ⟨v', [], rfl, hown, ⟨rfl, fun i hi => absurd hi (by simp)⟩, fun _ _ _ => ⟨rfl, fun i hi => absurd hi (by simp)⟩, ((Below.refl _ w).alloc (Nat.le_refl _) _).grown hgrow (by simp) (by intro k hk; simp [Value.ownBlock] at hk; omega)⟩
  · obtain ⟨vs, hvs, hcs⟩ := rowsV_list hC
    have HVS : Hid (RowsL w vs l) := hvs
    have HF : Hid (vs.length = l.length * 1) := by rw [Nat.mul_one]; exact hvs.1
    have HO : Hid (∀ u ∈ vs, u.oneCell' = true) := hvs.one
    have HS : Hid (∀ j u, vs[j]? = some u → (w.alloc (.cells #[] 22)).cell? ((⟨b, o, none⟩ : Addr).add j) = some u) := rows_src (fun j hj => cell_stay kb (hcs j (by rw [← hvs.1]; exact hj)))
    have HW0 : Hid (∀ w0, Below w0.heap.size w0 w → RowsV w0 (.slice (some ⟨b, o, none⟩) l.length c) l → RowsL w0 vs l) := fun w0 hb0 hv0 => by
      refine ⟨hvs.1, fun i hi => ?_⟩
      rcases hv0 with ⟨he, -⟩ | ⟨b', o', c', hv', -, -, hC'⟩
      · rw [he] at hi
        exact absurd hi (by simp)
      injection hv' with hv1 hv2 hv3
      injection hv1 with hv1
      injection hv1 with hb' ho' _
      obtain ⟨rv, h1, h2⟩ := hC' i hi
      rw [← hb', ← ho'] at h1
      have h3 := (cell_stay hb0 h1).symm.trans (hcs i hi)
      injection h3 with h3
      rw [← h3]
      exact h2
    clear hC hcs hvs
    go_enter Tryd.func110, Tryd.ntmps110
    go_wp2_with (at_builtin; refine wpList_append_own _ rfl _ _ 30 rfl w.heap.size 22 i0 (.slice none 0 0) 1 24 und_rows hi hz0 hz1 hz2 rfl (by decide) _ _ _ rfl (World.ownsRow_made w #[] 0 (Nat.le_refl _) (Nat.zero_le _) rfl) ⟨b, o, none⟩ l.length c vs rfl HF.out HS.out HO.out ?qc4 ?qc5 ?qc6 ?_)
    case qc4 => unfold maxLen; omega
    case qc5 => omega
    case qc6 => simp
    intro v' w1 hown hgrow hnil
    go_wp2_with fail
    go_ret
    refine ⟨v', vs, rfl, ?_, HVS.out, HW0.out, ((Below.refl _ w).alloc (Nat.le_refl _) _).grown hgrow (by simp) (by intro k hk; simp [Value.ownBlock] at hk; omega)⟩
    simpa using hown
end Put
end Go.Proofs.YtnkeahfcpbepjaaDoor

/- Modes: their bits. -/
namespace Go.Proofs.YtnkeahfcpbepjaaDoor
open Go.ChangeShapes Go.WideShapes Go.ChangeAt Go.RowKit
namespace Put
theorem wrap_toNat (x : BitVec 64) : IntKind.i64.wrap (x.toNat : Int) = 0 ↔ x = 0 := by
  rw [IntKind.wrap_i64]
  have := x.isLt
  constructor
  · intro h
    apply BitVec.eq_of_toNat_eq
    simp
    omega
  · rintro rfl
    decide
theorem andNot_zero (m c : Int) : bits .andNot .i64 m c = 0 ↔ BitVec.ofInt 64 m &&& ~~~ (BitVec.ofInt 64 c) = 0 := by
  show IntKind.i64.wrap ((BitVec.ofInt 64 m &&& ~~~ (BitVec.ofInt 64 c)).toNat : Int) = 0 ↔ _
  exact wrap_toNat _
theorem and_zero (m c : Int) : bits .and .i64 m c = 0 ↔ BitVec.ofInt 64 m &&& BitVec.ofInt 64 c = 0 := by
  show IntKind.i64.wrap ((BitVec.ofInt 64 m &&& BitVec.ofInt 64 c).toNat : Int) = 0 ↔ _
  exact wrap_toNat _
theorem high_zero (x : BitVec 64) : x &&& ~~~ (63#64) = 0 ↔ x.toNat < 64 := by
  constructor
  · intro h
    have h1 : x >>> 6 = 0 := by
      apply BitVec.eq_of_getLsbD_eq
      intro i hi
      have h2 := congrArg (fun y => BitVec.getLsbD y (6 + i)) h
      simp only [BitVec.getLsbD_and, BitVec.getLsbD_not, BitVec.getLsbD_ushiftRight] at h2 ⊢
      have h3 : (63#64).getLsbD (6 + i) = false := by
        rw [BitVec.getLsbD_ofNat]
        have : Nat.testBit 63 (6 + i) = false := by
          apply Nat.testBit_lt_two_pow
          calc 63 < 2 ^ 6 := by decide
            _ ≤ 2 ^ (6 + i) := Nat.pow_le_pow_right (by decide) (by omega)
        rw [this]
        simp
      by_cases hlt : 6 + i < 64
      · rw [h3] at h2
        simpa [hlt] using h2
      · rw [BitVec.getLsbD_of_ge _ _ (by omega)]
        simp
    have h4 := congrArg BitVec.toNat h1
    rw [BitVec.toNat_ushiftRight, Nat.shiftRight_eq_div_pow] at h4
    simp at h4
    omega
  · intro h
    have key : ∀ n : Fin 64, (BitVec.ofNat 64 n.val) &&& ~~~ (63#64) = 0 := by decide +kernel
    have h2 := key ⟨x.toNat, h⟩
    simpa using h2
theorem modes_ok (m : Int) (h0 : -9223372036854775808 ≤ m) (h1 : m ≤ 9223372036854775807) : bits .andNot .i64 m 63 = 0 ↔ 0 ≤ m ∧ m ≤ 63 := by
  rw [andNot_zero, show BitVec.ofInt 64 63 = 63#64 from rfl, high_zero, BitVec.toNat_ofInt]
  omega
/-- What K may have. -/
def keptOk (m : Int) : Bool := decide (m = 0 ∨ m = 2 ∨ m = 4 ∨ m = 6)
theorem kept_ok (m : Int) (h0 : -9223372036854775808 ≤ m) (h1 : m ≤ 9223372036854775807) : bits .andNot .i64 m 6 = 0 ↔ keptOk m = true := by
  have hk : keptOk m = true ↔ (m = 0 ∨ m = 2 ∨ m = 4 ∨ m = 6) := by simp [keptOk]
  rw [hk]
  constructor
  · intro h
    have h63 : bits .andNot .i64 m 63 = 0 := by
      rw [andNot_zero] at h ⊢
      have e : BitVec.ofInt 64 m &&& ~~~ (BitVec.ofInt 64 63) = (BitVec.ofInt 64 m &&& ~~~ (BitVec.ofInt 64 6)) &&& ~~~ (BitVec.ofInt 64 63) := by
        rw [BitVec.and_assoc, show (~~~ (BitVec.ofInt 64 6)) &&& ~~~ (BitVec.ofInt 64 63) = ~~~ (BitVec.ofInt 64 63) by decide]
      rw [e, h]
      simp
    obtain ⟨p0, p1⟩ := (modes_ok m h0 h1).1 h63
    have key : ∀ n : Fin 64, bits .andNot .i64 (n.val : Int) 6 = 0 → ((n.val : Int) = 0 ∨ (n.val : Int) = 2 ∨ (n.val : Int) = 4 ∨ (n.val : Int) = 6) := by decide +kernel
    have h2 := key ⟨m.toNat, by omega⟩
    simp only [Int.toNat_of_nonneg p0] at h2
    exact h2 h
  · rintro (rfl | rfl | rfl | rfl) <;> decide
theorem kept_ref (m : Int) (h0 : 0 ≤ m) (h1 : m ≤ 63) : bits .and .i64 m 57 = 0 ↔ keptOk m = true := by
  have key : ∀ n : Fin 64, (bits .and .i64 (n.val : Int) 57 = 0 ↔ keptOk (n.val : Int) = true) := by decide +kernel
  have h2 := key ⟨m.toNat, by omega⟩
  simp only [Int.toNat_of_nonneg h0] at h2
  exact h2
theorem kept_range (m : Int) (h : keptOk m = true) : 0 ≤ m ∧ m ≤ 63 := by
  have : m = 0 ∨ m = 2 ∨ m = 4 ∨ m = 6 := by simpa [keptOk] using h
  omega
end Put
end Go.Proofs.YtnkeahfcpbepjaaDoor

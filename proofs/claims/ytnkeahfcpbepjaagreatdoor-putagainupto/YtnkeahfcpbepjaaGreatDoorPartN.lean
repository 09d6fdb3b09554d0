/- The reference's desk: Roll, up. (Written by gen_refrollu.py.) -/
import Derived.Test.YtnkeahfcpbepjaaGreatDoorPartM
import Derived.Deep.RegionLaw
import Derived.Deep.CutBlock
import Derived.Test.YtnkeahfcpbepjaaGreatDoorPartL
import Derived.BigRegion
import Derived.Test.YtnkeahfcpbepjaaGreatDoorPartI
import Derived.Deep.RegionHeld3
import Derived.Test.YtnkeahfcpbepjaaGreatDoorPartF
import Derived.Test.YtnkeahfcpbepjaaGreatDoorPartH
import Derived.BigQuiet
namespace Go.Proofs.YtnkeahfcpbepjaaGreatDoor
open Go.ChangeShapes Go.WideShapes Go.ChangeAt Go.RowKit
namespace Put
open Grd (C SliceAt CellsAt gridErr z0 nilV flat rowsL OwnG RowB RowsAt)
theorem step_append_at {P : Program} {ops : Array Oper} {o : Oper} {a : Act} {w : World} {K : Act → World → Prop} {Q : Exit → Act → World → Prop} {E : Prop} (hg : o.guard = none) (s x : Operand) (t : TypeId)
    (hop : o.op = .call { callee := .builtin .append, args := #[s, x], argTypes := #[t, t] })
    (base : Nat) (e : TypeId) (i : TypeInfo) (z : Value) (size bytes : Nat) (ht : P.underlying t = some (.slice e)) (hi : P.info? e = some i) (hz : i.zero = some z)
    (hsize : i.size = size) (hby : i.bytes = bytes) (hzs : z.cells.size = size) (hsz : 0 < size)
    (v : Value) (n : Nat) (xs : List Value) (hs : a.eval s = v) (hown : w.ownsRow base e size v n xs)
    (ad : Addr) (m c : Nat) (news : List Value) (hx : a.eval x = .slice (some ad) m c) (hl : news.length = m * size) (hnews : ∀ j u, news[j]? = some u → w.cell? (ad.add j) = some u) (h1 : ∀ u ∈ news, u.oneCell' = true)
    (h63 : n + m ≤ maxLen) (hbytes : (n + m) * bytes ≤ 140737488355328) (hbase : base ≤ w.heap.size)
    (h : ∀ v' w', w'.ownsRow base e size v' (n + m) (xs ++ news) → w.grownBy w' v.ownBlock → (v'.ownBlock = v.ownBlock ∨ v'.ownBlock = some w.heap.size) → K (a.put o.dst v') w') :
    if Region.wanted o (yielded ops a.tmps) = true then Oper.wp P o a w K Q else E := by
  have hw : Region.wanted o (yielded ops a.tmps) = true := by simp [Region.wanted, hg]
  rw [if_pos hw]
  obtain ⟨v', w', hr, h2, h3, -, h5⟩ := run_append_own_at (P := P) w base t o.type e i z size bytes ht hi hz hsize hby hzs hsz v n xs hown ad m c news hl hnews h1 h63 hbytes hbase
  unfold Oper.wp execOp
  simp only [hop, resolve, invoke, builtin, Sem.run_bind, Sem.run_pure, Result.andThen_ok, List.map_toArray, List.map_cons, List.map_nil, hs, hx, hr]
  exact h v' w' h2 h3 h5
theorem nodup_first {gs : List Nat} (h : gs.Nodup) (hl : 0 < gs.length) : gs.getD 0 0 ∉ gs.eraseIdx 0 := by
  cases gs with
  | nil => simp at hl
  | cons a l =>
    rw [List.nodup_cons] at h
    simpa using h.1
/-- What is gone, and the first row: none is one of the other rows. -/
theorem gone_push {W : World} {N p : Nat} {s : Scr} {rows : List (List C)} {cv tv gv rv : Value} {gvs vs : List Value} {gs : List Nat} (h : DkA W N p s rows cv tv gv rv gvs vs gs) (hl : 0 < rows.length) :
    ∀ i, i < (s.gone ++ [rows.getD 0 []]).length → (s.gone ++ [rows.getD 0 []]).getD i [] ≠ [] → ∀ g, blkOf ((gvs ++ [vs.getD 0 nilV]).getD i nilV) = some g → g ∉ gs.eraseIdx 0 := by
  intro i hi hn g hg hm
  have hgl : gvs.length = s.gone.length := h.gin.1
  rw [List.length_append, List.length_singleton] at hi
  by_cases e : i < s.gone.length
  · have e1 : (s.gone ++ [rows.getD 0 []]).getD i [] = s.gone.getD i [] := by simp only [List.getD]; rw [List.getElem?_append_left e]
    have e2 : (gvs ++ [vs.getD 0 nilV]).getD i nilV = gvs.getD i nilV := by simp only [List.getD]; rw [List.getElem?_append_left (by omega)]
    rw [e1] at hn
    rw [e2] at hg
    exact h.gof i e hn g hg (List.mem_of_mem_eraseIdx hm)
  · have e3 : i = s.gone.length := by omega
    have e2 : (gvs ++ [vs.getD 0 nilV]).getD i nilV = vs.getD 0 nilV := by
      rw [e3, ← hgl]
      simp [List.getD]
    rw [e2, blk_sl (h.rin.2.2.2 0 hl).2] at hg
    rw [← Option.some.inj hg] at hm
    exact nodup_first h.rin.2.2.1 (by rw [h.rin.2.1]; exact hl) hm
theorem gone_cut {l : List (List C)} {ws : List Value} {gx : List Nat} (h : ∀ i, i < l.length → l.getD i [] ≠ [] → ∀ g, blkOf (ws.getD i nilV) = some g → g ∉ gx) : ∀ i, i < (l.eraseIdx 0).length → (l.eraseIdx 0).getD i [] ≠ [] → ∀ g, blkOf ((ws.eraseIdx 0).getD i nilV) = some g → g ∉ gx := by
  intro i hi hn g hg
  rw [getD_erase, if_neg (by omega)] at hn hg
  refine h (i + 1) ?_ hn g hg
  by_cases h0 : l = []
  · subst h0
    simp at hi
  · rw [List.length_eraseIdx_of_lt (List.length_pos_iff.2 h0)] at hi
    omega
set_option linter.unusedSimpArgs false in
set_option maxHeartbeats 8000000 in
set_option maxRecDepth 100000 in
theorem roll_upI (N p n top bot hh K : Nat) (bk : Int) (s : Scr) (rows : List (List C)) (W : World) (keep : Bool) (m : Int) (hD : DkAt W N p s rows) (hR : Rolls n bot hh bk (s, rows)) (hn1 : 1 ≤ n) (hn2 : n ≤ 120) (htb : top ≤ bot) (hbh : bot < hh) (hh60 : hh ≤ 60) (hK : max (-((bot : Int) - top + 1)) (min m ((bot : Int) - top + 1)) = (K : Int)) :
    Calls Tryz.prog 101 #[.pointer (some ⟨p, 0, none⟩), .int .i64 (top : Int), .int .i64 m, .bool keep] W fun e W' => e = .returned (.tuple #[]) ∧ DkAt W' N p (iterN (rUp n top bot keep) K (s, rows)).1 (iterN (rUp n top bot keep) K (s, rows)).2 ∧ Bel N W W' := by
  obtain ⟨c0, c1, c3, c4, c5, c9, c10, c11, c19, f⟩ := hD.words
  have hb0 : s.bot = bot := hR.b
  rw [hb0] at c10
  have h1 := Grd.min2 m ((bot : Int) - top + 1)
  have h2 := Grd.max2 (-((bot : Int) - top + 1)) (min m ((bot : Int) - top + 1))
  rw [hK] at h2
  have HD : Hid (DkAt W N p s rows) := hD
  have HR : Hid (Rolls n bot hh bk (s, rows)) := hR
  have hw1 : IntKind.i64.wrap ((bot : Int) - top) = (bot : Int) - top := wrap_id _ (by omega) (by omega)
  have hw2 : IntKind.i64.wrap ((bot : Int) - top + 1) = (bot : Int) - top + 1 := wrap_id _ (by omega) (by omega)
  have hw3 : IntKind.i64.wrap (-((bot : Int) - top + 1)) = -((bot : Int) - top + 1) := wrap_id _ (by omega) (by omega)
  have hKle : K ≤ 60 := by omega
  clear hD hR c0 c1 c3 c4 c5 c9 c11 c19 f hK hb0
  go_enter Tryz.func101, Tryz.ntmps101
  go_wp2_with fail
  go_loopg [2] K (fun q v w2 => ∃ k j : Nat, v = .int .i64 (k : Int) ∧ k ≤ q ∧ k + j = K ∧ Rolls n bot hh bk (iterN (rUp n top bot keep) j (s, rows)) ∧ DkAt w2 N p (iterN (rUp n top bot keep) j (s, rows)).1 (iterN (rUp n top bot keep) j (s, rows)).2 ∧ Bel N W w2)
  case atStart => exact ⟨K, 0, rfl, Nat.le_refl _, by omega, HR.out, HD.out, Bel.refl _ _⟩
  case round =>
    obtain ⟨k, j, rfl, hkq, hkj, hRj, hDj, hBj⟩ := hrel
    by_cases hk0 : k = 0
    · subst hk0
      have ej : j = K := by omega
      subst ej
      generalize hyy : wr = Y at *
      clear hyy
      go_wp2_with fail
      go_loopg [2] 0 (fun _ v w3 => v = .int .i64 0 ∧ w3 = Y)
      case atStart => exact ⟨rfl, rfl⟩
      case round =>
        obtain ⟨rfl, hww⟩ := hrel
        have hww := hww.symm
        subst hww
        go_wp2_with fail
        go_end0
        exact ⟨rfl, hDj, hBj⟩
    · have lt1 : (0 : Int) < (k : Int) := by omega
      have HN : Hid (iterN (rUp n top bot keep) (j + 1) (s, rows) = rUp n top bot keep (iterN (rUp n top bot keep) j (s, rows))) := rfl
      have hw4 : IntKind.i64.wrap ((k : Int) - 1) = ((k - 1 : Nat) : Int) := by rw [wrap_id _ (by omega) (by omega)]; omega
      generalize iterN (rUp n top bot keep) j (s, rows) = x at hRj hDj HN
      obtain ⟨cv, tv, gv, rv, gvs, vs, gs, hA⟩ := hDj
      have hrl := hRj.r
      have HRL : Hid (x.2.length = hh) := hRj.r
      have HW : Hid (x.1.w = n) := hRj.w
      have HBO : Hid (x.1.bot = bot) := hRj.b
      have HGL : Hid (x.1.gone.length ≤ 50) := hRj.g
      obtain ⟨rb, rc, hrv, hrb, hrc1, hrc2, hvl, hrcell, A, hrA⟩ := own_cells hA.rws (by omega)
      subst hrv
      have hpr : p ≠ rb := by
        intro e
        rw [← e, hA.blk] at hrA
        injection hrA with hrA
        injection hrA with _ hrA _
        exact absurd hrA (by decide)
      have HRN : Hid (Rolls n bot hh bk (iterN (rUp n top bot keep) (j + 1) (s, rows))) := by rw [Hid, HN.out]; exact hRj.up top keep (by omega) hbh
      have hwb : IntKind.i64.wrap ((top : Int) + 1) = (top : Int) + 1 := wrap_id _ (by omega) (by omega)
      have hl60 : 0 < x.2.length ∧ x.2.length ≤ 60 := by omega
      clear HD HR h1 h2 hw1 hw2 hw3 c10 hrl
      by_cases hkt : top = 0 ∧ keep = true
      · obtain ⟨ht0, hk1⟩ := hkt
        subst ht0 hk1
        have HXN : Hid (rUp n 0 bot true x = ({ x.1 with gone := keepG x.1.gone (x.2.getD 0 []) }, replR x.2 n x.1.sb 0 bot)) := by unfold Hid rUp; rw [if_pos ⟨rfl, rfl⟩]
        have HN : Hid (iterN (rUp n 0 bot true) (j + 1) (s, rows) = ({ x.1 with gone := keepG x.1.gone (x.2.getD 0 []) }, replR x.2 n x.1.sb 0 bot)) := HN.out.trans HXN.out
        have hB0 := (hA.rin.2.2.2 0 (by omega)).2
        obtain ⟨va, vc, hsh⟩ := rowB_shapeS hB0
        obtain ⟨ga, gc, hgv⟩ := hA.gone.slice
        subst hgv
        have HGF : Hid (∀ i, i < (x.1.gone ++ [x.2.getD 0 []]).length → (x.1.gone ++ [x.2.getD 0 []]).getD i [] ≠ [] → ∀ g, blkOf ((gvs ++ [vs.getD 0 nilV]).getD i nilV) = some g → g ∉ gs.eraseIdx 0) := gone_push hA (by omega)
        have hri : RowIn wr N (vs.getD 0 nilV) (x.2.getD 0 []) := rowIn_rowB hB0
        have d0 := hrcell 0 (by omega)
        rw [hsh] at d0 HGF hri
        obtain ⟨-, ⟨-, -, -, -, -, -, -, -, -, -, c21, c22⟩, -⟩ := sh_cells hA.blk
        have HCC : Hid (∀ V, Below wr.heap.size wr V → V.cell? ⟨p, 21, none⟩ = some (.slice ga x.1.gone.length gc) ∧ V.cell? ⟨p, 22, none⟩ = some (.slice (some ⟨rb, 0, none⟩) x.2.length rc) ∧ V.cell? ⟨rb, 0, none⟩ = some (.slice va (x.2.getD 0 []).length vc)) := fun V h => ⟨cell_stay h c21, cell_stay h c22, cell_stay h d0⟩
        have HCL : Hid (∀ V, Below wr.heap.size wr V → Calls Tryz.prog 126 #[.slice ga x.1.gone.length gc] V fun e w' => ∃ a c, e = .returned (.slice a x.1.gone.length c) ∧ w'.ownsRow V.heap.size 22 1 (.slice a x.1.gone.length c) x.1.gone.length gvs ∧ Below V.heap.size V w') := fun V h => cloneVals _ _ gvs V (hA.gone.next h) hA.gin.sls (by have := HGL.out; omega)
        have hNwr : N ≤ wr.heap.size := Nat.le_trans hA.lo (Nat.le_of_lt (heap_lt hA.blk))
        have HFIN : Hid (∀ (U W2 : World) (a ga2 : Option Addr) (c gc2 : Nat), Below wr.heap.size wr U → U.ownsRow wr.heap.size 22 1 (.slice a x.1.gone.length c) x.1.gone.length gvs → W2.ownsRow wr.heap.size 22 1 (.slice ga2 (x.1.gone.length + 1) gc2) (x.1.gone.length + 1) (gvs ++ [.slice va (x.2.getD 0 []).length vc]) → U.grownBy W2 (Value.slice a x.1.gone.length c).ownBlock →
            W2.cell? ⟨p, 21, none⟩ = some (.slice ga x.1.gone.length gc) ∧ W2.frozen? ⟨p, 21, none⟩ = false ∧ Hid (DkX (W2.setCell ⟨p, 21, none⟩ (.slice ga2 (x.1.gone.length + 1) gc2)) N p { x.1 with gone := x.1.gone ++ [x.2.getD 0 []] } x.2 cv tv (.slice ga2 (x.1.gone.length + 1) gc2) (.slice (some ⟨rb, 0, none⟩) x.2.length rc) (gvs ++ [.slice va (x.2.getD 0 []).length vc]) vs gs ∧ (W2.setCell ⟨p, 21, none⟩ (.slice ga2 (x.1.gone.length + 1) gc2)).ownsRow wr.heap.size 22 1 (.slice ga2 (x.1.gone.length + 1) gc2) (x.1.gone.length + 1) (gvs ++ [.slice va (x.2.getD 0 []).length vc]) ∧ Bel N W (W2.setCell ⟨p, 21, none⟩ (.slice ga2 (x.1.gone.length + 1) gc2)))) := fun U W2 a ga2 c gc2 hU hUo hO2 hgr => by
          have hbW : Below wr.heap.size wr W2 := hU.trans (grown_below hgr (fun k e => (owns_block hUo k e).1) hU.size)
          have h2 := hA.next hbW
          have hx := hA.x.goneNew (V := W2) (s' := { x.1 with gone := x.1.gone ++ [x.2.getD 0 []] }) (gv' := .slice ga2 (x.1.gone.length + 1) gc2) (gvs' := gvs ++ [.slice va (x.2.getD 0 []).length vc]) rfl hbW (GoneV.of (by show W2.ownsRow N _ 1 _ (x.1.gone ++ [x.2.getD 0 []]).length _; rw [List.length_append, List.length_singleton]; exact Grd.ownsRow_mono hO2 hNwr)) ((hA.gin.push _ _ hri).keep (Kept.of_below hbW)) (fun q hq e => by
            have q1 := (owns_block hO2 q hq).1
            obtain ⟨-, B, f', hB⟩ := owns_block hA.rws q e
            have q2 := heap_lt hB
            omega)
          exact ⟨(sh_cells h2.blk).2.1.2.2.2.2.2.2.2.2.2.2.1, (sh_cells h2.blk).2.2 21, hx, own_off hO2 h2.blk (by decide), (hBj.next hNwr hbW).setCell hA.lo _⟩
        obtain ⟨i0, hi, hzz⟩ := Option.map_eq_some_iff.1 info_rows
        simp only [Prod.mk.injEq] at hzz
        obtain ⟨hz0, hz1, hz2⟩ := hzz
        have hgl := HGL.out
        have hl0 : (0 : Int) < (x.2.length : Int) := by omega
        have b0 : Below wr.heap.size wr wr.drew := (Below.refl _ _).drew
        have b0b : Below wr.heap.size wr (wr.alloc (.cells #[.slice va (x.2.getD 0 []).length vc] 22)) := (Below.refl _ _).alloc (Nat.le_refl _) _
        have b0a : Below wr.heap.size wr (wr.alloc (.cells #[.slice va (x.2.getD 0 []).length vc] 22)).drew := b0b.drew
        obtain ⟨k21, k22, kd⟩ := HCC.out _ b0
        obtain ⟨l21, l22, ld⟩ := HCC.out _ b0b
        have HNV : Hid (∀ V : World, ∀ j u, [Value.slice va (x.2.getD 0 []).length vc][j]? = some u → (V.alloc (.cells #[.slice va (x.2.getD 0 []).length vc] 22)).cell? ((⟨V.heap.size, 0, none⟩ : Addr).add j) = some u) := fun V => cell_news V _ _
        have HLO : Hid (N ≤ p) := hA.lo
        clear hA hrA hrcell hvl hRj hBj HXN hB0 hsh hri c21 c22 d0
        generalize x.2.getD 0 [] = row0 at *
        go_upto_region 5 with fail
        go_cut [] from 23 to 86 (fun wx => ∃ (ga2 : Option Addr) (gc2 : Nat), DkX wx N p { x.1 with gone := x.1.gone ++ [row0] } x.2 cv tv (.slice ga2 (x.1.gone.length + 1) gc2) (.slice (some ⟨rb, 0, none⟩) x.2.length rc) (gvs ++ [.slice va row0.length vc]) vs gs ∧ wx.ownsRow wr.heap.size 22 1 (.slice ga2 (x.1.gone.length + 1) gc2) (x.1.gone.length + 1) (gvs ++ [.slice va row0.length vc]) ∧ Bel N W wx)
        case first =>
          go_region_law (first
            | (refine step_append_at rfl (.tmp 38) (.tmp 45) 30 rfl wr.heap.size 22 i0 (.slice none 0 0) 1 24 und_rows hi hz0 hz1 hz2 rfl (by decide) (.slice a1 x.1.gone.length c1) x.1.gone.length gvs (by simp [Act.eval, Act.put]) (hO2.alloc _) ⟨V1.heap.size, 0, none⟩ 1 1 [.slice va row0.length vc] (by simp [Act.eval, Act.put]) rfl (HNV.out V1) (by intro u hu; simp at hu; rw [hu]; rfl) (by unfold maxLen; omega) (by omega) (q1.alloc q1.size _).size ?_; intro gv2 W2 hown2 hgr hat; obtain ⟨ga2, gc2, rfl⟩ := own_slice hown2; obtain ⟨z21, zf, HPK⟩ := HFIN.out _ W2 a1 ga2 c1 gc2 (q1.alloc q1.size _) (hO2.alloc _) hown2 hgr)
            | (refine step_append_at rfl (.tmp 38) (.tmp 45) 30 rfl wr.heap.size 22 i0 (.slice none 0 0) 1 24 und_rows hi hz0 hz1 hz2 rfl (by decide) (.slice a1 x.1.gone.length c1) x.1.gone.length gvs (by simp [Act.eval, Act.put]) hO2 ⟨wr.heap.size, 0, none⟩ 1 1 [.slice va row0.length vc] (by simp [Act.eval, Act.put]) rfl (fun jj u hj => cell_stay b1 (HNV.out wr jj u hj)) (by intro u hu; simp at hu; rw [hu]; rfl) (by unfold maxLen; omega) (by omega) q1.size ?_; intro gv2 W2 hown2 hgr hat; obtain ⟨ga2, gc2, rfl⟩ := own_slice hown2; obtain ⟨z21, zf, HPK⟩ := HFIN.out _ W2 a1 ga2 c1 gc2 q1 hO2 hown2 hgr)
            | (go_simp; go_at_call 126; refine (HCL.out _ ?_).mono ?_; (first | exact b0a | exact b0); rintro e V1 ⟨a1, c1, rfl, hO1, b1⟩; have q1 : Below wr.heap.size wr V1 := (by first | exact b0a.trans (b1.mono b0a.size) | exact b0.trans (b1.mono b0.size)); have hO2 := Grd.ownsRow_mono hO1 (by first | exact b0a.size | exact b0.size); obtain ⟨m21, m22, md⟩ := HCC.out _ q1; obtain ⟨n21, n22, nd⟩ := HCC.out _ (q1.alloc q1.size (.cells #[.slice va row0.length vc] 22))))
          all_goals go_wp2_with fail
          all_goals go_meet
          all_goals exact ⟨ga2, gc2, HPK.out⟩
        case rest =>
          obtain ⟨ga2, gc2, hcX, hcO, hcB⟩ := hcut
          have e21 := (sh_cells hcX.blk).2.1.2.2.2.2.2.2.2.2.2.2.1
          have g21 := (sh_cells hcX.blk).2.2 21
          clear HFIN HCL HCC HNV k21 k22 kd l21 l22 ld hi hz0 hz1 hz2 b0 b0a b0b
          by_cases hlt : x.1.gone.length < 50
          · have HN : Hid (iterN (rUp n 0 bot true) (j + 1) (s, rows) = ({ x.1 with gone := x.1.gone ++ [row0] }, replR x.2 n x.1.sb 0 bot)) := by rw [Hid, HN.out]; unfold keepG; rw [if_pos hlt]
            have hl1 : ¬ ((50 : Int) < (x.1.gone.length : Int) + 1) := by omega
            have HYX : Hid (DkX wc.drew N p { x.1 with gone := x.1.gone ++ [row0] } x.2 cv tv (.slice ga2 (x.1.gone.length + 1) gc2) (.slice (some ⟨rb, 0, none⟩) x.2.length rc) (gvs ++ [.slice va row0.length vc]) vs gs) := hcX.next ((Below.refl _ _).drew)
            have HB : Hid (Bel N W wc.drew) := hcB.drew
            clear hcX hcO hcB
            go_upto_region 8 with fail
            clear e21 g21
            have HX : Hid (DkX wc.drew N p { x.1 with gone := x.1.gone ++ [row0] } x.2 cv tv (.slice ga2 (x.1.gone.length + 1) gc2) (.slice (some ⟨rb, 0, none⟩) x.2.length rc) (gvs ++ [.slice va row0.length vc]) vs gs) := HYX.out
            have HDel := delete_own N rb x.2.length rc 0 vs wc.drew HX.out.rws (RowsAt.sls HX.out.rin) (by have := HRL.out; omega)
            rw [show ((0 + 1 : Nat) : Int) = (0 : Int) + 1 by omega] at HDel
            have HEM : Hid (∀ V1 : World, (∀ q, q ≠ rb → V1.heap[q]? = wc.drew.heap[q]?) → Calls Tryz.prog 95 #[.pointer (some ⟨p, 0, none⟩)] V1 fun e W' => ∃ v g, e = .returned v ∧ V1.heap.size ≤ g ∧ RowB W' g v (List.replicate n (32, 0, x.1.sb, 0)) ∧ Below V1.heap.size V1 W') := fun V1 h1 => by
              have hp1 := (h1 p hpr).trans HX.out.blk
              obtain ⟨⟨q0, -, -, -, -, -, -, q7, -⟩, -, -⟩ := sh_cells hp1
              have q0 : V1.cell? ⟨p, 0, none⟩ = some (.int .i64 x.1.w) := q0
              have q7 : V1.cell? ⟨p, 7, none⟩ = some (.int .i64 x.1.sb) := q7
              rw [HW.out] at q0
              exact emptyS_any p n x.1.sb V1 q0 q7 hn1 hn2
            have HINS : Hid (∀ (V1 V2 : World) (a : Option Addr) (c g : Nat), V1.ownsRow N 22 1 (.slice (some ⟨rb, 0, none⟩) (x.2.length - 1) rc) (x.2.length - 1) (vs.eraseIdx 0) → (∀ q, q ≠ rb → V1.heap[q]? = wc.drew.heap[q]?) → Below rb wc.drew V1 → Below V1.heap.size V1 V2 → V1.heap.size ≤ g → RowB V2 g (.slice a n c) (List.replicate n (32, 0, x.1.sb, 0)) → _) := fun V1 V2 a c g z1 z2 z3 z4 z5 z6 => roll_insI (fresh := bot) (bot := bot) HX.out HGF.out HBO.out hrc1 (by have := HRL.out; omega) (by have := HRL.out; omega) V1 V2 a c g z1 z2 z3 z4 z5 z6
            have SK : Hid (∀ V : World, (∀ q, q < wc.drew.heap.size → q ≠ rb → V.heap[q]? = wc.drew.heap[q]?) → V.cell? ⟨p, 10, none⟩ = some (.int .i64 (bot : Int)) ∧ V.cell? ⟨p, 22, none⟩ = some (.slice (some ⟨rb, 0, none⟩) x.2.length rc)) := fun V h => by
              have hp1 := (h p (heap_lt HX.out.blk) hpr).trans HX.out.blk
              obtain ⟨⟨-, -, -, -, -, -, -, -, -, -, q10⟩, ⟨-, -, -, -, -, -, -, -, -, -, -, q22⟩, -⟩ := sh_cells hp1
              have q10 : V.cell? ⟨p, 10, none⟩ = some (.int .i64 x.1.bot) := q10
              rw [HBO.out] at q10
              exact ⟨q10, q22⟩
            have e0 := SK.out wc.drew (fun _ _ _ => rfl)
            go_region_held3 (fun w' => w'.cell? ⟨p, 10, none⟩ = some (.int .i64 (bot : Int)) ∧ w'.cell? ⟨p, 22, none⟩ = some (.slice (some ⟨rb, 0, none⟩) x.2.length rc))
              (first | exact e5 | exact e4 | exact e3 | exact e2 | exact e1 | exact e0)
              (first
                | (go_at_call 145; refine HDel.mono ?_; rintro e V1 ⟨rfl, hO1, hk1, hb1⟩; have HE1 := HEM.out V1 hk1; have e1 := SK.out V1 (fun q _ hn => hk1 q hn))
                | (go_at_call 95; refine HE1.mono ?_; rintro e V2 ⟨v, g, rfl, hg1, hR2, b2⟩; obtain ⟨na, nc, hv2⟩ := rowB_shapeS hR2; rw [List.length_replicate] at hv2; subst hv2; have hI := HINS.out V1 V2 na nc g hO1 hk1 hb1 b2 hg1 hR2; have e2 := SK.out V2 (fun q hq hn => (b2.block q (Nat.lt_of_lt_of_le hq hb1.size)).trans (hk1 q hn)); have e3 := SK.out (V2.alloc (.cells #[.slice na n nc] 22)) (fun q hq hn => (Below.heap_alloc _ _ _ (Nat.lt_of_lt_of_le hq (Nat.le_trans hb1.size b2.size))).trans ((b2.block q (Nat.lt_of_lt_of_le hq hb1.size)).trans (hk1 q hn))))
                | (go_at_call 144; refine hI.mono ?_; rintro e V3 ⟨rfl, z10, z22, zf, HFI⟩; have e4 := And.intro z10 z22; have e5 := HFI.out.1))
            go_wp2_with fail
            go_roundg (k - 1)
            case measure => omega
            case rel => exact ⟨k - 1, j + 1, by first | rfl | simp, Nat.le_refl _, by omega, HRN.out, by rw [HN.out]; exact HFI.out.2.1, HB.out.trans HFI.out.2.2⟩
          · have HN : Hid (iterN (rUp n 0 bot true) (j + 1) (s, rows) = ({ x.1 with gone := (x.1.gone ++ [row0]).eraseIdx 0 }, replR x.2 n x.1.sb 0 bot)) := by rw [Hid, HN.out]; unfold keepG; rw [if_neg hlt]
            have hl1 : (50 : Int) < (x.1.gone.length : Int) + 1 := by omega
            obtain ⟨g2, cap2, hgv2, hg2N, hg2c, hg2m, hg2l, hg2cell, B2, hB2⟩ := own_cells hcO (by omega)
            injection hgv2 with e1 _ e3
            subst e1 e3
            have hlen : (x.1.gone ++ [row0]).length = x.1.gone.length + 1 := by simp
            have hYX : DkX (wc.setCell ⟨p, 21, none⟩ (.slice (some ⟨g2, 1, none⟩) x.1.gone.length (gc2 - 1))) N p { x.1 with gone := (x.1.gone ++ [row0]).eraseIdx 0 } x.2 cv tv (.slice (some ⟨g2, 1, none⟩) x.1.gone.length (gc2 - 1)) (.slice (some ⟨rb, 0, none⟩) x.2.length rc) ((gvs ++ [Value.slice va row0.length vc]).eraseIdx 0) vs gs :=
              hcX.goneNew (V := wc) (s' := { x.1 with gone := (x.1.gone ++ [row0]).eraseIdx 0 }) rfl (Below.refl _ _) (by
                have hl2 : ((x.1.gone ++ [row0]).eraseIdx 0).length = x.1.gone.length := by rw [List.length_eraseIdx_of_lt (by omega), hlen]; omega
                show GoneV wc N _ ((x.1.gone ++ [row0]).eraseIdx 0).length _
                rw [hl2]
                refine ⟨by rw [List.length_eraseIdx_of_lt (by omega), hg2l]; omega, .inr ⟨g2, 1, gc2 - 1, B2, rfl, by omega, by omega, by omega, hB2, fun q hq => ?_⟩⟩
                have e := hg2cell (q + 1) (by omega)
                simp only [World.cell?, hB2] at e
                simp only [Option.isSome_none, Bool.false_eq_true, if_false] at e
                rw [getD_erase, if_neg (by omega), Nat.add_comm 1 q]
                exact e) (hcX.gin.erase 0 (by show 0 < (x.1.gone ++ [row0]).length; omega)) (fun q hq e => hcX.two q e (by rw [← hq]; rfl))
            have HB : Hid (Bel N W (wc.setCell ⟨p, 21, none⟩ (.slice (some ⟨g2, 1, none⟩) x.1.gone.length (gc2 - 1))).drew) := (hcB.setCell HLO.out _).drew
            have HYX : Hid (DkX (wc.setCell ⟨p, 21, none⟩ (.slice (some ⟨g2, 1, none⟩) x.1.gone.length (gc2 - 1))).drew N p { x.1 with gone := (x.1.gone ++ [row0]).eraseIdx 0 } x.2 cv tv (.slice (some ⟨g2, 1, none⟩) x.1.gone.length (gc2 - 1)) (.slice (some ⟨rb, 0, none⟩) x.2.length rc) ((gvs ++ [Value.slice va row0.length vc]).eraseIdx 0) vs gs) := hYX.next ((Below.refl _ _).drew)
            have hc1 : ¬ gc2 = 1 := by omega
            have hc2 : 1 ≤ x.1.gone.length + 1 := by omega
            clear hcX hcO hcB hYX hg2cell hg2l hB2 hlen
            go_upto_region 8 with fail
            clear e21 g21
            generalize hYW : wc.setCell ⟨p, 21, none⟩ (.slice (some ⟨g2, 1, none⟩) x.1.gone.length (gc2 - 1)) = YZ at *
            have HX : Hid (DkX YZ.drew N p { x.1 with gone := (x.1.gone ++ [row0]).eraseIdx 0 } x.2 cv tv (.slice (some ⟨g2, 1, none⟩) x.1.gone.length (gc2 - 1)) (.slice (some ⟨rb, 0, none⟩) x.2.length rc) ((gvs ++ [Value.slice va row0.length vc]).eraseIdx 0) vs gs) := HYX.out
            have HDel := delete_own N rb x.2.length rc 0 vs YZ.drew HX.out.rws (RowsAt.sls HX.out.rin) (by have := HRL.out; omega)
            rw [show ((0 + 1 : Nat) : Int) = (0 : Int) + 1 by omega] at HDel
            have HEM : Hid (∀ V1 : World, (∀ q, q ≠ rb → V1.heap[q]? = YZ.drew.heap[q]?) → Calls Tryz.prog 95 #[.pointer (some ⟨p, 0, none⟩)] V1 fun e W' => ∃ v g, e = .returned v ∧ V1.heap.size ≤ g ∧ RowB W' g v (List.replicate n (32, 0, x.1.sb, 0)) ∧ Below V1.heap.size V1 W') := fun V1 h1 => by
              have hp1 := (h1 p hpr).trans HX.out.blk
              obtain ⟨⟨q0, -, -, -, -, -, -, q7, -⟩, -, -⟩ := sh_cells hp1
              have q0 : V1.cell? ⟨p, 0, none⟩ = some (.int .i64 x.1.w) := q0
              have q7 : V1.cell? ⟨p, 7, none⟩ = some (.int .i64 x.1.sb) := q7
              rw [HW.out] at q0
              exact emptyS_any p n x.1.sb V1 q0 q7 hn1 hn2
            have HINS : Hid (∀ (V1 V2 : World) (a : Option Addr) (c g : Nat), V1.ownsRow N 22 1 (.slice (some ⟨rb, 0, none⟩) (x.2.length - 1) rc) (x.2.length - 1) (vs.eraseIdx 0) → (∀ q, q ≠ rb → V1.heap[q]? = YZ.drew.heap[q]?) → Below rb YZ.drew V1 → Below V1.heap.size V1 V2 → V1.heap.size ≤ g → RowB V2 g (.slice a n c) (List.replicate n (32, 0, x.1.sb, 0)) → _) := fun V1 V2 a c g z1 z2 z3 z4 z5 z6 => roll_insI (fresh := bot) (bot := bot) HX.out (gone_cut HGF.out) HBO.out hrc1 (by have := HRL.out; omega) (by have := HRL.out; omega) V1 V2 a c g z1 z2 z3 z4 z5 z6
            have SK : Hid (∀ V : World, (∀ q, q < YZ.drew.heap.size → q ≠ rb → V.heap[q]? = YZ.drew.heap[q]?) → V.cell? ⟨p, 10, none⟩ = some (.int .i64 (bot : Int)) ∧ V.cell? ⟨p, 22, none⟩ = some (.slice (some ⟨rb, 0, none⟩) x.2.length rc)) := fun V h => by
              have hp1 := (h p (heap_lt HX.out.blk) hpr).trans HX.out.blk
              obtain ⟨⟨-, -, -, -, -, -, -, -, -, -, q10⟩, ⟨-, -, -, -, -, -, -, -, -, -, -, q22⟩, -⟩ := sh_cells hp1
              have q10 : V.cell? ⟨p, 10, none⟩ = some (.int .i64 x.1.bot) := q10
              rw [HBO.out] at q10
              exact ⟨q10, q22⟩
            have e0 := SK.out YZ.drew (fun _ _ _ => rfl)
            go_region_held3 (fun w' => w'.cell? ⟨p, 10, none⟩ = some (.int .i64 (bot : Int)) ∧ w'.cell? ⟨p, 22, none⟩ = some (.slice (some ⟨rb, 0, none⟩) x.2.length rc))
              (first | exact e5 | exact e4 | exact e3 | exact e2 | exact e1 | exact e0)
              (first
                | (go_at_call 145; refine HDel.mono ?_; rintro e V1 ⟨rfl, hO1, hk1, hb1⟩; have HE1 := HEM.out V1 hk1; have e1 := SK.out V1 (fun q _ hn => hk1 q hn))
                | (go_at_call 95; refine HE1.mono ?_; rintro e V2 ⟨v, g, rfl, hg1, hR2, b2⟩; obtain ⟨na, nc, hv2⟩ := rowB_shapeS hR2; rw [List.length_replicate] at hv2; subst hv2; have hI := HINS.out V1 V2 na nc g hO1 hk1 hb1 b2 hg1 hR2; have e2 := SK.out V2 (fun q hq hn => (b2.block q (Nat.lt_of_lt_of_le hq hb1.size)).trans (hk1 q hn)); have e3 := SK.out (V2.alloc (.cells #[.slice na n nc] 22)) (fun q hq hn => (Below.heap_alloc _ _ _ (Nat.lt_of_lt_of_le hq (Nat.le_trans hb1.size b2.size))).trans ((b2.block q (Nat.lt_of_lt_of_le hq hb1.size)).trans (hk1 q hn))))
                | (go_at_call 144; refine hI.mono ?_; rintro e V3 ⟨rfl, z10, z22, zf, HFI⟩; have e4 := And.intro z10 z22; have e5 := HFI.out.1))
            go_wp2_with fail
            go_roundg (k - 1)
            case measure => omega
            case rel => exact ⟨k - 1, j + 1, by first | rfl | simp, Nat.le_refl _, by omega, HRN.out, by rw [HN.out]; exact HFI.out.2.1, HB.out.trans HFI.out.2.2⟩
      · have HXN : Hid (rUp n top bot keep x = (x.1, replR x.2 n x.1.sb top bot)) := by unfold Hid rUp; rw [if_neg hkt]
        have HN : Hid (iterN (rUp n top bot keep) (j + 1) (s, rows) = (x.1, replR x.2 n x.1.sb top bot)) := HN.out.trans HXN.out
        have HAA : Hid (DkA wr.drew N p x.1 x.2 cv tv gv (.slice (some ⟨rb, 0, none⟩) x.2.length rc) gvs vs gs) := hA.next ((Below.refl _ _).drew)
        have HB : Hid (Bel N W wr.drew) := hBj.drew
        have hcond : ((top : Int) == 0) = false ∨ (((top : Int) == 0) = true ∧ keep = false) := by
          by_cases ht : top = 0
          · right
            refine ⟨by simp [ht], ?_⟩
            cases keep with
            | true => exact absurd ⟨ht, rfl⟩ hkt
            | false => rfl
          · left
            simp only [beq_eq_false_iff_ne, ne_eq]
            omega
        clear hA hrA hrcell hvl hRj hBj hkt HXN
        rcases hcond with hc0 | ⟨hc0, hc1⟩
        · go_upto_region 8 with fail
          have HX : Hid (DkX wr.drew N p x.1 x.2 cv tv gv (.slice (some ⟨rb, 0, none⟩) x.2.length rc) gvs vs gs) := HAA.out.x
          have HDel := delete_own N rb x.2.length rc top vs wr.drew HX.out.rws (RowsAt.sls HX.out.rin) (by have := HRL.out; omega)
          rw [show ((top + 1 : Nat) : Int) = (top : Int) + 1 by omega] at HDel
          have HEM : Hid (∀ V1 : World, (∀ q, q ≠ rb → V1.heap[q]? = wr.drew.heap[q]?) → Calls Tryz.prog 95 #[.pointer (some ⟨p, 0, none⟩)] V1 fun e W' => ∃ v g, e = .returned v ∧ V1.heap.size ≤ g ∧ RowB W' g v (List.replicate n (32, 0, x.1.sb, 0)) ∧ Below V1.heap.size V1 W') := fun V1 h1 => by
            have hp1 := (h1 p hpr).trans HX.out.blk
            obtain ⟨⟨q0, -, -, -, -, -, -, q7, -⟩, -, -⟩ := sh_cells hp1
            have q0 : V1.cell? ⟨p, 0, none⟩ = some (.int .i64 x.1.w) := q0
            have q7 : V1.cell? ⟨p, 7, none⟩ = some (.int .i64 x.1.sb) := q7
            rw [HW.out] at q0
            exact emptyS_any p n x.1.sb V1 q0 q7 hn1 hn2
          have HINS : Hid (∀ (V1 V2 : World) (a : Option Addr) (c g : Nat), V1.ownsRow N 22 1 (.slice (some ⟨rb, 0, none⟩) (x.2.length - 1) rc) (x.2.length - 1) (vs.eraseIdx top) → (∀ q, q ≠ rb → V1.heap[q]? = wr.drew.heap[q]?) → Below rb wr.drew V1 → Below V1.heap.size V1 V2 → V1.heap.size ≤ g → RowB V2 g (.slice a n c) (List.replicate n (32, 0, x.1.sb, 0)) → _) := fun V1 V2 a c g z1 z2 z3 z4 z5 z6 => roll_insI (fresh := bot) (bot := bot) HX.out (fun i hi hn q hq hm => HAA.out.gof i hi hn q hq (List.mem_of_mem_eraseIdx hm)) HBO.out hrc1 (by have := HRL.out; omega) (by have := HRL.out; omega) V1 V2 a c g z1 z2 z3 z4 z5 z6
          have SK : Hid (∀ V : World, (∀ q, q < wr.drew.heap.size → q ≠ rb → V.heap[q]? = wr.drew.heap[q]?) → V.cell? ⟨p, 10, none⟩ = some (.int .i64 (bot : Int)) ∧ V.cell? ⟨p, 22, none⟩ = some (.slice (some ⟨rb, 0, none⟩) x.2.length rc)) := fun V h => by
            have hp1 := (h p (heap_lt HX.out.blk) hpr).trans HX.out.blk
            obtain ⟨⟨-, -, -, -, -, -, -, -, -, -, q10⟩, ⟨-, -, -, -, -, -, -, -, -, -, -, q22⟩, -⟩ := sh_cells hp1
            have q10 : V.cell? ⟨p, 10, none⟩ = some (.int .i64 x.1.bot) := q10
            rw [HBO.out] at q10
            exact ⟨q10, q22⟩
          have e0 := SK.out wr.drew (fun _ _ _ => rfl)
          go_region_held3 (fun w' => w'.cell? ⟨p, 10, none⟩ = some (.int .i64 (bot : Int)) ∧ w'.cell? ⟨p, 22, none⟩ = some (.slice (some ⟨rb, 0, none⟩) x.2.length rc))
            (first | exact e5 | exact e4 | exact e3 | exact e2 | exact e1 | exact e0)
            (first
              | (go_at_call 145; refine HDel.mono ?_; rintro e V1 ⟨rfl, hO1, hk1, hb1⟩; have HE1 := HEM.out V1 hk1; have e1 := SK.out V1 (fun q _ hn => hk1 q hn))
              | (go_at_call 95; refine HE1.mono ?_; rintro e V2 ⟨v, g, rfl, hg1, hR2, b2⟩; obtain ⟨na, nc, hv2⟩ := rowB_shapeS hR2; rw [List.length_replicate] at hv2; subst hv2; have hI := HINS.out V1 V2 na nc g hO1 hk1 hb1 b2 hg1 hR2; have e2 := SK.out V2 (fun q hq hn => (b2.block q (Nat.lt_of_lt_of_le hq hb1.size)).trans (hk1 q hn)); have e3 := SK.out (V2.alloc (.cells #[.slice na n nc] 22)) (fun q hq hn => (Below.heap_alloc _ _ _ (Nat.lt_of_lt_of_le hq (Nat.le_trans hb1.size b2.size))).trans ((b2.block q (Nat.lt_of_lt_of_le hq hb1.size)).trans (hk1 q hn))))
              | (go_at_call 144; refine hI.mono ?_; rintro e V3 ⟨rfl, z10, z22, zf, HFI⟩; have e4 := And.intro z10 z22; have e5 := HFI.out.1))
          go_wp2_with fail
          go_roundg (k - 1)
          case measure => omega
          case rel => exact ⟨k - 1, j + 1, by first | rfl | simp, Nat.le_refl _, by omega, HRN.out, by rw [HN.out]; exact HFI.out.2.1, HB.out.trans HFI.out.2.2⟩
        · subst hc1
          go_upto_region 8 with fail
          have HX : Hid (DkX wr.drew N p x.1 x.2 cv tv gv (.slice (some ⟨rb, 0, none⟩) x.2.length rc) gvs vs gs) := HAA.out.x
          have HDel := delete_own N rb x.2.length rc top vs wr.drew HX.out.rws (RowsAt.sls HX.out.rin) (by have := HRL.out; omega)
          rw [show ((top + 1 : Nat) : Int) = (top : Int) + 1 by omega] at HDel
          have HEM : Hid (∀ V1 : World, (∀ q, q ≠ rb → V1.heap[q]? = wr.drew.heap[q]?) → Calls Tryz.prog 95 #[.pointer (some ⟨p, 0, none⟩)] V1 fun e W' => ∃ v g, e = .returned v ∧ V1.heap.size ≤ g ∧ RowB W' g v (List.replicate n (32, 0, x.1.sb, 0)) ∧ Below V1.heap.size V1 W') := fun V1 h1 => by
            have hp1 := (h1 p hpr).trans HX.out.blk
            obtain ⟨⟨q0, -, -, -, -, -, -, q7, -⟩, -, -⟩ := sh_cells hp1
            have q0 : V1.cell? ⟨p, 0, none⟩ = some (.int .i64 x.1.w) := q0
            have q7 : V1.cell? ⟨p, 7, none⟩ = some (.int .i64 x.1.sb) := q7
            rw [HW.out] at q0
            exact emptyS_any p n x.1.sb V1 q0 q7 hn1 hn2
          have HINS : Hid (∀ (V1 V2 : World) (a : Option Addr) (c g : Nat), V1.ownsRow N 22 1 (.slice (some ⟨rb, 0, none⟩) (x.2.length - 1) rc) (x.2.length - 1) (vs.eraseIdx top) → (∀ q, q ≠ rb → V1.heap[q]? = wr.drew.heap[q]?) → Below rb wr.drew V1 → Below V1.heap.size V1 V2 → V1.heap.size ≤ g → RowB V2 g (.slice a n c) (List.replicate n (32, 0, x.1.sb, 0)) → _) := fun V1 V2 a c g z1 z2 z3 z4 z5 z6 => roll_insI (fresh := bot) (bot := bot) HX.out (fun i hi hn q hq hm => HAA.out.gof i hi hn q hq (List.mem_of_mem_eraseIdx hm)) HBO.out hrc1 (by have := HRL.out; omega) (by have := HRL.out; omega) V1 V2 a c g z1 z2 z3 z4 z5 z6
          have SK : Hid (∀ V : World, (∀ q, q < wr.drew.heap.size → q ≠ rb → V.heap[q]? = wr.drew.heap[q]?) → V.cell? ⟨p, 10, none⟩ = some (.int .i64 (bot : Int)) ∧ V.cell? ⟨p, 22, none⟩ = some (.slice (some ⟨rb, 0, none⟩) x.2.length rc)) := fun V h => by
            have hp1 := (h p (heap_lt HX.out.blk) hpr).trans HX.out.blk
            obtain ⟨⟨-, -, -, -, -, -, -, -, -, -, q10⟩, ⟨-, -, -, -, -, -, -, -, -, -, -, q22⟩, -⟩ := sh_cells hp1
            have q10 : V.cell? ⟨p, 10, none⟩ = some (.int .i64 x.1.bot) := q10
            rw [HBO.out] at q10
            exact ⟨q10, q22⟩
          have e0 := SK.out wr.drew (fun _ _ _ => rfl)
          go_region_held3 (fun w' => w'.cell? ⟨p, 10, none⟩ = some (.int .i64 (bot : Int)) ∧ w'.cell? ⟨p, 22, none⟩ = some (.slice (some ⟨rb, 0, none⟩) x.2.length rc))
            (first | exact e5 | exact e4 | exact e3 | exact e2 | exact e1 | exact e0)
            (first
              | (go_at_call 145; refine HDel.mono ?_; rintro e V1 ⟨rfl, hO1, hk1, hb1⟩; have HE1 := HEM.out V1 hk1; have e1 := SK.out V1 (fun q _ hn => hk1 q hn))
              | (go_at_call 95; refine HE1.mono ?_; rintro e V2 ⟨v, g, rfl, hg1, hR2, b2⟩; obtain ⟨na, nc, hv2⟩ := rowB_shapeS hR2; rw [List.length_replicate] at hv2; subst hv2; have hI := HINS.out V1 V2 na nc g hO1 hk1 hb1 b2 hg1 hR2; have e2 := SK.out V2 (fun q hq hn => (b2.block q (Nat.lt_of_lt_of_le hq hb1.size)).trans (hk1 q hn)); have e3 := SK.out (V2.alloc (.cells #[.slice na n nc] 22)) (fun q hq hn => (Below.heap_alloc _ _ _ (Nat.lt_of_lt_of_le hq (Nat.le_trans hb1.size b2.size))).trans ((b2.block q (Nat.lt_of_lt_of_le hq hb1.size)).trans (hk1 q hn))))
              | (go_at_call 144; refine hI.mono ?_; rintro e V3 ⟨rfl, z10, z22, zf, HFI⟩; have e4 := And.intro z10 z22; have e5 := HFI.out.1))
          go_wp2_with fail
          go_roundg (k - 1)
          case measure => omega
          case rel => exact ⟨k - 1, j + 1, by first | rfl | simp, Nat.le_refl _, by omega, HRN.out, by rw [HN.out]; exact HFI.out.2.1, HB.out.trans HFI.out.2.2⟩
theorem roll_up (N p n top bot hh K : Nat) (bk : Int) (s : Scr) (rows : List (List C)) (W : World) (keep : Bool) (m : Int) (hD : DkAt W N p s rows) (hR : Rolls n bot hh bk (s, rows)) (hn1 : 1 ≤ n) (hn2 : n ≤ 120) (htb : top ≤ bot) (hbh : bot < hh) (hh60 : hh ≤ 60) (hK : max (-((bot : Int) - top + 1)) (min m ((bot : Int) - top + 1)) = (K : Int)) :
    Calls Tryz.prog 101 #[.pointer (some ⟨p, 0, none⟩), .int .i64 (top : Int), .int .i64 m, .bool keep] W fun e W' => e = .returned (.tuple #[]) ∧ DkAt W' N p (iterN (rUp n top bot keep) K (s, rows)).1 (iterN (rUp n top bot keep) K (s, rows)).2 ∧ Below N W W' :=
  (roll_upI N p n top bot hh K bk s rows W keep m hD hR hn1 hn2 htb hbh hh60 hK).mono fun _ _ h => ⟨h.1, h.2.1, h.2.2.b⟩
end Put
end Go.Proofs.YtnkeahfcpbepjaaGreatDoor

/- The reference's desk: Roll, down. -/
namespace Go.Proofs.YtnkeahfcpbepjaaGreatDoor
open Go.ChangeShapes Go.WideShapes Go.ChangeAt Go.RowKit
namespace Put
open Grd (C SliceAt CellsAt gridErr z0 nilV flat rowsL OwnG RowB RowsAt)
set_option linter.unusedSimpArgs false in
set_option maxHeartbeats 8000000 in
set_option maxRecDepth 100000 in
theorem roll_dn (N p n top bot hh K : Nat) (bk : Int) (s : Scr) (rows : List (List C)) (W : World) (keep : Bool) (m : Int) (hD : DkAt W N p s rows) (hR : Rolls n bot hh bk (s, rows)) (hn1 : 1 ≤ n) (hn2 : n ≤ 120) (htb : top ≤ bot) (hbh : bot < hh) (hh60 : hh ≤ 60) (hK : max (-((bot : Int) - top + 1)) (min m ((bot : Int) - top + 1)) = -(K : Int)) :
    Calls Tryz.prog 101 #[.pointer (some ⟨p, 0, none⟩), .int .i64 (top : Int), .int .i64 m, .bool keep] W fun e W' => e = .returned (.tuple #[]) ∧ DkAt W' N p (iterN (rDn n top bot) K (s, rows)).1 (iterN (rDn n top bot) K (s, rows)).2 ∧ Below N W W' := by
  obtain ⟨c0, c1, c3, c4, c5, c9, c10, c11, c19, f⟩ := hD.words
  have hb0 : s.bot = bot := hR.b
  rw [hb0] at c10
  have h1 := Grd.min2 m ((bot : Int) - top + 1)
  have h2 := Grd.max2 (-((bot : Int) - top + 1)) (min m ((bot : Int) - top + 1))
  rw [hK] at h2
  have HD : Hid (DkAt W N p s rows) := hD
  have HR : Hid (Rolls n bot hh bk (s, rows)) := hR
  have hw1 : IntKind.i64.wrap ((bot : Int) - top) = (bot : Int) - top := wrap_id _ (by omega) (by omega)
  have hw2 : IntKind.i64.wrap ((bot : Int) - top + 1) = (bot : Int) - top + 1 := wrap_id _ (by omega) (by omega)
  have hw3 : IntKind.i64.wrap (-((bot : Int) - top + 1)) = -((bot : Int) - top + 1) := wrap_id _ (by omega) (by omega)
  have hKle : K ≤ 60 := by omega
  clear hD hR c0 c1 c3 c4 c5 c9 c11 c19 f hK hb0
  go_enter Tryz.func101, Tryz.ntmps101
  go_wp2_with fail
  go_loopg [2] 0 (fun _ v wr => v = .int .i64 (-(K : Int)) ∧ wr = W)
  case atStart => exact ⟨rfl, rfl⟩
  case round =>
    obtain ⟨rfl, hww⟩ := hrel
    have hww := hww.symm
    subst hww
    have lt0 : ¬ ((0 : Int) < -(K : Int)) := by omega
    go_wp2_with fail
    go_loopg [2] K (fun q v w2 => ∃ k j : Nat, v = .int .i64 (-(k : Int)) ∧ k ≤ q ∧ k + j = K ∧ Rolls n bot hh bk (iterN (rDn n top bot) j (s, rows)) ∧ DkAt w2 N p (iterN (rDn n top bot) j (s, rows)).1 (iterN (rDn n top bot) j (s, rows)).2 ∧ Below N W w2)
    case atStart => exact ⟨K, 0, rfl, Nat.le_refl _, by omega, HR.out, HD.out, Below.refl _ _⟩
    case round =>
      obtain ⟨k, j, rfl, hkq, hkj, hRj, hDj, hBj⟩ := hrel
      by_cases hk0 : k = 0
      · subst hk0
        have ej : j = K := by omega
        subst ej
        go_wp2_with fail
        go_end0
        exact ⟨rfl, hDj, hBj⟩
      · have lt1 : -(k : Int) < 0 := by omega
        have HN : Hid (iterN (rDn n top bot) (j + 1) (s, rows) = rDn n top bot (iterN (rDn n top bot) j (s, rows))) := rfl
        have hw4 : IntKind.i64.wrap (-(k : Int) + 1) = -((k - 1 : Nat) : Int) := by rw [wrap_id _ (by omega) (by omega)]; omega
        generalize iterN (rDn n top bot) j (s, rows) = x at hRj hDj HN
        obtain ⟨cv, tv, gv, rv, gvs, vs, gs, hA⟩ := hDj
        have hrl := hRj.r
        have hwn := hRj.w
        have hbn := hRj.b
        obtain ⟨rb, rc, hrv, hrb, hrc1, hrc2, hvl, hrcell, A, hrA⟩ := own_cells hA.rws (by omega)
        subst hrv
        have hpr : p ≠ rb := by
          intro e
          rw [← e, hA.blk] at hrA
          injection hrA with hrA
          injection hrA with _ hrA _
          exact absurd hrA (by decide)
        have b0 : Below wr.heap.size wr wr.drew := (Below.refl _ _).drew
        have hX := hA.next b0
        obtain ⟨⟨d0, -, -, -, -, -, -, d7, -, -, d10⟩, ⟨-, -, -, -, -, -, -, -, -, -, -, d22⟩, -⟩ := sh_cells hX.blk
        rw [hwn] at d0
        rw [hbn] at d10
        have HRN : Hid (Rolls n bot hh bk (iterN (rDn n top bot) (j + 1) (s, rows))) := by rw [Hid, HN.out]; exact hRj.dn top (by omega) hbh
        have HDel := delete_own N rb x.2.length rc bot vs wr.drew hX.rws (RowsAt.sls hX.rin) (by omega)
        rw [show ((bot + 1 : Nat) : Int) = (bot : Int) + 1 by omega] at HDel
        have HEM : Hid (∀ V1 : World, (∀ q, q ≠ rb → V1.heap[q]? = wr.drew.heap[q]?) → Calls Tryz.prog 95 #[.pointer (some ⟨p, 0, none⟩)] V1 fun e W' => ∃ v g, e = .returned v ∧ V1.heap.size ≤ g ∧ RowB W' g v (List.replicate n (32, 0, x.1.sb, 0)) ∧ Below V1.heap.size V1 W') := fun V1 h1 => by
          have hp1 := (h1 p hpr).trans hX.blk
          obtain ⟨⟨q0, -, -, -, -, -, -, q7, -⟩, -, -⟩ := sh_cells hp1
          rw [hwn] at q0
          exact emptyS_any p n x.1.sb V1 q0 q7 hn1 hn2
        have HINS : Hid (∀ (V1 V2 : World) (a : Option Addr) (c g : Nat), V1.ownsRow N 22 1 (.slice (some ⟨rb, 0, none⟩) (x.2.length - 1) rc) (x.2.length - 1) (vs.eraseIdx bot) → (∀ q, q ≠ rb → V1.heap[q]? = wr.drew.heap[q]?) → Below rb wr.drew V1 → Below V1.heap.size V1 V2 → V1.heap.size ≤ g → RowB V2 g (.slice a n c) (List.replicate n (32, 0, x.1.sb, 0)) → _) := fun V1 V2 a c g z1 z2 z3 z4 z5 z6 => roll_ins (fresh := top) hX.x (fun i hi hn q hq hm => hX.gof i hi hn q hq (List.mem_of_mem_eraseIdx hm)) hbn hrc1 (by omega) (by omega) V1 V2 a c g z1 z2 z3 z4 z5 z6
        have HB : Hid (Below N W wr.drew) := hBj.drew
        have HX : Hid (DkA wr.drew N p x.1 x.2 cv tv gv (.slice (some ⟨rb, 0, none⟩) x.2.length rc) gvs vs gs) := hX
        have hwb : IntKind.i64.wrap ((bot : Int) + 1) = (bot : Int) + 1 := wrap_id _ (by omega) (by omega)
        clear hA hX hrA hrcell hvl hRj hBj HD HR h1 h2 hw1 hw2 hw3 c10 d0 d7 lt0
        have SK : Hid (∀ V : World, (∀ q, q < wr.heap.size → q ≠ rb → V.heap[q]? = wr.drew.heap[q]?) → V.cell? ⟨p, 10, none⟩ = some (.int .i64 (bot : Int)) ∧ V.cell? ⟨p, 22, none⟩ = some (.slice (some ⟨rb, 0, none⟩) x.2.length rc)) := fun V h => by
          have hp1 := (h p (heap_lt HX.out.blk) hpr).trans HX.out.blk
          obtain ⟨⟨-, -, -, -, -, -, -, -, -, -, q10⟩, ⟨-, -, -, -, -, -, -, -, -, -, -, q22⟩, -⟩ := sh_cells hp1
          rw [hbn] at q10
          exact ⟨q10, q22⟩
        clear hrl hwn hbn
        go_upto_region 11 with fail
        have e0 := SK.out wr.drew (fun _ _ _ => rfl)
        go_region_held3 (fun w' => w'.cell? ⟨p, 10, none⟩ = some (.int .i64 (bot : Int)) ∧ w'.cell? ⟨p, 22, none⟩ = some (.slice (some ⟨rb, 0, none⟩) x.2.length rc))
          (first | exact e5 | exact e4 | exact e3 | exact e2 | exact e1 | exact e0)
          (first
            | (go_at_call 145; refine HDel.mono ?_; rintro e V1 ⟨rfl, hO1, hk1, hb1⟩; have HE1 := HEM.out V1 hk1; have e1 := SK.out V1 (fun q _ hn => hk1 q hn))
            | (go_at_call 95; refine HE1.mono ?_; rintro e V2 ⟨v, g, rfl, hg1, hR2, b2⟩; obtain ⟨na, nc, hv2⟩ := rowB_shapeS hR2; rw [List.length_replicate] at hv2; subst hv2; have hI := HINS.out V1 V2 na nc g hO1 hk1 hb1 b2 hg1 hR2; have e2 := SK.out V2 (fun q hq hn => (b2.block q (Nat.lt_of_lt_of_le hq hb1.size)).trans (hk1 q hn)); have e3 := SK.out (V2.alloc (.cells #[.slice na n nc] 22)) (fun q hq hn => (Below.heap_alloc _ _ _ (Nat.lt_of_lt_of_le hq (Nat.le_trans hb1.size b2.size))).trans ((b2.block q (Nat.lt_of_lt_of_le hq hb1.size)).trans (hk1 q hn))))
            | (go_at_call 144; refine hI.mono ?_; rintro e V3 ⟨rfl, z10, z22, zf, HFI⟩; have e4 := And.intro z10 z22; have e5 : (V3.setCell ⟨p, 22, none⟩ (.slice (some ⟨rb, 0, none⟩) x.2.length rc)).cell? ⟨p, 10, none⟩ = some (.int .i64 (bot : Int)) ∧ (V3.setCell ⟨p, 22, none⟩ (.slice (some ⟨rb, 0, none⟩) x.2.length rc)).cell? ⟨p, 22, none⟩ = some (.slice (some ⟨rb, 0, none⟩) x.2.length rc) := HFI.out.1))
        all_goals go_wp2_with fail
        all_goals go_roundg (k - 1)
        case measure => omega
        case rel => exact ⟨k - 1, j + 1, by first | rfl | simp, Nat.le_refl _, by omega, HRN.out, by rw [HN.out]; exact HFI.out.2.1, HB.out.trans HFI.out.2.2⟩
end Put
end Go.Proofs.YtnkeahfcpbepjaaGreatDoor

/- The reference's desk: Feed. -/
namespace Go.Proofs.YtnkeahfcpbepjaaGreatDoor
open Go.ChangeShapes Go.WideShapes Go.ChangeAt Go.RowKit
namespace Put
open Grd (C SliceAt CellsAt gridErr z0 nilV flat rowsL)
theorem rUp_up (n top bot : Nat) (s : Scr) (rows : List (List C)) : rUp n top bot true (s, rows) = (upS s rows top, replR rows n s.sb top bot) := by
  unfold rUp upS
  simp
/-- A row further. -/
def dfeedS (s : Scr) (rows : List (List C)) (top : Nat) : Scr := if s.y = s.bot then upS { s with late := false } rows top else { s with late := false, y := min (s.y + 1) (s.h - 1) }
set_option maxHeartbeats 4000000 in
set_option maxRecDepth 100000 in
theorem dfeed_anyI (N p n top bot hh : Nat) (s : Scr) (rows : List (List C)) (W : World) (hD : DkAt W N p s rows) (hR : Rolls n bot hh s.sb (s, rows)) (ht : s.top = top) (hn1 : 1 ≤ n) (hn2 : n ≤ 120) (htb : top ≤ bot) (hbh : bot < hh) (hh60 : hh ≤ 60) (hy0 : 0 ≤ s.y) (hy1 : s.y ≤ 60) (hh0 : 0 ≤ s.h) (hh1 : s.h ≤ 60) :
    Calls Tryz.prog 102 #[.pointer (some ⟨p, 0, none⟩)] W fun e W' => e = .returned (.tuple #[]) ∧ DkAt W' N p (dfeedS s rows top) (dfeedR s rows n top bot) ∧ Bel N W W' := by
  obtain ⟨c0, c1, c3, c4, c5, c9, c10, c11, c19, f⟩ := hD.words
  have f5 := f 5
  have HD1 : Hid (DkAt (W.setCell ⟨p, 5, none⟩ (.bool false)) N p { s with late := false } rows) := hD.set 5 _ (fun _ _ _ _ => rfl) rfl rfl
  have HB1 : Hid (Bel N W (W.setCell ⟨p, 5, none⟩ (.bool false))) := (Bel.refl _ _).setCell hD.lo _
  have HRL : Hid (∀ V, DkAt V N p { s with late := false } rows → Calls Tryz.prog 101 #[.pointer (some ⟨p, 0, none⟩), .int .i64 (top : Int), .int .i64 1, .bool true] V fun e W' => e = .returned (.tuple #[]) ∧ DkAt W' N p (upS { s with late := false } rows top) (replR rows n s.sb top bot) ∧ Bel N V W') := fun V h => by
    have key := roll_upI N p n top bot hh 1 s.sb { s with late := false } rows V true 1 h ⟨hR.w, hR.b, rfl, hR.r, hR.g⟩ hn1 hn2 htb hbh hh60 (by omega)
    have e : iterN (rUp n top bot true) 1 ({ s with late := false }, rows) = (upS { s with late := false } rows top, replR rows n s.sb top bot) := rUp_up n top bot { s with late := false } rows
    rw [e] at key
    exact key
  have HT : Hid (s.top = top) := ht
  have HLO : Hid (N ≤ p) := hD.lo
  clear hD hR ht c0 c1 c3 c4 c9 c10 c11 c19 f
  unfold dfeedS dfeedR
  by_cases hq0 : s.y = s.bot
  · rw [if_pos hq0, if_pos hq0]
    have hq : (s.y == s.bot) = true := by rw [beq_iff_eq]; exact hq0
    clear hq0
    generalize upS { s with late := false } rows top = s' at *
    generalize replR rows n s.sb top bot = rows' at *
    go_enter Tryz.func102, Tryz.ntmps102
    go_upto_region 1 with fail
    obtain ⟨-, -, -, d4, -, d9, d10, -, -, df⟩ := HD1.out.words
    clear c5 f5 df
    generalize (W.setCell ⟨p, 5, none⟩ (.bool false)) = X at *
    go_region
    have HSd : Hid (DkAt X.drew N p { s with late := false } rows) := HD1.out.next ((Below.refl _ _).drew)
    have HB2 : Hid (Bel N W X.drew) := HB1.out.drew
    clear d4 d9 d10 HD1 HB1
    generalize X.drew = Y at *
    obtain ⟨-, -, -, -, -, d9, -, -, -, df⟩ := HSd.out.words
    replace d9 : Y.cell? ⟨p, 9, none⟩ = some (.int .i64 s.top) := d9
    rw [HT.out] at d9
    have HU2 := HRL.out Y HSd.out
    clear df HRL HSd
    go_wp2_with fail
    refine HU2.mono ?_
    rintro e V ⟨rfl, hS2, hB3⟩
    go_wp2_with fail
    go_end0
    exact ⟨rfl, hS2, HB2.out.trans hB3⟩
  · rw [if_neg hq0, if_neg hq0]
    have hq : (s.y == s.bot) = false := by rw [beq_eq_false_iff_ne]; exact hq0
    have hmn := Grd.min2 (s.y + 1) (s.h - 1)
    clear hq0 HRL
    go_enter Tryz.func102, Tryz.ntmps102
    go_upto_region 1 with fail
    obtain ⟨-, -, -, d4, -, d9, d10, -, -, df⟩ := HD1.out.words
    clear c5 f5 df
    generalize (W.setCell ⟨p, 5, none⟩ (.bool false)) = X at *
    go_region
    have HSd : Hid (DkAt X.drew N p { s with late := false } rows) := HD1.out.next ((Below.refl _ _).drew)
    have HB2 : Hid (Bel N W X.drew) := HB1.out.drew
    clear d4 d9 d10 HD1 HB1
    generalize X.drew = Y at *
    obtain ⟨-, d1, -, d4, -, -, -, -, -, df⟩ := HSd.out.words
    replace d4 : Y.cell? ⟨p, 4, none⟩ = some (.int .i64 s.y) := d4
    replace d1 : Y.cell? ⟨p, 1, none⟩ = some (.int .i64 s.h) := d1
    have g4 := df 4
    have hw1 : IntKind.i64.wrap (s.y + 1) = s.y + 1 := wrap_id _ (by omega) (by omega)
    have hw2 : IntKind.i64.wrap (s.h - 1) = s.h - 1 := wrap_id _ (by omega) (by omega)
    have HE : Hid (DkAt (Y.setCell ⟨p, 4, none⟩ (.int .i64 (min (s.y + 1) (s.h - 1)))).drew N p { s with late := false, y := min (s.y + 1) (s.h - 1) } rows ∧ Bel N W (Y.setCell ⟨p, 4, none⟩ (.int .i64 (min (s.y + 1) (s.h - 1)))).drew) := by
      have h4 : DkAt (Y.setCell ⟨p, 4, none⟩ (.int .i64 (min (s.y + 1) (s.h - 1)))) N p { s with late := false, y := min (s.y + 1) (s.h - 1) } rows := HSd.out.set 4 _ (fun _ _ _ _ => rfl) rfl rfl
      exact ⟨h4.next ((Below.refl _ _).drew), (HB2.out.setCell HLO.out _).drew⟩
    clear df HSd
    go_upto_region 3 with fail
    go_region
    all_goals go_end0
    all_goals exact ⟨rfl, HE.out⟩
theorem dfeed_any (N p n top bot hh : Nat) (s : Scr) (rows : List (List C)) (W : World) (hD : DkAt W N p s rows) (hR : Rolls n bot hh s.sb (s, rows)) (ht : s.top = top) (hn1 : 1 ≤ n) (hn2 : n ≤ 120) (htb : top ≤ bot) (hbh : bot < hh) (hh60 : hh ≤ 60) (hy0 : 0 ≤ s.y) (hy1 : s.y ≤ 60) (hh0 : 0 ≤ s.h) (hh1 : s.h ≤ 60) :
    Calls Tryz.prog 102 #[.pointer (some ⟨p, 0, none⟩)] W fun e W' => e = .returned (.tuple #[]) ∧ DkAt W' N p (dfeedS s rows top) (dfeedR s rows n top bot) ∧ Below N W W' :=
  (dfeed_anyI N p n top bot hh s rows W hD hR ht hn1 hn2 htb hbh hh60 hy0 hy1 hh0 hh1).mono fun _ _ h => ⟨h.1, h.2.1, h.2.2.b⟩
end Put
end Go.Proofs.YtnkeahfcpbepjaaGreatDoor

/- The desk's Give and Go; noScreen. -/
namespace Go.Proofs.YtnkeahfcpbepjaaGreatDoor
open Go.ChangeShapes Go.WideShapes Go.ChangeAt Go.RowKit
namespace Put
open Grd (C SliceAt CellsAt gridErr z0 nilV rowsL RowsAt RowB flat)
theorem zScr_v (W : World) : ScrV W zScr (.slice none 0 0) (.slice none 0 0) (.slice none 0 0) := ⟨.inl ⟨rfl, none, 0, rfl⟩, .inl ⟨rfl, none, 0, rfl⟩, .inl ⟨rfl, none, 0, rfl⟩⟩
theorem zScr_small : Small zScr := ⟨by simp [zScr], by simp [zScr], by simp [zScr], by simp [zScr]⟩
set_option maxHeartbeats 2000000 in
set_option maxRecDepth 100000 in
theorem noScreen_any (cv tv gv : Value) (w : World) (hV : ScrV w zScr cv tv gv) : Calls Tryz.prog 66 #[.agg (scrA zScr cv tv gv)] w fun e w' => e = .returned (.bool true) ∧ Below w.heap.size w w' := by
  have x0 := heap_alloc_new w (.cells (scrA zScr cv tv gv) 32)
  have kb : Below w.heap.size w (w.alloc (.cells (scrA zScr cv tv gv) 32)) := (Below.refl _ _).alloc (Nat.le_refl _) _
  have HX0 : Hid _ := x0
  have HKB : Hid _ := kb
  have HS := sameScreen_any zScr cv tv gv (.slice none 0 0) (.slice none 0 0) (.slice none 0 0) _ (hV.next kb) (zScr_v _) zScr_small
  clear x0 kb hV
  go_enter Tryz.func66, Tryz.ntmps66
  go_wp2_with (refine wpList_load_row rfl 32 (.tmp 1) rfl w.heap.size rfl _ _ _ _ HX0.out Tryz.underlying32 rfl (by kernel_rfl) ?_)
  refine HS.mono ?_
  rintro e W1 ⟨rfl, b1⟩
  have HB1 : Hid (Below w.heap.size w W1) := HKB.out.trans (b1.mono HKB.out.size)
  clear b1 HS
  go_wp2_with fail
  go_ret
  exact ⟨rfl, HB1.out⟩
theorem one3v (a b : Int) (q : Option Addr) (n c : Nat) : (#[.int .i64 a, .int .i64 b, .slice q n c] : Array Value).all (·.oneCell') = true := by simp [Value.oneCell']
set_option maxHeartbeats 4000000 in
set_option maxRecDepth 100000 in
theorem give_any (W : World) (N p : Nat) (s : Scr) (rows : List (List C)) (h : DkAt W N p s rows) (n hh : Nat) (hn : 1 ≤ n) (hn' : n ≤ 120) (hh1 : 1 ≤ hh) (hh' : hh ≤ 60) (hrl : rows.length = hh) (hrn : ∀ i, i < rows.length → (rows.getD i []).length = n) (cs : List C) (hcs : rows.flatten = cs) :
    Calls Tryz.prog 68 #[.pointer (some ⟨p, 0, none⟩)] W fun e W' => ∃ cv' tv' gv', e = .returned (.agg (scrA { s with w := (n : Int), h := (hh : Int), cs := cs } cv' tv' gv')) ∧ ScrV W' { s with w := (n : Int), h := (hh : Int), cs := cs } cv' tv' gv' ∧ Below W.heap.size W W' := by
  obtain ⟨cv, tv, gv, rv, gvs, vs, gs, hS⟩ := h
  obtain ⟨ca, cn, cc, rfl⟩ := hS.cvs
  obtain ⟨ta, tc, rfl⟩ := own_slice hS.tabs
  obtain ⟨ga, gc, rfl⟩ := hS.gone.slice
  have hvl : vs.length = rows.length := hS.rin.1
  obtain ⟨G, rc, rest, rfl, hGN, hrc1, hrc2, hG⟩ := Grd.out_of_own (show W.ownsRow N 22 1 rv vs.length vs by rw [hvl]; exact hS.rws) (by omega)
  have kb : Below W.heap.size W ((W.alloc (.cells #[.int .i64 0, .int .i64 0, .slice none 0 0, .int .i64 0, .int .i64 0, .bool false, .int .i64 0, .int .i64 0, .int .i64 0, .int .i64 0, .int .i64 0, .int .i64 0, .slice none 0 0, .int .i64 0, .int .i64 0, .int .i64 0, .int .i64 0, .int .i64 0, .int .i64 0, .int .i32 0, .string ⟨#[]⟩, .slice none 0 0] 32)).alloc (.cells #[.int .i64 0, .int .i64 0, .slice none 0 0, .int .i64 0, .int .i64 0, .bool false, .int .i64 0, .int .i64 0, .int .i64 0, .int .i64 0, .int .i64 0, .int .i64 0, .slice none 0 0, .int .i64 0, .int .i64 0, .int .i64 0, .int .i64 0, .int .i64 0, .int .i64 0, .int .i32 0, .string ⟨#[]⟩, .slice none 0 0] 32)) := ((Below.refl _ _).alloc (Nat.le_refl _) _).alloc (by simp) _
  have x3 : ((W.alloc (.cells #[.int .i64 0, .int .i64 0, .slice none 0 0, .int .i64 0, .int .i64 0, .bool false, .int .i64 0, .int .i64 0, .int .i64 0, .int .i64 0, .int .i64 0, .int .i64 0, .slice none 0 0, .int .i64 0, .int .i64 0, .int .i64 0, .int .i64 0, .int .i64 0, .int .i64 0, .int .i32 0, .string ⟨#[]⟩, .slice none 0 0] 32)).alloc (.cells #[.int .i64 0, .int .i64 0, .slice none 0 0, .int .i64 0, .int .i64 0, .bool false, .int .i64 0, .int .i64 0, .int .i64 0, .int .i64 0, .int .i64 0, .int .i64 0, .slice none 0 0, .int .i64 0, .int .i64 0, .int .i64 0, .int .i64 0, .int .i64 0, .int .i64 0, .int .i32 0, .string ⟨#[]⟩, .slice none 0 0] 32)).heap[W.heap.size + 1]? = some (.cells #[.int .i64 0, .int .i64 0, .slice none 0 0, .int .i64 0, .int .i64 0, .bool false, .int .i64 0, .int .i64 0, .int .i64 0, .int .i64 0, .int .i64 0, .int .i64 0, .slice none 0 0, .int .i64 0, .int .i64 0, .int .i64 0, .int .i64 0, .int .i64 0, .int .i64 0, .int .i32 0, .string ⟨#[]⟩, .slice none 0 0] 32 (0, 0)) := heap_alloc2_new W _ _
  have HX1 : Hid ((((W.alloc (.cells #[.int .i64 0, .int .i64 0, .slice none 0 0, .int .i64 0, .int .i64 0, .bool false, .int .i64 0, .int .i64 0, .int .i64 0, .int .i64 0, .int .i64 0, .int .i64 0, .slice none 0 0, .int .i64 0, .int .i64 0, .int .i64 0, .int .i64 0, .int .i64 0, .int .i64 0, .int .i32 0, .string ⟨#[]⟩, .slice none 0 0] 32)).alloc (.cells #[.int .i64 0, .int .i64 0, .slice none 0 0, .int .i64 0, .int .i64 0, .bool false, .int .i64 0, .int .i64 0, .int .i64 0, .int .i64 0, .int .i64 0, .int .i64 0, .slice none 0 0, .int .i64 0, .int .i64 0, .int .i64 0, .int .i64 0, .int .i64 0, .int .i64 0, .int .i32 0, .string ⟨#[]⟩, .slice none 0 0] 32)).setRow (W.heap.size + 1) (scrA s (.slice ca cn cc) (.slice ta s.tabs.length tc) (.slice ga s.gone.length gc))).heap[W.heap.size + 1]? = some (.cells (scrA s (.slice ca cn cc) (.slice ta s.tabs.length tc) (.slice ga s.gone.length gc)) 32 (0, 0))) := setRow_heap _ _ _ _ _ _ x3
  have HX0 : Hid ((((W.alloc (.cells #[.int .i64 0, .int .i64 0, .slice none 0 0, .int .i64 0, .int .i64 0, .bool false, .int .i64 0, .int .i64 0, .int .i64 0, .int .i64 0, .int .i64 0, .int .i64 0, .slice none 0 0, .int .i64 0, .int .i64 0, .int .i64 0, .int .i64 0, .int .i64 0, .int .i64 0, .int .i32 0, .string ⟨#[]⟩, .slice none 0 0] 32)).alloc (.cells #[.int .i64 0, .int .i64 0, .slice none 0 0, .int .i64 0, .int .i64 0, .bool false, .int .i64 0, .int .i64 0, .int .i64 0, .int .i64 0, .int .i64 0, .int .i64 0, .slice none 0 0, .int .i64 0, .int .i64 0, .int .i64 0, .int .i64 0, .int .i64 0, .int .i64 0, .int .i32 0, .string ⟨#[]⟩, .slice none 0 0] 32)).setRow (W.heap.size + 1) (scrA s (.slice ca cn cc) (.slice ta s.tabs.length tc) (.slice ga s.gone.length gc))).heap[W.heap.size]? = some (.cells (scrA zScr (.slice none 0 0) (.slice none 0 0) (.slice none 0 0)) 32 (0, 0))) := by
    unfold Hid
    rw [setRow_other _ _ _ _ (by omega), Below.heap_alloc _ _ _ (by simp), heap_alloc_new]
    rfl
  have HB0 : Hid (Below W.heap.size W (((W.alloc (.cells #[.int .i64 0, .int .i64 0, .slice none 0 0, .int .i64 0, .int .i64 0, .bool false, .int .i64 0, .int .i64 0, .int .i64 0, .int .i64 0, .int .i64 0, .int .i64 0, .slice none 0 0, .int .i64 0, .int .i64 0, .int .i64 0, .int .i64 0, .int .i64 0, .int .i64 0, .int .i32 0, .string ⟨#[]⟩, .slice none 0 0] 32)).alloc (.cells #[.int .i64 0, .int .i64 0, .slice none 0 0, .int .i64 0, .int .i64 0, .bool false, .int .i64 0, .int .i64 0, .int .i64 0, .int .i64 0, .int .i64 0, .int .i64 0, .slice none 0 0, .int .i64 0, .int .i64 0, .int .i64 0, .int .i64 0, .int .i64 0, .int .i64 0, .int .i32 0, .string ⟨#[]⟩, .slice none 0 0] 32)).setRow (W.heap.size + 1) (scrA s (.slice ca cn cc) (.slice ta s.tabs.length tc) (.slice ga s.gone.length gc)))) := below_setRow kb (by omega) _
  have HX3 : Hid _ := x3
  have HRG : Hid _ := sh_range hS.blk
  have HS : Hid (DkA W N p s rows _ _ _ _ gvs vs gs) := hS
  have HG : Hid (W.heap[G]? = _) := hG
  clear x3 kb hS hG
  go_enter Tryz.func68, Tryz.ntmps68
  go_upto_region 2 with (first
    | (refine wpList_load_mid rfl 32 (.tmp 6) rfl p 0 rfl (scrA s (.slice ca cn cc) (.slice ta s.tabs.length tc) (.slice ga s.gone.length gc)).toList _ (fun j v hj => cell_stay ((Below.refl _ _).alloc (Nat.le_refl _) _) (HRG.out j v hj)) Tryz.underlying32 rfl (by kernel_rfl) ?_)
    | (refine wpList_store_row rfl 32 (.tmp 3) _ rfl (W.heap.size + 1) (scrA s (.slice ca cn cc) (.slice ta s.tabs.length tc) (.slice ga s.gone.length gc)) rfl rfl _ _ HX3.out (by kernel_rfl) rfl (scr_one _ _ _ _ _ _ _ _ _ _) ?_))
  clear HX3 HRG
  generalize (((W.alloc (.cells #[.int .i64 0, .int .i64 0, .slice none 0 0, .int .i64 0, .int .i64 0, .bool false, .int .i64 0, .int .i64 0, .int .i64 0, .int .i64 0, .int .i64 0, .int .i64 0, .slice none 0 0, .int .i64 0, .int .i64 0, .int .i64 0, .int .i64 0, .int .i64 0, .int .i64 0, .int .i32 0, .string ⟨#[]⟩, .slice none 0 0] 32)).alloc (.cells #[.int .i64 0, .int .i64 0, .slice none 0 0, .int .i64 0, .int .i64 0, .bool false, .int .i64 0, .int .i64 0, .int .i64 0, .int .i64 0, .int .i64 0, .int .i64 0, .slice none 0 0, .int .i64 0, .int .i64 0, .int .i64 0, .int .i64 0, .int .i64 0, .int .i64 0, .int .i32 0, .string ⟨#[]⟩, .slice none 0 0] 32)).setRow (W.heap.size + 1) (scrA s (.slice ca cn cc) (.slice ta s.tabs.length tc) (.slice ga s.gone.length gc))) = X at *
  have hgl1 : W.heap.size + 1 < X.heap.size := heap_lt HX1.out
  have c22 := (sh_cells (Grd.carry HS.out.blk HB0.out)).2.1.2.2.2.2.2.2.2.2.2.2.2
  have HGO := Grd.gridOf_any n hh G rc N vs rest gs rows X hn hn' hh1 hh' (Grd.carry HG.out HB0.out) (HS.out.rin.below HB0.out) hrl hrn
  rw [hcs] at HGO
  have hvh : vs.length = hh := by omega
  rw [hvh] at c22
  clear hvl hvh hrl hrn hcs
  go_wp2_with (first | (go_at_call 127; refine HGO.mono ?_; rintro e V ⟨v, rfl, hv, b1⟩; refine Hid.out ?_))
  unfold Hid
  obtain ⟨g, hg1, hR⟩ := own_rowB hv
  obtain ⟨cap, rst, rfl, hcap1, hcap2, hgh⟩ := hR
  have hA1 := Grd.carry HX1.out b1
  have hA0 := Grd.carry HX0.out b1
  have hgV : W.heap.size + 1 < V.heap.size := heap_lt hA1
  obtain ⟨⟨c0, c1, c2, -⟩, -, fr⟩ := scr_cells hA1
  have HTH : Hid (V.there (W.heap.size + 1) 0 3) := fun j hj => by
    match j, hj with
    | 0, _ => exact ⟨by rw [c0]; rfl, fr _⟩
    | 1, _ => exact ⟨by rw [c1]; rfl, fr _⟩
    | 2, _ => exact ⟨by rw [c2]; rfl, fr _⟩
  have HY1 : Hid ((V.setCells (W.heap.size + 1) 0 [.int .i64 (n : Int), .int .i64 (hh : Int), .slice (some ⟨g, 0, none⟩) cs.length cap]).heap[W.heap.size + 1]? = some (.cells (scrA { s with w := (n : Int), h := (hh : Int), cs := cs } (.slice (some ⟨g, 0, none⟩) cs.length cap) (.slice ta s.tabs.length tc) (.slice ga s.gone.length gc)) 32 (0, 0))) := store_at (store_at (store_at hA1 rfl) rfl) rfl
  have ho : ∀ k, k ≠ W.heap.size + 1 → (V.setCells (W.heap.size + 1) 0 [.int .i64 (n : Int), .int .i64 (hh : Int), .slice (some ⟨g, 0, none⟩) cs.length cap]).heap[k]? = V.heap[k]? := fun k hk => Grd.heap_setCells_ne _ k hk _ _ _
  have HY0 : Hid ((V.setCells (W.heap.size + 1) 0 [.int .i64 (n : Int), .int .i64 (hh : Int), .slice (some ⟨g, 0, none⟩) cs.length cap]).heap[W.heap.size]? = _) := (ho _ (by omega)).trans hA0
  have HYG : Hid ((V.setCells (W.heap.size + 1) 0 [.int .i64 (n : Int), .int .i64 (hh : Int), .slice (some ⟨g, 0, none⟩) cs.length cap]).heap[g]? = _) := (ho _ (by omega)).trans hgh
  have HB3 : Hid (Below W.heap.size W (V.setCells (W.heap.size + 1) 0 [.int .i64 (n : Int), .int .i64 (hh : Int), .slice (some ⟨g, 0, none⟩) cs.length cap])) := Grd.below_cells (by omega) _ _ _ (HB0.out.trans (b1.mono HB0.out.size))
  clear HGO hv b1 hA1 hA0 c0 c1 c2 fr ho hgh c22
  go_wp2_with (refine wpList_store_mid rfl 24 (.tmp 13) (.tmp 12) rfl (W.heap.size + 1) 0 #[.int .i64 (n : Int), .int .i64 (hh : Int), .slice (some ⟨g, 0, none⟩) cs.length cap] rfl rfl HTH.out (by kernel_rfl) (one3v _ _ _ _ _) ?_; refine Hid.out ?_)
  unfold Hid
  generalize (V.setCells (W.heap.size + 1) 0 [.int .i64 (n : Int), .int .i64 (hh : Int), .slice (some ⟨g, 0, none⟩) cs.length cap]) = Y at *
  go_wp2_with (first
    | (refine wpList_load_row rfl 32 (.tmp 3) rfl (W.heap.size + 1) rfl _ _ _ _ HY1.out Tryz.underlying32 rfl (by kernel_rfl) ?_)
    | (refine wpList_store_row rfl 32 (.tmp 2) _ rfl W.heap.size (scrA { s with w := (n : Int), h := (hh : Int), cs := cs } (.slice (some ⟨g, 0, none⟩) cs.length cap) (.slice ta s.tabs.length tc) (.slice ga s.gone.length gc)) rfl rfl _ _ HY0.out (by kernel_rfl) rfl (scr_one _ _ _ _ _ _ _ _ _ _) ?_))
  (try simp only [Exit.inBlock, Exit.then])
  have hbF := below_setRow HB3.out (Nat.le_refl W.heap.size) (scrA { s with w := (n : Int), h := (hh : Int), cs := cs } (.slice (some ⟨g, 0, none⟩) cs.length cap) (.slice ta s.tabs.length tc) (.slice ga s.gone.length gc))
  have hD := HS.out.next hbF
  refine bodyPost_ret (v := .agg (scrA { s with w := (n : Int), h := (hh : Int), cs := cs } (.slice (some ⟨g, 0, none⟩) cs.length cap) (.slice ta s.tabs.length tc) (.slice ga s.gone.length gc))) ?_ rfl ⟨_, _, _, rfl, ⟨?_, own_boolsV hD.tabs, hD.gone.rowsV hD.gin.list⟩, hbF⟩
  · exact results_cell_row rfl _ _ W.heap.size _ _ _ _ rfl (setRow_heap _ _ _ _ _ _ HY0.out) Tryz.underlying32 rfl (by kernel_rfl)
  · refine (rowIn_rowB (N := 0) (g := g) ⟨cap, rst, rfl, hcap1, hcap2, ?_⟩).cells
    rw [setRow_other _ _ _ _ (by omega)]
    exact HYG.out
end Put
end Go.Proofs.YtnkeahfcpbepjaaGreatDoor

/- The desk's Go, often, rowOf. -/
namespace Go.Proofs.YtnkeahfcpbepjaaGreatDoor
open Go.ChangeShapes Go.WideShapes Go.ChangeAt Go.RowKit
namespace Put
open Grd (C SliceAt CellsAt gridErr z0 nilV rowsL RowsAt RowB flat)
theorem below_drewN (W : World) (k : Nat) : Below W.heap.size W (W.drewN k) := ⟨rfl, rfl, rfl, Nat.le_refl _, fun _ _ => rfl⟩
def oft (n : Int) : Int := max 1 (min n 9999)
theorem oft_cnt (n : Int) : oft n = cnt n := by unfold oft cnt withinI; omega
theorem often_any (n : Int) (w : World) : Calls Tryz.prog 92 #[.int .i64 n] w fun e w' => e = .returned (.int .i64 (cnt n)) ∧ w = w' := by
  have h1 := Grd.min2 n 9999
  have h2 := Grd.max2 1 (min n 9999)
  have HE : Hid (max 1 (min n 9999) = cnt n) := oft_cnt n
  go_enter Tryz.func92, Tryz.ntmps92
  go_wp2_with fail
  go_ret
  exact ⟨ret_int HE.out, rfl⟩
/-- A place within the screen. -/
def goS (s : Scr) (x y : Int) : Scr := { s with x := max 0 (min x (s.w - 1)), y := max 0 (min y (s.h - 1)), late := false }
theorem DkAt.three {W : World} {N p : Nat} {s : Scr} {rows : List (List C)} (h : DkAt W N p s rows) (x y : Int) : DkAt (((W.setCell ⟨p, 3, none⟩ (.int .i64 x)).setCell ⟨p, 4, none⟩ (.int .i64 y)).setCell ⟨p, 5, none⟩ (.bool false)) N p { s with x := x, y := y, late := false } rows ∧ Below N W (((W.setCell ⟨p, 3, none⟩ (.int .i64 x)).setCell ⟨p, 4, none⟩ (.int .i64 y)).setCell ⟨p, 5, none⟩ (.bool false)) := by
  have h1 : DkAt (W.setCell ⟨p, 3, none⟩ (.int .i64 x)) N p { s with x := x } rows := h.set 3 _ (fun _ _ _ _ => rfl) rfl rfl
  have h2 : DkAt ((W.setCell ⟨p, 3, none⟩ (.int .i64 x)).setCell ⟨p, 4, none⟩ (.int .i64 y)) N p { s with x := x, y := y } rows := h1.set 4 _ (fun _ _ _ _ => rfl) rfl rfl
  refine ⟨h2.set 5 _ (fun _ _ _ _ => rfl) rfl rfl, (((Below.refl _ _).setCell h.lo _).setCell h.lo _).setCell h.lo _⟩
theorem DkAt.drew {W : World} {N p : Nat} {s : Scr} {rows : List (List C)} (h : DkAt W N p s rows) : DkAt W.drew N p s rows := h.next ((Below.refl _ _).drew)
set_option maxHeartbeats 4000000 in
theorem go_any {N p : Nat} {s : Scr} {rows : List (List C)} (x y : Int) (W : World) (h : DkAt W N p s rows) (w1 : 1 ≤ s.w) (w2 : s.w ≤ 120) (w3 : 1 ≤ s.h) (w4 : s.h ≤ 60) :
    Calls Tryz.prog 91 #[.pointer (some ⟨p, 0, none⟩), .int .i64 x, .int .i64 y] W fun e W' => e = .returned (.tuple #[]) ∧ DkAt W' N p (goS s x y) rows ∧ Below N W W' := by
  obtain ⟨c0, c1, c3, c4, c5, c9, c10, c11, c19, f⟩ := h.words
  have f3 := f 3
  have f4 := f 4
  have f5 := f 5
  have m1 := Grd.min2 x (s.w - 1)
  have m2 := Grd.max2 0 (min x (s.w - 1))
  have m3 := Grd.min2 y (s.h - 1)
  have m4 := Grd.max2 0 (min y (s.h - 1))
  have h3 := h.three (max 0 (min x (s.w - 1))) (max 0 (min y (s.h - 1)))
  have HE : Hid _ := And.intro h3.1.drew h3.2.drew
  clear h h3 c9 c10 c11 c19 f
  go_enter Tryz.func91, Tryz.ntmps91
  go_upto_region 0 with fail
  go_region
  all_goals go_end0
  all_goals exact ⟨rfl, HE.out⟩
theorem has_bits (m : Int) (h0 : 0 ≤ m) (h1 : m ≤ 63) : hasB m 1 = !(bits .and .i64 m 1 == 0) ∧ hasB m 2 = !(bits .and .i64 m 2 == 0) ∧ hasB m 4 = !(bits .and .i64 m 4 == 0) := by
  have key : ∀ k : Fin 64, hasB (k.val : Int) 1 = !(bits .and .i64 (k.val : Int) 1 == 0) ∧ hasB (k.val : Int) 2 = !(bits .and .i64 (k.val : Int) 2 == 0) ∧ hasB (k.val : Int) 4 = !(bits .and .i64 (k.val : Int) 4 == 0) := by decide +kernel
  have h := key ⟨m.toNat, by omega⟩
  have e : ((m.toNat : Nat) : Int) = m := by omega
  simp only [e] at h
  exact h
theorem RightS.modes {s : Scr} {n hh : Nat} (h : RightS s n hh) : 0 ≤ s.modes ∧ s.modes ≤ 63 := by
  have := h.looks
  simp only [looksOk, Bool.and_eq_true, decide_eq_true_eq] at this
  exact this.2.2.1
set_option maxHeartbeats 4000000 in
theorem rowOf_any {N p : Nat} {s : Scr} {rows : List (List C)} (n : Int) (W : World) (h : DkAt W N p s rows) (t0 : 0 ≤ s.top) (t1 : s.top ≤ 60) (hb : hasB s.modes 2 = !(bits .and .i64 s.modes 2 == 0)) :
    Calls Tryz.prog 93 #[.pointer (some ⟨p, 0, none⟩), .int .i64 n] W fun e W' => e = .returned (.int .i64 (if hasB s.modes 2 then min (s.top + (cnt n - 1)) s.bot else cnt n - 1)) ∧ Below W.heap.size W W' := by
  obtain ⟨c0, c1, c3, c4, c5, c9, c10, c11, c19, f⟩ := h.words
  have hc := cnt_range n
  have HO : Hid (∀ W, Calls Tryz.prog 92 #[.int .i64 n] W fun e w' => e = .returned (.int .i64 (cnt n)) ∧ W = w') := fun W => often_any n W
  clear h c0 c1 c3 c4 c5 c19 f
  cases hq : (bits .and .i64 s.modes 2 == 0) with
  | true =>
    rw [hq] at hb
    rw [hb, if_neg (by simp)]
    clear hb
    generalize cnt n = k at *
    go_enter Tryz.func93, Tryz.ntmps93
    go_wp2_with fail
    refine (HO.out _).mono ?_
    rintro e V ⟨rfl, hv⟩
    subst hv
    go_wp2_with fail
    go_ret
    exact ⟨rfl, Below.refl _ _⟩
  | false =>
    rw [hq] at hb
    rw [hb, if_pos (by simp)]
    clear hb
    generalize cnt n = k at *
    have hw1 : IntKind.i64.wrap (s.top + k) = s.top + k := wrap_id _ (by omega) (by omega)
    have hw2 : IntKind.i64.wrap (s.top + k - 1) = s.top + k - 1 := wrap_id _ (by omega) (by omega)
    have HM : Hid (min (s.top + k - 1) s.bot = min (s.top + (k - 1)) s.bot) := by unfold Hid; omega
    go_enter Tryz.func93, Tryz.ntmps93
    go_upto_region 3 with fail
    go_region_held3 (fun w' => w'.cell? ⟨p, 9, none⟩ = some (.int .i64 s.top) ∧ w'.cell? ⟨p, 10, none⟩ = some (.int .i64 s.bot)) (go_keep) (first | (go_at_call 92; refine (HO.out _).mono ?_; rintro e V ⟨rfl, hv⟩; subst hv))
    all_goals go_wp2_with fail
    all_goals go_ret
    all_goals exact ⟨ret_int HM.out, (Below.refl _ _).drew⟩
end Put
end Go.Proofs.YtnkeahfcpbepjaaGreatDoor

/- What a row is with some cells blank. -/
namespace Go.Proofs.YtnkeahfcpbepjaaGreatDoor
namespace Put
open Grd (C z0 gridErr putRow mendL RightRow Meant)
open Sty (isSt)
open Txt (wd)
def wipeRow (bk : Int) (row : List C) (a b : Nat) : List C := mendL (putRow row (fun x => decide (a ≤ x ∧ x < b)) fun _ => (32, 0, bk, 0))
theorem wipe_len (bk : Int) (row : List C) (a b : Nat) : (wipeRow bk row a b).length = row.length := by
  unfold wipeRow
  rw [Grd.mendL_len, Grd.putRow_len]
theorem wipe_right (bk : Int) (row : List C) (a b : Nat) (h : RightRow row) (hs : isSt (0, bk, 0) = true) : RightRow (wipeRow bk row a b) := by
  unfold wipeRow
  exact Grd.mend_right _ (Grd.meant_fill row _ _ h.1 Grd.wd32 hs)
theorem wipe_at (bk : Int) (row : List C) (a b x : Nat) (hx : x < row.length) (h : a ≤ x ∧ x < b) : (wipeRow bk row a b).getD x z0 = (32, 0, bk, 0) := by
  unfold wipeRow
  rw [Grd.mendL_eq, Grd.mendM_at _ _ (by rw [Grd.putRow_len]; exact hx)]
  have e : (putRow row (fun x => decide (a ≤ x ∧ x < b)) fun _ => (32, 0, bk, 0)).getD x z0 = (32, 0, bk, 0) := by
    rw [Grd.putRow_at _ _ _ _ hx, if_pos (by simpa using h)]
  rw [e]
  split <;> rfl
/-- Wiping again changes nothing. -/
theorem wipe_wipe (bk : Int) (row : List C) (a b : Nat) (h : RightRow row) (hs : isSt (0, bk, 0) = true) : wipeRow bk (wipeRow bk row a b) a b = wipeRow bk row a b := by
  have hr := wipe_right bk row a b h hs
  have e : putRow (wipeRow bk row a b) (fun x => decide (a ≤ x ∧ x < b)) (fun _ => ((32, 0, bk, 0) : C)) = wipeRow bk row a b := by
    refine Grd.ext_getD _ _ (Grd.putRow_len _ _ _) fun x hx => ?_
    rw [Grd.putRow_len] at hx
    rw [Grd.putRow_at _ _ _ _ hx]
    by_cases hp : a ≤ x ∧ x < b
    · rw [if_pos (by simpa using hp), wipe_at bk row a b x (by rw [wipe_len] at hx; exact hx) hp]
    · rw [if_neg (by simpa using hp)]
  generalize hq : wipeRow bk row a b = q at *
  unfold wipeRow
  rw [e]
  exact Grd.mendL_fix _ hr.2
/-- A row that is wiped as a whole. -/
theorem wipe_whole (bk : Int) (row : List C) (b : Nat) (hb : row.length ≤ b) : wipeRow bk row 0 b = List.replicate row.length (32, 0, bk, 0) := by
  refine Grd.ext_getD _ _ (by rw [wipe_len, List.length_replicate]) fun x hx => ?_
  rw [wipe_len] at hx
  rw [wipe_at bk row 0 b x hx ⟨Nat.zero_le _, by omega⟩]
  simp [List.getD, hx]
theorem row_grid (n : Nat) (row : List C) (hn : row.length = n) (hz : gridErr n 1 row = 0) : RightRow row := by
  have h := ((Grd.gridErr_zero n 1 row).1 hz).2.2 0 (by omega)
  have e : Grd.rowAt n row 0 = row := by unfold Grd.rowAt; rw [Nat.zero_mul, List.drop_zero, ← hn, List.take_length]
  rw [e] at h
  exact h
theorem grid_row (n : Nat) (row row' : List C) (hn : row'.length = n) (hz : gridErr n 1 row = 0) (h : RightRow row') : gridErr n 1 row' = 0 := by
  obtain ⟨h1, -, -⟩ := (Grd.gridErr_zero n 1 row).1 hz
  refine (Grd.gridErr_zero n 1 row').2 ⟨h1, by rw [hn, Nat.mul_one], fun y hy => ?_⟩
  obtain rfl : y = 0 := by omega
  have e : Grd.rowAt n row' 0 = row' := by unfold Grd.rowAt; rw [Nat.zero_mul, List.drop_zero, ← hn, List.take_length]
  rw [e]
  exact h
end Put
end Go.Proofs.YtnkeahfcpbepjaaGreatDoor

/- The walk of grid.Fill. -/
namespace Go.Proofs.YtnkeahfcpbepjaaGreatDoor
open Go.ChangeShapes Go.WideShapes Go.ChangeAt Go.RowKit
namespace Grd
open Txt (wd)
open Sty (isSt)
def inside (at' long : Int) (size : Nat) (x : Nat) : Bool := decide (max (nearI at') 0 ≤ (x : Int) ∧ (x : Int) < min (nearI at' + nearI long) size)
def fillF (n hh : Nat) (rx ry rw rh : Int) (c : C) (y : Nat) (row : List C) : List C := if inside ry rh hh y then mendL (putRow row (inside rx rw n) fun _ => c) else row
def fillG (n hh : Nat) (cs : List C) (rx ry rw rh : Int) (c : C) : List C := preF n cs (fillF n hh rx ry rw rh c) hh
theorem fillF_len (n hh : Nat) (rx ry rw rh : Int) (c : C) : KeepLen n (fillF n hh rx ry rw rh c) := fun y row h => by
  unfold fillF
  split
  · rw [mendL_len, putRow_len, h]
  · exact h
theorem near_in (a : Int) : -1000 ≤ nearI a ∧ nearI a ≤ 1000 := by unfold nearI; omega
/-- The cells when the rows below k are done. -/
def upto (n hh : Nat) (cs : List C) (f : Nat → List C → List C) (k : Nat) : List C := preF n cs f (min k hh) ++ cs.drop (min k hh * n)
theorem upto_start (n hh : Nat) (cs : List C) (f : Nat → List C → List C) (k : Nat) (h : ∀ y, y < k → f y (rowAt n cs y) = rowAt n cs y) : upto n hh cs f k = cs := by
  unfold upto
  rw [preF_id n cs f _ (fun y hy => h y (by omega)), List.take_append_drop]
theorem upto_end (n hh : Nat) (cs : List C) (f : Nat → List C → List C) (hL : cs.length = n * hh) (k : Nat) (h : ∀ y, k ≤ y → f y (rowAt n cs y) = rowAt n cs y) : upto n hh cs f k = preF n cs f hh := by
  unfold upto
  by_cases hk : k ≤ hh
  · rw [Nat.min_eq_left hk]
    exact (preF_rest n hh cs f hL k (hh - k) (by omega) (fun y h1 _ => h y h1)).symm
  · rw [Nat.min_eq_right (by omega), List.drop_of_length_le (by rw [hL, Nat.mul_comm]; exact Nat.le_refl _), List.append_nil]
theorem upto_at (n hh : Nat) (cs : List C) (f : Nat → List C → List C) (k : Nat) (hk : k < hh) : upto n hh cs f k = preF n cs f k ++ (rowAt n cs k ++ cs.drop ((k + 1) * n)) := by
  unfold upto
  rw [Nat.min_eq_left (by omega), drop_row]
theorem upto_next (n hh : Nat) (cs : List C) (f : Nat → List C → List C) (k : Nat) (hk : k < hh) : upto n hh cs f (k + 1) = preF n cs f k ++ (f k (rowAt n cs k) ++ cs.drop ((k + 1) * n)) := by
  unfold upto
  rw [Nat.min_eq_left (by omega)]
  show (preF n cs f k ++ f k (rowAt n cs k)) ++ _ = _
  rw [List.append_assoc]
theorem upto_len (n hh : Nat) (cs : List C) (f : Nat → List C → List C) (hL : cs.length = n * hh) (hf : KeepLen n f) (k : Nat) : (upto n hh cs f k).length = cs.length := by
  unfold upto
  rw [List.length_append, preF_len n hh cs f hL hf _ (by omega), List.length_drop]
  have : min k hh * n ≤ cs.length := by rw [hL, Nat.mul_comm n hh]; exact Nat.mul_le_mul_right _ (by omega)
  omega
theorem flat_three (a b c : List C) (rest : List Value) : flat (a ++ (b ++ c)) ++ rest = flat a ++ (flat b ++ (flat c ++ rest)) := by
  rw [flat_append, flat_append]; simp only [List.append_assoc]
theorem alloc4 (w : World) (o0 o1 o2 o3 : Obj) : ((((w.alloc o0).alloc o1).alloc o2).alloc o3).heap[w.heap.size]? = some o0 ∧ ((((w.alloc o0).alloc o1).alloc o2).alloc o3).heap[w.heap.size + 1]? = some o1 ∧
    ((((w.alloc o0).alloc o1).alloc o2).alloc o3).heap[w.heap.size + 2]? = some o2 ∧ ((((w.alloc o0).alloc o1).alloc o2).alloc o3).heap[w.heap.size + 3]? = some o3 ∧
    Below w.heap.size w ((((w.alloc o0).alloc o1).alloc o2).alloc o3) ∧ ((((w.alloc o0).alloc o1).alloc o2).alloc o3).heap.size = w.heap.size + 4 := by
  have s1 : (w.alloc o0).heap.size = w.heap.size + 1 := by simp
  have s2 : ((w.alloc o0).alloc o1).heap.size = w.heap.size + 2 := by simp
  have s3 : (((w.alloc o0).alloc o1).alloc o2).heap.size = w.heap.size + 3 := by simp
  refine ⟨?_, ?_, ?_, ?_, (((Below.refl _ _).alloc (Nat.le_refl _) _).alloc (by omega) _ |>.alloc (by omega) _).alloc (by omega) _, by simp⟩
  · rw [Below.heap_alloc _ _ _ (by omega), Below.heap_alloc _ _ _ (by omega), Below.heap_alloc _ _ _ (by omega), heap_alloc_new]
  · rw [Below.heap_alloc _ _ _ (by omega), Below.heap_alloc _ _ _ (by omega), ← s1, heap_alloc_new]
  · rw [Below.heap_alloc _ _ _ (by omega), ← s2, heap_alloc_new]
  · rw [← s3, heap_alloc_new]
theorem alloc3 (w : World) (o0 o1 o2 : Obj) : (((w.alloc o0).alloc o1).alloc o2).heap[w.heap.size]? = some o0 ∧ (((w.alloc o0).alloc o1).alloc o2).heap[w.heap.size + 1]? = some o1 ∧
    (((w.alloc o0).alloc o1).alloc o2).heap[w.heap.size + 2]? = some o2 ∧
    Below w.heap.size w (((w.alloc o0).alloc o1).alloc o2) ∧ (((w.alloc o0).alloc o1).alloc o2).heap.size = w.heap.size + 3 := by
  have s1 : (w.alloc o0).heap.size = w.heap.size + 1 := by simp
  have s2 : ((w.alloc o0).alloc o1).heap.size = w.heap.size + 2 := by simp
  refine ⟨?_, ?_, ?_, (((Below.refl _ _).alloc (Nat.le_refl _) _).alloc (by omega) _).alloc (by omega) _, by simp⟩
  · rw [Below.heap_alloc _ _ _ (by omega), Below.heap_alloc _ _ _ (by omega), heap_alloc_new]
  · rw [Below.heap_alloc _ _ _ (by omega), ← s1, heap_alloc_new]
  · rw [← s2, heap_alloc_new]
end Grd
end Go.Proofs.YtnkeahfcpbepjaaGreatDoor

/- The walk of grid.Fill: the wrong cell, and the right one. -/
namespace Go.Proofs.YtnkeahfcpbepjaaGreatDoor
open Go.ChangeShapes Go.WideShapes Go.ChangeAt Go.RowKit
namespace Grd
open Txt (wd)
open Sty (isSt)
theorem check_ok (a h : Int) (v : Value) (cs : List C) (w : World) (hT : Txt.Tab w) (hS : SliceAt w v cs) (hok : gridErr a h cs = 0) :
    Calls Tryz.prog 75 #[.agg #[.int .i64 a, .int .i64 h, v]] w fun e w' => e = .returned (.int .i64 0) ∧ Below w.heap.size w w' := by
  have := check_any a h v cs w hT hS
  rwa [hok] at this
end Grd
end Go.Proofs.YtnkeahfcpbepjaaGreatDoor

/- The reference's FillGrid. -/
namespace Go.Proofs.YtnkeahfcpbepjaaGreatDoor
open Go.ChangeShapes Go.WideShapes Go.ChangeAt Go.RowKit Go.Maps
namespace Grd
/-- The rows below k as f makes them, the others as they were. -/
def rowsF (n hh : Nat) (cs : List C) (f : Nat → List C → List C) (k : Nat) : List (List C) := (List.range hh).map fun y => if y < k then f y (rowAt n cs y) else rowAt n cs y
theorem rowsF_len (n hh : Nat) (cs : List C) (f : Nat → List C → List C) (k : Nat) : (rowsF n hh cs f k).length = hh := by simp [rowsF]
theorem rowsF_at (n hh : Nat) (cs : List C) (f : Nat → List C → List C) (k i : Nat) (hi : i < hh) : (rowsF n hh cs f k).getD i [] = if i < k then f i (rowAt n cs i) else rowAt n cs i := by
  simp [rowsF, List.getD, hi]
theorem rowsF_zero (n hh : Nat) (cs : List C) (f : Nat → List C → List C) : rowsF n hh cs f 0 = rowsL n cs hh := by simp [rowsF, rowsL]
theorem rowsF_set (n hh : Nat) (cs : List C) (f : Nat → List C → List C) (k : Nat) (_hk : k < hh) : rowsF n hh cs f (k + 1) = (rowsF n hh cs f k).set k (f k (rowAt n cs k)) := by
  refine List.ext_getElem (by simp [rowsF]) fun i h1 h2 => ?_
  rw [List.getElem_set]
  simp only [rowsF, List.getElem_map, List.getElem_range]
  by_cases hik : k = i
  · subst hik; simp
  · rw [if_neg hik]
    by_cases hlt : i < k
    · rw [if_pos hlt, if_pos (by omega)]
    · rw [if_neg hlt, if_neg (by omega)]
theorem rowsF_same (n hh : Nat) (cs : List C) (f : Nat → List C → List C) (k : Nat) (hk : k < hh) (hf : f k (rowAt n cs k) = rowAt n cs k) : rowsF n hh cs f (k + 1) = rowsF n hh cs f k := by
  refine List.ext_getElem (by simp [rowsF]) fun i h1 h2 => ?_
  simp only [rowsF, List.getElem_map, List.getElem_range]
  by_cases hik : i = k
  · subst hik; simp [hf]
  · by_cases hlt : i < k
    · rw [if_pos hlt, if_pos (by omega)]
    · rw [if_neg hlt, if_neg (by omega)]
theorem rowsF_flat (n hh : Nat) (cs : List C) (f : Nat → List C → List C) : (rowsF n hh cs f hh).flatten = preF n cs f hh := by
  have key : ∀ k, ((List.range k).map fun y => f y (rowAt n cs y)).flatten = preF n cs f k := by
    intro k
    induction k with
    | zero => rfl
    | succ k ih =>
      rw [List.range_succ, List.map_append, List.flatten_append, ih]
      simp [preF]
  rw [← key hh]
  congr 1
  unfold rowsF
  refine List.map_congr_left fun y hy => ?_
  rw [if_pos (List.mem_range.1 hy)]
theorem RowsAt.set {w w' : World} {base : Nat} {vs : List Value} {gs : List Nat} {rows : List (List C)} (h : RowsAt w base vs gs rows) (k : Nat) (hk : k < rows.length) (g : Nat) (v : Value) (row : List C)
    (hb : base ≤ g) (hr : RowB w' g v row) (hne : ∀ i, i < rows.length → i ≠ k → gs.getD i 0 ≠ g) (hkeep : ∀ i, i < rows.length → i ≠ k → w'.heap[gs.getD i 0]? = w.heap[gs.getD i 0]?) :
    RowsAt w' base (vs.set k v) (gs.set k g) (rows.set k row) := by
  obtain ⟨h1, h2, h3, h4⟩ := h
  have gset : ∀ {α : Type} (l : List α) (x d : α) (i : Nat), k < l.length → (l.set k x).getD i d = if i = k then x else l.getD i d := fun l x d i hkl => by
    simp only [List.getD, List.getElem?_set]
    by_cases hik : k = i
    · subst hik; simp [hkl]
    · simp [hik, Ne.symm hik]
  refine ⟨by simp [h1], by simp [h2], ?_, fun i hi => ?_⟩
  · rw [List.nodup_iff_pairwise_ne, List.pairwise_iff_getElem]
    intro i j hi hj hij
    rw [List.length_set] at hi hj
    rw [List.nodup_iff_pairwise_ne, List.pairwise_iff_getElem] at h3
    have e : ∀ q (hq : q < gs.length), gs.getD q 0 = gs[q] := fun q hq => by simp [List.getD, hq]
    rw [List.getElem_set, List.getElem_set]
    by_cases hik : k = i
    · rw [if_pos hik, if_neg (by omega), ← e j hj]
      exact fun he => hne j (by omega) (by omega) he.symm
    · rw [if_neg hik]
      by_cases hjk : k = j
      · rw [if_pos hjk, ← e i hi]; exact hne i (by omega) (by omega)
      · rw [if_neg hjk]; exact h3 i j hi hj hij
  · rw [List.length_set] at hi
    rw [gset gs _ _ _ (by omega), gset vs _ _ _ (by omega), gset rows _ _ _ hk]
    by_cases hik : i = k
    · rw [if_pos hik, if_pos hik, if_pos hik]; exact ⟨hb, hr⟩
    · rw [if_neg hik, if_neg hik, if_neg hik]
      obtain ⟨q1, cap, rest, q2, q3, q4, q5⟩ := h4 i hi
      exact ⟨q1, cap, rest, q2, q3, q4, by rw [hkeep i hi hik]; exact q5⟩
theorem RowsAt.ne {w : World} {base : Nat} {vs : List Value} {gs : List Nat} {rows : List (List C)} (h : RowsAt w base vs gs rows) (i k : Nat) (hi : i < rows.length) (hk : k < rows.length) (hne : i ≠ k) : gs.getD i 0 ≠ gs.getD k 0 := by
  obtain ⟨h1, h2, h3, h4⟩ := h
  rw [List.nodup_iff_pairwise_ne, List.pairwise_iff_getElem] at h3
  have e : ∀ q (hq : q < gs.length), gs.getD q 0 = gs[q] := fun q hq => by simp [List.getD, hq]
  rw [e i (by omega), e k (by omega)]
  rcases Nat.lt_or_ge i k with h | h
  · exact h3 i k (by omega) (by omega) h
  · exact fun q => h3 k i (by omega) (by omega) (by omega) q.symm
theorem inside_iff (p l : Int) (size x : Nat) (hx : x < size) : inside p l size x = decide (nearI p ≤ (x : Int) ∧ (x : Int) < nearI p + max 0 (nearI l)) := by
  unfold inside; rw [decide_eq_decide]; omega
end Grd
end Go.Proofs.YtnkeahfcpbepjaaGreatDoor

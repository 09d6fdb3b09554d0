/- The reference's desk: Roll, up. (Written by gen_refrollu.py.) -/
import Derived.Test.YtmhmmpicedlcpaaGreatDoorPartP
import Derived.Deep.RegionLaw
import Derived.Deep.CutBlock
import Derived.BigRegion
import Derived.Test.YtmhmmpicedlcpaaGreatDoorPartO
import Derived.Test.YtmhmmpicedlcpaaGreatDoorPartJ
namespace Go.Proofs.YtmhmmpicedlcpaaGreatDoor
open Go.ChangeShapes Go.WideShapes Go.ChangeAt Go.RowKit
namespace Put
open Grd (C SliceAt CellsAt gridErr z0 nilV flat rowsL OwnG RowB RowsAt)
theorem step_append_at {P : Program} {ops : Array Oper} {o : Oper} {a : Act} {w : World} {K : Act → World → Prop} {Q : Exit → Act → World → Prop} {E : Prop} (hg : o.guard = none) (s x : Operand) (t : TypeId)
    (hop : o.op = .call { callee := .builtin .append, args := #[s, x], argTypes := #[t, t] })
    (base : Nat) (e : TypeId) (i : TypeInfo) (z : Value) (size bytes : Nat) (ht : P.underlying t = some (.slice e)) (hi : P.info? e = some i) (hz : i.zero = some z)
    (hsize : i.size = size) (hby : i.bytes = bytes) (hzs : z.cells.size = size) (hsz : 0 < size)
    (v : Value) (n : Nat) (xs : List Value) (hs : a.eval s = v) (hown : w.ownsRow base e size v n xs)
    (ad : Addr) (m c : Nat) (news : List Value) (hx : a.eval x = .slice (some ad) m c) (hl : news.length = m * size) (hnews : ∀ j u, news[j]? = some u → w.cell? (ad.add j) = some u) (h1 : ∀ u ∈ news, u.oneCell' = true)
    (h63 : n + m ≤ maxLen) (hbytes : (n + m) * bytes ≤ 140737488355328) (hbase : base ≤ w.heap.size)
    (h : ∀ v' w', w'.ownsRow base e size v' (n + m) (xs ++ news) → w.grownBy w' v.ownBlock → (v'.ownBlock = v.ownBlock ∨ v'.ownBlock = some w.heap.size) → K (a.put o.dst v') w') :
    if Region.wanted o (yielded ops a.tmps) = true then Oper.wp P o a w K Q else E := by
  have hw : Region.wanted o (yielded ops a.tmps) = true := by simp [Region.wanted, hg]
  rw [if_pos hw]
  obtain ⟨v', w', hr, h2, h3, -, h5⟩ := run_append_own_at (P := P) w base t o.type e i z size bytes ht hi hz hsize hby hzs hsz v n xs hown ad m c news hl hnews h1 h63 hbytes hbase
  unfold Oper.wp execOp
  simp only [hop, resolve, invoke, builtin, Sem.run_bind, Sem.run_pure, Result.andThen_ok, List.map_toArray, List.map_cons, List.map_nil, hs, hx, hr]
  exact h v' w' h2 h3 h5
theorem nodup_first {gs : List Nat} (h : gs.Nodup) (hl : 0 < gs.length) : gs.getD 0 0 ∉ gs.eraseIdx 0 := by
  cases gs with
  | nil => simp at hl
  | cons a l =>
    rw [List.nodup_cons] at h
    simpa using h.1
/-- What is gone, and the first row: none is one of the other rows. -/
theorem gone_push {W : World} {N p : Nat} {s : Scr} {rows : List (List C)} {cv tv gv rv : Value} {gvs vs : List Value} {gs : List Nat} (h : DkA W N p s rows cv tv gv rv gvs vs gs) (hl : 0 < rows.length) :
    ∀ i, i < (s.gone ++ [rows.getD 0 []]).length → (s.gone ++ [rows.getD 0 []]).getD i [] ≠ [] → ∀ g, blkOf ((gvs ++ [vs.getD 0 nilV]).getD i nilV) = some g → g ∉ gs.eraseIdx 0 := by
  intro i hi hn g hg hm
  have hgl : gvs.length = s.gone.length := h.gin.1
  rw [List.length_append, List.length_singleton] at hi
  by_cases e : i < s.gone.length
  · have e1 : (s.gone ++ [rows.getD 0 []]).getD i [] = s.gone.getD i [] := by simp only [List.getD]; rw [List.getElem?_append_left e]
    have e2 : (gvs ++ [vs.getD 0 nilV]).getD i nilV = gvs.getD i nilV := by simp only [List.getD]; rw [List.getElem?_append_left (by omega)]
    rw [e1] at hn
    rw [e2] at hg
    exact h.gof i e hn g hg (List.mem_of_mem_eraseIdx hm)
  · have e3 : i = s.gone.length := by omega
    have e2 : (gvs ++ [vs.getD 0 nilV]).getD i nilV = vs.getD 0 nilV := by
      rw [e3, ← hgl]
      simp [List.getD]
    rw [e2, blk_sl (h.rin.2.2.2 0 hl).2] at hg
    rw [← Option.some.inj hg] at hm
    exact nodup_first h.rin.2.2.1 (by rw [h.rin.2.1]; exact hl) hm
theorem gone_cut {l : List (List C)} {ws : List Value} {gx : List Nat} (h : ∀ i, i < l.length → l.getD i [] ≠ [] → ∀ g, blkOf (ws.getD i nilV) = some g → g ∉ gx) : ∀ i, i < (l.eraseIdx 0).length → (l.eraseIdx 0).getD i [] ≠ [] → ∀ g, blkOf ((ws.eraseIdx 0).getD i nilV) = some g → g ∉ gx := by
  intro i hi hn g hg
  rw [getD_erase, if_neg (by omega)] at hn hg
  refine h (i + 1) ?_ hn g hg
  by_cases h0 : l = []
  · subst h0
    simp at hi
  · rw [List.length_eraseIdx_of_lt (List.length_pos_iff.2 h0)] at hi
    omega
set_option linter.unusedSimpArgs false in
set_option maxHeartbeats 8000000 in
set_option maxRecDepth 100000 in
theorem roll_upI (N p n top bot hh K : Nat) (bk : Int) (s : Scr) (rows : List (List C)) (W : World) (keep : Bool) (m : Int) (hD : DkAt W N p s rows) (hR : Rolls n bot hh bk (s, rows)) (hn1 : 1 ≤ n) (hn2 : n ≤ 120) (htb : top ≤ bot) (hbh : bot < hh) (hh60 : hh ≤ 60) (hK : max (-((bot : Int) - top + 1)) (min m ((bot : Int) - top + 1)) = (K : Int)) :
    Calls Tryz.prog 85 #[.pointer (some ⟨p, 0, none⟩), .int .i64 (top : Int), .int .i64 m, .bool keep] W fun e W' => e = .returned (.tuple #[]) ∧ DkAt W' N p (iterN (rUp n top bot keep) K (s, rows)).1 (iterN (rUp n top bot keep) K (s, rows)).2 ∧ Bel N W W' := by
  obtain ⟨c0, c1, c3, c4, c5, c9, c10, c11, c19, f⟩ := hD.words
  have hb0 : s.bot = bot := hR.b
  rw [hb0] at c10
  have h1 := Grd.min2 m ((bot : Int) - top + 1)
  have h2 := Grd.max2 (-((bot : Int) - top + 1)) (min m ((bot : Int) - top + 1))
  rw [hK] at h2
  have HD : Hid (DkAt W N p s rows) := hD
  have HR : Hid (Rolls n bot hh bk (s, rows)) := hR
  have hw1 : IntKind.i64.wrap ((bot : Int) - top) = (bot : Int) - top := wrap_id _ (by omega) (by omega)
  have hw2 : IntKind.i64.wrap ((bot : Int) - top + 1) = (bot : Int) - top + 1 := wrap_id _ (by omega) (by omega)
  have hw3 : IntKind.i64.wrap (-((bot : Int) - top + 1)) = -((bot : Int) - top + 1) := wrap_id _ (by omega) (by omega)
  have hKle : K ≤ 60 := by omega
  clear hD hR c0 c1 c3 c4 c5 c9 c11 c19 f hK hb0
  go_enter Tryz.func85, Tryz.ntmps85
  go_wp2_with fail
  go_loopg [2] K (fun q v w2 => ∃ k j : Nat, v = .int .i64 (k : Int) ∧ k ≤ q ∧ k + j = K ∧ Rolls n bot hh bk (iterN (rUp n top bot keep) j (s, rows)) ∧ DkAt w2 N p (iterN (rUp n top bot keep) j (s, rows)).1 (iterN (rUp n top bot keep) j (s, rows)).2 ∧ Bel N W w2)
  case atStart => exact ⟨K, 0, rfl, Nat.le_refl _, by omega, HR.out, HD.out, Bel.refl _ _⟩
  case round =>
    obtain ⟨k, j, rfl, hkq, hkj, hRj, hDj, hBj⟩ := hrel
    by_cases hk0 : k = 0
    · subst hk0
      have ej : j = K := by omega
      subst ej
      generalize hyy : wr = Y at *
      clear hyy
      go_wp2_with fail
      go_loopg [2] 0 (fun _ v w3 => v = .int .i64 0 ∧ w3 = Y)
      case atStart => exact ⟨rfl, rfl⟩
      case round =>
        obtain ⟨rfl, hww⟩ := hrel
        have hww := hww.symm
        subst hww
        go_wp2_with fail
        go_end0
        exact ⟨rfl, hDj, hBj⟩
    · have lt1 : (0 : Int) < (k : Int) := by omega
      have HN : Hid (iterN (rUp n top bot keep) (j + 1) (s, rows) = rUp n top bot keep (iterN (rUp n top bot keep) j (s, rows))) := rfl
      have hw4 : IntKind.i64.wrap ((k : Int) - 1) = ((k - 1 : Nat) : Int) := by rw [wrap_id _ (by omega) (by omega)]; omega
      generalize iterN (rUp n top bot keep) j (s, rows) = x at hRj hDj HN
      obtain ⟨cv, tv, gv, rv, gvs, vs, gs, hA⟩ := hDj
      have hrl := hRj.r
      have HRL : Hid (x.2.length = hh) := hRj.r
      have HW : Hid (x.1.w = n) := hRj.w
      have HBO : Hid (x.1.bot = bot) := hRj.b
      have HGL : Hid (x.1.gone.length ≤ 50) := hRj.g
      obtain ⟨rb, rc, hrv, hrb, hrc1, hrc2, hvl, hrcell, A, hrA⟩ := own_cells hA.rws (by omega)
      subst hrv
      have hpr : p ≠ rb := by
        intro e
        rw [← e, hA.blk] at hrA
        injection hrA with hrA
        injection hrA with _ hrA _
        exact absurd hrA (by decide)
      have HRN : Hid (Rolls n bot hh bk (iterN (rUp n top bot keep) (j + 1) (s, rows))) := by rw [Hid, HN.out]; exact hRj.up top keep (by omega) hbh
      have hwb : IntKind.i64.wrap ((top : Int) + 1) = (top : Int) + 1 := wrap_id _ (by omega) (by omega)
      have hl60 : 0 < x.2.length ∧ x.2.length ≤ 60 := by omega
      clear HD HR h1 h2 hw1 hw2 hw3 c10 hrl
      by_cases hkt : top = 0 ∧ keep = true
      · obtain ⟨ht0, hk1⟩ := hkt
        subst ht0 hk1
        have HXN : Hid (rUp n 0 bot true x = ({ x.1 with gone := keepG x.1.gone (x.2.getD 0 []) }, replR x.2 n x.1.sb 0 bot)) := by unfold Hid rUp; rw [if_pos ⟨rfl, rfl⟩]
        have HN : Hid (iterN (rUp n 0 bot true) (j + 1) (s, rows) = ({ x.1 with gone := keepG x.1.gone (x.2.getD 0 []) }, replR x.2 n x.1.sb 0 bot)) := HN.out.trans HXN.out
        have hB0 := (hA.rin.2.2.2 0 (by omega)).2
        obtain ⟨va, vc, hsh⟩ := rowB_shapeS hB0
        obtain ⟨ga, gc, hgv⟩ := hA.gone.slice
        subst hgv
        have HGF : Hid (∀ i, i < (x.1.gone ++ [x.2.getD 0 []]).length → (x.1.gone ++ [x.2.getD 0 []]).getD i [] ≠ [] → ∀ g, blkOf ((gvs ++ [vs.getD 0 nilV]).getD i nilV) = some g → g ∉ gs.eraseIdx 0) := gone_push hA (by omega)
        have hri : RowIn wr N (vs.getD 0 nilV) (x.2.getD 0 []) := rowIn_rowB hB0
        have d0 := hrcell 0 (by omega)
        rw [hsh] at d0 HGF hri
        obtain ⟨-, ⟨-, -, -, -, -, -, -, -, -, -, c21, c22⟩, -⟩ := sh_cells hA.blk
        have HCC : Hid (∀ V, Below wr.heap.size wr V → V.cell? ⟨p, 21, none⟩ = some (.slice ga x.1.gone.length gc) ∧ V.cell? ⟨p, 22, none⟩ = some (.slice (some ⟨rb, 0, none⟩) x.2.length rc) ∧ V.cell? ⟨rb, 0, none⟩ = some (.slice va (x.2.getD 0 []).length vc)) := fun V h => ⟨cell_stay h c21, cell_stay h c22, cell_stay h d0⟩
        have HCL : Hid (∀ V, Below wr.heap.size wr V → Calls Tryz.prog 112 #[.slice ga x.1.gone.length gc] V fun e w' => ∃ a c, e = .returned (.slice a x.1.gone.length c) ∧ w'.ownsRow V.heap.size 22 1 (.slice a x.1.gone.length c) x.1.gone.length gvs ∧ Below V.heap.size V w') := fun V h => cloneVals _ _ gvs V (hA.gone.next h) hA.gin.sls (by have := HGL.out; omega)
        have hNwr : N ≤ wr.heap.size := Nat.le_trans hA.lo (Nat.le_of_lt (heap_lt hA.blk))
        have HFIN : Hid (∀ (U W2 : World) (a ga2 : Option Addr) (c gc2 : Nat), Below wr.heap.size wr U → U.ownsRow wr.heap.size 22 1 (.slice a x.1.gone.length c) x.1.gone.length gvs → W2.ownsRow wr.heap.size 22 1 (.slice ga2 (x.1.gone.length + 1) gc2) (x.1.gone.length + 1) (gvs ++ [.slice va (x.2.getD 0 []).length vc]) → U.grownBy W2 (Value.slice a x.1.gone.length c).ownBlock →
            W2.cell? ⟨p, 21, none⟩ = some (.slice ga x.1.gone.length gc) ∧ W2.frozen? ⟨p, 21, none⟩ = false ∧ Hid (DkX (W2.setCell ⟨p, 21, none⟩ (.slice ga2 (x.1.gone.length + 1) gc2)) N p { x.1 with gone := x.1.gone ++ [x.2.getD 0 []] } x.2 cv tv (.slice ga2 (x.1.gone.length + 1) gc2) (.slice (some ⟨rb, 0, none⟩) x.2.length rc) (gvs ++ [.slice va (x.2.getD 0 []).length vc]) vs gs ∧ (W2.setCell ⟨p, 21, none⟩ (.slice ga2 (x.1.gone.length + 1) gc2)).ownsRow wr.heap.size 22 1 (.slice ga2 (x.1.gone.length + 1) gc2) (x.1.gone.length + 1) (gvs ++ [.slice va (x.2.getD 0 []).length vc]) ∧ Bel N W (W2.setCell ⟨p, 21, none⟩ (.slice ga2 (x.1.gone.length + 1) gc2)))) := fun U W2 a ga2 c gc2 hU hUo hO2 hgr => by
          have hbW : Below wr.heap.size wr W2 := hU.trans (grown_below hgr (fun k e => (owns_block hUo k e).1) hU.size)
          have h2 := hA.next hbW
          have hx := hA.x.goneNew (V := W2) (s' := { x.1 with gone := x.1.gone ++ [x.2.getD 0 []] }) (gv' := .slice ga2 (x.1.gone.length + 1) gc2) (gvs' := gvs ++ [.slice va (x.2.getD 0 []).length vc]) rfl hbW (GoneV.of (by show W2.ownsRow N _ 1 _ (x.1.gone ++ [x.2.getD 0 []]).length _; rw [List.length_append, List.length_singleton]; exact Grd.ownsRow_mono hO2 hNwr)) ((hA.gin.push _ _ hri).keep (Kept.of_below hbW)) (fun q hq e => by
            have q1 := (owns_block hO2 q hq).1
            obtain ⟨-, B, f', hB⟩ := owns_block hA.rws q e
            have q2 := heap_lt hB
            omega)
          exact ⟨(sh_cells h2.blk).2.1.2.2.2.2.2.2.2.2.2.2.1, (sh_cells h2.blk).2.2 21, hx, own_off hO2 h2.blk (by decide), (hBj.next hNwr hbW).setCell hA.lo _⟩
        obtain ⟨i0, hi, hzz⟩ := Option.map_eq_some_iff.1 info_rows
        simp only [Prod.mk.injEq] at hzz
        obtain ⟨hz0, hz1, hz2⟩ := hzz
        have hgl := HGL.out
        have hl0 : (0 : Int) < (x.2.length : Int) := by omega
        have b0 : Below wr.heap.size wr wr.drew := (Below.refl _ _).drew
        have b0b : Below wr.heap.size wr (wr.alloc (.cells #[.slice va (x.2.getD 0 []).length vc] 22)) := (Below.refl _ _).alloc (Nat.le_refl _) _
        have b0a : Below wr.heap.size wr (wr.alloc (.cells #[.slice va (x.2.getD 0 []).length vc] 22)).drew := b0b.drew
        obtain ⟨k21, k22, kd⟩ := HCC.out _ b0
        obtain ⟨l21, l22, ld⟩ := HCC.out _ b0b
        have HNV : Hid (∀ V : World, ∀ j u, [Value.slice va (x.2.getD 0 []).length vc][j]? = some u → (V.alloc (.cells #[.slice va (x.2.getD 0 []).length vc] 22)).cell? ((⟨V.heap.size, 0, none⟩ : Addr).add j) = some u) := fun V => cell_news V _ _
        have HLO : Hid (N ≤ p) := hA.lo
        clear hA hrA hrcell hvl hRj hBj HXN hB0 hsh hri c21 c22 d0
        generalize x.2.getD 0 [] = row0 at *
        go_upto_region 5 with fail
        go_cut [] from 23 to 86 (fun wx => ∃ (ga2 : Option Addr) (gc2 : Nat), DkX wx N p { x.1 with gone := x.1.gone ++ [row0] } x.2 cv tv (.slice ga2 (x.1.gone.length + 1) gc2) (.slice (some ⟨rb, 0, none⟩) x.2.length rc) (gvs ++ [.slice va row0.length vc]) vs gs ∧ wx.ownsRow wr.heap.size 22 1 (.slice ga2 (x.1.gone.length + 1) gc2) (x.1.gone.length + 1) (gvs ++ [.slice va row0.length vc]) ∧ Bel N W wx)
        case first =>
          go_region_law (first
            | (refine step_append_at rfl (.tmp 38) (.tmp 45) 30 rfl wr.heap.size 22 i0 (.slice none 0 0) 1 24 und_rows hi hz0 hz1 hz2 rfl (by decide) (.slice a1 x.1.gone.length c1) x.1.gone.length gvs (by simp [Act.eval, Act.put]) (hO2.alloc _) ⟨V1.heap.size, 0, none⟩ 1 1 [.slice va row0.length vc] (by simp [Act.eval, Act.put]) rfl (HNV.out V1) (by intro u hu; simp at hu; rw [hu]; rfl) (by unfold maxLen; omega) (by omega) (q1.alloc q1.size _).size ?_; intro gv2 W2 hown2 hgr hat; obtain ⟨ga2, gc2, rfl⟩ := own_slice hown2; obtain ⟨z21, zf, HPK⟩ := HFIN.out _ W2 a1 ga2 c1 gc2 (q1.alloc q1.size _) (hO2.alloc _) hown2 hgr)
            | (refine step_append_at rfl (.tmp 38) (.tmp 45) 30 rfl wr.heap.size 22 i0 (.slice none 0 0) 1 24 und_rows hi hz0 hz1 hz2 rfl (by decide) (.slice a1 x.1.gone.length c1) x.1.gone.length gvs (by simp [Act.eval, Act.put]) hO2 ⟨wr.heap.size, 0, none⟩ 1 1 [.slice va row0.length vc] (by simp [Act.eval, Act.put]) rfl (fun jj u hj => cell_stay b1 (HNV.out wr jj u hj)) (by intro u hu; simp at hu; rw [hu]; rfl) (by unfold maxLen; omega) (by omega) q1.size ?_; intro gv2 W2 hown2 hgr hat; obtain ⟨ga2, gc2, rfl⟩ := own_slice hown2; obtain ⟨z21, zf, HPK⟩ := HFIN.out _ W2 a1 ga2 c1 gc2 q1 hO2 hown2 hgr)
            | (go_simp; go_at_call 112; refine (HCL.out _ ?_).mono ?_; (first | exact b0a | exact b0); rintro e V1 ⟨a1, c1, rfl, hO1, b1⟩; have q1 : Below wr.heap.size wr V1 := (by first | exact b0a.trans (b1.mono b0a.size) | exact b0.trans (b1.mono b0.size)); have hO2 := Grd.ownsRow_mono hO1 (by first | exact b0a.size | exact b0.size); obtain ⟨m21, m22, md⟩ := HCC.out _ q1; obtain ⟨n21, n22, nd⟩ := HCC.out _ (q1.alloc q1.size (.cells #[.slice va row0.length vc] 22))))
          all_goals go_wp2_with fail
          all_goals go_meet
          all_goals exact ⟨ga2, gc2, HPK.out⟩
        case rest =>
          obtain ⟨ga2, gc2, hcX, hcO, hcB⟩ := hcut
          have e21 := (sh_cells hcX.blk).2.1.2.2.2.2.2.2.2.2.2.2.1
          have g21 := (sh_cells hcX.blk).2.2 21
          clear HFIN HCL HCC HNV k21 k22 kd l21 l22 ld hi hz0 hz1 hz2 b0 b0a b0b
          by_cases hlt : x.1.gone.length < 50
          · have HN : Hid (iterN (rUp n 0 bot true) (j + 1) (s, rows) = ({ x.1 with gone := x.1.gone ++ [row0] }, replR x.2 n x.1.sb 0 bot)) := by rw [Hid, HN.out]; unfold keepG; rw [if_pos hlt]
            have hl1 : ¬ ((50 : Int) < (x.1.gone.length : Int) + 1) := by omega
            have HYX : Hid (DkX wc.drew N p { x.1 with gone := x.1.gone ++ [row0] } x.2 cv tv (.slice ga2 (x.1.gone.length + 1) gc2) (.slice (some ⟨rb, 0, none⟩) x.2.length rc) (gvs ++ [.slice va row0.length vc]) vs gs) := hcX.next ((Below.refl _ _).drew)
            have HB : Hid (Bel N W wc.drew) := hcB.drew
            clear hcX hcO hcB
            go_upto_region 8 with fail
            clear e21 g21
            have HX : Hid (DkX wc.drew N p { x.1 with gone := x.1.gone ++ [row0] } x.2 cv tv (.slice ga2 (x.1.gone.length + 1) gc2) (.slice (some ⟨rb, 0, none⟩) x.2.length rc) (gvs ++ [.slice va row0.length vc]) vs gs) := HYX.out
            have HDel := delete_own N rb x.2.length rc 0 vs wc.drew HX.out.rws (RowsAt.sls HX.out.rin) (by have := HRL.out; omega)
            rw [show ((0 + 1 : Nat) : Int) = (0 : Int) + 1 by omega] at HDel
            have HEM : Hid (∀ V1 : World, (∀ q, q ≠ rb → V1.heap[q]? = wc.drew.heap[q]?) → Calls Tryz.prog 79 #[.pointer (some ⟨p, 0, none⟩)] V1 fun e W' => ∃ v g, e = .returned v ∧ V1.heap.size ≤ g ∧ RowB W' g v (List.replicate n (32, 0, x.1.sb, 0)) ∧ Below V1.heap.size V1 W') := fun V1 h1 => by
              have hp1 := (h1 p hpr).trans HX.out.blk
              obtain ⟨⟨q0, -, -, -, -, -, -, q7, -⟩, -, -⟩ := sh_cells hp1
              have q0 : V1.cell? ⟨p, 0, none⟩ = some (.int .i64 x.1.w) := q0
              have q7 : V1.cell? ⟨p, 7, none⟩ = some (.int .i64 x.1.sb) := q7
              rw [HW.out] at q0
              exact emptyS_any p n x.1.sb V1 q0 q7 hn1 hn2
            have HINS : Hid (∀ (V1 V2 : World) (a : Option Addr) (c g : Nat), V1.ownsRow N 22 1 (.slice (some ⟨rb, 0, none⟩) (x.2.length - 1) rc) (x.2.length - 1) (vs.eraseIdx 0) → (∀ q, q ≠ rb → V1.heap[q]? = wc.drew.heap[q]?) → Below rb wc.drew V1 → Below V1.heap.size V1 V2 → V1.heap.size ≤ g → RowB V2 g (.slice a n c) (List.replicate n (32, 0, x.1.sb, 0)) → _) := fun V1 V2 a c g z1 z2 z3 z4 z5 z6 => roll_insI (fresh := bot) (bot := bot) HX.out HGF.out HBO.out hrc1 (by have := HRL.out; omega) (by have := HRL.out; omega) V1 V2 a c g z1 z2 z3 z4 z5 z6
            have SK : Hid (∀ V : World, (∀ q, q < wc.drew.heap.size → q ≠ rb → V.heap[q]? = wc.drew.heap[q]?) → V.cell? ⟨p, 10, none⟩ = some (.int .i64 (bot : Int)) ∧ V.cell? ⟨p, 22, none⟩ = some (.slice (some ⟨rb, 0, none⟩) x.2.length rc)) := fun V h => by
              have hp1 := (h p (heap_lt HX.out.blk) hpr).trans HX.out.blk
              obtain ⟨⟨-, -, -, -, -, -, -, -, -, -, q10⟩, ⟨-, -, -, -, -, -, -, -, -, -, -, q22⟩, -⟩ := sh_cells hp1
              have q10 : V.cell? ⟨p, 10, none⟩ = some (.int .i64 x.1.bot) := q10
              rw [HBO.out] at q10
              exact ⟨q10, q22⟩
            have e0 := SK.out wc.drew (fun _ _ _ => rfl)
            go_region_held3 (fun w' => w'.cell? ⟨p, 10, none⟩ = some (.int .i64 (bot : Int)) ∧ w'.cell? ⟨p, 22, none⟩ = some (.slice (some ⟨rb, 0, none⟩) x.2.length rc))
              (first | exact e5 | exact e4 | exact e3 | exact e2 | exact e1 | exact e0)
              (first
                | (go_at_call 117; refine HDel.mono ?_; rintro e V1 ⟨rfl, hO1, hk1, hb1⟩; have HE1 := HEM.out V1 hk1; have e1 := SK.out V1 (fun q _ hn => hk1 q hn))
                | (go_at_call 79; refine HE1.mono ?_; rintro e V2 ⟨v, g, rfl, hg1, hR2, b2⟩; obtain ⟨na, nc, hv2⟩ := rowB_shapeS hR2; rw [List.length_replicate] at hv2; subst hv2; have hI := HINS.out V1 V2 na nc g hO1 hk1 hb1 b2 hg1 hR2; have e2 := SK.out V2 (fun q hq hn => (b2.block q (Nat.lt_of_lt_of_le hq hb1.size)).trans (hk1 q hn)); have e3 := SK.out (V2.alloc (.cells #[.slice na n nc] 22)) (fun q hq hn => (Below.heap_alloc _ _ _ (Nat.lt_of_lt_of_le hq (Nat.le_trans hb1.size b2.size))).trans ((b2.block q (Nat.lt_of_lt_of_le hq hb1.size)).trans (hk1 q hn))))
                | (go_at_call 116; refine hI.mono ?_; rintro e V3 ⟨rfl, z10, z22, zf, HFI⟩; have e4 := And.intro z10 z22; have e5 := HFI.out.1))
            go_wp2_with fail
            go_roundg (k - 1)
            case measure => omega
            case rel => exact ⟨k - 1, j + 1, by first | rfl | simp, Nat.le_refl _, by omega, HRN.out, by rw [HN.out]; exact HFI.out.2.1, HB.out.trans HFI.out.2.2⟩
          · have HN : Hid (iterN (rUp n 0 bot true) (j + 1) (s, rows) = ({ x.1 with gone := (x.1.gone ++ [row0]).eraseIdx 0 }, replR x.2 n x.1.sb 0 bot)) := by rw [Hid, HN.out]; unfold keepG; rw [if_neg hlt]
            have hl1 : (50 : Int) < (x.1.gone.length : Int) + 1 := by omega
            obtain ⟨g2, cap2, hgv2, hg2N, hg2c, hg2m, hg2l, hg2cell, B2, hB2⟩ := own_cells hcO (by omega)
            injection hgv2 with e1 _ e3
            subst e1 e3
            have hlen : (x.1.gone ++ [row0]).length = x.1.gone.length + 1 := by simp
            have hYX : DkX (wc.setCell ⟨p, 21, none⟩ (.slice (some ⟨g2, 1, none⟩) x.1.gone.length (gc2 - 1))) N p { x.1 with gone := (x.1.gone ++ [row0]).eraseIdx 0 } x.2 cv tv (.slice (some ⟨g2, 1, none⟩) x.1.gone.length (gc2 - 1)) (.slice (some ⟨rb, 0, none⟩) x.2.length rc) ((gvs ++ [Value.slice va row0.length vc]).eraseIdx 0) vs gs :=
              hcX.goneNew (V := wc) (s' := { x.1 with gone := (x.1.gone ++ [row0]).eraseIdx 0 }) rfl (Below.refl _ _) (by
                have hl2 : ((x.1.gone ++ [row0]).eraseIdx 0).length = x.1.gone.length := by rw [List.length_eraseIdx_of_lt (by omega), hlen]; omega
                show GoneV wc N _ ((x.1.gone ++ [row0]).eraseIdx 0).length _
                rw [hl2]
                refine ⟨by rw [List.length_eraseIdx_of_lt (by omega), hg2l]; omega, .inr ⟨g2, 1, gc2 - 1, B2, rfl, by omega, by omega, by omega, hB2, fun q hq => ?_⟩⟩
                have e := hg2cell (q + 1) (by omega)
                simp only [World.cell?, hB2] at e
                simp only [Option.isSome_none, Bool.false_eq_true, if_false] at e
                rw [getD_erase, if_neg (by omega), Nat.add_comm 1 q]
                exact e) (hcX.gin.erase 0 (by show 0 < (x.1.gone ++ [row0]).length; omega)) (fun q hq e => hcX.two q e (by rw [← hq]; rfl))
            have HB : Hid (Bel N W (wc.setCell ⟨p, 21, none⟩ (.slice (some ⟨g2, 1, none⟩) x.1.gone.length (gc2 - 1))).drew) := (hcB.setCell HLO.out _).drew
            have HYX : Hid (DkX (wc.setCell ⟨p, 21, none⟩ (.slice (some ⟨g2, 1, none⟩) x.1.gone.length (gc2 - 1))).drew N p { x.1 with gone := (x.1.gone ++ [row0]).eraseIdx 0 } x.2 cv tv (.slice (some ⟨g2, 1, none⟩) x.1.gone.length (gc2 - 1)) (.slice (some ⟨rb, 0, none⟩) x.2.length rc) ((gvs ++ [Value.slice va row0.length vc]).eraseIdx 0) vs gs) := hYX.next ((Below.refl _ _).drew)
            have hc1 : ¬ gc2 = 1 := by omega
            have hc2 : 1 ≤ x.1.gone.length + 1 := by omega
            clear hcX hcO hcB hYX hg2cell hg2l hB2 hlen
            go_upto_region 8 with fail
            clear e21 g21
            generalize hYW : wc.setCell ⟨p, 21, none⟩ (.slice (some ⟨g2, 1, none⟩) x.1.gone.length (gc2 - 1)) = YZ at *
            have HX : Hid (DkX YZ.drew N p { x.1 with gone := (x.1.gone ++ [row0]).eraseIdx 0 } x.2 cv tv (.slice (some ⟨g2, 1, none⟩) x.1.gone.length (gc2 - 1)) (.slice (some ⟨rb, 0, none⟩) x.2.length rc) ((gvs ++ [Value.slice va row0.length vc]).eraseIdx 0) vs gs) := HYX.out
            have HDel := delete_own N rb x.2.length rc 0 vs YZ.drew HX.out.rws (RowsAt.sls HX.out.rin) (by have := HRL.out; omega)
            rw [show ((0 + 1 : Nat) : Int) = (0 : Int) + 1 by omega] at HDel
            have HEM : Hid (∀ V1 : World, (∀ q, q ≠ rb → V1.heap[q]? = YZ.drew.heap[q]?) → Calls Tryz.prog 79 #[.pointer (some ⟨p, 0, none⟩)] V1 fun e W' => ∃ v g, e = .returned v ∧ V1.heap.size ≤ g ∧ RowB W' g v (List.replicate n (32, 0, x.1.sb, 0)) ∧ Below V1.heap.size V1 W') := fun V1 h1 => by
              have hp1 := (h1 p hpr).trans HX.out.blk
              obtain ⟨⟨q0, -, -, -, -, -, -, q7, -⟩, -, -⟩ := sh_cells hp1
              have q0 : V1.cell? ⟨p, 0, none⟩ = some (.int .i64 x.1.w) := q0
              have q7 : V1.cell? ⟨p, 7, none⟩ = some (.int .i64 x.1.sb) := q7
              rw [HW.out] at q0
              exact emptyS_any p n x.1.sb V1 q0 q7 hn1 hn2
            have HINS : Hid (∀ (V1 V2 : World) (a : Option Addr) (c g : Nat), V1.ownsRow N 22 1 (.slice (some ⟨rb, 0, none⟩) (x.2.length - 1) rc) (x.2.length - 1) (vs.eraseIdx 0) → (∀ q, q ≠ rb → V1.heap[q]? = YZ.drew.heap[q]?) → Below rb YZ.drew V1 → Below V1.heap.size V1 V2 → V1.heap.size ≤ g → RowB V2 g (.slice a n c) (List.replicate n (32, 0, x.1.sb, 0)) → _) := fun V1 V2 a c g z1 z2 z3 z4 z5 z6 => roll_insI (fresh := bot) (bot := bot) HX.out (gone_cut HGF.out) HBO.out hrc1 (by have := HRL.out; omega) (by have := HRL.out; omega) V1 V2 a c g z1 z2 z3 z4 z5 z6
            have SK : Hid (∀ V : World, (∀ q, q < YZ.drew.heap.size → q ≠ rb → V.heap[q]? = YZ.drew.heap[q]?) → V.cell? ⟨p, 10, none⟩ = some (.int .i64 (bot : Int)) ∧ V.cell? ⟨p, 22, none⟩ = some (.slice (some ⟨rb, 0, none⟩) x.2.length rc)) := fun V h => by
              have hp1 := (h p (heap_lt HX.out.blk) hpr).trans HX.out.blk
              obtain ⟨⟨-, -, -, -, -, -, -, -, -, -, q10⟩, ⟨-, -, -, -, -, -, -, -, -, -, -, q22⟩, -⟩ := sh_cells hp1
              have q10 : V.cell? ⟨p, 10, none⟩ = some (.int .i64 x.1.bot) := q10
              rw [HBO.out] at q10
              exact ⟨q10, q22⟩
            have e0 := SK.out YZ.drew (fun _ _ _ => rfl)
            go_region_held3 (fun w' => w'.cell? ⟨p, 10, none⟩ = some (.int .i64 (bot : Int)) ∧ w'.cell? ⟨p, 22, none⟩ = some (.slice (some ⟨rb, 0, none⟩) x.2.length rc))
              (first | exact e5 | exact e4 | exact e3 | exact e2 | exact e1 | exact e0)
              (first
                | (go_at_call 117; refine HDel.mono ?_; rintro e V1 ⟨rfl, hO1, hk1, hb1⟩; have HE1 := HEM.out V1 hk1; have e1 := SK.out V1 (fun q _ hn => hk1 q hn))
                | (go_at_call 79; refine HE1.mono ?_; rintro e V2 ⟨v, g, rfl, hg1, hR2, b2⟩; obtain ⟨na, nc, hv2⟩ := rowB_shapeS hR2; rw [List.length_replicate] at hv2; subst hv2; have hI := HINS.out V1 V2 na nc g hO1 hk1 hb1 b2 hg1 hR2; have e2 := SK.out V2 (fun q hq hn => (b2.block q (Nat.lt_of_lt_of_le hq hb1.size)).trans (hk1 q hn)); have e3 := SK.out (V2.alloc (.cells #[.slice na n nc] 22)) (fun q hq hn => (Below.heap_alloc _ _ _ (Nat.lt_of_lt_of_le hq (Nat.le_trans hb1.size b2.size))).trans ((b2.block q (Nat.lt_of_lt_of_le hq hb1.size)).trans (hk1 q hn))))
                | (go_at_call 116; refine hI.mono ?_; rintro e V3 ⟨rfl, z10, z22, zf, HFI⟩; have e4 := And.intro z10 z22; have e5 := HFI.out.1))
            go_wp2_with fail
            go_roundg (k - 1)
            case measure => omega
            case rel => exact ⟨k - 1, j + 1, by first | rfl | simp, Nat.le_refl _, by omega, HRN.out, by rw [HN.out]; exact HFI.out.2.1, HB.out.trans HFI.out.2.2⟩
      · have HXN : Hid (rUp n top bot keep x = (x.1, replR x.2 n x.1.sb top bot)) := by unfold Hid rUp; rw [if_neg hkt]
        have HN : Hid (iterN (rUp n top bot keep) (j + 1) (s, rows) = (x.1, replR x.2 n x.1.sb top bot)) := HN.out.trans HXN.out
        have HAA : Hid (DkA wr.drew N p x.1 x.2 cv tv gv (.slice (some ⟨rb, 0, none⟩) x.2.length rc) gvs vs gs) := hA.next ((Below.refl _ _).drew)
        have HB : Hid (Bel N W wr.drew) := hBj.drew
        have hcond : ((top : Int) == 0) = false ∨ (((top : Int) == 0) = true ∧ keep = false) := by
          by_cases ht : top = 0
          · right
            refine ⟨by simp [ht], ?_⟩
            cases keep with
            | true => exact absurd ⟨ht, rfl⟩ hkt
            | false => rfl
          · left
            simp only [beq_eq_false_iff_ne, ne_eq]
            omega
        clear hA hrA hrcell hvl hRj hBj hkt HXN
        rcases hcond with hc0 | ⟨hc0, hc1⟩
        · go_upto_region 8 with fail
          have HX : Hid (DkX wr.drew N p x.1 x.2 cv tv gv (.slice (some ⟨rb, 0, none⟩) x.2.length rc) gvs vs gs) := HAA.out.x
          have HDel := delete_own N rb x.2.length rc top vs wr.drew HX.out.rws (RowsAt.sls HX.out.rin) (by have := HRL.out; omega)
          rw [show ((top + 1 : Nat) : Int) = (top : Int) + 1 by omega] at HDel
          have HEM : Hid (∀ V1 : World, (∀ q, q ≠ rb → V1.heap[q]? = wr.drew.heap[q]?) → Calls Tryz.prog 79 #[.pointer (some ⟨p, 0, none⟩)] V1 fun e W' => ∃ v g, e = .returned v ∧ V1.heap.size ≤ g ∧ RowB W' g v (List.replicate n (32, 0, x.1.sb, 0)) ∧ Below V1.heap.size V1 W') := fun V1 h1 => by
            have hp1 := (h1 p hpr).trans HX.out.blk
            obtain ⟨⟨q0, -, -, -, -, -, -, q7, -⟩, -, -⟩ := sh_cells hp1
            have q0 : V1.cell? ⟨p, 0, none⟩ = some (.int .i64 x.1.w) := q0
            have q7 : V1.cell? ⟨p, 7, none⟩ = some (.int .i64 x.1.sb) := q7
            rw [HW.out] at q0
            exact emptyS_any p n x.1.sb V1 q0 q7 hn1 hn2
          have HINS : Hid (∀ (V1 V2 : World) (a : Option Addr) (c g : Nat), V1.ownsRow N 22 1 (.slice (some ⟨rb, 0, none⟩) (x.2.length - 1) rc) (x.2.length - 1) (vs.eraseIdx top) → (∀ q, q ≠ rb → V1.heap[q]? = wr.drew.heap[q]?) → Below rb wr.drew V1 → Below V1.heap.size V1 V2 → V1.heap.size ≤ g → RowB V2 g (.slice a n c) (List.replicate n (32, 0, x.1.sb, 0)) → _) := fun V1 V2 a c g z1 z2 z3 z4 z5 z6 => roll_insI (fresh := bot) (bot := bot) HX.out (fun i hi hn q hq hm => HAA.out.gof i hi hn q hq (List.mem_of_mem_eraseIdx hm)) HBO.out hrc1 (by have := HRL.out; omega) (by have := HRL.out; omega) V1 V2 a c g z1 z2 z3 z4 z5 z6
          have SK : Hid (∀ V : World, (∀ q, q < wr.drew.heap.size → q ≠ rb → V.heap[q]? = wr.drew.heap[q]?) → V.cell? ⟨p, 10, none⟩ = some (.int .i64 (bot : Int)) ∧ V.cell? ⟨p, 22, none⟩ = some (.slice (some ⟨rb, 0, none⟩) x.2.length rc)) := fun V h => by
            have hp1 := (h p (heap_lt HX.out.blk) hpr).trans HX.out.blk
            obtain ⟨⟨-, -, -, -, -, -, -, -, -, -, q10⟩, ⟨-, -, -, -, -, -, -, -, -, -, -, q22⟩, -⟩ := sh_cells hp1
            have q10 : V.cell? ⟨p, 10, none⟩ = some (.int .i64 x.1.bot) := q10
            rw [HBO.out] at q10
            exact ⟨q10, q22⟩
          have e0 := SK.out wr.drew (fun _ _ _ => rfl)
          go_region_held3 (fun w' => w'.cell? ⟨p, 10, none⟩ = some (.int .i64 (bot : Int)) ∧ w'.cell? ⟨p, 22, none⟩ = some (.slice (some ⟨rb, 0, none⟩) x.2.length rc))
            (first | exact e5 | exact e4 | exact e3 | exact e2 | exact e1 | exact e0)
            (first
              | (go_at_call 117; refine HDel.mono ?_; rintro e V1 ⟨rfl, hO1, hk1, hb1⟩; have HE1 := HEM.out V1 hk1; have e1 := SK.out V1 (fun q _ hn => hk1 q hn))
              | (go_at_call 79; refine HE1.mono ?_; rintro e V2 ⟨v, g, rfl, hg1, hR2, b2⟩; obtain ⟨na, nc, hv2⟩ := rowB_shapeS hR2; rw [List.length_replicate] at hv2; subst hv2; have hI := HINS.out V1 V2 na nc g hO1 hk1 hb1 b2 hg1 hR2; have e2 := SK.out V2 (fun q hq hn => (b2.block q (Nat.lt_of_lt_of_le hq hb1.size)).trans (hk1 q hn)); have e3 := SK.out (V2.alloc (.cells #[.slice na n nc] 22)) (fun q hq hn => (Below.heap_alloc _ _ _ (Nat.lt_of_lt_of_le hq (Nat.le_trans hb1.size b2.size))).trans ((b2.block q (Nat.lt_of_lt_of_le hq hb1.size)).trans (hk1 q hn))))
              | (go_at_call 116; refine hI.mono ?_; rintro e V3 ⟨rfl, z10, z22, zf, HFI⟩; have e4 := And.intro z10 z22; have e5 := HFI.out.1))
          go_wp2_with fail
          go_roundg (k - 1)
          case measure => omega
          case rel => exact ⟨k - 1, j + 1, by first | rfl | simp, Nat.le_refl _, by omega, HRN.out, by rw [HN.out]; exact HFI.out.2.1, HB.out.trans HFI.out.2.2⟩
        · subst hc1
          go_upto_region 8 with fail
          have HX : Hid (DkX wr.drew N p x.1 x.2 cv tv gv (.slice (some ⟨rb, 0, none⟩) x.2.length rc) gvs vs gs) := HAA.out.x
          have HDel := delete_own N rb x.2.length rc top vs wr.drew HX.out.rws (RowsAt.sls HX.out.rin) (by have := HRL.out; omega)
          rw [show ((top + 1 : Nat) : Int) = (top : Int) + 1 by omega] at HDel
          have HEM : Hid (∀ V1 : World, (∀ q, q ≠ rb → V1.heap[q]? = wr.drew.heap[q]?) → Calls Tryz.prog 79 #[.pointer (some ⟨p, 0, none⟩)] V1 fun e W' => ∃ v g, e = .returned v ∧ V1.heap.size ≤ g ∧ RowB W' g v (List.replicate n (32, 0, x.1.sb, 0)) ∧ Below V1.heap.size V1 W') := fun V1 h1 => by
            have hp1 := (h1 p hpr).trans HX.out.blk
            obtain ⟨⟨q0, -, -, -, -, -, -, q7, -⟩, -, -⟩ := sh_cells hp1
            have q0 : V1.cell? ⟨p, 0, none⟩ = some (.int .i64 x.1.w) := q0
            have q7 : V1.cell? ⟨p, 7, none⟩ = some (.int .i64 x.1.sb) := q7
            rw [HW.out] at q0
            exact emptyS_any p n x.1.sb V1 q0 q7 hn1 hn2
          have HINS : Hid (∀ (V1 V2 : World) (a : Option Addr) (c g : Nat), V1.ownsRow N 22 1 (.slice (some ⟨rb, 0, none⟩) (x.2.length - 1) rc) (x.2.length - 1) (vs.eraseIdx top) → (∀ q, q ≠ rb → V1.heap[q]? = wr.drew.heap[q]?) → Below rb wr.drew V1 → Below V1.heap.size V1 V2 → V1.heap.size ≤ g → RowB V2 g (.slice a n c) (List.replicate n (32, 0, x.1.sb, 0)) → _) := fun V1 V2 a c g z1 z2 z3 z4 z5 z6 => roll_insI (fresh := bot) (bot := bot) HX.out (fun i hi hn q hq hm => HAA.out.gof i hi hn q hq (List.mem_of_mem_eraseIdx hm)) HBO.out hrc1 (by have := HRL.out; omega) (by have := HRL.out; omega) V1 V2 a c g z1 z2 z3 z4 z5 z6
          have SK : Hid (∀ V : World, (∀ q, q < wr.drew.heap.size → q ≠ rb → V.heap[q]? = wr.drew.heap[q]?) → V.cell? ⟨p, 10, none⟩ = some (.int .i64 (bot : Int)) ∧ V.cell? ⟨p, 22, none⟩ = some (.slice (some ⟨rb, 0, none⟩) x.2.length rc)) := fun V h => by
            have hp1 := (h p (heap_lt HX.out.blk) hpr).trans HX.out.blk
            obtain ⟨⟨-, -, -, -, -, -, -, -, -, -, q10⟩, ⟨-, -, -, -, -, -, -, -, -, -, -, q22⟩, -⟩ := sh_cells hp1
            have q10 : V.cell? ⟨p, 10, none⟩ = some (.int .i64 x.1.bot) := q10
            rw [HBO.out] at q10
            exact ⟨q10, q22⟩
          have e0 := SK.out wr.drew (fun _ _ _ => rfl)
          go_region_held3 (fun w' => w'.cell? ⟨p, 10, none⟩ = some (.int .i64 (bot : Int)) ∧ w'.cell? ⟨p, 22, none⟩ = some (.slice (some ⟨rb, 0, none⟩) x.2.length rc))
            (first | exact e5 | exact e4 | exact e3 | exact e2 | exact e1 | exact e0)
            (first
              | (go_at_call 117; refine HDel.mono ?_; rintro e V1 ⟨rfl, hO1, hk1, hb1⟩; have HE1 := HEM.out V1 hk1; have e1 := SK.out V1 (fun q _ hn => hk1 q hn))
              | (go_at_call 79; refine HE1.mono ?_; rintro e V2 ⟨v, g, rfl, hg1, hR2, b2⟩; obtain ⟨na, nc, hv2⟩ := rowB_shapeS hR2; rw [List.length_replicate] at hv2; subst hv2; have hI := HINS.out V1 V2 na nc g hO1 hk1 hb1 b2 hg1 hR2; have e2 := SK.out V2 (fun q hq hn => (b2.block q (Nat.lt_of_lt_of_le hq hb1.size)).trans (hk1 q hn)); have e3 := SK.out (V2.alloc (.cells #[.slice na n nc] 22)) (fun q hq hn => (Below.heap_alloc _ _ _ (Nat.lt_of_lt_of_le hq (Nat.le_trans hb1.size b2.size))).trans ((b2.block q (Nat.lt_of_lt_of_le hq hb1.size)).trans (hk1 q hn))))
              | (go_at_call 116; refine hI.mono ?_; rintro e V3 ⟨rfl, z10, z22, zf, HFI⟩; have e4 := And.intro z10 z22; have e5 := HFI.out.1))
          go_wp2_with fail
          go_roundg (k - 1)
          case measure => omega
          case rel => exact ⟨k - 1, j + 1, by first | rfl | simp, Nat.le_refl _, by omega, HRN.out, by rw [HN.out]; exact HFI.out.2.1, HB.out.trans HFI.out.2.2⟩
theorem roll_up (N p n top bot hh K : Nat) (bk : Int) (s : Scr) (rows : List (List C)) (W : World) (keep : Bool) (m : Int) (hD : DkAt W N p s rows) (hR : Rolls n bot hh bk (s, rows)) (hn1 : 1 ≤ n) (hn2 : n ≤ 120) (htb : top ≤ bot) (hbh : bot < hh) (hh60 : hh ≤ 60) (hK : max (-((bot : Int) - top + 1)) (min m ((bot : Int) - top + 1)) = (K : Int)) :
    Calls Tryz.prog 85 #[.pointer (some ⟨p, 0, none⟩), .int .i64 (top : Int), .int .i64 m, .bool keep] W fun e W' => e = .returned (.tuple #[]) ∧ DkAt W' N p (iterN (rUp n top bot keep) K (s, rows)).1 (iterN (rUp n top bot keep) K (s, rows)).2 ∧ Below N W W' :=
  (roll_upI N p n top bot hh K bk s rows W keep m hD hR hn1 hn2 htb hbh hh60 hK).mono fun _ _ h => ⟨h.1, h.2.1, h.2.2.b⟩
end Put
end Go.Proofs.YtmhmmpicedlcpaaGreatDoor

/- The reference's desk: Roll, down. -/
namespace Go.Proofs.YtmhmmpicedlcpaaGreatDoor
open Go.ChangeShapes Go.WideShapes Go.ChangeAt Go.RowKit
namespace Put
open Grd (C SliceAt CellsAt gridErr z0 nilV flat rowsL OwnG RowB RowsAt)
set_option linter.unusedSimpArgs false in
set_option maxHeartbeats 8000000 in
set_option maxRecDepth 100000 in
theorem roll_dn (N p n top bot hh K : Nat) (bk : Int) (s : Scr) (rows : List (List C)) (W : World) (keep : Bool) (m : Int) (hD : DkAt W N p s rows) (hR : Rolls n bot hh bk (s, rows)) (hn1 : 1 ≤ n) (hn2 : n ≤ 120) (htb : top ≤ bot) (hbh : bot < hh) (hh60 : hh ≤ 60) (hK : max (-((bot : Int) - top + 1)) (min m ((bot : Int) - top + 1)) = -(K : Int)) :
    Calls Tryz.prog 85 #[.pointer (some ⟨p, 0, none⟩), .int .i64 (top : Int), .int .i64 m, .bool keep] W fun e W' => e = .returned (.tuple #[]) ∧ DkAt W' N p (iterN (rDn n top bot) K (s, rows)).1 (iterN (rDn n top bot) K (s, rows)).2 ∧ Below N W W' := by
  obtain ⟨c0, c1, c3, c4, c5, c9, c10, c11, c19, f⟩ := hD.words
  have hb0 : s.bot = bot := hR.b
  rw [hb0] at c10
  have h1 := Grd.min2 m ((bot : Int) - top + 1)
  have h2 := Grd.max2 (-((bot : Int) - top + 1)) (min m ((bot : Int) - top + 1))
  rw [hK] at h2
  have HD : Hid (DkAt W N p s rows) := hD
  have HR : Hid (Rolls n bot hh bk (s, rows)) := hR
  have hw1 : IntKind.i64.wrap ((bot : Int) - top) = (bot : Int) - top := wrap_id _ (by omega) (by omega)
  have hw2 : IntKind.i64.wrap ((bot : Int) - top + 1) = (bot : Int) - top + 1 := wrap_id _ (by omega) (by omega)
  have hw3 : IntKind.i64.wrap (-((bot : Int) - top + 1)) = -((bot : Int) - top + 1) := wrap_id _ (by omega) (by omega)
  have hKle : K ≤ 60 := by omega
  clear hD hR c0 c1 c3 c4 c5 c9 c11 c19 f hK hb0
  go_enter Tryz.func85, Tryz.ntmps85
  go_wp2_with fail
  go_loopg [2] 0 (fun _ v wr => v = .int .i64 (-(K : Int)) ∧ wr = W)
  case atStart => exact ⟨rfl, rfl⟩
  case round =>
    obtain ⟨rfl, hww⟩ := hrel
    have hww := hww.symm
    subst hww
    have lt0 : ¬ ((0 : Int) < -(K : Int)) := by omega
    go_wp2_with fail
    go_loopg [2] K (fun q v w2 => ∃ k j : Nat, v = .int .i64 (-(k : Int)) ∧ k ≤ q ∧ k + j = K ∧ Rolls n bot hh bk (iterN (rDn n top bot) j (s, rows)) ∧ DkAt w2 N p (iterN (rDn n top bot) j (s, rows)).1 (iterN (rDn n top bot) j (s, rows)).2 ∧ Below N W w2)
    case atStart => exact ⟨K, 0, rfl, Nat.le_refl _, by omega, HR.out, HD.out, Below.refl _ _⟩
    case round =>
      obtain ⟨k, j, rfl, hkq, hkj, hRj, hDj, hBj⟩ := hrel
      by_cases hk0 : k = 0
      · subst hk0
        have ej : j = K := by omega
        subst ej
        go_wp2_with fail
        go_end0
        exact ⟨rfl, hDj, hBj⟩
      · have lt1 : -(k : Int) < 0 := by omega
        have HN : Hid (iterN (rDn n top bot) (j + 1) (s, rows) = rDn n top bot (iterN (rDn n top bot) j (s, rows))) := rfl
        have hw4 : IntKind.i64.wrap (-(k : Int) + 1) = -((k - 1 : Nat) : Int) := by rw [wrap_id _ (by omega) (by omega)]; omega
        generalize iterN (rDn n top bot) j (s, rows) = x at hRj hDj HN
        obtain ⟨cv, tv, gv, rv, gvs, vs, gs, hA⟩ := hDj
        have hrl := hRj.r
        have hwn := hRj.w
        have hbn := hRj.b
        obtain ⟨rb, rc, hrv, hrb, hrc1, hrc2, hvl, hrcell, A, hrA⟩ := own_cells hA.rws (by omega)
        subst hrv
        have hpr : p ≠ rb := by
          intro e
          rw [← e, hA.blk] at hrA
          injection hrA with hrA
          injection hrA with _ hrA _
          exact absurd hrA (by decide)
        have b0 : Below wr.heap.size wr wr.drew := (Below.refl _ _).drew
        have hX := hA.next b0
        obtain ⟨⟨d0, -, -, -, -, -, -, d7, -, -, d10⟩, ⟨-, -, -, -, -, -, -, -, -, -, -, d22⟩, -⟩ := sh_cells hX.blk
        rw [hwn] at d0
        rw [hbn] at d10
        have HRN : Hid (Rolls n bot hh bk (iterN (rDn n top bot) (j + 1) (s, rows))) := by rw [Hid, HN.out]; exact hRj.dn top (by omega) hbh
        have HDel := delete_own N rb x.2.length rc bot vs wr.drew hX.rws (RowsAt.sls hX.rin) (by omega)
        rw [show ((bot + 1 : Nat) : Int) = (bot : Int) + 1 by omega] at HDel
        have HEM : Hid (∀ V1 : World, (∀ q, q ≠ rb → V1.heap[q]? = wr.drew.heap[q]?) → Calls Tryz.prog 79 #[.pointer (some ⟨p, 0, none⟩)] V1 fun e W' => ∃ v g, e = .returned v ∧ V1.heap.size ≤ g ∧ RowB W' g v (List.replicate n (32, 0, x.1.sb, 0)) ∧ Below V1.heap.size V1 W') := fun V1 h1 => by
          have hp1 := (h1 p hpr).trans hX.blk
          obtain ⟨⟨q0, -, -, -, -, -, -, q7, -⟩, -, -⟩ := sh_cells hp1
          rw [hwn] at q0
          exact emptyS_any p n x.1.sb V1 q0 q7 hn1 hn2
        have HINS : Hid (∀ (V1 V2 : World) (a : Option Addr) (c g : Nat), V1.ownsRow N 22 1 (.slice (some ⟨rb, 0, none⟩) (x.2.length - 1) rc) (x.2.length - 1) (vs.eraseIdx bot) → (∀ q, q ≠ rb → V1.heap[q]? = wr.drew.heap[q]?) → Below rb wr.drew V1 → Below V1.heap.size V1 V2 → V1.heap.size ≤ g → RowB V2 g (.slice a n c) (List.replicate n (32, 0, x.1.sb, 0)) → _) := fun V1 V2 a c g z1 z2 z3 z4 z5 z6 => roll_ins (fresh := top) hX.x (fun i hi hn q hq hm => hX.gof i hi hn q hq (List.mem_of_mem_eraseIdx hm)) hbn hrc1 (by omega) (by omega) V1 V2 a c g z1 z2 z3 z4 z5 z6
        have HB : Hid (Below N W wr.drew) := hBj.drew
        have HX : Hid (DkA wr.drew N p x.1 x.2 cv tv gv (.slice (some ⟨rb, 0, none⟩) x.2.length rc) gvs vs gs) := hX
        have hwb : IntKind.i64.wrap ((bot : Int) + 1) = (bot : Int) + 1 := wrap_id _ (by omega) (by omega)
        clear hA hX hrA hrcell hvl hRj hBj HD HR h1 h2 hw1 hw2 hw3 c10 d0 d7 lt0
        have SK : Hid (∀ V : World, (∀ q, q < wr.heap.size → q ≠ rb → V.heap[q]? = wr.drew.heap[q]?) → V.cell? ⟨p, 10, none⟩ = some (.int .i64 (bot : Int)) ∧ V.cell? ⟨p, 22, none⟩ = some (.slice (some ⟨rb, 0, none⟩) x.2.length rc)) := fun V h => by
          have hp1 := (h p (heap_lt HX.out.blk) hpr).trans HX.out.blk
          obtain ⟨⟨-, -, -, -, -, -, -, -, -, -, q10⟩, ⟨-, -, -, -, -, -, -, -, -, -, -, q22⟩, -⟩ := sh_cells hp1
          rw [hbn] at q10
          exact ⟨q10, q22⟩
        clear hrl hwn hbn
        go_upto_region 11 with fail
        have e0 := SK.out wr.drew (fun _ _ _ => rfl)
        go_region_held3 (fun w' => w'.cell? ⟨p, 10, none⟩ = some (.int .i64 (bot : Int)) ∧ w'.cell? ⟨p, 22, none⟩ = some (.slice (some ⟨rb, 0, none⟩) x.2.length rc))
          (first | exact e5 | exact e4 | exact e3 | exact e2 | exact e1 | exact e0)
          (first
            | (go_at_call 117; refine HDel.mono ?_; rintro e V1 ⟨rfl, hO1, hk1, hb1⟩; have HE1 := HEM.out V1 hk1; have e1 := SK.out V1 (fun q _ hn => hk1 q hn))
            | (go_at_call 79; refine HE1.mono ?_; rintro e V2 ⟨v, g, rfl, hg1, hR2, b2⟩; obtain ⟨na, nc, hv2⟩ := rowB_shapeS hR2; rw [List.length_replicate] at hv2; subst hv2; have hI := HINS.out V1 V2 na nc g hO1 hk1 hb1 b2 hg1 hR2; have e2 := SK.out V2 (fun q hq hn => (b2.block q (Nat.lt_of_lt_of_le hq hb1.size)).trans (hk1 q hn)); have e3 := SK.out (V2.alloc (.cells #[.slice na n nc] 22)) (fun q hq hn => (Below.heap_alloc _ _ _ (Nat.lt_of_lt_of_le hq (Nat.le_trans hb1.size b2.size))).trans ((b2.block q (Nat.lt_of_lt_of_le hq hb1.size)).trans (hk1 q hn))))
            | (go_at_call 116; refine hI.mono ?_; rintro e V3 ⟨rfl, z10, z22, zf, HFI⟩; have e4 := And.intro z10 z22; have e5 : (V3.setCell ⟨p, 22, none⟩ (.slice (some ⟨rb, 0, none⟩) x.2.length rc)).cell? ⟨p, 10, none⟩ = some (.int .i64 (bot : Int)) ∧ (V3.setCell ⟨p, 22, none⟩ (.slice (some ⟨rb, 0, none⟩) x.2.length rc)).cell? ⟨p, 22, none⟩ = some (.slice (some ⟨rb, 0, none⟩) x.2.length rc) := HFI.out.1))
        all_goals go_wp2_with fail
        all_goals go_roundg (k - 1)
        case measure => omega
        case rel => exact ⟨k - 1, j + 1, by first | rfl | simp, Nat.le_refl _, by omega, HRN.out, by rw [HN.out]; exact HFI.out.2.1, HB.out.trans HFI.out.2.2⟩
end Put
end Go.Proofs.YtmhmmpicedlcpaaGreatDoor

/- The reference's desk: Feed. -/
namespace Go.Proofs.YtmhmmpicedlcpaaGreatDoor
open Go.ChangeShapes Go.WideShapes Go.ChangeAt Go.RowKit
namespace Put
open Grd (C SliceAt CellsAt gridErr z0 nilV flat rowsL)
theorem rUp_up (n top bot : Nat) (s : Scr) (rows : List (List C)) : rUp n top bot true (s, rows) = (upS s rows top, replR rows n s.sb top bot) := by
  unfold rUp upS
  simp
/-- A row further. -/
def dfeedS (s : Scr) (rows : List (List C)) (top : Nat) : Scr := if s.y = s.bot then upS { s with late := false } rows top else { s with late := false, y := min (s.y + 1) (s.h - 1) }
set_option maxHeartbeats 4000000 in
set_option maxRecDepth 100000 in
theorem dfeed_anyI (N p n top bot hh : Nat) (s : Scr) (rows : List (List C)) (W : World) (hD : DkAt W N p s rows) (hR : Rolls n bot hh s.sb (s, rows)) (ht : s.top = top) (hn1 : 1 ≤ n) (hn2 : n ≤ 120) (htb : top ≤ bot) (hbh : bot < hh) (hh60 : hh ≤ 60) (hy0 : 0 ≤ s.y) (hy1 : s.y ≤ 60) (hh0 : 0 ≤ s.h) (hh1 : s.h ≤ 60) :
    Calls Tryz.prog 86 #[.pointer (some ⟨p, 0, none⟩)] W fun e W' => e = .returned (.tuple #[]) ∧ DkAt W' N p (dfeedS s rows top) (dfeedR s rows n top bot) ∧ Bel N W W' := by
  obtain ⟨c0, c1, c3, c4, c5, c9, c10, c11, c19, f⟩ := hD.words
  have f5 := f 5
  have HD1 : Hid (DkAt (W.setCell ⟨p, 5, none⟩ (.bool false)) N p { s with late := false } rows) := hD.set 5 _ (fun _ _ _ _ => rfl) rfl rfl
  have HB1 : Hid (Bel N W (W.setCell ⟨p, 5, none⟩ (.bool false))) := (Bel.refl _ _).setCell hD.lo _
  have HRL : Hid (∀ V, DkAt V N p { s with late := false } rows → Calls Tryz.prog 85 #[.pointer (some ⟨p, 0, none⟩), .int .i64 (top : Int), .int .i64 1, .bool true] V fun e W' => e = .returned (.tuple #[]) ∧ DkAt W' N p (upS { s with late := false } rows top) (replR rows n s.sb top bot) ∧ Bel N V W') := fun V h => by
    have key := roll_upI N p n top bot hh 1 s.sb { s with late := false } rows V true 1 h ⟨hR.w, hR.b, rfl, hR.r, hR.g⟩ hn1 hn2 htb hbh hh60 (by omega)
    have e : iterN (rUp n top bot true) 1 ({ s with late := false }, rows) = (upS { s with late := false } rows top, replR rows n s.sb top bot) := rUp_up n top bot { s with late := false } rows
    rw [e] at key
    exact key
  have HT : Hid (s.top = top) := ht
  have HLO : Hid (N ≤ p) := hD.lo
  clear hD hR ht c0 c1 c3 c4 c9 c10 c11 c19 f
  unfold dfeedS dfeedR
  by_cases hq0 : s.y = s.bot
  · rw [if_pos hq0, if_pos hq0]
    have hq : (s.y == s.bot) = true := by rw [beq_iff_eq]; exact hq0
    clear hq0
    generalize upS { s with late := false } rows top = s' at *
    generalize replR rows n s.sb top bot = rows' at *
    go_enter Tryz.func86, Tryz.ntmps86
    go_upto_region 1 with fail
    obtain ⟨-, -, -, d4, -, d9, d10, -, -, df⟩ := HD1.out.words
    clear c5 f5 df
    generalize (W.setCell ⟨p, 5, none⟩ (.bool false)) = X at *
    go_region
    have HSd : Hid (DkAt X.drew N p { s with late := false } rows) := HD1.out.next ((Below.refl _ _).drew)
    have HB2 : Hid (Bel N W X.drew) := HB1.out.drew
    clear d4 d9 d10 HD1 HB1
    generalize X.drew = Y at *
    obtain ⟨-, -, -, -, -, d9, -, -, -, df⟩ := HSd.out.words
    replace d9 : Y.cell? ⟨p, 9, none⟩ = some (.int .i64 s.top) := d9
    rw [HT.out] at d9
    have HU2 := HRL.out Y HSd.out
    clear df HRL HSd
    go_wp2_with fail
    refine HU2.mono ?_
    rintro e V ⟨rfl, hS2, hB3⟩
    go_wp2_with fail
    go_end0
    exact ⟨rfl, hS2, HB2.out.trans hB3⟩
  · rw [if_neg hq0, if_neg hq0]
    have hq : (s.y == s.bot) = false := by rw [beq_eq_false_iff_ne]; exact hq0
    have hmn := Grd.min2 (s.y + 1) (s.h - 1)
    clear hq0 HRL
    go_enter Tryz.func86, Tryz.ntmps86
    go_upto_region 1 with fail
    obtain ⟨-, -, -, d4, -, d9, d10, -, -, df⟩ := HD1.out.words
    clear c5 f5 df
    generalize (W.setCell ⟨p, 5, none⟩ (.bool false)) = X at *
    go_region
    have HSd : Hid (DkAt X.drew N p { s with late := false } rows) := HD1.out.next ((Below.refl _ _).drew)
    have HB2 : Hid (Bel N W X.drew) := HB1.out.drew
    clear d4 d9 d10 HD1 HB1
    generalize X.drew = Y at *
    obtain ⟨-, d1, -, d4, -, -, -, -, -, df⟩ := HSd.out.words
    replace d4 : Y.cell? ⟨p, 4, none⟩ = some (.int .i64 s.y) := d4
    replace d1 : Y.cell? ⟨p, 1, none⟩ = some (.int .i64 s.h) := d1
    have g4 := df 4
    have hw1 : IntKind.i64.wrap (s.y + 1) = s.y + 1 := wrap_id _ (by omega) (by omega)
    have hw2 : IntKind.i64.wrap (s.h - 1) = s.h - 1 := wrap_id _ (by omega) (by omega)
    have HE : Hid (DkAt (Y.setCell ⟨p, 4, none⟩ (.int .i64 (min (s.y + 1) (s.h - 1)))).drew N p { s with late := false, y := min (s.y + 1) (s.h - 1) } rows ∧ Bel N W (Y.setCell ⟨p, 4, none⟩ (.int .i64 (min (s.y + 1) (s.h - 1)))).drew) := by
      have h4 : DkAt (Y.setCell ⟨p, 4, none⟩ (.int .i64 (min (s.y + 1) (s.h - 1)))) N p { s with late := false, y := min (s.y + 1) (s.h - 1) } rows := HSd.out.set 4 _ (fun _ _ _ _ => rfl) rfl rfl
      exact ⟨h4.next ((Below.refl _ _).drew), (HB2.out.setCell HLO.out _).drew⟩
    clear df HSd
    go_upto_region 3 with fail
    go_region
    all_goals go_end0
    all_goals exact ⟨rfl, HE.out⟩
theorem dfeed_any (N p n top bot hh : Nat) (s : Scr) (rows : List (List C)) (W : World) (hD : DkAt W N p s rows) (hR : Rolls n bot hh s.sb (s, rows)) (ht : s.top = top) (hn1 : 1 ≤ n) (hn2 : n ≤ 120) (htb : top ≤ bot) (hbh : bot < hh) (hh60 : hh ≤ 60) (hy0 : 0 ≤ s.y) (hy1 : s.y ≤ 60) (hh0 : 0 ≤ s.h) (hh1 : s.h ≤ 60) :
    Calls Tryz.prog 86 #[.pointer (some ⟨p, 0, none⟩)] W fun e W' => e = .returned (.tuple #[]) ∧ DkAt W' N p (dfeedS s rows top) (dfeedR s rows n top bot) ∧ Below N W W' :=
  (dfeed_anyI N p n top bot hh s rows W hD hR ht hn1 hn2 htb hbh hh60 hy0 hy1 hh0 hh1).mono fun _ _ h => ⟨h.1, h.2.1, h.2.2.b⟩
end Put
end Go.Proofs.YtmhmmpicedlcpaaGreatDoor

/- The reference's desk: Feed; Act: feed, back. -/
namespace Go.Proofs.YtmhmmpicedlcpaaGreatDoor
open Go.ChangeShapes Go.WideShapes Go.ChangeAt Go.RowKit
namespace Put
open Grd (C SliceAt CellsAt gridErr z0 nilV flat rowsL)
set_option maxHeartbeats 8000000 in
set_option maxRecDepth 100000 in
theorem act_feed (a b : Int) (s : Scr) (rows : List (List C)) (n top bot hh : Nat) (hR : Rolls n bot hh s.sb (s, rows)) (ht : s.top = top) (hn1 : 1 ≤ n) (hn2 : n ≤ 120) (htb : top ≤ bot) (hbh : bot < hh) (hh60 : hh ≤ 60) (hy0 : 0 ≤ s.y) (hy1 : s.y ≤ 60) (hh0 : 0 ≤ s.h) (hh1 : s.h ≤ 60) : ActMakes ⟨#[102, 101, 101, 100]⟩ a b s (dfeedS s rows top) rows (dfeedR s rows n top bot) := by
  intro N W p hN hD
  have H := dfeed_any N p n top bot hh s rows W hD hR ht hn1 hn2 htb hbh hh60 hy0 hy1 hh0 hh1
  clear hD hR ht
  generalize dfeedS s rows top = s' at *
  generalize dfeedR s rows n top bot = rows' at *
  go_enter Tryz.func41, Tryz.ntmps41
  go_wp2_with fail
  refine H.mono ?_
  rintro e V ⟨rfl, h1, h2⟩
  go_wp2_with fail
  go_end0
  exact ⟨rfl, h1, h2⟩
def dbackS (s : Scr) : Scr := if s.y = s.top then { s with late := false } else { s with late := false, y := max (s.y - 1) 0 }
set_option maxHeartbeats 8000000 in
set_option maxRecDepth 100000 in
theorem act_back (a b : Int) (s : Scr) (rows : List (List C)) (n top bot hh : Nat) (hR : Rolls n bot hh s.sb (s, rows)) (ht : s.top = top) (hn1 : 1 ≤ n) (hn2 : n ≤ 120) (htb : top ≤ bot) (hbh : bot < hh) (hh60 : hh ≤ 60) (hy0 : 0 ≤ s.y) (hy1 : s.y ≤ 60) : ActMakes ⟨#[98, 97, 99, 107]⟩ a b s (dbackS s) rows (if s.y = s.top then replR rows n s.sb bot top else rows) := by
  intro N W p hN hD
  obtain ⟨c0, c1, c3, c4, c5, c9, c10, c11, c19, f⟩ := hD.words
  have f5 := f 5
  have HD1 : Hid (DkAt (W.setCell ⟨p, 5, none⟩ (.bool false)) N p { s with late := false } rows) := hD.set 5 _ (fun _ _ _ _ => rfl) rfl rfl
  have HB1 : Hid (Below N W (W.setCell ⟨p, 5, none⟩ (.bool false))) := (Below.refl _ _).setCell hD.lo _
  have HRL : Hid (∀ V, DkAt V N p { s with late := false } rows → Calls Tryz.prog 85 #[.pointer (some ⟨p, 0, none⟩), .int .i64 (top : Int), .int .i64 (-1), .bool true] V fun e W' => e = .returned (.tuple #[]) ∧ DkAt W' N p { s with late := false } (replR rows n s.sb bot top) ∧ Below N V W') := fun V h => by
    exact roll_dn N p n top bot hh 1 s.sb { s with late := false } rows V true (-1) h ⟨hR.w, hR.b, rfl, hR.r, hR.g⟩ hn1 hn2 htb hbh hh60 (by omega)
  have HT : Hid (s.top = top) := ht
  have HLO : Hid (N ≤ p) := hD.lo
  clear hD hR ht c0 c1 c3 c4 c9 c10 c11 c19 f
  unfold dbackS
  by_cases hq0 : s.y = s.top
  · rw [if_pos hq0, if_pos hq0]
    have hq : (s.y == s.top) = true := by rw [beq_iff_eq]; exact hq0
    clear hq0
    generalize replR rows n s.sb bot top = rows' at *
    go_enter Tryz.func41, Tryz.ntmps41
    go_upto_region 97 with fail
    obtain ⟨-, -, -, d4, -, d9, -, -, -, df⟩ := HD1.out.words
    clear c5 f5 df
    generalize (W.setCell ⟨p, 5, none⟩ (.bool false)) = X at *
    go_region
    have HSd : Hid (DkAt X.drew N p { s with late := false } rows) := HD1.out.next ((Below.refl _ _).drew)
    have HB2 : Hid (Below N W X.drew) := HB1.out.drew
    clear d4 d9 HD1 HB1
    generalize X.drew = Y at *
    obtain ⟨-, -, -, -, -, d9, -, -, -, df⟩ := HSd.out.words
    replace d9 : Y.cell? ⟨p, 9, none⟩ = some (.int .i64 s.top) := d9
    rw [HT.out] at d9
    have HU2 := HRL.out Y HSd.out
    clear df HRL HSd
    go_wp2_with fail
    refine HU2.mono ?_
    rintro e V ⟨rfl, hS2, hB3⟩
    go_wp2_with fail
    go_end0
    exact ⟨rfl, hS2, HB2.out.trans hB3⟩
  · rw [if_neg hq0, if_neg hq0]
    have hq : (s.y == s.top) = false := by rw [beq_eq_false_iff_ne]; exact hq0
    have hmx := Grd.max2 (s.y - 1) 0
    clear hq0 HRL
    go_enter Tryz.func41, Tryz.ntmps41
    go_upto_region 97 with fail
    obtain ⟨-, -, -, d4, -, d9, -, -, -, df⟩ := HD1.out.words
    clear c5 f5 df
    generalize (W.setCell ⟨p, 5, none⟩ (.bool false)) = X at *
    go_region
    have HSd : Hid (DkAt X.drew N p { s with late := false } rows) := HD1.out.next ((Below.refl _ _).drew)
    have HB2 : Hid (Below N W X.drew) := HB1.out.drew
    clear d4 d9 HD1 HB1
    generalize X.drew = Y at *
    obtain ⟨-, -, -, d4, -, -, -, -, -, df⟩ := HSd.out.words
    replace d4 : Y.cell? ⟨p, 4, none⟩ = some (.int .i64 s.y) := d4
    have g4 := df 4
    have hw1 : IntKind.i64.wrap (s.y - 1) = s.y - 1 := wrap_id _ (by omega) (by omega)
    have HE : Hid (DkAt (Y.setCell ⟨p, 4, none⟩ (.int .i64 (max (s.y - 1) 0))) N p { s with late := false, y := max (s.y - 1) 0 } rows ∧ Below N W (Y.setCell ⟨p, 4, none⟩ (.int .i64 (max (s.y - 1) 0)))) := ⟨HSd.out.set 4 _ (fun _ _ _ _ => rfl) rfl rfl, HB2.out.setCell HLO.out _⟩
    clear df HSd
    go_wp2_with fail
    go_end0
    exact ⟨rfl, HE.out⟩
end Put
end Go.Proofs.YtmhmmpicedlcpaaGreatDoor

/- The law ShiftFeed. -/
namespace Go.Proofs.YtmhmmpicedlcpaaGreatDoor
set_option linter.unusedVariables false
open Go.ChangeShapes Go.WideShapes Go.ChangeAt Go.RowKit
namespace Put
open Grd (C SliceAt CellsAt gridErr z0 nilV flat rowsL)
theorem plain_feed : Plain 57 := by
  intro args W
  kernel_rfl
theorem plain_back : Plain 58 := by
  intro args W
  kernel_rfl
theorem plainF_feed : Plain 26 := by
  intro args W
  kernel_rfl
theorem plainF_back : Plain 27 := by
  intro args W
  kernel_rfl
theorem upS_rows {s : Scr} {n hh : Nat} (hR : RightS s n hh) (s1 : Scr) (hg : s1.gone = s.gone) (top : Nat) : (upS s1 (rowsL n s.cs hh) top).gone.length ≤ 50 ∧ ∀ r, r ∈ (upS s1 (rowsL n s.cs hh) top).gone → r.length ≤ 120 := by
  unfold upS
  split
  · rw [hg]
    exact ⟨keepG_len _ _ hR.gl, keepG_rows hR _ (rowsL_row hR 0 (by rw [Grd.rowsL_len]; have := hR.h1; omega))⟩
  · rw [hg]
    refine ⟨hR.gl, fun r hr => ?_⟩
    have := (grid_size (hR.gr r hr)).2.1
    omega
/-- A feed. -/
def feedP (s : Scr) (rows : List (List C)) (top : Nat) : Scr := if s.y = s.bot then upS { s with late := false } rows top else feedS s
theorem feed_does (M n : Nat) (w : World) (s : Scr) (rows : List (List C)) (top bot : Nat) (ht : s.top = top) (hb : s.bot = bot) (hy0 : 0 ≤ s.y) (hy1 : s.y ≤ 60) (hh1 : 1 ≤ s.h) (hh2 : s.h ≤ 60) (hw : s.w = n) (hn1 : 1 ≤ n) (hn2 : n ≤ 120) (hg : top < rows.length) (hf : bot < rows.length) (hrl : rows.length ≤ 60) (hgl : s.gone.length ≤ 50) :
    Does 57 #[] M w s (feedP s rows top) rows (dfeedR s rows n top bot) := by
  intro W p hbw hS
  show Calls _ _ #[.pointer (some ⟨p, 0, none⟩)] _ _
  unfold feedP dfeedR
  by_cases hq : s.y = s.bot
  · rw [if_pos hq, if_pos hq]
    refine (feed_roll W M _ p n s rows hS top bot ht hb hq hw hn1 hn2 hg hf hrl hgl).mono ?_
    rintro e V ⟨rfl, h1, h2, -⟩
    exact ⟨rfl, h1, h2⟩
  · rw [if_neg hq, if_neg hq]
    refine (feed_plain W M _ p s rows hS hy0 hy1 hh1 hh2 hq).mono ?_
    rintro e V ⟨rfl, h1, h2, -⟩
    exact ⟨rfl, h1, h2⟩
theorem dfeedR_len (s : Scr) (rows : List (List C)) (n top bot : Nat) (hg : top < rows.length) (hf : bot < rows.length) : (dfeedR s rows n top bot).length = rows.length := by
  unfold dfeedR
  split
  · exact replR_len _ _ _ _ _ hg hf
  · rfl
theorem dfeedR_row (s : Scr) (rows : List (List C)) (n top bot : Nat) (hg : top < rows.length) (hf : bot < rows.length) (hn : ∀ i, i < rows.length → (rows.getD i []).length = n) (i : Nat) (hi : i < rows.length) : ((dfeedR s rows n top bot).getD i []).length = n := by
  unfold dfeedR
  split
  · exact replR_row _ _ _ _ _ hg hf hn i hi
  · exact hn i hi
theorem feedP_gone {s : Scr} {n hh : Nat} (hR : RightS s n hh) (top : Nat) : (feedP s (rowsL n s.cs hh) top).gone.length ≤ 50 ∧ ∀ r, r ∈ (feedP s (rowsL n s.cs hh) top).gone → r.length ≤ 120 := by
  unfold feedP
  split
  · exact upS_rows hR { s with late := false } rfl top
  · have e : (feedS s).gone = s.gone := by unfold feedS; split <;> rfl
    rw [e]
    refine ⟨hR.gl, fun r hr => ?_⟩
    have := (grid_size (hR.gr r hr)).2.1
    omega
theorem feed_any {w0 w : World} {s : Scr} {cv tv gv : Value} {n hh : Nat} (h : Met w0 w s cv tv gv) (hR : RightS s n hh) (top bot : Nat) (ht : s.top = top) (hb : s.bot = bot) : Calls Tryz.prog 26 #[.agg (scrA s cv tv gv)] w (Made w0 w { feedP s (rowsL n s.cs hh) top with cs := (dfeedR s (rowsL n s.cs hh) n top bot).flatten } 0) := by
  have e1 := hR.w
  have e2 := hR.h
  have n1 := hR.n1
  have n2 := hR.n2
  have h1 := hR.h1
  have h2 := hR.h2
  have y0 := hR.y0
  have y1 := hR.y1
  have t1 := hR.t1
  have t2 := hR.t2
  have hl := Grd.rowsL_len n s.cs hh
  have hgo := feedP_gone hR top
  refine feed_calls s _ cv tv gv 0 w0 w h.v h.b.size fun _ _ hW => ?_
  refine sc_good (h.next hW) hR _ plain_feed #[] (dfeedR s (rowsL n s.cs hh) n top bot) _ (fun w1 _ => feed_does _ n w1 s _ top bot ht hb y0 (by omega) (by omega) (by omega) e1 n1 n2 (by omega) (by omega) (by omega) hR.gl) (rowsOk hR _ _ (by rw [dfeedR_len _ _ _ _ _ (by omega) (by omega), hl]) (fun i hi => ?_) (by have := hgo.1; omega) (rows_le hgo.2)) rfl
  rw [dfeedR_len _ _ _ _ _ (by omega) (by omega)] at hi
  exact dfeedR_row _ _ _ _ _ (by omega) (by omega) (rowsL_row hR) i hi
theorem feed_bad {w0 w : World} {s : Scr} {cv tv gv : Value} (h : Met w0 w s cv tv gv) (hz : scrErr s ≠ 0) : Calls Tryz.prog 26 #[.agg (scrA s cv tv gv)] w (Made w0 w zScr (scrErr s)) :=
  feed_calls s zScr cv tv gv (scrErr s) w0 w h.v h.b.size fun _ _ hW => sc_bad (h.next hW) hz _ _
theorem smallNew {s s' : Scr} {n hh : Nat} (hR : RightS s n hh) (rows' : List (List C)) (hl : rows'.length = hh) (hn : ∀ i, i < rows'.length → (rows'.getD i []).length = n) (htb : s'.tabs = s.tabs) (hcs : s'.cs = rows'.flatten) (hg : s'.gone.length ≤ 50) (hr : ∀ r, r ∈ s'.gone → r.length ≤ 120) : Small s' := by
  have n2 := hR.n2
  have h2 := hR.h2
  have hlen := Grd.flatten_len n rows' hn hh (by omega)
  rw [← hl, List.take_length] at hlen
  refine ⟨?_, ?_, by omega, fun r hm => by have := hr r hm; omega⟩
  · rw [hcs, hlen]
    have := Nat.mul_le_mul (show rows'.length ≤ 60 by omega) n2
    omega
  · rw [htb]
    have := hR.tl
    omega
theorem dfeed_same {s : Scr} {n hh : Nat} (hR : RightS s n hh) (rows : List (List C)) (top : Nat) : dfeedS s rows top = feedP s rows top := by
  have e2 := hR.h
  have y1 := hR.y1
  unfold dfeedS feedP feedS
  split
  · rfl
  · split
    · rw [show min (s.y + 1) (s.h - 1) = s.y + 1 by omega]
    · have e : min (s.y + 1) (s.h - 1) = s.y := by omega
      rw [e]
theorem feedP_same (s : Scr) (rows : List (List C)) (top : Nat) : (feedP s rows top).w = s.w ∧ (feedP s rows top).h = s.h ∧ (feedP s rows top).tabs = s.tabs := by
  unfold feedP upS feedS
  split
  · split <;> exact ⟨rfl, rfl, rfl⟩
  · split <;> exact ⟨rfl, rfl, rfl⟩
theorem feed_agree {s : Scr} {n hh : Nat} (hR : RightS s n hh) (a b : Int) (top bot : Nat) (ht : s.top = top) (hb : s.bot = bot) : Agrees ⟨#[102, 101, 101, 100]⟩ a b s { feedP s (rowsL n s.cs hh) top with cs := (dfeedR s (rowsL n s.cs hh) n top bot).flatten } n hh := by
  have e1 := hR.w
  have e2 := hR.h
  have n1 := hR.n1
  have n2 := hR.n2
  have h1 := hR.h1
  have h2 := hR.h2
  have y0 := hR.y0
  have y1 := hR.y1
  have t1 := hR.t1
  have t2 := hR.t2
  have hl := Grd.rowsL_len n s.cs hh
  have hgo := feedP_gone hR top
  have hlen : (dfeedR s (rowsL n s.cs hh) n top bot).length = hh := by rw [dfeedR_len _ _ _ _ _ (by omega) (by omega), hl]
  have hrow : ∀ i, i < (dfeedR s (rowsL n s.cs hh) n top bot).length → ((dfeedR s (rowsL n s.cs hh) n top bot).getD i []).length = n := fun i hi => dfeedR_row _ _ _ _ _ (by omega) (by omega) (rowsL_row hR) i (by omega)
  have hs := feedP_same s (rowsL n s.cs hh) top
  have hA := act_feed a b s (rowsL n s.cs hh) n top bot hh ⟨e1, hb, rfl, hl, hR.gl⟩ ht n1 n2 (by omega) (by omega) h2 y0 (by omega) (by omega) (by omega)
  rw [dfeed_same hR] at hA
  refine ⟨smallNew hR _ hlen hrow hs.2.2 rfl hgo.1 hgo.2, _, _, hA, hlen, hrow, ?_⟩
  have q1 : (n : Int) = (feedP s (rowsL n s.cs hh) top).w := by rw [hs.1, e1]
  have q2 : (hh : Int) = (feedP s (rowsL n s.cs hh) top).h := by rw [hs.2.1, e2]
  rw [q1, q2]
theorem feed_law (s : Scr) (cv tv gv : Value) (w : World) (hT : Txt.Tab w) (hV : ScrV w s cv tv gv) (hB : Bulk s) :
    Calls Tryz.prog 14 #[.agg (scrA s cv tv gv), .func (.func 26) #[] #[], .string ⟨#[102, 101, 101, 100]⟩, .int .i64 0, .int .i64 0] w fun e w' => e = .returned (.bool true) ∧ Below w.heap.size w w' :=
  acts_any s cv tv gv _ plainF_feed #[] _ 0 0 w hT hV hB { feedP s (rowsL s.w.toNat s.cs s.h.toNat) s.top.toNat with cs := (dfeedR s (rowsL s.w.toNat s.cs s.h.toNat) s.w.toNat s.top.toNat s.bot.toNat).flatten } (fun hz _ _ _ _ _ _ hm => feed_bad hm hz) fun nn hh hR => by
    have e1 : s.w.toNat = nn := by rw [hR.w]; rfl
    have e2 : s.h.toNat = hh := by rw [hR.h]; rfl
    have t0 := hR.t0
    have t1 := hR.t1
    have ht : s.top = (s.top.toNat : Int) := by omega
    have hb : s.bot = (s.bot.toNat : Int) := by omega
    rw [e1, e2]
    exact ⟨fun _ _ _ _ _ _ hm => feed_any hm hR _ _ ht hb, feed_agree hR 0 0 _ _ ht hb⟩
/-- To the row above: the rows. -/
def backR (s : Scr) (rows : List (List C)) (n top bot : Nat) : List (List C) := if s.y = s.top then replR rows n s.sb bot top else rows
theorem backR_len (s : Scr) (rows : List (List C)) (n top bot : Nat) (hg : top < rows.length) (hf : bot < rows.length) : (backR s rows n top bot).length = rows.length := by
  unfold backR
  split
  · exact replR_len _ _ _ _ _ hf hg
  · rfl
theorem backR_row (s : Scr) (rows : List (List C)) (n top bot : Nat) (hg : top < rows.length) (hf : bot < rows.length) (hn : ∀ i, i < rows.length → (rows.getD i []).length = n) (i : Nat) (hi : i < rows.length) : ((backR s rows n top bot).getD i []).length = n := by
  unfold backR
  split
  · exact replR_row _ _ _ _ _ hf hg hn i hi
  · exact hn i hi
theorem dback_same {s : Scr} {n hh : Nat} (hR : RightS s n hh) : dbackS s = backS s := by
  have y0 := hR.y0
  unfold dbackS backS
  split
  · rfl
  · split
    · rw [show max (s.y - 1) 0 = s.y - 1 by omega]
    · have e : max (s.y - 1) 0 = s.y := by omega
      rw [e]
theorem backS_same (s : Scr) : (backS s).w = s.w ∧ (backS s).h = s.h ∧ (backS s).tabs = s.tabs ∧ (backS s).gone = s.gone := by
  unfold backS
  split
  · exact ⟨rfl, rfl, rfl, rfl⟩
  · split <;> exact ⟨rfl, rfl, rfl, rfl⟩
theorem back_any {w0 w : World} {s : Scr} {cv tv gv : Value} {n hh : Nat} (h : Met w0 w s cv tv gv) (hR : RightS s n hh) (top bot : Nat) (ht : s.top = top) (hb : s.bot = bot) : Calls Tryz.prog 27 #[.agg (scrA s cv tv gv)] w (Made w0 w { backS s with cs := (backR s (rowsL n s.cs hh) n top bot).flatten } 0) := by
  have e1 := hR.w
  have n1 := hR.n1
  have n2 := hR.n2
  have h1 := hR.h1
  have h2 := hR.h2
  have y0 := hR.y0
  have y1 := hR.y1
  have t1 := hR.t1
  have t2 := hR.t2
  have hl := Grd.rowsL_len n s.cs hh
  have hs := backS_same s
  refine back_calls s _ cv tv gv 0 w0 w h.v h.b.size fun _ _ hW => ?_
  refine sc_good (h.next hW) hR _ plain_back #[] (backR s (rowsL n s.cs hh) n top bot) _ (fun w1 _ => back_does _ n w1 s _ top bot ht hb y0 (by omega) e1 n1 n2 (by omega) (by omega) (by omega)) (rowsOk hR _ _ (by rw [backR_len _ _ _ _ _ (by omega) (by omega), hl]) (fun i hi => ?_) (by rw [hs.2.2.2]; have := hR.gl; omega) (by rw [hs.2.2.2]; exact rows_le (gone_le120 hR))) rfl
  rw [backR_len _ _ _ _ _ (by omega) (by omega)] at hi
  exact backR_row _ _ _ _ _ (by omega) (by omega) (rowsL_row hR) i hi
theorem back_bad {w0 w : World} {s : Scr} {cv tv gv : Value} (h : Met w0 w s cv tv gv) (hz : scrErr s ≠ 0) : Calls Tryz.prog 27 #[.agg (scrA s cv tv gv)] w (Made w0 w zScr (scrErr s)) :=
  back_calls s zScr cv tv gv (scrErr s) w0 w h.v h.b.size fun _ _ hW => sc_bad (h.next hW) hz _ _
theorem back_agree {s : Scr} {n hh : Nat} (hR : RightS s n hh) (a b : Int) (top bot : Nat) (ht : s.top = top) (hb : s.bot = bot) : Agrees ⟨#[98, 97, 99, 107]⟩ a b s { backS s with cs := (backR s (rowsL n s.cs hh) n top bot).flatten } n hh := by
  have e1 := hR.w
  have e2 := hR.h
  have n1 := hR.n1
  have n2 := hR.n2
  have h1 := hR.h1
  have h2 := hR.h2
  have y0 := hR.y0
  have y1 := hR.y1
  have t1 := hR.t1
  have t2 := hR.t2
  have hl := Grd.rowsL_len n s.cs hh
  have hlen : (backR s (rowsL n s.cs hh) n top bot).length = hh := by rw [backR_len _ _ _ _ _ (by omega) (by omega), hl]
  have hrow : ∀ i, i < (backR s (rowsL n s.cs hh) n top bot).length → ((backR s (rowsL n s.cs hh) n top bot).getD i []).length = n := fun i hi => backR_row _ _ _ _ _ (by omega) (by omega) (rowsL_row hR) i (by omega)
  have hs := backS_same s
  have hA := act_back a b s (rowsL n s.cs hh) n top bot hh ⟨e1, hb, rfl, hl, hR.gl⟩ ht n1 n2 (by omega) (by omega) h2 y0 (by omega)
  rw [dback_same hR] at hA
  refine ⟨smallNew hR _ hlen hrow hs.2.2.1 rfl (by show (backS s).gone.length ≤ 50; rw [hs.2.2.2]; exact hR.gl) (by show ∀ r, r ∈ (backS s).gone → r.length ≤ 120; rw [hs.2.2.2]; exact gone_le120 hR), _, _, hA, hlen, hrow, ?_⟩
  have q1 : (n : Int) = (backS s).w := by rw [hs.1, e1]
  have q2 : (hh : Int) = (backS s).h := by rw [hs.2.1, e2]
  rw [q1, q2]
  rfl
theorem back_law (s : Scr) (cv tv gv : Value) (w : World) (hT : Txt.Tab w) (hV : ScrV w s cv tv gv) (hB : Bulk s) :
    Calls Tryz.prog 14 #[.agg (scrA s cv tv gv), .func (.func 27) #[] #[], .string ⟨#[98, 97, 99, 107]⟩, .int .i64 0, .int .i64 0] w fun e w' => e = .returned (.bool true) ∧ Below w.heap.size w w' :=
  acts_any s cv tv gv _ plainF_back #[] _ 0 0 w hT hV hB { backS s with cs := (backR s (rowsL s.w.toNat s.cs s.h.toNat) s.w.toNat s.top.toNat s.bot.toNat).flatten } (fun hz _ _ _ _ _ _ hm => back_bad hm hz) fun nn hh hR => by
    have e1 : s.w.toNat = nn := by rw [hR.w]; rfl
    have e2 : s.h.toNat = hh := by rw [hR.h]; rfl
    have t0 := hR.t0
    have t1 := hR.t1
    have ht : s.top = (s.top.toNat : Int) := by omega
    have hb : s.bot = (s.bot.toNat : Int) := by omega
    rw [e1, e2]
    exact ⟨fun _ _ _ _ _ _ hm => back_any hm hR _ _ ht hb, back_agree hR 0 0 _ _ ht hb⟩
set_option maxHeartbeats 4000000 in
set_option maxRecDepth 100000 in
theorem shiftFeed_walk (s : Scr) (cv tv gv : Value) (w : World) (hT : Txt.Tab w) (hV : ScrV w s cv tv gv) (hB : Bulk s) :
    Calls Tryz.prog 7 #[.agg (scrA s cv tv gv)] w fun e w' => e = .returned (.bool true) ∧ Below w.heap.size w w' := by
  have HC1 : Hid (∀ W, Below w.heap.size w W → Calls Tryz.prog 14 #[.agg (scrA s cv tv gv), .func (.func 26) #[] #[], .string ⟨#[102, 101, 101, 100]⟩, .int .i64 0, .int .i64 0] W fun e w' => e = .returned (.bool true) ∧ Below W.heap.size W w') := fun W h => feed_law s cv tv gv W (Grd.Tab.next hT h) (hV.next h) hB
  have HC2 : Hid (∀ W, Below w.heap.size w W → Calls Tryz.prog 14 #[.agg (scrA s cv tv gv), .func (.func 27) #[] #[], .string ⟨#[98, 97, 99, 107]⟩, .int .i64 0, .int .i64 0] W fun e w' => e = .returned (.bool true) ∧ Below W.heap.size W w') := fun W h => back_law s cv tv gv W (Grd.Tab.next hT h) (hV.next h) hB
  obtain ⟨ca, cc, rfl⟩ := hV.c.shape
  obtain ⟨ta, tc, rfl⟩ := hV.t.slice
  obtain ⟨ga, gc, rfl⟩ := hV.g.slice
  have hkb : Below w.heap.size w (w.alloc (.cells (scrA s (.slice ca s.cs.length cc) (.slice ta s.tabs.length tc) (.slice ga s.gone.length gc)) 32)) := ((Below.refl _ _).alloc (by simp) _)
  have hx0 : (w.alloc (.cells (scrA s (.slice ca s.cs.length cc) (.slice ta s.tabs.length tc) (.slice ga s.gone.length gc)) 32)).heap[w.heap.size]? = some (.cells (scrA s (.slice ca s.cs.length cc) (.slice ta s.tabs.length tc) (.slice ga s.gone.length gc)) 32 (0, 0)) := by
    have h := heap_alloc_new w (.cells (scrA s (.slice ca s.cs.length cc) (.slice ta s.tabs.length tc) (.slice ga s.gone.length gc)) 32)
    have e : w.heap.size = w.heap.size := by simp
    rw [e] at h
    exact h
  have HX0 : Hid _ := hx0
  have HKB : Hid _ := hkb
  clear hkb hV hx0 hT hB
  go_enter Tryz.func7, Tryz.ntmps7
  go_upto_region 1 with fail
  generalize (w.alloc (.cells (scrA s (.slice ca s.cs.length cc) (.slice ta s.tabs.length tc) (.slice ga s.gone.length gc)) 32)) = X at *
  go_wp2_with (refine wpList_load_row rfl 32 (.tmp 1) rfl w.heap.size rfl _ _ _ _ HX0.out Tryz.underlying32 rfl (by kernel_rfl) ?_)
  refine (HC1.out _ HKB.out).mono ?_
  rintro e V1 ⟨rfl, b1⟩
  have HB1 : Hid (Below w.heap.size w V1) := HKB.out.trans (b1.mono HKB.out.size)
  have HX1 : Hid (V1.heap[w.heap.size]? = _) := Grd.carry HX0.out b1
  clear b1
  go_wp2_with (refine BigFrame.wpList_want rfl fun K hK => wp_load_row 32 (.tmp 1) rfl w.heap.size rfl _ _ _ _ HX1.out Tryz.underlying32 rfl (by kernel_rfl) (hK _ _ ?_))
  refine (HC2.out _ HB1.out).mono ?_
  rintro e V2 ⟨rfl, b2⟩
  have HB2 : Hid (Below w.heap.size w V2) := HB1.out.trans (b2.mono HB1.out.size)
  clear b2
  go_wp2_with fail
  go_ret
  exact ⟨rfl, HB2.out⟩
end Put
end Go.Proofs.YtmhmmpicedlcpaaGreatDoor

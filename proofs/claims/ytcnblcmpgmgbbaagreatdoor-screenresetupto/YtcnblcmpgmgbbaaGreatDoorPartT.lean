/- Parts of the proof, shortened by a program. -/
import Derived.Test.YtcnblcmpgmgbbaaGreatDoorPartS
import Derived.Maps.AppendAt
import Derived.Deep.Cut
import Derived.Laws.Tables
namespace Go.Proofs.YtcnblcmpgmgbbaaGreatDoor
set_option linter.unusedVariables false
set_option linter.unusedSimpArgs false
set_option maxRecDepth 100000
open Go.ChangeShapes Go.WideShapes Go.ChangeAt Go.RowKit
namespace Prs
theorem qa9 {w : World} {base : Nat} {e : TypeId} {size : Nat} {v : Value} {n : Nat} {xs : List Value} (h : w.ownsRow base e size v n xs) : (v = .slice none 0 0 ∧ n = 0 ∧ xs = []) ∨ ∃ g cap, v = .slice (some ⟨g, 0, none⟩) n cap ∧ ∀ j u, xs[j]? = some u → w.cell? ⟨g, j, none⟩ = some u := by
 obtain ⟨hl, h | ⟨g, cap, cur, rfl, -, hg, -, -, -, hcur⟩⟩ := h
 ·obtain ⟨rfl, rfl⟩ := h
  exact .inl ⟨rfl, rfl, List.eq_nil_of_length_eq_zero (by rw [hl, Nat.zero_mul])⟩
 ·refine .inr ⟨g, cap, rfl, fun j u hj => ?_⟩
  have h1 := cells_of_block (W := w) (g := g) (L := cur.toList) (t := e) (by rw [Array.toArray_toList]; exact hg) j u (by
   rw [← hcur] at hj
   rw [List.getElem?_take] at hj
   split at hj
   ·exact hj
   ·simp at hj)
  rw [Addr.add_mid, Nat.zero_add] at h1
  exact h1
theorem quw {w : World} {base : Nat} {v : Value} {l : List Int} (h : w.ownsRow base 3 1 v l.length (ints l)) : Qz w v l := by
 rcases qa9 h with ⟨rfl, h0, -⟩ | ⟨g, cap, rfl, hc⟩
 ·exact .inl ⟨List.eq_nil_of_length_eq_zero h0, _, _, rfl⟩
 ·refine .inr ⟨g, 0, cap, rfl, fun j u hj => ?_⟩
  rw [Addr.add_mid, Nat.zero_add]
  exact hc j u hj
theorem qf9 : ∀ (l : List (Ev × Value)) (i j : Nat) (hi : i < l.length), j < 7 → (Fu l)[7 * i + j]? = (Vb l[i].1 l[i].2)[j]?
 | x :: l, 0, j, _, hj => by
  show (Vb x.1 x.2 ++ Fu l)[7 * 0 + j]? = _
  rw [Nat.mul_zero, Nat.zero_add, List.getElem?_append_left (by simpa [Vb] using hj)]
  rfl
 | x :: l, i + 1, j, hi, hj => by
  show (Vb x.1 x.2 ++ Fu l)[7 * (i + 1) + j]? = _
  rw [List.getElem?_append_right (by simp [Vb]; omega)]
  have e7 : (Vb x.1 x.2).length = 7 := rfl
  rw [e7, show 7 * (i + 1) + j - 7 = 7 * i + j by omega, qf9 l i j (by simpa using hi) hj]
  rfl
structure EvAt (w : World) (b o : Nat) (e : Ev) (q : Value) : Prop where
 ps : Qz w q e.ps
 c0 : w.cell? ⟨b, o, none⟩ = some (.int .i64 e.kind)
 c1 : w.cell? ⟨b, o + 1, none⟩ = some (.int .i32 e.r)
 c2 : w.cell? ⟨b, o + 2, none⟩ = some (.int .u8 e.fin)
 c3 : w.cell? ⟨b, o + 3, none⟩ = some (.int .u8 e.mark)
 c4 : w.cell? ⟨b, o + 4, none⟩ = some (.string e.mid)
 c5 : w.cell? ⟨b, o + 5, none⟩ = some q
 c6 : w.cell? ⟨b, o + 6, none⟩ = some (.string e.txt)
def EvsR (w : World) (v : Value) (es : List Ev) : Prop := (es = [] ∧ ∃ p c, v = .slice p 0 c) ∨ ∃ b o c, v = .slice (some ⟨b, o, none⟩) es.length c ∧ ∀ i (hi : i < es.length), ∃ q, EvAt w b (o + i * 7) es[i] q
theorem EvAt.next {w w' : World} {b o : Nat} {e : Ev} {q : Value} (h : EvAt w b o e q) (hb : Below w.heap.size w w') : EvAt w' b o e q :=
 ⟨h.ps.next hb, Qa hb h.c0, Qa hb h.c1, Qa hb h.c2, Qa hb h.c3, Qa hb h.c4, Qa hb h.c5, Qa hb h.c6⟩
theorem EvsR.slice {w : World} {v : Value} {es : List Ev} (h : EvsR w v es) : ∃ p c, v = .slice p es.length c := by
 rcases h with ⟨rfl, p0, n0, rfl⟩ | ⟨b, o, c, rfl, -⟩
 ·exact ⟨_, _, rfl⟩
 ·exact ⟨_, _, rfl⟩
theorem EvsV.read {w : World} {base : Nat} {v : Value} {es : List Ev} (h : EvsV w base v es) : EvsR w v es := by
 obtain ⟨eqs, hown, rfl, hq⟩ := h
 rcases qa9 hown with ⟨rfl, h0, -⟩ | ⟨g, cap, rfl, hc⟩
 ·exact .inl ⟨List.eq_nil_of_length_eq_zero h0, _, _, rfl⟩
 ·refine .inr ⟨g, 0, cap, rfl, fun i hi => ?_⟩
  have hi' : i < eqs.length := by simpa using hi
  have hg : ∀ j, j < 7 → ∀ u, (Vb eqs[i].1 eqs[i].2)[j]? = some u → w.cell? ⟨g, 0 + i * 7 + j, none⟩ = some u := fun j hj u hu => by
   have := hc (7 * i + j) u (by rw [qf9 eqs i j hi' hj]; exact hu)
   rw [show 0 + i * 7 + j = 7 * i + j by omega]
   exact this
  have hm : (eqs.map (·.1))[i]'hi = eqs[i].1 := by simp
  rw [hm]
  exact ⟨eqs[i].2, quw (hq _ (List.getElem_mem hi')), hg 0 (by omega) _ rfl, hg 1 (by omega) _ rfl, hg 2 (by omega) _ rfl, hg 3 (by omega) _ rfl, hg 4 (by omega) _ rfl, hg 5 (by omega) _ rfl, hg 6 (by omega) _ rfl⟩
end Prs
namespace Put
open Grd (C SliceAt Qb Qf z0 Qx flat Qe)
open Prs (Qz)
theorem qde : Tryz.prog.underlying 53 = some (.slice 51) := by kernel_rfl
theorem qfc : (Tryz.prog.info? 51).map (fun i => (i.zero, i.size, i.bytes)) = some (some .nilFunc, 1, 8) := by kernel_rfl
structure One1 (E : World → Prop) (base : Nat) (W : World) (v : Value) (x : Value × Phi) : Prop where
 is : ∃ wa wb fid caps, x.1 = .func (.func fid) #[] caps ∧ (∀ X, Xc wa wb X → E X → Jp X fid caps x.2) ∧ Xc wa wb W ∧ (∀ g, v.ownBlock = some g → g < wa.heap.size ∨ wb.heap.size ≤ g) ∧ base ≤ wa.heap.size
 keeps : Xb x.2
structure SL (E : World → Prop) (base : Nat) (W : World) (v : Value) (L : List (Value × Phi)) : Prop where
 own : W.ownsRow base 51 1 v L.length (L.map (·.1))
 all : ∀ x, x ∈ L → One1 E base W v x
theorem SL.nil (E : World → Prop) (base : Nat) (W : World) : SL E base W (.slice none 0 0) [] := ⟨World.ownsRow_nil _ _ _ _, fun x hx => absurd hx List.not_mem_nil⟩
theorem SL.next {E : World → Prop} {base : Nat} {W W' : World} {v : Value} {L : List (Value × Phi)} (h : SL E base W v L) (hb : Below W.heap.size W W') : SL E base W' v L := by
 refine ⟨Grd.ownsRow_below h.own hb, fun x hx => ?_⟩
 obtain ⟨⟨wa, wb, fid, caps, h1, h2, h3, h4, h5⟩, hk⟩ := h.all x hx
 exact ⟨⟨wa, wb, fid, caps, h1, h2, h3.on hb, h4, h5⟩, hk⟩
theorem SL.steps {E : World → Prop} {base : Nat} {w W X : World} {v : Value} {L : List (Value × Phi)} (h : SL E base W v L) (hw : w.heap.size ≤ base) (hf : Xc w W X) (hE : E X) : Y3 X v (L.map (·.2)) := by
 by_cases hL : L = []
 ·subst hL
  refine .inl ⟨rfl, ?_⟩
  obtain ⟨a, c, hv⟩ := Qw h.own
  exact ⟨a, c, hv⟩
 rcases Prs.qa9 h.own with ⟨-, h0, -⟩ | ⟨gb, gc, hv, hcell⟩
 ·exact absurd (List.eq_nil_of_length_eq_zero h0) hL
 obtain ⟨hgb, A, fr, hA⟩ := Qm h.own gb (by rw [hv]; rfl)
 have hX : X.heap[gb]? = W.heap[gb]? := hf.2 gb (Nat.le_trans hw hgb) (Qc hA)
 refine .inr ⟨gb, 0, gc, by rw [List.length_map]; exact hv, fun j hj => ?_⟩
 rw [List.length_map] at hj
 have hx : L[j] ∈ L := List.getElem_mem hj
 have hc := hcell j L[j].1 (by simp [hj])
 obtain ⟨⟨wa, wb, fid, caps, h1, h2, h3, h4, h5⟩, hk⟩ := h.all _ hx
 refine ⟨L[j].1, ?_, fid, caps, h1, ?_⟩
 ·rw [Nat.zero_add, ← hc]
  unfold World.cell?
  simp only [hX]
 ·have e : (L.map (·.2)).getD j phId = L[j].2 := by simp [List.getD, hj]
  rw [e]
  exact h2 X ⟨Nat.le_trans h3.1 hf.1, fun k hk hl => (hf.2 k (Nat.le_trans hw (Nat.le_trans h5 hk)) (Nat.lt_of_lt_of_le hl h3.1)).trans (h3.2 k hk hl)⟩ hE
theorem SL.append {E : World → Prop} {base : Nat} {W W2 W4 : World} {v v3 : Value} {L : List (Value × Phi)} {fid : FuncId} {caps : Array Value} {f : Phi} {o : Obj} (h : SL E base W v L) (h1 : ∀ X, Xc W W2 X → E X → Jp X fid caps f) (hk : Xb f) (hb : Below W.heap.size W W2) (hbase : base ≤ W.heap.size)
  (hown : W4.ownsRow base 51 1 v3 (L.length + 1) (L.map (·.1) ++ [.func (.func fid) #[] caps])) (hg : (W2.alloc o).grownBy W4 v.ownBlock) (hat : v3.ownBlock = v.ownBlock ∨ v3.ownBlock = some (W2.alloc o).heap.size) : SL E base W4 v3 (L ++ [(.func (.func fid) #[] caps, f)]) := by
 have h3 : Below W2.heap.size W2 (W2.alloc o) := (Below.refl _ _).alloc (Nat.le_refl _) _
 have hsz := hb.size
 have hs3 := h3.size
 have hlt : ∀ g, v.ownBlock = some g → g < W.heap.size := fun g hg => by
  obtain ⟨-, A, fr, hA⟩ := Qm h.own g hg
  exact Qc hA
 have key : ∀ wa wb : World, Xc wa wb W2 → (∀ g, v.ownBlock = some g → g < wa.heap.size ∨ wb.heap.size ≤ g) → Xc wa wb W4 := fun wa wb hf hn => by
  have hf3 := hf.on h3
  refine ⟨Nat.le_trans hf3.1 hg.size, fun k hk hl => ?_⟩
  rw [hg.block k (Nat.lt_of_lt_of_le hl hf3.1) (fun e => by rcases hn k e.symm with q | q <;> omega)]
  exact hf3.2 k hk hl
 refine ⟨by rw [List.length_append, List.map_append]; exact hown, fun x hx => ?_⟩
 rcases List.mem_append.1 hx with hx | hx
 ·obtain ⟨⟨wa, wb, fid, caps, e1, e2, e3, e4, e5⟩, hk⟩ := h.all x hx
  refine ⟨⟨wa, wb, fid, caps, e1, e2, key wa wb (e3.on hb) e4, fun g hg3 => ?_, e5⟩, hk⟩
  rcases hat with q | q
  ·exact e4 g (q.symm.trans hg3)
  ·rw [q] at hg3
   injection hg3 with hg3
   exact .inr (by have := e3.1; omega)
 ·rw [List.mem_singleton.1 hx]
  refine ⟨⟨W, W2, fid, caps, rfl, h1, key W W2 (Xc.refl _ _) (fun g hg => .inl (hlt g hg)), fun g hg3 => ?_, hbase⟩, hk⟩
  rcases hat with q | q
  ·exact .inl (hlt g (q.symm.trans hg3))
  ·rw [q] at hg3
   injection hg3 with hg3
   exact .inr (by omega)
theorem Ue (m : Int) (on : Bool) (k : Int) (l : List Int) : Xm m on (k :: l) = if Gz m k = 0 then Xm m on l else qen (Gz m k) (on != decide (Gz m k = 8)) :: Xm m on l := rfl
theorem qbd (m : Int) (on : Bool) : ∀ (a b : List Int), Xm m on (a ++ b) = Xm m on a ++ Xm m on b
 | [], b => rfl
 | k :: a, b => by
  rw [List.cons_append, Ue, Ue, qbd m on a b]
  split
  ·rfl
  ·rfl
theorem qg5 (m : Int) (on : Bool) : ∀ (a : List Int), (Xm m on a).length ≤ a.length
 | [] => Nat.le_refl _
 | k :: a => by
  have := qg5 m on a
  rw [Ue]
  split
  ·rw [List.length_cons]
   omega
  ·rw [List.length_cons, List.length_cons]
   omega
theorem qbs (m k : Int) : 0 ≤ bits .and .i64 (Gz m k) 63 ∧ bits .and .i64 (Gz m k) 63 ≤ 63 := by
 unfold Gz
 repeat' split
 all_goals exact ⟨by decide, by decide⟩
theorem qil (b : Int) (on : Bool) (h0 : 0 ≤ bits .and .i64 b 63) (h1 : bits .and .i64 b 63 ≤ 63) : Xb (qen b on) := (qv4 b on h0 h1).keeps
theorem qie (l : List Int) (i : Nat) (h : i < l.length) : l.take (i + 1) = l.take i ++ [l.getD i 0] := by
 rw [List.take_add_one, List.getD, List.getElem?_eq_getElem h]
 rfl
set_option maxHeartbeats 4000000 in
theorem qmu (m : Int) (ps : List Int) (p : Option Addr) (c : Nat) (on : Bool) (w : World) (hI : Qz w (.slice p ps.length c) ps) (hl : ps.length ≤ 16) : Calls Tryz.prog 99 #[.int .u8 m, .slice p ps.length c, .bool on] w (Zk Any1 w (Qt (Xm m on ps))) := by
 obtain ⟨i0, hi, hzz⟩ := Option.map_eq_some_iff.1 qfc
 simp only [Prod.mk.injEq] at hzz
 obtain ⟨hz0, hz1, hz2⟩ := hzz
 have hb1 : Below w.heap.size w (w.alloc (.cells #[.bool on] 4)) := (Below.refl _ _).alloc (Nat.le_refl _) _
 have hx1 := heap_alloc_new w (.cells #[.bool on] 4)
 have HB1 : Hid _ := hb1
 have HX1 : Hid _ := hx1
 have HI : Hid (∀ X, Below w.heap.size w X → ∀ i, i < ps.length → ∃ b o, p = some ⟨b, o, none⟩ ∧ X.cell? ⟨b, o + i, none⟩ = some (.int .i64 (ps.getD i 0))) := fun X hX i hi => qlz (hI.next hX) i hi
 have HTK : Hid (∀ i, i < ps.length → Xm m on (ps.take (i + 1)) = Xm m on (ps.take i) ++ Xm m on [ps.getD i 0]) := fun i hi => by rw [qie ps i hi, qbd]
 have HEND : Hid (Xm m on (ps.take ps.length) = Xm m on ps) := by
  unfold Hid
  rw [List.take_length]
 have HLEN : Hid (∀ i, (Xm m on (ps.take i)).length ≤ 16) := fun i => Nat.le_trans (qg5 m on _) (by rw [List.length_take]; omega)
 have HGET : Hid (∀ i, ps.getD i 0 = ps.getD i 0) := fun i => rfl
 generalize hE : (fun X : World => X.heap[w.heap.size]? = some (.cells #[.bool on] 4 (0, 0))) = E
 have HEE : Hid (∀ X, E X ↔ X.heap[w.heap.size]? = some (.cells #[.bool on] 4 (0, 0))) := fun X => by rw [← hE]
 clear hE hb1 hx1 hI
 generalize hK : ps.length = K at *
 go_enter Tryz.func99, Tryz.ntmps99
 go_wp2_with fail
 go_loopg [7, 14] K (fun q sv iv wr => ∃ (i : Nat) (L : List (Value × Phi)), iv = .int .i64 (i : Int) ∧ i ≤ K ∧ K - i ≤ q ∧ Below w.heap.size w wr ∧ E wr ∧ SL E (w.heap.size + 1) wr sv L ∧ L.map (·.2) = Xm m on (ps.take i))
 case atStart => exact ⟨0, [], rfl, by omega, by omega, HB1.out, (HEE.out _).2 HX1.out, SL.nil _ _ _, rfl⟩
 case round =>
  clear HB1 HX1
  obtain ⟨i, L, rfl, hik, hq, hb, hE, hS, hm⟩ := hrel
  have HB : Hid (Below w.heap.size w wr) := hb
  have HSL : Hid (SL E (w.heap.size + 1) wr _ L) := hS
  have HM : Hid (L.map (·.2) = Xm m on (ps.take i)) := hm
  have HEW : Hid (E wr) := hE
  have hlen : L.length ≤ 16 := by
   have h1 := HLEN.out i
   rw [← hm, List.length_map] at h1
   exact h1
  have hw1 : w.heap.size + 1 ≤ wr.heap.size := Qc ((HEE.out _).1 hE)
  obtain ⟨sa, sc, hsv⟩ := Qw hS.own
  subst hsv
  by_cases hlt : i < K
  ·have lt1 : (i : Int) < (K : Int) := by omega
   obtain ⟨b, o, rfl, c1⟩ := HI.out wr hb i hlt
   have HT := HTK.out i hlt
   have hbits := qbs m (ps.getD i 0)
   have HMO := qqu m (ps.getD i 0) wr
   have HST : Hid (Xm m on [ps.getD i 0] = if Gz m (ps.getD i 0) = 0 then [] else [qen (Gz m (ps.getD i 0)) (on != decide (Gz m (ps.getD i 0) = 8))]) := rfl
   have HTH : Hid _ := HT
   clear hS hb hE hm HT
   generalize Gz m (ps.getD i 0) = bm at *
   generalize ps.getD i 0 = y at *
   by_cases hz : bm = 0
   ·have hz' : (bm == 0) = true := by simp [hz]
    have HZ : Hid (bm = 0) := hz
    clear hz hbits
    have bA : Below wr.heap.size wr (wr.alloc (.cells #[.int .i64 bm] 3)) := (Below.refl _ _).alloc (Nat.le_refl _) _
    have HBA : Hid _ := bA
    clear bA
    go_wp2_with (go_at_call 144; refine HMO.mono ?_; rintro e W ⟨rfl, rfl⟩)
    go_roundg (K - (i + 1))
    case measure => omega
    case rel =>
     refine ⟨i + 1, L, by go_num, by omega, by omega, HB.out.trans (HBA.out.mono HB.out.size), (HEE.out _).2 (Grd.carry ((HEE.out _).1 HEW.out) HBA.out), HSL.out.next HBA.out, ?_⟩
     rw [HTH.out, HST.out, if_pos HZ.out, List.append_nil]
     exact HM.out
   ·have hz' : (bm == 0) = false := by simp [hz]
    have HZ : Hid (¬ bm = 0) := hz
    have HBT : Hid _ := hbits
    clear hz hbits
    go_wp2_with (first | (go_at_call 144; refine HMO.mono ?_; rintro e W ⟨rfl, rfl⟩) | (at_builtin; refine Hid.out ?_))
    unfold Hid
    have bA : Below wr.heap.size wr ((wr.alloc (.cells #[.int .i64 bm] 3)).alloc (.cells #[.bool (bm == 8)] 4)) := ((Below.refl _ _).alloc (by first | (simp; done) | (simp; omega)) _).alloc (by first | (simp; done) | (simp; omega)) _
    have y1 : ((wr.alloc (.cells #[.int .i64 bm] 3)).alloc (.cells #[.bool (bm == 8)] 4)).heap[wr.heap.size]? = _ := (Below.heap_alloc _ _ _ (by first | (simp; done) | (simp; omega))).trans (heap_alloc_new wr (.cells #[.int .i64 bm] 3))
    have y3 : ((wr.alloc (.cells #[.int .i64 bm] 3)).alloc (.cells #[.bool (bm == 8)] 4)).heap[wr.heap.size + 1]? = _ := heap_alloc2_new wr (.cells #[.int .i64 bm] 3) (.cells #[.bool (bm == 8)] 4)
    have hs2 : ((wr.alloc (.cells #[.int .i64 bm] 3)).alloc (.cells #[.bool (bm == 8)] 4)).heap.size = wr.heap.size + 1 + 1 := by simp
    have HF : Hid (∀ X, Xc wr ((wr.alloc (.cells #[.int .i64 bm] 3)).alloc (.cells #[.bool (bm == 8)] 4)) X → E X → Jp X 145 #[.pointer (some ⟨wr.heap.size, 0, none⟩), .pointer (some ⟨w.heap.size, 0, none⟩), .pointer (some ⟨wr.heap.size + 1, 0, none⟩)] (qen bm (on != (bm == 8)))) := fun X hf he => qht bm on (bm == 8) HBT.out.1 HBT.out.2 X wr.heap.size w.heap.size (wr.heap.size + 1) (Zl (hf.blk (Nat.le_refl _) y1)) (Zl ((HEE.out X).1 he)) (Zl (hf.blk (Nat.le_succ _) y3))
    generalize ((wr.alloc (.cells #[.int .i64 bm] 3)).alloc (.cells #[.bool (bm == 8)] 4)) = W2 at *
    have y2 : (W2.alloc (.cells #[(.func (.func 145) #[] #[.pointer (some ⟨wr.heap.size, 0, none⟩), .pointer (some ⟨w.heap.size, 0, none⟩), .pointer (some ⟨wr.heap.size + 1, 0, none⟩)])] 51)).heap[wr.heap.size + 1 + 1]? = some (.cells #[(.func (.func 145) #[] #[.pointer (some ⟨wr.heap.size, 0, none⟩), .pointer (some ⟨w.heap.size, 0, none⟩), .pointer (some ⟨wr.heap.size + 1, 0, none⟩)])] 51 (0, 0)) := by
     have h := heap_alloc_new W2 (.cells #[(.func (.func 145) #[] #[.pointer (some ⟨wr.heap.size, 0, none⟩), .pointer (some ⟨w.heap.size, 0, none⟩), .pointer (some ⟨wr.heap.size + 1, 0, none⟩)])] 51)
     rwa [hs2] at h
    have hown2 := Grd.ownsRow_below HSL.out.own bA
    have hfrom := Grd.qbz HSL.out.own
    refine wpList_append_own_at _ rfl _ _ 53 rfl (w.heap.size + 1) 51 i0 .nilFunc 1 8 qde hi hz0 hz1 hz2 rfl (by decide) (.slice sa L.length sc) L.length (L.map (·.1)) rfl (hown2.alloc _) ⟨wr.heap.size + 1 + 1, 0, none⟩ 1 1 [(.func (.func 145) #[] #[.pointer (some ⟨wr.heap.size, 0, none⟩), .pointer (some ⟨w.heap.size, 0, none⟩), .pointer (some ⟨wr.heap.size + 1, 0, none⟩)])] rfl rfl (Prs.cells_of_block (L := [(.func (.func 145) #[] #[.pointer (some ⟨wr.heap.size, 0, none⟩), .pointer (some ⟨w.heap.size, 0, none⟩), .pointer (some ⟨wr.heap.size + 1, 0, none⟩)])]) y2) (by intro u hu; simp at hu; rw [hu]; rfl) (by unfold maxLen; omega) (by omega) (by simp; omega) ?_
    intro v3 W4 hown3 hgr hnil hat
    have HSN : Hid _ := SL.append HSL.out HF.out (qil bm _ HBT.out.1 HBT.out.2) bA hw1 hown3 hgr hat
    have HGR : Hid _ := hgr
    have HBA : Hid _ := bA
    clear hgr hat hnil hown3 hown2 y1 y2 y3 bA
    go_wp2_with fail
    go_roundg (K - (i + 1))
    case measure => omega
    case rel =>
     have kb2 := HB.out.trans (HBA.out.mono HB.out.size)
     refine ⟨i + 1, _, by go_num, by omega, by omega, ?_, ?_, HSN.out, ?_⟩
     ·exact (kb2.alloc kb2.size _).grown HGR.out (by simp; omega) (fun q hq => by have := hfrom q hq; omega)
     ·refine (HEE.out _).2 ?_
      rw [HGR.out.block _ (by simp; omega) (fun e => by have := hfrom _ e.symm; omega)]
      exact Grd.carry (Grd.carry ((HEE.out _).1 HEW.out) HBA.out) ((Below.refl _ _).alloc (Nat.le_refl _) _)
     ·rw [HTH.out, HST.out, if_neg HZ.out, List.map_append, HM.out]
      rfl
  ·have lt1 : ¬ (i : Int) < (K : Int) := by omega
   have e : i = K := by omega
   subst e
   have hm' := hm.trans HEND.out
   have hkp : ∀ f, f ∈ L.map (·.2) → Xb f := fun f hf => by
    obtain ⟨x, hx, rfl⟩ := List.mem_map.1 hf
    exact (hS.all x hx).keeps
   have hlm : (L.map (·.2)).length = L.length := List.length_map _
   have HA := qlr (L.map (·.2)) hkp sa sc wr (by omega)
   rw [hlm, hm'] at HA
   have HMM : Hid (L.map (·.2) = Xm m on ps) := hm'
   have HFIN : Hid (∀ w3, Below wr.heap.size wr w3 → ∀ W, Xc w w3 W → Xc wr w3 W ∧ Y3 W (.slice sa L.length sc) (L.map (·.2))) := fun w3 h3 W hf => by
    have hfw : Xc w wr W := hf.inner (Nat.le_refl _) h3
    exact ⟨hf.inner HB.out.size (Below.refl _ _), HSL.out.steps (w := w) (Nat.le_succ _) hfw ((HEE.out _).2 (hfw.blk (Nat.le_refl _) ((HEE.out _).1 HEW.out)))⟩
   clear hm hm' hS hb hE hkp hlm
   go_wp2_with fail
   refine HA.mono ?_
   rintro e w3 ⟨fid, caps, rfl, hk, h3, b3⟩
   have HK3 : Hid _ := hk
   have H3 : Hid _ := h3
   have HB3 : Hid _ := b3
   clear hk h3 b3 HA
   go_wp2_with fail
   go_ret
   refine ⟨fid, caps, rfl, HK3.out, fun W hf _ => ?_, HB.out.trans (HB3.out.mono HB.out.size)⟩
   obtain ⟨q1, q2⟩ := HFIN.out w3 HB3.out W hf
   rw [HMM.out] at q2
   exact H3.out W q1 q2
end Put
namespace Put
open Grd (C SliceAt Qb Qf z0 Qx flat Qe)
open Prs (Qz ints)
theorem qri (l : List Int) (v : Value) (w : World) (hI : Qz w v l) (hn : l.length * 8 ≤ 140737488355328) :
  Calls Tryz.prog 215 #[v] w fun e w' => ∃ pa pc, e = .returned (.slice pa l.length pc) ∧ w'.ownsRow w.heap.size 3 1 (.slice pa l.length pc) l.length (ints l) ∧ Below w.heap.size w w' := by
 rcases hI with ⟨rfl, p, c, rfl⟩ | ⟨b, o, c, rfl, hc⟩
 ·cases p with
  | none =>
   refine (Tryz.slices_Clone_int_nil 0 c w).mono ?_
   rintro e w' ⟨rfl, rfl⟩
   exact ⟨none, 0, rfl, World.ownsRow_nil _ _ _ _, Below.refl _ _⟩
  | some a =>
   refine (Tryz.slices_Clone_int_zero a c w).mono ?_
   rintro e w' ⟨v', rfl, ho, -, hb⟩
   obtain ⟨pa, pc, rfl⟩ := Qw ho
   exact ⟨pa, pc, rfl, ho, hb⟩
 ·refine (Tryz.slices_Clone_int b o l.length c l w (Nat.le_refl _) hn (Prs.qip hc)).mono ?_
  rintro e w' ⟨v', rfl, ho, -, hb⟩
  rw [List.take_length] at ho
  obtain ⟨pa, pc, rfl⟩ := Qw ho
  exact ⟨pa, pc, rfl, ho, hb⟩
def told (p : Int) : Int := if p = -1 then 0 else p
def mixL (ps : List Int) (i : Nat) : List Int := (ps.take i).map told ++ ps.drop i
theorem qw4 (ps : List Int) : mixL ps ps.length = ps.map told := by
 unfold mixL
 rw [List.take_length, List.drop_length, List.append_nil]
theorem qtn (ps : List Int) (i : Nat) (h : i < ps.length) : mixL ps (i + 1) = (mixL ps i).set i (par ps i 0) := by
 have e1 : par ps i 0 = told (ps.getD i 0) := by
  unfold par told
  rw [if_neg (by omega)]
 have e2 : ps.drop i = ps.getD i 0 :: ps.drop (i + 1) := by
  rw [List.getD, List.getElem?_eq_getElem h, List.drop_eq_getElem_cons h]
  rfl
 have hl : ((ps.take i).map told).length = i := by
  rw [List.length_map, List.length_take]
  omega
 unfold mixL
 rw [e1, qie ps i h, List.map_append, List.append_assoc, e2, List.set_append_right _ _ (by omega), hl, Nat.sub_self]
 rfl
theorem qyw (ps : List Int) (i : Nat) (h : i < ps.length) : ints (mixL ps (i + 1)) = (ints (mixL ps i)).set i (.int .i64 (par ps i 0)) := by
 rw [qtn ps i h]
 unfold ints
 rw [List.map_set]
theorem qop {W : World} {N : Nat} {e : TypeId} {v : Value} {n : Nat} {vs : List Value} (h : W.ownsRow N e 1 v n vs) (hn : 0 < n) : ∃ g c, v = .slice (some ⟨g, 0, none⟩) n c ∧ N ≤ g ∧ ∃ A, W.heap[g]? = some (.cells A e (0, 0)) ∧ n ≤ A.size := by
 obtain ⟨h0, ⟨rfl, rfl⟩ | ⟨g, cap, cur, hv, hg, hh, hc, hm, hs, htk⟩⟩ := h
 ·omega
 ·exact ⟨g, cap, hv, hg, _, hh, by omega⟩
theorem qx5 {w : World} {base : Nat} {v : Value} {xs : List Int} (h : w.ownsRow base 3 1 v xs.length (ints xs)) : Stl.qbu w v xs := by
 rcases h.2 with ⟨rfl, h0⟩ | ⟨g, cap, cur, rfl, _, hh, hc, _, hs, htk⟩
 ·exact .inl ⟨List.length_eq_zero_iff.1 h0, _, _, rfl⟩
 ·by_cases h0 : xs = []
  ·subst h0
   exact .inl ⟨rfl, _, _, rfl⟩
  ·refine .inr ⟨h0, g, 0, cap, rfl, hc, fun j hj => ?_⟩
   have h1 : cur.toList[j]? = some (.int .i64 (xs.getD j 0)) := by
    have h2 : (cur.toList.take (xs.length * 1))[j]? = (ints xs)[j]? := by rw [htk]
    rw [List.getElem?_take, if_pos (by omega)] at h2
    rw [h2]
    simp [ints, hj, List.getD]
   simp only [World.cell?, hh, Nat.zero_add]
   simpa using h1
set_option maxHeartbeats 4000000 in
theorem qnw (ps : List Int) (p : Option Addr) (c : Nat) (w : World) (hI : Qz w (.slice p ps.length c) ps) (hl : ps.length ≤ 16) (hpa : ∀ y, y ∈ ps → -1 ≤ y ∧ y ≤ 9999) : Calls Tryz.prog 166 #[.slice p ps.length c] w (Zk Any1 w (qah (ps.map told))) := by
 have HCL := qri ps _ w hI (by omega)
 have HP : Hid (∀ X, Below w.heap.size w X → ∀ i : Nat, Calls Tryz.prog 101 #[.slice p ps.length c, .int .i64 (i : Int), .int .i64 0] X fun e w' => e = .returned (.int .i64 (par ps i 0)) ∧ X = w') := fun X hX i => Vk ps p c i 0 X (hI.next hX)
 have HMIX : Hid (∀ i, i < ps.length → ints (mixL ps (i + 1)) = (ints (mixL ps i)).set i (.int .i64 (par ps i 0))) := fun i hi => qyw ps i hi
 have HNM : Hid (∀ X v, X.ownsRow w.heap.size 3 1 v ps.length (ints (mixL ps ps.length)) → Nums X v (ps.map told)) := fun X v h => by
  rw [qw4] at h
  refine ⟨qx5 (by rw [List.length_map]; exact h), by rw [List.length_map]; omega, fun x hx => ?_⟩
  obtain ⟨y, hy, rfl⟩ := List.mem_map.1 hx
  have := hpa y hy
  unfold told
  split <;> omega
 have HM0 : Hid (ints (mixL ps 0) = ints ps) := rfl
 have HKL : Hid (Xb (qah (ps.map told))) := fun _ _ _ h => qbt h _
 clear hI hpa
 generalize hK : ps.length = K0 at *
 clear hK
 go_enter Tryz.func166, Tryz.ntmps166
 go_wp2_with fail
 refine HCL.mono ?_
 rintro e W1 ⟨na, nc, rfl, ho, b1⟩
 have hx := heap_alloc_new W1 (.cells #[.slice na K0 nc] 33)
 have bx : Below W1.heap.size W1 (W1.alloc (.cells #[.slice na K0 nc] 33)) := (Below.refl _ _).alloc (Nat.le_refl _) _
 have HX : Hid _ := hx
 have HBX : Hid (Below w.heap.size w (W1.alloc (.cells #[.slice na K0 nc] 33))) := b1.trans (bx.mono b1.size)
 have HO : Hid ((W1.alloc (.cells #[.slice na K0 nc] 33)).ownsRow w.heap.size 3 1 (.slice na K0 nc) K0 (ints ps)) := Grd.ownsRow_below ho bx
 have hs1 := b1.size
 clear hx bx ho b1 HCL
 go_wp2_with fail
 go_loopg [9] K0 (fun q v wr => ∃ i : Nat, v = .int .i64 (i : Int) ∧ i ≤ K0 ∧ K0 - i ≤ q ∧ Below w.heap.size w wr ∧ wr.heap[W1.heap.size]? = some (.cells #[.slice na K0 nc] 33 (0, 0)) ∧ wr.ownsRow w.heap.size 3 1 (.slice na K0 nc) K0 (ints (mixL ps i)))
 case atStart => exact ⟨0, rfl, by omega, by omega, HBX.out, HX.out, by rw [HM0.out]; exact HO.out⟩
 case round =>
  clear HX HBX HO
  obtain ⟨i, rfl, hi, hq, hb, hy, ho⟩ := hrel
  by_cases hlt : i < K0
  ·have lt1 : (i : Int) < (K0 : Int) := by omega
   obtain ⟨g, gc', hv, hgb, A, hA, hAs⟩ := qop ho (by omega)
   injection hv with hv1 _ hv3
   subst hv1 hv3
   have hne : g ≠ W1.heap.size := by
    intro e
    rw [e, hy] at hA
    injection hA with hA
    injection hA with _ hA _
    exact absurd hA (by decide)
   have HBZ : Hid (Below w.heap.size w wr.drew) := hb.drew
   have HYZ : Hid (wr.drew.heap[W1.heap.size]? = _) := hy
   have HOZ : Hid (wr.drew.ownsRow w.heap.size 3 1 _ K0 (ints (mixL ps i))) := ho
   have HPA := HP.out wr.drew HBZ.out i
   have HMX : Hid _ := HMIX.out i hlt
   have d0 : wr.drew.cell? ⟨W1.heap.size, 0, none⟩ = some (.slice (some ⟨g, 0, none⟩) K0 nc) := Zl HYZ.out
   have d1 : wr.drew.cell? ⟨g, i, none⟩ = some (A[i]'(by omega)) := by
    show (match wr.drew.heap[g]? with
     | some (.cells cs _ _) => cs[i]?
     | _ => none) = _
    rw [show wr.drew.heap[g]? = _ from hA]
    exact Array.getElem?_eq_getElem _
   have d2 : wr.drew.frozen? ⟨g, i, none⟩ = false := Grd.Jk (show wr.drew.heap[g]? = _ from hA) i
   clear hb hy ho hA
   generalize par ps i 0 = pv at *
   generalize A[i]'(by omega) = av at *
   go_upto_region 5 with fail
   refine wp_region_held_drew (S := fun _ => True) (by kernel_rfl) trivial (fun hHeld => ?_)
   generalize wr.drew = Z0 at *
   refine Xl (i := 1) (v := ?_) rfl (by kernel_rfl) (by kernel_rfl) (by kernel_rfl) (fun _ _ _ h => h) (Or.inl ⟨by rfl, ?_⟩) hHeld ?_
   rotate_left
   ·intro w' hSw
    go_simp
    (try with_reducible rfl)
   (try simp only [Act.put, List.setIfInBounds_toArray, List.set_cons_zero, List.set_cons_succ])
   refine Xl (i := 2) (v := ?_) rfl (by kernel_rfl) (by kernel_rfl) (by kernel_rfl) (fun _ _ _ h => h) (Or.inl ⟨by rfl, ?_⟩) hHeld ?_
   rotate_left
   ·intro w' hSw
    go_simp
    (try with_reducible rfl)
   (try simp only [Act.put, List.setIfInBounds_toArray, List.set_cons_zero, List.set_cons_succ])
   refine Xl (i := 3) (v := ?_) rfl (by kernel_rfl) (by kernel_rfl) (by kernel_rfl) (fun _ _ _ h => h) (Or.inl ⟨by rfl, ?_⟩) hHeld ?_
   rotate_left
   ·intro w' hSw
    go_simp
    (try with_reducible rfl)
   (try simp only [Act.put, List.setIfInBounds_toArray, List.set_cons_zero, List.set_cons_succ])
   refine wpAnyH_ready (rs := [0, 4]) (by kernel_rfl) (by simp) ?_
   refine Jr rfl (fun K hK => ?_) <| Jr rfl (fun K hK => ?_) <| AllReadyH.nil
   ·go_simp
    refine hK.out _ _ trivial (fun hHeld => ?_)
    clear hK K
    (try simp only [Act.put, List.setIfInBounds_toArray, List.set_cons_zero, List.set_cons_succ])
    refine wpAnyH_ready (rs := [4]) (by kernel_rfl) (by simp) ?_
    refine Jr rfl (fun K hK => ?_) <| AllReadyH.nil
    ·go_simp
     refine HPA.mono ?_
     rintro e V ⟨rfl, rfl⟩
     go_wp2_with fail
     refine hK.out _ _ trivial (fun hHeld => ?_)
     clear hK K
     (try simp only [Act.put, List.setIfInBounds_toArray, List.set_cons_zero, List.set_cons_succ])
     refine Xl (i := 5) (v := ?_) rfl (by kernel_rfl) (by kernel_rfl) (by kernel_rfl) (fun _ _ _ h => h) (Or.inl ⟨by rfl, ?_⟩) hHeld ?_
     rotate_left
     ·intro w' hSw
      go_simp
      (try with_reducible rfl)
     (try simp only [Act.put, List.setIfInBounds_toArray, List.set_cons_zero, List.set_cons_succ])
     refine wpAnyH_ready (rs := [6]) (by kernel_rfl) (by simp) ?_
     refine Jr rfl (fun K hK => ?_) <| AllReadyH.nil
     ·go_simp
      refine hK.out _ _ trivial (fun hHeld => ?_)
      clear hK K
      (try simp only [Act.put, List.setIfInBounds_toArray, List.set_cons_zero, List.set_cons_succ])
      refine wpAnyH_done (by kernel_rfl) ?_ _
      go_wp2_with fail
      go_roundg (K0 - (i + 1))
      case measure => omega
      case rel =>
       refine ⟨i + 1, by go_num, by omega, by omega, HBZ.out.setCell hgb _, (Q4 (Ne.symm hne)).trans HYZ.out, ?_⟩
       rw [HMX.out]
       exact qb5 HOZ.out
   ·go_simp
    refine HPA.mono ?_
    rintro e V ⟨rfl, rfl⟩
    go_wp2_with fail
    refine hK.out _ _ trivial (fun hHeld => ?_)
    clear hK K
    (try simp only [Act.put, List.setIfInBounds_toArray, List.set_cons_zero, List.set_cons_succ])
    refine wpAnyH_ready (rs := [0]) (by kernel_rfl) (by simp) ?_
    refine Jr rfl (fun K hK => ?_) <| AllReadyH.nil
    ·go_simp
     refine hK.out _ _ trivial (fun hHeld => ?_)
     clear hK K
     (try simp only [Act.put, List.setIfInBounds_toArray, List.set_cons_zero, List.set_cons_succ])
     refine Xl (i := 5) (v := ?_) rfl (by kernel_rfl) (by kernel_rfl) (by kernel_rfl) (fun _ _ _ h => h) (Or.inl ⟨by rfl, ?_⟩) hHeld ?_
     rotate_left
     ·intro w' hSw
      go_simp
      (try with_reducible rfl)
     (try simp only [Act.put, List.setIfInBounds_toArray, List.set_cons_zero, List.set_cons_succ])
     refine wpAnyH_ready (rs := [6]) (by kernel_rfl) (by simp) ?_
     refine Jr rfl (fun K hK => ?_) <| AllReadyH.nil
     ·go_simp
      refine hK.out _ _ trivial (fun hHeld => ?_)
      clear hK K
      (try simp only [Act.put, List.setIfInBounds_toArray, List.set_cons_zero, List.set_cons_succ])
      refine wpAnyH_done (by kernel_rfl) ?_ _
      go_wp2_with fail
      go_roundg (K0 - (i + 1))
      case measure => omega
      case rel =>
       refine ⟨i + 1, by go_num, by omega, by omega, HBZ.out.setCell hgb _, (Q4 (Ne.symm hne)).trans HYZ.out, ?_⟩
       rw [HMX.out]
       exact qb5 HOZ.out
  ·have lt1 : ¬ (i : Int) < (K0 : Int) := by omega
   have e : i = K0 := by omega
   subst e
   have HY : Hid _ := hy
   have HB : Hid (Below w.heap.size w wr) := hb
   have HFIN : Hid (∀ X, Xc w wr X → Jp X 216 #[.pointer (some ⟨W1.heap.size, 0, none⟩)] (qah (ps.map told))) := fun X hf => qhs na i nc (ps.map told) X W1.heap.size (Zl (hf.blk hs1 hy)) (HNM.out X _ (Zd ho fun q hqq => by
    obtain ⟨hwq, B, fr, hB⟩ := Qm ho q hqq
    exact hf.2 q hwq (Qc hB)))
   clear hb hy ho
   go_wp2_with fail
   go_ret
   exact ⟨_, _, rfl, HKL.out, fun X hf _ => HFIN.out X hf, HB.out⟩
end Put
namespace Put
theorem qe4 : Tryz.prog.underlying 131 = some (.array 256 128) := by kernel_rfl
def cntV (n : Int) : Value := if n = 64 then .func (.func 147) #[] #[] else if n = 65 then .func (.func 148) #[] #[] else if n = 66 then .func (.func 149) #[] #[] else if n = 67 then .func (.func 150) #[] #[] else if n = 68 then .func (.func 89) #[] #[] else if n = 71 then .func (.func 151) #[] #[] else if n = 73 then .func (.func 91) #[] #[] else if n = 76 then .func (.func 152) #[] #[] else if n = 77 then .func (.func 153) #[] #[] else if n = 80 then .func (.func 154) #[] #[] else if n = 83 then .func (.func 155) #[] #[] else if n = 84 then .func (.func 156) #[] #[] else if n = 88 then .func (.func 157) #[] #[] else if n = 90 then .func (.func 158) #[] #[] else if n = 96 then .func (.func 151) #[] #[] else if n = 97 then .func (.func 150) #[] #[] else if n = 98 then .func (.func 159) #[] #[] else if n = 100 then .func (.func 160) #[] #[] else if n = 101 then .func (.func 149) #[] #[] else .nilFunc
def cntA : Array Value := ((List.range 256).map fun (n : Nat) => cntV (n : Int)).toArray
theorem quc : cntA.size = 256 := by simp [cntA]
theorem qx7 : cntA.all (·.oneCell') = true := by kernel_rfl
set_option maxHeartbeats 4000000 in
theorem qk4 (w : World) : Calls Tryz.prog 100 #[] w fun e w' => e = .returned (.agg cntA) ∧ Below w.heap.size w w' := by
 have HB : Hid (Below w.heap.size w (w.alloc (.cells Tryz.zeroCells131 131))) := (Below.refl _ _).alloc (Nat.le_refl _) _
 have HX : Hid _ := heap_alloc_new w (.cells Tryz.zeroCells131 131)
 go_enter Tryz.func100, Tryz.ntmps100
 go_upto_region 1 with fail
 go_wp2_with (first | (refine wpList_build rfl _ _ rfl (by kernel_rfl) ?_) | (refine wpList_store_row rfl 131 (.tmp 0) (.tmp 1) rfl w.heap.size cntA rfl (by kernel_rfl) _ _ HX.out (by kernel_rfl) (by kernel_rfl) qx7 ?_))
 (try simp only [Exit.inBlock, Exit.then])
 refine bodyPost_ret (v := .agg cntA) ?_ rfl ⟨rfl, below_setRow HB.out (Nat.le_refl _) _⟩
 exact results_cell_row rfl _ _ w.heap.size _ _ _ _ rfl (setRow_heap _ _ _ _ _ _ HX.out) qe4 rfl (by kernel_rfl)
theorem qyz (c : Int) (h0 : 0 ≤ c) (h1 : c ≤ 255) (w : World) : (Instr.index 131 (.agg cntA) (.int .u8 c)).run Tryz.prog w = .ok (cntV c) w := by
 have hs := quc
 have e : c = ((c.toNat : Nat) : Int) := by omega
 have hl : c.toNat < 256 := by omega
 rw [e]
 generalize c.toNat = k at *
 have hk : k < cntA.size := by omega
 simp [Instr.index, run_underlying qe4, asIntOf, go_sem]
 rw [if_pos hl]
 have eA : cntA[k]? = some (cntV (k : Int)) := by simp [cntA, hl]
 rw [eA]
 rfl
theorem qiv (c k : Int) : (cntV c = .nilFunc ∧ qfw c k = none) ∨ ∃ fid f, cntV c = .func (.func fid) #[] #[] ∧ qfw c k = some f ∧ Ct fid #[.int .i64 k] f := by
 unfold cntV qfw
 by_cases h : c = 64
 ·rw [if_pos h, if_pos h]
  exact .inr ⟨_, _, rfl, rfl, q1u k⟩
 rw [if_neg h, if_neg h]
 clear h
 by_cases h : c = 65
 ·rw [if_pos h, if_pos h]
  exact .inr ⟨_, _, rfl, rfl, ctUp k⟩
 rw [if_neg h, if_neg h]
 clear h
 by_cases h : c = 66
 ·rw [if_pos h, if_pos h]
  exact .inr ⟨_, _, rfl, rfl, qkr k⟩
 rw [if_neg h, if_neg h]
 clear h
 by_cases h : c = 67
 ·rw [if_pos h, if_pos h]
  exact .inr ⟨_, _, rfl, rfl, qr6 k⟩
 rw [if_neg h, if_neg h]
 clear h
 by_cases h : c = 68
 ·rw [if_pos h, if_pos h]
  exact .inr ⟨_, _, rfl, rfl, qq6 k⟩
 rw [if_neg h, if_neg h]
 clear h
 by_cases h : c = 71
 ·rw [if_pos h, if_pos h]
  exact .inr ⟨_, _, rfl, rfl, ql2 k⟩
 rw [if_neg h, if_neg h]
 clear h
 by_cases h : c = 73
 ·rw [if_pos h, if_pos h]
  exact .inr ⟨_, _, rfl, rfl, qwg k⟩
 rw [if_neg h, if_neg h]
 clear h
 by_cases h : c = 76
 ·rw [if_pos h, if_pos h]
  exact .inr ⟨_, _, rfl, rfl, q08 k⟩
 rw [if_neg h, if_neg h]
 clear h
 by_cases h : c = 77
 ·rw [if_pos h, if_pos h]
  exact .inr ⟨_, _, rfl, rfl, q1p k⟩
 rw [if_neg h, if_neg h]
 clear h
 by_cases h : c = 80
 ·rw [if_pos h, if_pos h]
  exact .inr ⟨_, _, rfl, rfl, q17 k⟩
 rw [if_neg h, if_neg h]
 clear h
 by_cases h : c = 83
 ·rw [if_pos h, if_pos h]
  exact .inr ⟨_, _, rfl, rfl, q10 k⟩
 rw [if_neg h, if_neg h]
 clear h
 by_cases h : c = 84
 ·rw [if_pos h, if_pos h]
  exact .inr ⟨_, _, rfl, rfl, qzp k⟩
 rw [if_neg h, if_neg h]
 clear h
 by_cases h : c = 88
 ·rw [if_pos h, if_pos h]
  exact .inr ⟨_, _, rfl, rfl, qzs k⟩
 rw [if_neg h, if_neg h]
 clear h
 by_cases h : c = 90
 ·rw [if_pos h, if_pos h]
  exact .inr ⟨_, _, rfl, rfl, qu4 k⟩
 rw [if_neg h, if_neg h]
 clear h
 by_cases h : c = 96
 ·rw [if_pos h, if_pos h]
  exact .inr ⟨_, _, rfl, rfl, ql2 k⟩
 rw [if_neg h, if_neg h]
 clear h
 by_cases h : c = 97
 ·rw [if_pos h, if_pos h]
  exact .inr ⟨_, _, rfl, rfl, qr6 k⟩
 rw [if_neg h, if_neg h]
 clear h
 by_cases h : c = 98
 ·rw [if_pos h, if_pos h]
  exact .inr ⟨_, _, rfl, rfl, qz3 k⟩
 rw [if_neg h, if_neg h]
 clear h
 by_cases h : c = 100
 ·rw [if_pos h, if_pos h]
  exact .inr ⟨_, _, rfl, rfl, q1v k⟩
 rw [if_neg h, if_neg h]
 clear h
 by_cases h : c = 101
 ·rw [if_pos h, if_pos h]
  exact .inr ⟨_, _, rfl, rfl, qkr k⟩
 rw [if_neg h, if_neg h]
 clear h
 exact .inl ⟨rfl, rfl⟩
def choV (n : Int) : Value := if n = 74 then .func (.func 161) #[] #[] else if n = 75 then .func (.func 162) #[] #[] else if n = 103 then .func (.func 163) #[] #[] else .nilFunc
def choA : Array Value := ((List.range 256).map fun (n : Nat) => choV (n : Int)).toArray
theorem qsx : choA.size = 256 := by simp [choA]
theorem qw0 : choA.all (·.oneCell') = true := by kernel_rfl
set_option maxHeartbeats 4000000 in
theorem qk7 (w : World) : Calls Tryz.prog 102 #[] w fun e w' => e = .returned (.agg choA) ∧ Below w.heap.size w w' := by
 have HB : Hid (Below w.heap.size w (w.alloc (.cells Tryz.zeroCells131 131))) := (Below.refl _ _).alloc (Nat.le_refl _) _
 have HX : Hid _ := heap_alloc_new w (.cells Tryz.zeroCells131 131)
 go_enter Tryz.func102, Tryz.ntmps102
 go_upto_region 1 with fail
 go_wp2_with (first | (refine wpList_build rfl _ _ rfl (by kernel_rfl) ?_) | (refine wpList_store_row rfl 131 (.tmp 0) (.tmp 1) rfl w.heap.size choA rfl (by kernel_rfl) _ _ HX.out (by kernel_rfl) (by kernel_rfl) qw0 ?_))
 (try simp only [Exit.inBlock, Exit.then])
 refine bodyPost_ret (v := .agg choA) ?_ rfl ⟨rfl, below_setRow HB.out (Nat.le_refl _) _⟩
 exact results_cell_row rfl _ _ w.heap.size _ _ _ _ rfl (setRow_heap _ _ _ _ _ _ HX.out) qe4 rfl (by kernel_rfl)
theorem q0f (c : Int) (h0 : 0 ≤ c) (h1 : c ≤ 255) (w : World) : (Instr.index 131 (.agg choA) (.int .u8 c)).run Tryz.prog w = .ok (choV c) w := by
 have hs := qsx
 have e : c = ((c.toNat : Nat) : Int) := by omega
 have hl : c.toNat < 256 := by omega
 rw [e]
 generalize c.toNat = k at *
 have hk : k < choA.size := by omega
 simp [Instr.index, run_underlying qe4, asIntOf, go_sem]
 rw [if_pos hl]
 have eA : choA[k]? = some (choV (k : Int)) := by simp [choA, hl]
 rw [eA]
 rfl
theorem qii (c k : Int) : (choV c = .nilFunc ∧ qci c k = none) ∨ ∃ fid f, choV c = .func (.func fid) #[] #[] ∧ qci c k = some f ∧ Ct fid #[.int .i64 k] f := by
 unfold choV qci
 by_cases h : c = 74
 ·rw [if_pos h, if_pos h]
  exact .inr ⟨_, _, rfl, rfl, qws k⟩
 rw [if_neg h, if_neg h]
 clear h
 by_cases h : c = 75
 ·rw [if_pos h, if_pos h]
  exact .inr ⟨_, _, rfl, rfl, q1g k⟩
 rw [if_neg h, if_neg h]
 clear h
 by_cases h : c = 103
 ·rw [if_pos h, if_pos h]
  exact .inr ⟨_, _, rfl, rfl, qra k⟩
 rw [if_neg h, if_neg h]
 clear h
 exact .inl ⟨rfl, rfl⟩
end Put
namespace Put
open Grd (C SliceAt Qb Qf z0 Qx flat Qe)
open Prs (Qz)
theorem q1i (ps : List Int) (hpa : ∀ y, y ∈ ps → -1 ≤ y ∧ y ≤ 9999) (i : Nat) (d : Int) (hd : d ≤ 9999) : par ps i d ≤ 9999 := by
 unfold par
 split
 ·exact hd
 ·split
  ·exact hd
  ·rename_i h _
   have h2 : i < ps.length := by omega
   rw [List.getD, List.getElem?_eq_getElem h2]
   exact (hpa _ (List.getElem_mem h2)).2
set_option maxHeartbeats 4000000 in
theorem qml (fin : Int) (ps : List Int) (p : Option Addr) (c : Nat) (w : World) (hI : Qz w (.slice p ps.length c) ps) (hl : ps.length ≤ 16) (hpa : ∀ y, y ∈ ps → -1 ≤ y ∧ y ≤ 9999) : Calls Tryz.prog 103 #[.int .u8 fin, .slice p ps.length c] w (Zk (fun W => Qz W (.slice p ps.length c) ps) w (Zt fin ps)) := by
 have HPA := Vk ps p c 0 1 w hI
 have hle := q1i ps hpa 0 0 (by omega)
 by_cases h69 : fin = 69
 ·subst h69
  have e : Zt 69 ps = Qt [qgb (par ps 0 1), Ku] := rfl
  rw [e]
  have HBY := by_m 149 (par ps 0 1) _ (qkr _) (fun W => Qz W (.slice p ps.length c) ps) w
  clear hI hle e hpa
  generalize (fun W => Qz W (.slice p ps.length c) ps) = E at *
  generalize par ps 0 1 = x at *
  generalize ps.length = K at *
  go_enter Tryz.func103, Tryz.ntmps103
  go_wp2_with fail
  refine HPA.mono ?_
  rintro e W ⟨rfl, rfl⟩
  go_wp2_with fail
  refine HBY.mono ?_
  rintro e w1 ⟨fid, caps, rfl, hk, h1, b1⟩
  have HA := qpz hk 93 Vo fid caps w w1 _ h1 b1 rfl
  clear hk h1 b1 HBY HPA
  go_wp2_with fail
  refine HA.mono ?_
  rintro e W ⟨fid3, caps3, rfl, hF⟩
  have HF : Hid _ := hF
  clear hF HA
  go_wp2_with fail
  go_ret
  exact ⟨_, _, rfl, HF.out⟩
 by_cases h70 : fin = 70
 ·subst h70
  have e : Zt 70 ps = Qt [phUp (par ps 0 1), Ku] := rfl
  rw [e]
  have HBY := by_m 148 (par ps 0 1) _ (ctUp _) (fun W => Qz W (.slice p ps.length c) ps) w
  clear hI hle e hpa
  generalize (fun W => Qz W (.slice p ps.length c) ps) = E at *
  generalize par ps 0 1 = x at *
  generalize ps.length = K at *
  go_enter Tryz.func103, Tryz.ntmps103
  go_wp2_with fail
  refine HPA.mono ?_
  rintro e W ⟨rfl, rfl⟩
  go_wp2_with fail
  refine HBY.mono ?_
  rintro e w1 ⟨fid, caps, rfl, hk, h1, b1⟩
  have HA := qpz hk 93 Vo fid caps w w1 _ h1 b1 rfl
  clear hk h1 b1 HBY HPA
  go_wp2_with fail
  refine HA.mono ?_
  rintro e W ⟨fid3, caps3, rfl, hF⟩
  have HF : Hid _ := hF
  clear hF HA
  go_wp2_with fail
  go_ret
  exact ⟨_, _, rfl, HF.out⟩
 clear HPA
 by_cases h72 : fin = 72 ∨ fin = 102
 ·have e : Zt fin ps = phTo (par ps 0 1) (par ps 1 1) := by
   unfold Zt
   rw [if_neg h69, if_neg h70, if_pos h72]
  rw [e]
  have HPR := qns 165 ps 1 p c _ (ctTo (par ps 0 1) (par ps 1 1)) w
  clear hI hle e hpa
  generalize (fun W => Qz W (.slice p ps.length c) ps) = E at *
  generalize ps.length = K at *
  rcases h72 with rfl | rfl
  all_goals
   go_enter Tryz.func103, Tryz.ntmps103
   go_wp2_with fail
   refine HPR.mono ?_
   rintro e W ⟨fid3, caps3, rfl, hF⟩
   have HF : Hid _ := hF
   clear hF HPR
   go_wp2_with fail
   go_ret
   exact ⟨_, _, rfl, HF.out⟩
 by_cases h109 : fin = 109
 ·subst h109
  have HLK := (qnw ps p c w hI hl hpa).mono fun e w' h => h.weak (E' := fun W => Qz W (.slice p ps.length c) ps) fun _ _ => trivial
  have e : Zt 109 ps = qah (ps.map told) := rfl
  rw [e]
  clear hI hle e hpa
  generalize (fun W => Qz W (.slice p ps.length c) ps) = E at *
  generalize ps.length = K at *
  go_enter Tryz.func103, Tryz.ntmps103
  go_wp2_with fail
  refine HLK.mono ?_
  rintro e W ⟨fid3, caps3, rfl, hF⟩
  have HF : Hid _ := hF
  clear hF HLK
  go_wp2_with fail
  go_ret
  exact ⟨_, _, rfl, HF.out⟩
 by_cases h114 : fin = 114
 ·subst h114
  have e : Zt 114 ps = qfu (par ps 0 0) (par ps 1 0) := rfl
  rw [e]
  have HPR := qns 167 ps 0 p c _ (qwd (par ps 0 0) (par ps 1 0) (by omega)) w
  clear hI hle e hpa
  generalize (fun W => Qz W (.slice p ps.length c) ps) = E at *
  generalize ps.length = K at *
  go_enter Tryz.func103, Tryz.ntmps103
  go_wp2_with fail
  refine HPR.mono ?_
  rintro e W ⟨fid3, caps3, rfl, hF⟩
  have HF : Hid _ := hF
  clear hF HPR
  go_wp2_with fail
  go_ret
  exact ⟨_, _, rfl, HF.out⟩
 clear hI hle hpa
 generalize (fun W => Qz W (.slice p ps.length c) ps) = E at *
 by_cases h115 : fin = 115
 ·subst h115
  have e : Zt 115 ps = qkd := rfl
  rw [e]
  clear e
  generalize ps.length = K at *
  go_enter Tryz.func103, Tryz.ntmps103
  go_wp2_with fail
  go_ret
  exact qka.makes _ (Below.refl _ _)
 by_cases h117 : fin = 117
 ·subst h117
  have e : Zt 117 ps = qk1 := rfl
  rw [e]
  clear e
  generalize ps.length = K at *
  go_enter Tryz.func103, Tryz.ntmps103
  go_wp2_with fail
  go_ret
  exact qk5.makes _ (Below.refl _ _)
 ·have e : Zt fin ps = phId := by
   unfold Zt
   rw [if_neg h69, if_neg h70, if_neg h72, if_neg h109, if_neg h114, if_neg h115, if_neg h117]
  rw [e]
  clear e
  have g72 : fin ≠ 72 := fun e => h72 (.inl e)
  have g102 : fin ≠ 102 := fun e => h72 (.inr e)
  clear h72
  generalize ps.length = K at *
  go_enter Tryz.func103, Tryz.ntmps103
  go_wp2_with fail
  go_ret
  exact Yy.makes _ (Below.refl _ _)
theorem qy3 (w : World) : (binOp .neq 128 .nilFunc .nilFunc).run Tryz.prog w = .ok (.bool false) w := by kernel_rfl
theorem qz1 (fid : FuncId) (w : World) : (binOp .neq 128 (.func (.func fid) #[] #[]) .nilFunc).run Tryz.prog w = .ok (.bool true) w := by kernel_rfl
theorem Zk.from {E : World → Prop} {w X : World} {f : Phi} {e : Ending} {w' : World} (h : Zk E X f e w') (hb : Below w.heap.size w X) : Zk E w f e w' := by
 obtain ⟨fid, caps, h1, hk, h2, h3⟩ := h
 exact ⟨fid, caps, h1, hk, fun W hf he => h2 W (hf.inner hb.size (Below.refl _ _)) he, hb.trans (h3.mono hb.size)⟩
set_option maxHeartbeats 8000000 in
theorem qnu (e : Prs.Ev) (p : Option Addr) (c : Nat) (w : World) (hI : Qz w (.slice p e.ps.length c) e.ps) (hB : Prs.EvB e) : Calls Tryz.prog 60 #[.agg #[.int .i64 e.kind, .int .i32 e.r, .int .u8 e.fin, .int .u8 e.mark, .string e.mid, .slice p e.ps.length c, .string e.txt]] w (Zk (fun W => Qz W (.slice p e.ps.length c) e.ps) w (Xz e)) := by
 obtain ⟨kind, r, fin, mark, mid, ps, txt⟩ := e
 have hpl := hB.pl
 have hpa := hB.pa
 have f0 := hB.f0
 have f1 := hB.f1
 simp only at hI hpl hpa f0 f1 ⊢
 clear hB
 have x0 := heap_alloc_new w (.cells #[.int .i64 kind, .int .i32 r, .int .u8 fin, .int .u8 mark, .string mid, .slice p ps.length c, .string txt] 74)
 have kb : Below w.heap.size w (w.alloc (.cells #[.int .i64 kind, .int .i32 r, .int .u8 fin, .int .u8 mark, .string mid, .slice p ps.length c, .string txt] 74)) := (Below.refl _ _).alloc (Nat.le_refl _) _
 obtain ⟨c0, c1, c2, c3, c4, c5, c6, -⟩ := Prs.Xv x0
 have HKB : Hid _ := kb
 have HI : Hid (∀ X, Below w.heap.size w X → Qz X (.slice p ps.length c) ps) := fun X hX => hI.next hX
 clear x0 hI
 by_cases hhl : fin = 104 ∨ fin = 108
 ·have e1 : Xz ⟨kind, r, fin, mark, mid, ps, txt⟩ = Qt (Xm mark (decide (fin = 104)) ps) := by
   unfold Xz
   rw [if_pos hhl]
  rw [e1]
  clear e1
  have HST := qmu mark ps p c (decide (fin = 104)) (w.alloc (.cells #[.int .i64 kind, .int .i32 r, .int .u8 fin, .int .u8 mark, .string mid, .slice p ps.length c, .string txt] 74)) (HI.out _ kb) hpl
  replace HST := HST.mono fun e w' h => (h.weak (E' := fun W => Qz W (.slice p ps.length c) ps) fun _ _ => trivial).from kb
  clear kb hpa HI
  generalize (fun W => Qz W (.slice p ps.length c) ps) = E at *
  generalize ps.length = K at *
  rcases hhl with rfl | rfl
  all_goals
   go_enter Tryz.func60, Tryz.ntmps60
   go_wp2_with fail
   refine HST.mono ?_
   rintro e W ⟨fid3, caps3, rfl, hF⟩
   have HF : Hid _ := hF
   clear hF HST
   go_wp2_with fail
   go_ret
   exact ⟨_, _, rfl, HF.out⟩
 have g104 : fin ≠ 104 := fun e => hhl (.inl e)
 have g108 : fin ≠ 108 := fun e => hhl (.inr e)
 have q104 : (fin == 104) = false := by simp [g104]
 have q108 : (fin == 108) = false := by simp [g108]
 by_cases hmk : mark ≠ 0
 ·have e1 : Xz ⟨kind, r, fin, mark, mid, ps, txt⟩ = phId := by
   unfold Xz
   rw [if_neg hhl, if_pos hmk]
  rw [e1]
  clear e1 hhl HI
  generalize (fun W => Qz W (.slice p ps.length c) ps) = E at *
  generalize ps.length = K at *
  clear kb
  have hm1 : (mark != 0) = true := by simp [hmk]
  have hm2 : (mark == 0) = false := by simp [hmk]
  go_enter Tryz.func60, Tryz.ntmps60
  go_wp2_with fail
  go_ret
  exact Yy.makes _ HKB.out
 have hmk' : mark = 0 := Classical.not_not.1 hmk
 subst hmk'
 have ep : Xz ⟨kind, r, fin, 0, mid, ps, txt⟩ = (match qfw fin (par ps 0 1) with
  | some f => f
  | none => match qci fin (par ps 0 0) with
   | some f => f
   | none => Zt fin ps) := by
  unfold Xz
  rw [if_neg hhl, if_neg hmk]
  rfl
 rw [ep]
 clear ep hhl hmk
 have HCN : Hid (∀ X, Calls Tryz.prog 100 #[] X fun e w' => e = .returned (.agg cntA) ∧ Below X.heap.size X w') := qk4
 have HCH : Hid (∀ X, Calls Tryz.prog 102 #[] X fun e w' => e = .returned (.agg choA) ∧ Below X.heap.size X w') := qk7
 have hix := qyz fin f0 f1
 have hiy := q0f fin f0 f1
 have HP1 : Hid (∀ X, Below w.heap.size w X → Calls Tryz.prog 101 #[.slice p ps.length c, .int .i64 0, .int .i64 1] X fun e w' => e = .returned (.int .i64 (par ps 0 1)) ∧ X = w') := fun X hX => Vk ps p c 0 1 X (HI.out X hX)
 have HP0 : Hid (∀ X, Below w.heap.size w X → Calls Tryz.prog 101 #[.slice p ps.length c, .int .i64 0, .int .i64 0] X fun e w' => e = .returned (.int .i64 (par ps 0 0)) ∧ X = w') := fun X hX => Vk ps p c 0 0 X (HI.out X hX)
 have HSP : Hid (∀ X, Below w.heap.size w X → Calls Tryz.prog 103 #[.int .u8 fin, .slice p ps.length c] X (Zk (fun W => Qz W (.slice p ps.length c) ps) X (Zt fin ps))) := fun X hX => qml fin ps p c X (HI.out X hX) hpl hpa
 have s0 : (w.alloc (.cells #[.int .i64 kind, .int .i32 r, .int .u8 fin, .int .u8 0, .string mid, .slice p ps.length c, .string txt] 74)).drew.cell? ⟨w.heap.size, 2, none⟩ = some (.int .u8 fin) ∧ (w.alloc (.cells #[.int .i64 kind, .int .i32 r, .int .u8 fin, .int .u8 0, .string mid, .slice p ps.length c, .string txt] 74)).drew.cell? ⟨w.heap.size, 5, none⟩ = some (.slice p ps.length c) := ⟨c2, c5⟩
 have k0 : Below w.heap.size w (w.alloc (.cells #[.int .i64 kind, .int .i32 r, .int .u8 fin, .int .u8 0, .string mid, .slice p ps.length c, .string txt] 74)).drew := kb.drew
 clear HI hpa kb
 generalize (fun W => Qz W (.slice p ps.length c) ps) = E at *
 have hnn := qy3
 have hnf := qz1
 rcases qiv fin (par ps 0 1) with ⟨v1, v2⟩ | ⟨fid, f, v1, v2, hct⟩
 ·rw [v1] at hix
  rw [v2]
  clear v1 v2 HP1
  rcases qii fin (par ps 0 0) with ⟨v1, v2⟩ | ⟨fid, f, v1, v2, hct⟩
  ·rw [v1] at hiy
   rw [v2]
   clear v1 v2 HP0
   generalize Zt fin ps = ph at *
   generalize ps.length = K at *
   go_enter Tryz.func60, Tryz.ntmps60
   go_upto_region 5 with fail
   go_region_held3 (fun w' => w'.cell? ⟨w.heap.size, 2, none⟩ = some (.int .u8 fin) ∧ w'.cell? ⟨w.heap.size, 5, none⟩ = some (.slice p K c))
    (first | exact s1 | exact s0)
    ((go_at_call 100; refine (HCN.out _).mono ?_; rintro e V1 ⟨rfl, b1⟩; have s1 : V1.cell? ⟨w.heap.size, 2, none⟩ = some (.int .u8 fin) ∧ V1.cell? ⟨w.heap.size, 5, none⟩ = some (.slice p K c) := ⟨Qa b1 s0.1, Qa b1 s0.2⟩; have k1 : Below w.heap.size w V1 := k0.trans (b1.mono k0.size); clear b1))
   have s2 : V1.drew.cell? ⟨w.heap.size, 2, none⟩ = some (.int .u8 fin) ∧ V1.drew.cell? ⟨w.heap.size, 5, none⟩ = some (.slice p K c) := s1
   have k2 : Below w.heap.size w V1.drew := k1.drew
   clear s0 k0 c0 c1 c2 c3 c4 c5 c6 hix
   have s0 := s2
   have k0 := k2
   obtain ⟨t2, t5⟩ := s1
   clear s2 k2
   go_upto_region 8 with fail
   clear t2 t5 k1
   go_region_held3 (fun w' => w'.cell? ⟨w.heap.size, 2, none⟩ = some (.int .u8 fin) ∧ w'.cell? ⟨w.heap.size, 5, none⟩ = some (.slice p K c))
    (first | exact s1 | exact s0)
    ((go_at_call 102; refine (HCH.out _).mono ?_; rintro e V1 ⟨rfl, b1⟩; have s1 : V1.cell? ⟨w.heap.size, 2, none⟩ = some (.int .u8 fin) ∧ V1.cell? ⟨w.heap.size, 5, none⟩ = some (.slice p K c) := ⟨Qa b1 s0.1, Qa b1 s0.2⟩; have k1 : Below w.heap.size w V1 := k0.trans (b1.mono k0.size); clear b1))
   obtain ⟨t2, t5⟩ := s1
   have HK1 : Hid _ := k1
   go_wp2_with fail
   refine (HSP.out V1 HK1.out).mono ?_
   rintro e w1 ⟨fid3, caps3, rfl, hF⟩
   have HF : Hid _ := Zk.from ⟨fid3, caps3, rfl, hF⟩ HK1.out
   clear hF
   go_wp2_with fail
   go_ret
   exact HF.out
  ·rw [v1] at hiy
   rw [v2]
   have HBY : Hid (∀ X, Calls Tryz.prog 90 #[.func (.func fid) #[] #[], .int .i64 (par ps 0 0)] X (Zk E X f)) := fun X => by_m fid _ f hct E X
   clear v1 v2 HSP hct
   generalize par ps 0 0 = x at *
   generalize ps.length = K at *
   go_enter Tryz.func60, Tryz.ntmps60
   go_upto_region 5 with fail
   go_region_held3 (fun w' => w'.cell? ⟨w.heap.size, 2, none⟩ = some (.int .u8 fin) ∧ w'.cell? ⟨w.heap.size, 5, none⟩ = some (.slice p K c))
    (first | exact s1 | exact s0)
    ((go_at_call 100; refine (HCN.out _).mono ?_; rintro e V1 ⟨rfl, b1⟩; have s1 : V1.cell? ⟨w.heap.size, 2, none⟩ = some (.int .u8 fin) ∧ V1.cell? ⟨w.heap.size, 5, none⟩ = some (.slice p K c) := ⟨Qa b1 s0.1, Qa b1 s0.2⟩; have k1 : Below w.heap.size w V1 := k0.trans (b1.mono k0.size); clear b1))
   have s2 : V1.drew.cell? ⟨w.heap.size, 2, none⟩ = some (.int .u8 fin) ∧ V1.drew.cell? ⟨w.heap.size, 5, none⟩ = some (.slice p K c) := s1
   have k2 : Below w.heap.size w V1.drew := k1.drew
   clear s0 k0 c0 c1 c2 c3 c4 c5 c6 hix
   have s0 := s2
   have k0 := k2
   obtain ⟨t2, t5⟩ := s1
   clear s2 k2
   go_upto_region 8 with fail
   clear t2 t5 k1
   go_region_held3 (fun w' => w'.cell? ⟨w.heap.size, 2, none⟩ = some (.int .u8 fin) ∧ w'.cell? ⟨w.heap.size, 5, none⟩ = some (.slice p K c))
    (first | exact s1 | exact s0)
    ((go_at_call 102; refine (HCH.out _).mono ?_; rintro e V1 ⟨rfl, b1⟩; have s1 : V1.cell? ⟨w.heap.size, 2, none⟩ = some (.int .u8 fin) ∧ V1.cell? ⟨w.heap.size, 5, none⟩ = some (.slice p K c) := ⟨Qa b1 s0.1, Qa b1 s0.2⟩; have k1 : Below w.heap.size w V1 := k0.trans (b1.mono k0.size); clear b1))
   obtain ⟨t2, t5⟩ := s1
   have HK1 : Hid _ := k1
   go_wp2_with fail
   refine (HP0.out _ HK1.out).mono ?_
   rintro e X ⟨rfl, rfl⟩
   go_wp2_with fail
   refine (HBY.out V1).mono ?_
   rintro e w1 ⟨fid3, caps3, rfl, hF⟩
   have HF : Hid _ := Zk.from ⟨fid3, caps3, rfl, hF⟩ HK1.out
   clear hF
   go_wp2_with fail
   go_ret
   exact HF.out
 ·rw [v1] at hix
  rw [v2]
  have HBY : Hid (∀ X, Calls Tryz.prog 90 #[.func (.func fid) #[] #[], .int .i64 (par ps 0 1)] X (Zk E X f)) := fun X => by_m fid _ f hct E X
  clear v1 v2 HSP hct HP0
  generalize par ps 0 1 = x at *
  generalize ps.length = K at *
  go_enter Tryz.func60, Tryz.ntmps60
  go_upto_region 5 with fail
  go_region_held3 (fun w' => w'.cell? ⟨w.heap.size, 2, none⟩ = some (.int .u8 fin) ∧ w'.cell? ⟨w.heap.size, 5, none⟩ = some (.slice p K c))
   (first | exact s1 | exact s0)
   ((go_at_call 100; refine (HCN.out _).mono ?_; rintro e V1 ⟨rfl, b1⟩; have s1 : V1.cell? ⟨w.heap.size, 2, none⟩ = some (.int .u8 fin) ∧ V1.cell? ⟨w.heap.size, 5, none⟩ = some (.slice p K c) := ⟨Qa b1 s0.1, Qa b1 s0.2⟩; have k1 : Below w.heap.size w V1 := k0.trans (b1.mono k0.size); clear b1))
  obtain ⟨t2, t5⟩ := s1
  have HK1 : Hid _ := k1
  go_wp2_with fail
  refine (HP1.out _ HK1.out).mono ?_
  rintro e X ⟨rfl, rfl⟩
  go_wp2_with fail
  refine (HBY.out V1).mono ?_
  rintro e w1 ⟨fid3, caps3, rfl, hF⟩
  have HF : Hid _ := Zk.from ⟨fid3, caps3, rfl, hF⟩ HK1.out
  clear hF
  go_wp2_with fail
  go_ret
  exact HF.out
def Q5 (e : Prs.Ev) : Phi := if e.kind = 1 then Zy [e.r] else if e.kind = 2 then Yt e.r else if e.kind = 3 ∧ e.mid.toList.isEmpty = true then Gq e.fin else if e.kind = 4 ∧ e.mid.toList.isEmpty = true then Xz e else if e.kind = 5 then Y6 e.txt else phId
set_option maxHeartbeats 8000000 in
theorem qm8 (e : Prs.Ev) (p : Option Addr) (c : Nat) (w : World) (hI : Qz w (.slice p e.ps.length c) e.ps) (hB : Prs.EvB e) : Calls Tryz.prog 35 #[.agg #[.int .i64 e.kind, .int .i32 e.r, .int .u8 e.fin, .int .u8 e.mark, .string e.mid, .slice p e.ps.length c, .string e.txt]] w (Zk (fun W => Qz W (.slice p e.ps.length c) e.ps) w (Q5 e)) := by
 obtain ⟨kind, r, fin, mark, mid, ps, txt⟩ := e
 have x0 := heap_alloc_new w (.cells #[.int .i64 kind, .int .i32 r, .int .u8 fin, .int .u8 mark, .string mid, .slice p ps.length c, .string txt] 74)
 have kb : Below w.heap.size w (w.alloc (.cells #[.int .i64 kind, .int .i32 r, .int .u8 fin, .int .u8 mark, .string mid, .slice p ps.length c, .string txt] 74)) := (Below.refl _ _).alloc (Nat.le_refl _) _
 have HCM := qnu ⟨kind, r, fin, mark, mid, ps, txt⟩ p c _ (hI.next kb) hB
 have htl := hB.tl
 obtain ⟨c0, c1, c2, c3, c4, c5, c6, -⟩ := Prs.Xv x0
 have HKB : Hid _ := kb
 simp only at hI htl HCM ⊢
 clear x0 hI hB
 generalize (fun W => Qz W (.slice p ps.length c) ps) = E at *
 by_cases h1 : kind = 1
 ·subst h1
  have e1 : Q5 ⟨1, r, fin, mark, mid, ps, txt⟩ = Zy [r] := rfl
  rw [e1]
  clear HCM e1
  generalize ps.length = K at *
  have y0 := heap_alloc2_new w (.cells #[.int .i64 1, .int .i32 r, .int .u8 fin, .int .u8 mark, .string mid, .slice p K c, .string txt] 74) (.cells #[.int .i32 r] 21)
  have k2 : Below w.heap.size w ((w.alloc (.cells #[.int .i64 1, .int .i32 r, .int .u8 fin, .int .u8 mark, .string mid, .slice p K c, .string txt] 74)).alloc (.cells #[.int .i32 r] 21)) := kb.alloc kb.size _
  have HPR := qff [r] (some ⟨w.heap.size + 1, 0, none⟩) 1 ((w.alloc (.cells #[.int .i64 1, .int .i32 r, .int .u8 fin, .int .u8 mark, .string mid, .slice p K c, .string txt] 74)).alloc (.cells #[.int .i32 r] 21)) (by show 1 ≤ 1000000; omega)
  have HY : Hid _ := y0
  have HK2 : Hid _ := k2
  clear kb k2 y0
  go_enter Tryz.func35, Tryz.ntmps35
  go_wp2_with fail
  refine HPR.mono ?_
  rintro e W ⟨fid3, caps3, rfl, hk, hF, hb⟩
  have HF : Hid _ := hF
  have HK : Hid _ := hk
  have HB : Hid _ := hb
  clear hF HPR hb hk
  go_wp2_with fail
  go_ret
  refine ⟨_, _, rfl, HK.out, fun X hf _ => HF.out X (hf.inner HK2.out.size (Below.refl _ _)) (.inr ⟨w.heap.size + 1, 0, 1, rfl, fun j hj => ?_⟩), HK2.out.trans (HB.out.mono HK2.out.size)⟩
  have hb2 := hf.blk (Nat.le_succ _) (Grd.carry HY.out HB.out)
  have j0 : j = 0 := by
   have : j < 1 := hj
   omega
  subst j0
  exact Zl hb2
 by_cases h2 : kind = 2
 ·subst h2
  have e1 : Q5 ⟨2, r, fin, mark, mid, ps, txt⟩ = Yt r := rfl
  rw [e1]
  clear HCM e1
  have HC := Ud r (w.alloc (.cells #[.int .i64 2, .int .i32 r, .int .u8 fin, .int .u8 mark, .string mid, .slice p ps.length c, .string txt] 74))
  generalize ps.length = K at *
  clear kb
  go_enter Tryz.func35, Tryz.ntmps35
  go_wp2_with fail
  refine HC.mono ?_
  rintro e W hF
  have HF : Hid _ := hF
  obtain ⟨fid3, caps3, rfl, -⟩ := hF
  clear HC
  go_wp2_with fail
  go_ret
  exact Zk.from (Zk.weak (E := Any1) HF.out fun _ _ => trivial) HKB.out
 by_cases h3 : kind = 3 ∧ mid.toList.isEmpty = true
 ·obtain ⟨rfl, hm⟩ := h3
  have e1 : Q5 ⟨3, r, fin, mark, mid, ps, txt⟩ = Gq fin := by
   unfold Q5
   rw [if_neg h1, if_neg h2, if_pos ⟨rfl, hm⟩]
  rw [e1]
  clear HCM e1
  have HC := qpd fin (w.alloc (.cells #[.int .i64 3, .int .i32 r, .int .u8 fin, .int .u8 mark, .string mid, .slice p ps.length c, .string txt] 74))
  generalize ps.length = K at *
  clear kb h1 h2
  go_enter Tryz.func35, Tryz.ntmps35
  go_wp2_with fail
  refine HC.mono ?_
  rintro e W hF
  have HF : Hid _ := hF
  obtain ⟨fid3, caps3, rfl, -⟩ := hF
  clear HC
  go_wp2_with fail
  go_ret
  exact Zk.from (Zk.weak (E := Any1) HF.out fun _ _ => trivial) HKB.out
 by_cases h4 : kind = 4 ∧ mid.toList.isEmpty = true
 ·obtain ⟨rfl, hm⟩ := h4
  have e1 : Q5 ⟨4, r, fin, mark, mid, ps, txt⟩ = Xz ⟨4, r, fin, mark, mid, ps, txt⟩ := by
   unfold Q5
   rw [if_neg h1, if_neg h2, if_neg h3, if_pos ⟨rfl, hm⟩]
  rw [e1]
  clear e1
  generalize Xz ⟨4, r, fin, mark, mid, ps, txt⟩ = ph at *
  generalize ps.length = K at *
  clear kb h1 h2 h3
  go_enter Tryz.func35, Tryz.ntmps35
  go_wp2_with fail
  refine HCM.mono ?_
  rintro e W hF
  have HF : Hid _ := hF
  obtain ⟨fid3, caps3, rfl, -⟩ := hF
  clear HCM
  go_wp2_with fail
  go_ret
  exact Zk.from HF.out HKB.out
 by_cases h5 : kind = 5
 ·subst h5
  have e1 : Q5 ⟨5, r, fin, mark, mid, ps, txt⟩ = Y6 txt := by
   unfold Q5
   rw [if_neg h1, if_neg h2, if_neg h3, if_neg h4, if_pos rfl]
  rw [e1]
  clear HCM e1
  have HC := qqf txt (by omega) (w.alloc (.cells #[.int .i64 5, .int .i32 r, .int .u8 fin, .int .u8 mark, .string mid, .slice p ps.length c, .string txt] 74))
  generalize ps.length = K at *
  clear kb h1 h2 h3 h4
  go_enter Tryz.func35, Tryz.ntmps35
  go_wp2_with fail
  refine HC.mono ?_
  rintro e W hF
  have HF : Hid _ := hF
  obtain ⟨fid3, caps3, rfl, -⟩ := hF
  clear HC
  go_wp2_with fail
  go_ret
  exact Zk.from (Zk.weak (E := Any1) HF.out fun _ _ => trivial) HKB.out
 ·have e1 : Q5 ⟨kind, r, fin, mark, mid, ps, txt⟩ = phId := by
   unfold Q5
   rw [if_neg h1, if_neg h2, if_neg h3, if_neg h4, if_neg h5]
  rw [e1]
  clear HCM e1
  have q1 : (kind == 1) = false := by simp [h1]
  have q2 : (kind == 2) = false := by simp [h2]
  have q5 : (kind == 5) = false := by simp [h5]
  have hem : ∀ b, mid.toList.isEmpty = b → b = true → kind ≠ 3 ∧ kind ≠ 4 := fun b hb e => ⟨fun q => h3 ⟨q, hb.trans e⟩, fun q => h4 ⟨q, hb.trans e⟩⟩
  by_cases k3 : kind = 3
  ·subst k3
   have hm : mid.toList.isEmpty = false := by
    cases hk : mid.toList.isEmpty with
    | false => rfl
    | true => exact absurd rfl (hem _ hk rfl).1
   clear h1 h2 h3 h4 h5 kb hem
   generalize ps.length = K at *
   go_enter Tryz.func35, Tryz.ntmps35
   go_wp2_with fail
   go_ret
   exact Yy.makes _ HKB.out
  by_cases k4 : kind = 4
  ·subst k4
   have hm : mid.toList.isEmpty = false := by
    cases hk : mid.toList.isEmpty with
    | false => rfl
    | true => exact absurd rfl (hem _ hk rfl).2
   clear h1 h2 h3 h4 h5 kb hem k3
   generalize ps.length = K at *
   go_enter Tryz.func35, Tryz.ntmps35
   go_wp2_with fail
   go_ret
   exact Yy.makes _ HKB.out
  ·have q3 : (kind == 3) = false := by simp [k3]
   have q4 : (kind == 4) = false := by simp [k4]
   clear h1 h2 h3 h4 h5 kb hem k3 k4
   generalize ps.length = K at *
   go_enter Tryz.func35, Tryz.ntmps35
   go_wp2_with fail
   go_ret
   exact Yy.makes _ HKB.out
end Put
namespace Prs
def F5 (w : World) (v : Value) (es : List Ev) : Prop := (es = [] ∧ ∃ p c, v = .slice p 0 c) ∨ ∃ b o c, v = .slice (some ⟨b, o, none⟩) es.length c ∧ es.length ≤ c ∧ ∀ i (hi : i < es.length), ∃ q, EvAt w b (o + i * 7) es[i] q
theorem F5.next {w w' : World} {v : Value} {es : List Ev} (h : F5 w v es) (hb : Below w.heap.size w w') : F5 w' v es := by
 rcases h with h | ⟨b, o, c, hv, hl, hc⟩
 ·exact .inl h
 ·exact .inr ⟨b, o, c, hv, hl, fun i hi => (hc i hi).elim fun q hq => ⟨q, hq.next hb⟩⟩
theorem EvsV.cut {w : World} {base : Nat} {v : Value} {es : List Ev} (h : EvsV w base v es) : F5 w v es := by
 rcases h.read with h0 | ⟨b, o, c, hv, hc⟩
 ·exact .inl h0
 ·refine .inr ⟨b, o, c, hv, ?_, hc⟩
  obtain ⟨eqs, hown, rfl, -⟩ := h
  subst hv
  obtain ⟨-, ⟨h, -⟩ | ⟨g, cap, cur, h, -, -, hcc, -⟩⟩ := hown
  ·injection h with h1 h2 h3
   cases h1
  ·injection h with h1 h2 h3
   rw [h3]
   rw [h2]
   exact hcc
end Prs
namespace Put
open Grd (C SliceAt Qb Qf z0 Qx flat Qe)
open Prs (Qz F5 EvAt)
def lead : List Prs.Ev → List Int
 | [] => []
 | e :: es => if e.kind = 1 then e.r :: lead es else []
theorem qgw : ∀ (es : List Prs.Ev), (lead es).length ≤ es.length
 | [] => Nat.le_refl _
 | e :: es => by
  have := qgw es
  unfold lead
  split
  ·rw [List.length_cons, List.length_cons]
   omega
  ·rw [List.length_nil]
   omega
theorem qsv (es : List Prs.Ev) (i : Nat) (hi : i < es.length) : lead (es.drop i) = if es[i].kind = 1 then es[i].r :: lead (es.drop (i + 1)) else [] := by
 rw [List.drop_eq_getElem_cons hi]
 rfl
theorem qtb : Tryz.prog.underlying 79 = some (.slice 21) := by kernel_rfl
theorem qrb : (Tryz.prog.info? 21).map (fun i => (i.zero, i.size, i.bytes)) = some (some (.int .i32 0), 1, 4) := by kernel_rfl
def rnV (l : List Int) : List Value := l.map (Value.int .i32 ·)
theorem qum {w : World} {base : Nat} {v : Value} {l : List Int} (h : w.ownsRow base 21 1 v l.length (rnV l)) : I32V w v l := by
 rcases Prs.qa9 h with ⟨rfl, h0, -⟩ | ⟨g, cap, rfl, hc⟩
 ·exact .inl ⟨List.eq_nil_of_length_eq_zero h0, _, _, rfl⟩
 ·refine .inr ⟨g, 0, cap, rfl, fun j hj => ?_⟩
  rw [Nat.zero_add]
  exact hc j _ (by simp [rnV, hj, List.getD])
set_option maxHeartbeats 8000000 in
theorem qmy (es : List Prs.Ev) (p : Option Addr) (c : Nat) (w : World) (hE : F5 w (.slice p es.length c) es) (hn : es.length ≤ 10000) : Calls Tryz.prog 33 #[.slice p es.length c] w fun e w' => ∃ pa pc, e = .returned (.slice pa (lead es).length pc) ∧ w'.ownsRow w.heap.size 21 1 (.slice pa (lead es).length pc) (lead es).length (rnV (lead es)) ∧ Below w.heap.size w w' := by
 obtain ⟨i0, hi, hzz⟩ := Option.map_eq_some_iff.1 qrb
 simp only [Prod.mk.injEq] at hzz
 obtain ⟨hz0, hz1, hz2⟩ := hzz
 have HEV : Hid (∀ X, Below w.heap.size w X → ∀ i (hi : i < es.length), ∃ b o q, p = some ⟨b, o, none⟩ ∧ EvAt X b (o + i * 7) es[i] q) := fun X hX i hi => by
  rcases hE.next hX with ⟨he, -⟩ | ⟨b, o, c, hv, -, hc⟩
  ·exact absurd hi (by rw [he]; exact Nat.not_lt_zero _)
  ·injection hv with h1 _ _
   obtain ⟨q, hq⟩ := hc i hi
   exact ⟨b, o, q, h1, hq⟩
 have HLD : Hid (∀ i (hi : i < es.length), lead (es.drop i) = if es[i].kind = 1 then es[i].r :: lead (es.drop (i + 1)) else []) := fun i hi => qsv es i hi
 have HL0 : Hid (lead es = [] ++ lead (es.drop 0)) := rfl
 have HLE : Hid (lead (es.drop es.length) = []) := by
  unfold Hid
  rw [List.drop_length]
  rfl
 have HLL : Hid ((lead es).length ≤ es.length) := qgw es
 clear hE
 obtain ⟨K, hK⟩ : ∃ K, es.length = K := ⟨_, rfl⟩
 have HK : Hid (es.length = K) := hK
 rw [hK] at hn HLE HLL ⊢
 clear hK
 go_enter Tryz.func33, Tryz.ntmps33
 go_wp2_with fail
 go_loopg [3, 8] K (fun q sv iv wr => ∃ (i : Nat) (l : List Int), iv = .int .i64 (i : Int) ∧ i ≤ K ∧ K - i ≤ q ∧ l.length ≤ i ∧ lead es = l ++ lead (es.drop i) ∧ wr.ownsRow w.heap.size 21 1 sv l.length (rnV l) ∧ Below w.heap.size w wr)
 case atStart => exact ⟨0, [], rfl, by omega, by omega, Nat.le_refl _, HL0.out, World.ownsRow_nil _ _ _ _, Below.refl _ _⟩
 case round =>
  obtain ⟨i, l, rfl, hik, hq, hll, hld, hown, hb⟩ := hrel
  have HB : Hid (Below w.heap.size w wr) := hb
  have HO : Hid (wr.ownsRow w.heap.size 21 1 _ l.length (rnV l)) := hown
  have HD : Hid (lead es = l ++ lead (es.drop i)) := hld
  obtain ⟨sa, sc, hsv⟩ := Qw hown
  subst hsv
  have hwr := hb.size
  clear hown hld HL0
  by_cases hlt : i < K
  ·have lt1 : (i : Int) < (K : Int) := by omega
   have hlt' : i < es.length := by rw [HK.out]; exact hlt
   obtain ⟨b, o, qv, rfl, hev⟩ := HEV.out wr hb i hlt'
   have HLI := HLD.out i hlt'
   obtain ⟨ev, hev0⟩ : ∃ ev, es[i] = ev := ⟨_, rfl⟩
   rw [hev0] at hev HLI
   clear hev0
   obtain ⟨kind, r, fin, mark, mid, ps, txt⟩ := ev
   obtain ⟨ra, rc, rfl⟩ := hev.ps.slice
   have e0 := hev.c0
   have e1 := hev.c1
   have e2 := hev.c2
   have e3 := hev.c3
   have e4 := hev.c4
   have e5 := hev.c5
   have e6 := hev.c6
   simp only at e0 e1 e2 e3 e4 e5 e6 HLI
   have HLJ : Hid _ := HLI
   clear hev hb HLI
   generalize ps.length = np at *
   have bA : Below wr.heap.size wr (wr.alloc (.cells #[.int .i64 kind, .int .i32 r, .int .u8 fin, .int .u8 mark, .string mid, .slice ra np rc, .string txt] 74)) := (Below.refl _ _).alloc (Nat.le_refl _) _
   have HBA : Hid _ := bA
   clear bA
   by_cases h1 : kind = 1
   ·have q1 : (kind != 1) = false := by simp [h1]
    have H1 : Hid (kind = 1) := h1
    clear h1
    go_wp2_with (at_builtin; refine Hid.out ?_)
    unfold Hid
    have hs2 : (wr.alloc (.cells #[.int .i64 kind, .int .i32 r, .int .u8 fin, .int .u8 mark, .string mid, .slice ra np rc, .string txt] 74)).heap.size = wr.heap.size + 1 := by simp
    generalize wr.alloc (.cells #[.int .i64 kind, .int .i32 r, .int .u8 fin, .int .u8 mark, .string mid, .slice ra np rc, .string txt] 74) = W2 at *
    have y2 : (W2.alloc (.cells #[.int .i32 r] 21)).heap[wr.heap.size + 1]? = some (.cells #[.int .i32 r] 21 (0, 0)) := by
     have h := heap_alloc_new W2 (.cells #[.int .i32 r] 21)
     rwa [hs2] at h
    have hown2 := Grd.ownsRow_below HO.out HBA.out
    have hfrom := Grd.qbz HO.out
    refine wpList_append_own _ rfl _ _ 79 rfl w.heap.size 21 i0 (.int .i32 0) 1 4 qtb hi hz0 hz1 hz2 rfl (by decide) (.slice sa l.length sc) l.length (rnV l) rfl (hown2.alloc _) ⟨wr.heap.size + 1, 0, none⟩ 1 1 [.int .i32 r] rfl rfl (Prs.cells_of_block (L := [.int .i32 r]) y2) (by intro u hu; simp at hu; rw [hu]; rfl) (by unfold maxLen; omega) (by omega) (by simp; omega) ?_
    intro v3 W4 hown3 hgr hnil
    have kb2 := HB.out.trans (HBA.out.mono HB.out.size)
    have HB4 : Hid (Below w.heap.size w W4) := (kb2.alloc kb2.size _).grown hgr (by simp; omega) (fun q hq => by have := hfrom q hq; omega)
    have HO4 : Hid (W4.ownsRow w.heap.size 21 1 v3 (l ++ [r]).length (rnV (l ++ [r]))) := by
     unfold Hid rnV
     rw [List.length_append, List.map_append]
     exact hown3
    have HD4 : Hid (lead es = (l ++ [r]) ++ lead (es.drop (i + 1))) := by
     have h := HLJ.out
     rw [if_pos H1.out] at h
     rw [Hid, HD.out, h, List.append_assoc]
     rfl
    clear hgr hnil hown3 hown2 y2 kb2
    go_wp2_with fail
    go_roundg (K - (i + 1))
    case measure => omega
    case rel => exact ⟨i + 1, l ++ [r], by go_num, by omega, by omega, by rw [List.length_append, List.length_singleton]; omega, HD4.out, HO4.out, HB4.out⟩
   ·have q1 : (kind != 1) = true := by simp [h1]
    have H1 : Hid (¬ kind = 1) := h1
    clear h1
    go_wp2_with fail
    go_ret
    have hd := HD.out
    have h := HLJ.out
    rw [if_neg H1.out] at h
    rw [h, List.append_nil] at hd
    rw [hd]
    exact ⟨_, _, rfl, Grd.ownsRow_below HO.out HBA.out, HB.out.trans (HBA.out.mono HB.out.size)⟩
  ·have lt1 : ¬ (i : Int) < (K : Int) := by omega
   have e : i = K := by omega
   subst e
   go_wp2_with fail
   go_ret
   have hd := HD.out
   rw [HLE.out, List.append_nil] at hd
   rw [hd]
   exact ⟨_, _, rfl, HO.out, HB.out⟩
end Put
namespace Put
open Grd (C SliceAt Qb Qf z0 Qx flat Qe)
open Prs (Qz F5 EvAt EvsB)
def EqR (f g : Phi) : Prop := ∀ (s : Scr) (n hh : Nat), Qg s n hh → f n hh s = g n hh s
theorem EqR.refl (f : Phi) : EqR f f := fun _ _ _ _ => rfl
theorem EqR.snoc {fs gs : List Phi} {f : Phi} {hs : List Phi} (h : EqR (Qt fs) (Qt gs)) (hk : ∀ g, g ∈ fs → Xb g) (h1 : EqR f (Qt hs)) : EqR (Qt (fs ++ [f])) (Qt (gs ++ hs)) := fun s n hh hR => by
 rw [Fb, Fb, ← h s n hh hR]
 exact h1 _ n hh (Jo hk s n hh hR)
theorem ql8 : ∀ (es : List Prs.Ev), EqR (Zy (lead es)) (Qt ((es.take (lead es).length).map Q5))
 | [], s, n, hh, hR => qi0 hR
 | e :: es, s, n, hh, hR => by
  by_cases h : e.kind = 1
  ·have e1 : lead (e :: es) = e.r :: lead es := by
    show (if e.kind = 1 then e.r :: lead es else []) = _
    rw [if_pos h]
   have e2 : Q5 e = Zy [e.r] := by
    unfold Q5
    rw [if_pos h]
   rw [e1, List.length_cons, List.take_succ_cons, List.map_cons, e2]
   show _ = Qt ((es.take (lead es).length).map Q5) n hh (Zy [e.r] n hh s)
   rw [← ql8 es _ n hh (Ug [e.r] s n hh hR), qjx hR]
   rfl
  ·have e1 : lead (e :: es) = [] := by
    show (if e.kind = 1 then e.r :: lead es else []) = _
    rw [if_neg h]
   rw [e1]
   exact qi0 hR
theorem q1e {w : World} {p : Option Addr} {n c : Nat} {es : List Prs.Ev} (h : F5 w (.slice p n c) es) (hn : 0 < es.length) : ∃ b o q, p = some ⟨b, o, none⟩ ∧ es.length ≤ c ∧ EvAt w b o (es.getD 0 ⟨0, 0, 0, 0, ⟨#[]⟩, [], ⟨#[]⟩⟩) q := by
 rcases h with ⟨rfl, -⟩ | ⟨b, o, c, hv, hl, hc⟩
 ·exact absurd hn (Nat.lt_irrefl _)
 ·injection hv with h1 _ h3
  obtain ⟨q, hq⟩ := hc 0 hn
  refine ⟨b, o, q, h1, by omega, ?_⟩
  rw [List.getD, List.getElem?_eq_getElem hn]
  simpa using hq
theorem qsd {w : World} {b o n c : Nat} {es : List Prs.Ev} (h : F5 w (.slice (some ⟨b, o, none⟩) n c) es) (hn : 0 < es.length) (m : Nat) (hm : m ≤ es.length) : (c = m → es.drop m = []) ∧ F5 w (.slice (some ⟨b, o + m * 7, none⟩) (n - m) (c - m)) (es.drop m) := by
 rcases h with ⟨rfl, -⟩ | ⟨b', o', c', hv, hl, hc⟩
 ·exact absurd hn (Nat.lt_irrefl _)
 ·injection hv with h1 h2 h3
  injection h1 with h1
  injection h1 with h1 h4 _
  subst h1 h2 h3 h4
  refine ⟨fun e => List.drop_eq_nil_of_le (by omega), .inr ⟨_, _, _, by rw [List.length_drop], by rw [List.length_drop]; omega, fun i hi => ?_⟩⟩
  rw [List.length_drop] at hi
  obtain ⟨q, hq⟩ := hc (m + i) (by omega)
  refine ⟨q, ?_⟩
  rw [List.getElem_drop]
  rw [show o + m * 7 + i * 7 = o + (m + i) * 7 by rw [Nat.add_mul]; omega]
  exact hq
theorem qsc {w : World} {p : Option Addr} {c : Nat} {es : List Prs.Ev} (h : es = []) : F5 w (.slice p 0 c) es := .inl ⟨h, _, _, rfl⟩
set_option maxHeartbeats 8000000 in
theorem qkl (es : List Prs.Ev) (p : Option Addr) (c : Nat) (w : World) (hE : F5 w (.slice p es.length c) es) (hB : EvsB es) (hn : es.length ≤ 10000) : Calls Tryz.prog 13 #[.slice p es.length c] w fun e w' => ∃ pa pc fs, e = .returned (.slice pa fs.length pc) ∧ (∀ f, f ∈ fs → Xb f) ∧ Y3 w' (.slice pa fs.length pc) fs ∧ fs.length ≤ 10000 ∧ EqR (Qt fs) (Qt (es.map Q5)) ∧ Below w.heap.size w w' := by
 obtain ⟨i0, hi, hzz⟩ := Option.map_eq_some_iff.1 qfc
 simp only [Prod.mk.injEq] at hzz
 obtain ⟨hz0, hz1, hz2⟩ := hzz
 have HE : Hid (F5 w (.slice p es.length c) es) := hE
 have HEB : Hid (EvsB es) := hB
 obtain ⟨K, hK⟩ : ∃ K, es.length = K := ⟨_, rfl⟩
 have HK : Hid (es.length = K) := hK
 rw [hK] at hn HE ⊢
 clear hK hE hB
 go_enter Tryz.func13, Tryz.ntmps13
 go_wp2_with fail
 go_loopg [0, 3] K (fun q ev sv wr => ∃ (k : Nat) (L : List (Value × Phi)) (p' : Option Addr) (c' : Nat), k ≤ K ∧ K - k ≤ q ∧ ev = .slice p' (K - k) c' ∧ F5 w (.slice p' (K - k) c') (es.drop k) ∧ SL (fun X => Below w.heap.size w X) w.heap.size wr sv L ∧ L.length ≤ k ∧ EqR (Qt (L.map (·.2))) (Qt ((es.take k).map Q5)) ∧ Below w.heap.size w wr)
 case atStart => exact ⟨0, [], p, c, by omega, by omega, rfl, HE.out, SL.nil _ _ _, Nat.le_refl _, EqR.refl _, Below.refl _ _⟩
 case round =>
  clear HE
  obtain ⟨k, L, p', c', hk, hq, rfl, hev, hS, hL, hq2, hb⟩ := hrel
  have HEV : Hid (F5 w (.slice p' (K - k) c') (es.drop k)) := hev
  have HSL : Hid (SL (fun X => Below w.heap.size w X) w.heap.size wr _ L) := hS
  have HQ : Hid (EqR (Qt (L.map (·.2))) (Qt ((es.take k).map Q5))) := hq2
  have HB : Hid (Below w.heap.size w wr) := hb
  obtain ⟨sa, sc, hsv⟩ := Qw hS.own
  subst hsv
  have hwr := hb.size
  have hrl : (es.drop k).length = K - k := by rw [List.length_drop, HK.out]
  by_cases hlt : k < K
  ·obtain ⟨b, o, qv, rfl, hcap, h0⟩ := q1e hev (by omega)
   have HLD := qmy (es.drop k) (some ⟨b, o, none⟩) c' wr (by rw [hrl]; exact hev.next hb) (by omega)
   rw [hrl] at HLD hcap
   have hpos : 0 < K - k := by omega
   have hpi : (0 : Int) < ((K - k : Nat) : Int) := by omega
   have hml := qgw (es.drop k)
   rw [hrl] at hml
   have HRL : Hid ((es.drop k).length = K - k) := hrl
   have hkl : ∀ g, g ∈ L.map (·.2) → Xb g := fun f hf => by
    obtain ⟨x, hx, rfl⟩ := List.mem_map.1 hf
    exact (hS.all x hx).keeps
   have HKL : Hid (∀ g, g ∈ L.map (·.2) → Xb g) := hkl
   clear hev hS hb hq2 hrl hkl
   generalize hm : K - k = n at *
   go_wp2_with fail
   refine HLD.mono ?_
   rintro e W1 ⟨ra, rc, rfl, hro, b1⟩
   have HRO : Hid (W1.ownsRow wr.heap.size 21 1 _ (lead (es.drop k)).length (rnV (lead (es.drop k)))) := hro
   have HB1 : Hid _ := b1
   have hw1 := b1.size
   clear hro b1 HLD
   by_cases hz : (lead (es.drop k)).length = 0
   ·have hBW : Below w.heap.size w W1 := HB.out.trans (HB1.out.mono HB.out.size)
    have hd1 : (es.drop k).take 1 = [(es.drop k).getD 0 ⟨0, 0, 0, 0, ⟨#[]⟩, [], ⟨#[]⟩⟩] := by
     have h : 0 < (es.drop k).length := by rw [HRL.out]; exact hpos
     rw [List.getD, List.getElem?_eq_getElem h]
     rw [List.take_add_one, List.take_zero, List.getElem?_eq_getElem h]
     rfl
    have hmem : (es.drop k).getD 0 ⟨0, 0, 0, 0, ⟨#[]⟩, [], ⟨#[]⟩⟩ ∈ es := by
     have h : 0 < (es.drop k).length := by rw [HRL.out]; exact hpos
     rw [List.getD, List.getElem?_eq_getElem h]
     exact List.mem_of_mem_drop (List.getElem_mem h)
    have hbe := HEB.out _ hmem
    have HCT : Hid _ := qsd HEV.out (by rw [HRL.out]; exact hpos) 1 (by rw [HRL.out]; omega)
    have HEQ : Hid (∀ f, f = Q5 ((es.drop k).getD 0 ⟨0, 0, 0, 0, ⟨#[]⟩, [], ⟨#[]⟩⟩) → EqR (Qt (L.map (·.2) ++ [f])) (Qt ((es.take (k + 1)).map Q5))) := fun f hf => by
     rw [List.take_add, List.map_append, hd1, hf]
     exact HQ.out.snoc HKL.out (EqR.refl _)
    clear hmem hd1
    generalize (es.drop k).getD 0 ⟨0, 0, 0, 0, ⟨#[]⟩, [], ⟨#[]⟩⟩ = ev at *
    obtain ⟨qa, qc, hqv⟩ := h0.ps.slice
    subst hqv
    have g0 := h0.next hBW
    have HME := qm8 ev qa qc W1 g0.ps hbe
    have HPS : Hid (∀ X, Below w.heap.size w X → Qz X (.slice qa ev.ps.length qc) ev.ps) := fun X hX => (h0.next hX).ps
    have HPH : Hid (Q5 ev = Q5 ev) := rfl
    have HEQ2 := HEQ.out _ rfl
    clear HEQ
    have HEQ : Hid _ := HEQ2
    clear HEQ2
    have e0 := g0.c0
    have e1 := g0.c1
    have e2 := g0.c2
    have e3 := g0.c3
    have e4 := g0.c4
    have e5 := g0.c5
    have e6 := g0.c6
    clear h0 g0 hbe hBW HRO
    obtain ⟨FF, hFF⟩ : ∃ FF, Q5 ev = FF := ⟨_, rfl⟩
    rw [hFF] at HME HEQ
    clear hFF HPH
    obtain ⟨kind, r, fin, mark, mid, ps, txt⟩ := ev
    simp only at e0 e1 e2 e3 e4 e5 e6 HME HPS
    have HPL : Hid (∀ X, Below w.heap.size w X → Qz X (.slice qa ps.length qc) ps) := HPS.out
    clear HPS
    obtain ⟨EE, hEE⟩ : ∃ EE : World → Prop, (fun W => Qz W (.slice qa ps.length qc) ps) = EE := ⟨_, rfl⟩
    rw [hEE] at HME
    have HPS : Hid (∀ X, Below w.heap.size w X → EE X) := fun X hX => by
     rw [← hEE]
     exact HPL.out X hX
    clear hEE HPL
    generalize ps.length = np at *
    go_wp2_with (first | (go_at_call 35; refine HME.mono ?_; rintro e W2 ⟨fid, caps, rfl, hkp, h2, b2⟩) | (at_builtin; refine Hid.out ?_))
    have HF : Hid (∀ X, Xc wr W2 X → Below w.heap.size w X → Jp X fid caps FF) := fun X hf hx => h2 X (hf.inner hw1 (Below.refl _ _)) (HPS.out X hx)
    clear HME e0 e1 e2 e3 e4 e5 e6
    unfold Hid
    have bW2 : Below wr.heap.size wr W2 := HB1.out.trans (b2.mono HB1.out.size)
    have hw2 := bW2.size
    have y2 := heap_alloc_new W2 (.cells #[(.func (.func fid) #[] caps)] 51)
    have hown2 := Grd.ownsRow_below HSL.out.own bW2
    have hfrom := Grd.qbz HSL.out.own
    refine wpList_append_own_at _ rfl _ _ 53 rfl w.heap.size 51 i0 .nilFunc 1 8 qde hi hz0 hz1 hz2 rfl (by decide) (.slice sa L.length sc) L.length (L.map (·.1)) rfl (hown2.alloc _) ⟨W2.heap.size, 0, none⟩ 1 1 [(.func (.func fid) #[] caps)] rfl rfl (Prs.cells_of_block (L := [(.func (.func fid) #[] caps)]) y2) (by intro u hu; simp at hu; rw [hu]; rfl) (by unfold maxLen; omega) (by omega) (by simp; omega) ?_
    intro v3 W4 hown3 hgr hnil hat
    have HSN : Hid _ := SL.append HSL.out HF.out hkp bW2 hwr hown3 hgr hat
    have kb2 := HB.out.trans (bW2.mono HB.out.size)
    have HB4 : Hid (Below w.heap.size w W4) := (kb2.alloc kb2.size _).grown hgr (by simp; omega) (fun q hq => by have := hfrom q hq; omega)
    clear hgr hat hnil hown3 hown2 y2 kb2 bW2 b2 h2 hkp hfrom
    have HEQ : Hid (EqR (Qt ((L ++ [(Value.func (.func fid) #[] caps, FF)]).map (·.2))) (Qt ((es.take (k + 1)).map Q5))) := by
     unfold Hid
     rw [List.map_append]
     exact HEQ.out
    have HLN : Hid ((L ++ [(Value.func (.func fid) #[] caps, FF)]).length ≤ k + 1) := by
     unfold Hid
     rw [List.length_append, List.length_singleton]
     omega
    by_cases hcm : c' = 1
    ·have hcm2 : c' = 1 := hcm
     go_wp2_with fail
     go_roundg (K - (k + 1))
     case measure => omega
     case rel => exact ⟨k + 1, _, _, _, by omega, by omega, by rw [show K - (k + 1) = n - 1 by omega], by rw [show K - (k + 1) = 0 by omega, ← List.drop_drop]; exact qsc (HCT.out.1 hcm), HSN.out, HLN.out, HEQ.out, HB4.out⟩
    ·go_wp2_with fail
     go_roundg (K - (k + 1))
     case measure => omega
     case rel => exact ⟨k + 1, _, _, _, by omega, by omega, by rw [show K - (k + 1) = n - 1 by omega], by rw [show K - (k + 1) = n - 1 by omega, ← List.drop_drop]; exact HCT.out.2, HSN.out, HLN.out, HEQ.out, HB4.out⟩
   ·have hzp : 0 < (lead (es.drop k)).length := by omega
    have hzi : (0 : Int) < ((lead (es.drop k)).length : Int) := by omega
    have HPR := qff (lead (es.drop k)) ra rc W1 (by omega)
    have HCT : Hid _ := qsd HEV.out (by rw [HRL.out]; exact hpos) (lead (es.drop k)).length (by rw [HRL.out]; exact hml)
    have HEQ0 : EqR (Qt (L.map (·.2) ++ [Zy (lead (es.drop k))])) (Qt ((es.take (k + (lead (es.drop k)).length)).map Q5)) := by
     rw [List.take_add, List.map_append]
     exact HQ.out.snoc HKL.out (ql8 _)
    have HI3 : Hid (∀ X, Xc wr W1 X → I32V X (.slice ra (lead (es.drop k)).length rc) (lead (es.drop k))) := fun X hf => qum (base := wr.heap.size) (Zd HRO.out fun g hg => by
     obtain ⟨hwg, A, fr, hA⟩ := Qm HRO.out g hg
     exact hf.2 g hwg (Qc hA))
    have HEQ : Hid (EqR (Qt ((L ++ [((.slice none 0 0 : Value), Zy (lead (es.drop k)))]).map (·.2))) (Qt ((es.take (k + (lead (es.drop k)).length)).map Q5))) := by
     unfold Hid
     rw [List.map_append]
     exact HEQ0
    clear HEQ0 HRO h0
    obtain ⟨FF, hFF⟩ : ∃ FF, Zy (lead (es.drop k)) = FF := ⟨_, rfl⟩
    rw [hFF] at HPR HEQ
    clear hFF
    generalize hl : (lead (es.drop k)).length = m at *
    go_wp2_with (first | (go_at_call 34; refine HPR.mono ?_; rintro e W2 ⟨fid, caps, rfl, hkp, h2, b2⟩) | (at_builtin; refine Hid.out ?_))
    have HF : Hid (∀ X, Xc wr W2 X → Below w.heap.size w X → Jp X fid caps FF) := fun X hf _ => h2 X (hf.inner hw1 (Below.refl _ _)) (HI3.out X (hf.inner (Nat.le_refl _) b2))
    clear HPR
    unfold Hid
    have bW2 : Below wr.heap.size wr W2 := HB1.out.trans (b2.mono HB1.out.size)
    have hw2 := bW2.size
    have y2 := heap_alloc_new W2 (.cells #[(.func (.func fid) #[] caps)] 51)
    have hown2 := Grd.ownsRow_below HSL.out.own bW2
    have hfrom := Grd.qbz HSL.out.own
    refine wpList_append_own_at _ rfl _ _ 53 rfl w.heap.size 51 i0 .nilFunc 1 8 qde hi hz0 hz1 hz2 rfl (by decide) (.slice sa L.length sc) L.length (L.map (·.1)) rfl (hown2.alloc _) ⟨W2.heap.size, 0, none⟩ 1 1 [(.func (.func fid) #[] caps)] rfl rfl (Prs.cells_of_block (L := [(.func (.func fid) #[] caps)]) y2) (by intro u hu; simp at hu; rw [hu]; rfl) (by unfold maxLen; omega) (by omega) (by simp; omega) ?_
    intro v3 W4 hown3 hgr hnil hat
    have HSN : Hid _ := SL.append HSL.out HF.out hkp bW2 hwr hown3 hgr hat
    have kb2 := HB.out.trans (bW2.mono HB.out.size)
    have HB4 : Hid (Below w.heap.size w W4) := (kb2.alloc kb2.size _).grown hgr (by simp; omega) (fun q hq => by have := hfrom q hq; omega)
    clear hgr hat hnil hown3 hown2 y2 kb2 bW2 b2 h2 hkp hfrom
    have HEQ : Hid (EqR (Qt ((L ++ [(Value.func (.func fid) #[] caps, FF)]).map (·.2))) (Qt ((es.take (k + m)).map Q5))) := by
     have h := HEQ.out
     rw [List.map_append] at h ⊢
     exact h
    have HLN : Hid ((L ++ [(Value.func (.func fid) #[] caps, FF)]).length ≤ k + m) := by
     unfold Hid
     rw [List.length_append, List.length_singleton]
     omega
    by_cases hcm : c' = m
    ·have hcm2 : c' = m := hcm
     go_wp2_with fail
     go_roundg (K - (k + m))
     case measure => omega
     case rel => exact ⟨k + m, _, _, _, by omega, by omega, by rw [show K - (k + m) = n - m by omega], by rw [show K - (k + m) = 0 by omega, ← List.drop_drop]; exact qsc (HCT.out.1 hcm), HSN.out, HLN.out, HEQ.out, HB4.out⟩
    ·go_wp2_with fail
     go_roundg (K - (k + m))
     case measure => omega
     case rel => exact ⟨k + m, _, _, _, by omega, by omega, by rw [show K - (k + m) = n - m by omega], by rw [show K - (k + m) = n - m by omega, ← List.drop_drop]; exact HCT.out.2, HSN.out, HLN.out, HEQ.out, HB4.out⟩
  ·have hpn : ¬ (0 < K - k) := by omega
   have hpi : ¬ ((0 : Int) < ((K - k : Nat) : Int)) := by omega
   have e : k = K := by omega
   have hkl : ∀ g, g ∈ L.map (·.2) → Xb g := fun f hf => by
    obtain ⟨x, hx, rfl⟩ := List.mem_map.1 hf
    exact (hS.all x hx).keeps
   have HKL : Hid (∀ g, g ∈ L.map (·.2) → Xb g) := hkl
   have hst := hS.steps (w := w) (Nat.le_refl _) (Xc.refl _ _) hb
   have HST : Hid (Y3 wr (.slice sa L.length sc) (L.map (·.2))) := hst
   have HQ2 : Hid (EqR (Qt (L.map (·.2))) (Qt (es.map Q5))) := by
    have h := HQ.out
    rw [List.take_of_length_le (by rw [HK.out]; omega)] at h
    exact h
   clear hst hev hS hb hq2 hkl hrl
   generalize hm : K - k = n at *
   go_wp2_with fail
   go_ret
   have hlm : (L.map (·.2)).length = L.length := List.length_map _
   refine ⟨sa, sc, L.map (·.2), by rw [hlm]; rfl, HKL.out, by rw [hlm]; exact HST.out, by omega, HQ2.out, HB.out⟩
end Put
namespace Prs
theorem qwn : ∀ (l : List UInt8) (s : St), (feed s l).2.length + (feed s l).1.left.size ≤ s.left.size + l.length := fun l => by
 induction l with
 | nil => intro s; simp [feed]
 | cons x l ih =>
  intro s
  have h1 := ih (take s x).1
  have h2 := qm3 s x
  simp only [feed, List.length_append, List.length_cons]
  omega
end Prs
end Go.Proofs.YtcnblcmpgmgbbaaGreatDoor

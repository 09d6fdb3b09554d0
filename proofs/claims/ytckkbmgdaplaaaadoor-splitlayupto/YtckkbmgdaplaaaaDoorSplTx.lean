/- Package split: what a text says of trees (the good path alone), and trees that lie apart from the reader. -/
import Derived.Test.YtckkbmgdaplaaaaDoorSplSize
namespace Go.Proofs.YtckkbmgdaplaaaaDoor
open Go.ChangeShapes Go.WideShapes Go.ChangeAt Go.RowKit Go.Maps Go.Sort
namespace Spl
open Fo
/-- A size stands from p to q; or none, and it is 1. -/
def Szd (t : ByteArray) (p q : Nat) (sz : Int) : Prop := (nextIs t p 42 = false ∧ sz = 1 ∧ q = p) ∨ (nextIs t p 42 = true ∧ sz ≠ 1 ∧ ∃ k, Nm t (p + 1) k sz ∧ q = p + 1 + k)
def opens (wy : Int) : UInt8 := if wy = 1 then 123 else 91
def shuts (wy : Int) : UInt8 := if wy = 1 then 125 else 93
/-- The trees f stand from p to q, with commas between them, where o brackets are open. -/
def TsAt (t : ByteArray) : Nat → Fo → Nat → Nat → Prop
  | _, nil, _, _ => False
  | o, cons wy pn sz ks rs, p, q => ∃ m m2,
      ((wy = 0 ∧ ks = nil ∧ ∃ k, Nm t p k pn ∧ m = p + k ∧ nextIs t p 123 = false ∧ nextIs t p 91 = false) ∨
        ((wy = 1 ∨ wy = 2) ∧ pn = 0 ∧ o < 12 ∧ nextIs t p (opens wy) = true ∧ ∃ m0, TsAt t (o + 1) ks (p + 1) m0 ∧ nextIs t m0 (shuts wy) = true ∧ m = m0 + 1)) ∧
      Szd t m m2 sz ∧
      ((rs = nil ∧ q = m2 ∧ nextIs t m2 44 = false) ∨ (nextIs t m2 44 = true ∧ TsAt t o rs (m2 + 1) q))
/-- The world without the blocks below N. -/
def low (w : World) (N : Nat) : World := { w with heap := w.heap.mapIdx fun i o => if i < N then .cells #[] 0 (0, 0) else o }
theorem low_cell {w : World} {N b o : Nat} {v : Value} (h : (low w N).cell? ⟨b, o, none⟩ = some v) : N ≤ b ∧ w.cell? ⟨b, o, none⟩ = some v := by
  have hg : (w.heap.mapIdx fun i o => if i < N then Obj.cells #[] 0 (0, 0) else o)[b]? = (w.heap[b]?).map (fun o => if b < N then Obj.cells #[] 0 (0, 0) else o) := by rw [Array.getElem?_mapIdx]
  unfold World.cell? low at h
  rw [hg] at h
  by_cases hN : b < N
  · exfalso
    cases hw : w.heap[b]? with
    | none => rw [hw] at h; simp at h
    | some x => rw [hw] at h; simp [hN] at h
  · refine ⟨by omega, ?_⟩
    unfold World.cell?
    simpa [hN] using h
theorem low_of {w : World} {N b o : Nat} {v : Value} (hb : N ≤ b) (h : w.cell? ⟨b, o, none⟩ = some v) : (low w N).cell? ⟨b, o, none⟩ = some v := by
  have hg : (w.heap.mapIdx fun i o => if i < N then Obj.cells #[] 0 (0, 0) else o)[b]? = (w.heap[b]?).map (fun o => if b < N then Obj.cells #[] 0 (0, 0) else o) := by rw [Array.getElem?_mapIdx]
  unfold World.cell? low
  rw [hg]
  unfold World.cell? at h
  simpa [show ¬ b < N by omega] using h
theorem low_ck (w : World) (N : Nat) : CK (low w N) w := fun _ _ _ h => (low_cell h).2
theorem low_le {w : World} {M N : Nat} (h : M ≤ N) : CK (low w N) (low w M) := fun _ _ _ hv => low_of (Nat.le_trans h (low_cell hv).1) (low_cell hv).2
theorem low_but {w w' : World} {R N : Nat} (h : But R w w') (hR : R < N) : CK (low w N) (low w' N) := by
  intro b o v hv
  obtain ⟨hN, hc⟩ := low_cell hv
  refine low_of hN ?_
  have hb := lt_of_cell hc
  unfold World.cell?
  rw [h.block b hb (by omega)]
  exact hc
theorem low_set {w : World} {N g i : Nat} (u : Value) (hg : g < N) : CK (low w N) (low (w.setCell ⟨g, i, none⟩ u) N) := by
  intro b o v hv
  obtain ⟨hN, hc⟩ := low_cell hv
  refine low_of hN ?_
  rw [World.cell?_setCell_other _ _ _ _ (by intro e; injection e with e; omega)]
  exact hc
theorem KAt.apart {w w' : World} {R N : Nat} {v : Value} {f : Fo} (h : KAt (low w N) v f) (hb : But R w w') (hR : R < N) : KAt (low w' N) v f := h.ck (low_but hb hR)
theorem KAt.set {w : World} {N g i : Nat} {v : Value} {f : Fo} (h : KAt (low w N) v f) (u : Value) (hg : g < N) : KAt (low (w.setCell ⟨g, i, none⟩ u) N) v f := h.ck (low_set u hg)
theorem KAt.down {w : World} {M N : Nat} {v : Value} {f : Fo} (h : KAt (low w N) v f) (hM : M ≤ N) : KAt (low w M) v f := h.ck (low_le hM)
theorem KAt.whole {w : World} {N : Nat} {v : Value} {f : Fo} (h : KAt (low w N) v f) : KAt w v f := h.ck (low_ck w N)
set_option maxRecDepth 100000 in
theorem size_any (R : Nat) (t : ByteArray) (p q o : Nat) (n : Int) (w : World) (hr : RdAt w R t p o) (hts : t.size ≤ 100000) (hps : p ≤ t.size) (hs : Szd t p q n) :
    Calls Tryd.prog 85 #[.pointer (some ⟨R, 0, none⟩)] w fun e w' => e = .returned (.int .i64 n) ∧ RdAt w' R t q o ∧ But R w w' := by
  rcases hs with ⟨h, rfl, rfl⟩ | ⟨h, h1, k, hk, rfl⟩
  · exact size_one R t q o w hr hts hps h
  · exact size_num R t p k o n w hr hts hps h hk h1
/-- Trees that were read, one after the other, in memory. -/
def trc (x : Int × Int × Int × Value) : List Value := [.int .i64 x.1, .int .i64 x.2.1, .int .i64 x.2.2.1, x.2.2.2]
theorem trc_len : ∀ L : List (Int × Int × Int × Value), (L.flatMap trc).length = L.length * 4
  | [] => rfl
  | x :: L => by rw [List.flatMap_cons, List.length_append, trc_len L]; simp [trc]; omega
/-- What is kept of the trees that were read: their ways, panes and sizes, and slices of their kids. -/
def Reads (w : World) : List (Int × Int × Int × Value) → Fo → Prop
  | [], nil => True
  | x :: L, cons wy pn sz ks rs => x.1 = wy ∧ x.2.1 = pn ∧ x.2.2.1 = sz ∧ KAt w x.2.2.2 ks ∧ Reads w L rs
  | _, _ => False
theorem Reads.ck {w w' : World} (h : CK w w') : ∀ (L : List (Int × Int × Int × Value)) (f : Fo), Reads w L f → Reads w' L f
  | [], nil, _ => trivial
  | _ :: L, cons _ _ _ _ rs, hf => ⟨hf.1, hf.2.1, hf.2.2.1, hf.2.2.2.1.ck h, Reads.ck h L rs hf.2.2.2.2⟩
  | [], cons _ _ _ _ _, hf => hf.elim
  | _ :: _, nil, hf => hf.elim
theorem Reads.len {w : World} : ∀ (L : List (Int × Int × Int × Value)) (f : Fo), Reads w L f → L.length = f.len
  | [], nil, _ => rfl
  | _ :: L, cons _ _ _ _ rs, hf => by simp only [List.length_cons, Fo.len]; rw [Reads.len L rs hf.2.2.2.2]
  | [], cons _ _ _ _ _, hf => hf.elim
  | _ :: _, nil, hf => hf.elim
theorem Reads.snoc {w : World} (wy pn sz : Int) (kv : Value) (ks : Fo) (hk : KAt w kv ks) : ∀ (L : List (Int × Int × Int × Value)) (f : Fo), Reads w L f → Reads w (L ++ [(wy, pn, sz, kv)]) (f.app (cons wy pn sz ks nil))
  | [], nil, _ => ⟨rfl, rfl, rfl, hk, trivial⟩
  | _ :: L, cons _ _ _ _ rs, hf => ⟨hf.1, hf.2.1, hf.2.2.1, hf.2.2.2.1, Reads.snoc wy pn sz kv ks hk L rs hf.2.2.2.2⟩
  | [], cons _ _ _ _ _, hf => hf.elim
  | _ :: _, nil, hf => hf.elim
/-- They lie in one block: so they are trees in memory. -/
theorem fo_of_reads {w : World} {b : Nat} : ∀ (L : List (Int × Int × Int × Value)) (f : Fo) (o : Nat), Reads w L f → (∀ j u, (L.flatMap trc)[j]? = some u → w.cell? ⟨b, o + j, none⟩ = some u) → FoAt w f b o
  | [], nil, _, _, _ => trivial
  | x :: L, cons wy pn sz ks rs, o, hf, hc => by
    obtain ⟨rfl, rfl, rfl, ⟨a, c, hv, hle, hk⟩, hr⟩ := hf
    rw [List.flatMap_cons] at hc
    have hs := fun j (h : j < 4) => hc j ((trc x)[j]'(by simpa [trc] using h)) (by rw [List.getElem?_append_left (by simpa [trc] using h)]; exact List.getElem?_eq_getElem _)
    refine ⟨⟨a, c, hs 0 (by omega), hs 1 (by omega), hs 2 (by omega), (hs 3 (by omega)).trans (congrArg some hv), hle, hk⟩, fo_of_reads L rs (o + 4) hr ?_⟩
    intro j u hj
    have := hc (4 + j) u (by rw [List.getElem?_append_right (by simp [trc])]; simpa [trc] using hj)
    rwa [show o + (4 + j) = o + 4 + j by omega] at this
  | [], cons _ _ _ _ _, _, hf, _ => hf.elim
  | _ :: _, nil, _, hf, _ => hf.elim
end Spl
end Go.Proofs.YtckkbmgdaplaaaaDoor

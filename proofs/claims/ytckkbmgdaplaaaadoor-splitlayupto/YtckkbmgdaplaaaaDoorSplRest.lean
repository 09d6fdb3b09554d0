/- Package split: the reader of a text: what is still to come; steps of drawn regions. -/
import Derived.Test.YtckkbmgdaplaaaaDoorSplRow
import Derived.Deep.RegionLaw
import Derived.Maps.AppendAt
namespace Go.Proofs.YtckkbmgdaplaaaaDoor
open Go.ChangeShapes Go.WideShapes Go.ChangeAt Go.RowKit Go.Maps Go.Sort
namespace Spl
open Fo
/-- A tree is read: it stands from p to m. -/
def PartOk (R : Nat) (t b0 b1 b2 : ByteArray) (wy pn sz : Int) (ks : Fo) (p m o : Nat) : Prop := ∀ W, RdAt W R t p o → BrTab W b0 b1 b2 → Calls Tryd.prog 74 #[.pointer (some ⟨R, 0, none⟩)] W fun e w' => ∃ kv, e = .returned (.agg #[.int .i64 wy, .int .i64 pn, .int .i64 sz, kv]) ∧ KAt (low w' W.heap.size) kv ks ∧ RdAt w' R t m o ∧ But R W w'
/-- The trees f, one after the other with commas between them, each of them read. -/
def Row1 (R : Nat) (t b0 b1 b2 : ByteArray) (o : Nat) : Fo → Nat → Nat → Prop
  | nil, _, _ => False
  | cons wy pn sz ks rs, p, q => ∃ m, m ≤ t.size ∧ PartOk R t b0 b1 b2 wy pn sz ks p m o ∧ ((rs = nil ∧ q = m ∧ nextIs t m 44 = false) ∨ (nextIs t m 44 = true ∧ Row1 R t b0 b1 b2 o rs (m + 1) q))
theorem low_new {w w' : World} {N X g : Nat} {v : Value} (hb : Below w.heap.size w w') (hv : v.ownBlock = some g) (hg : w.heap.size ≤ g) (hX : w.heap.size ≤ X) : CK (low w N) (but1 w' N X v) := by
  intro b o x hx
  obtain ⟨hN, hc⟩ := low_cell hx
  have hlt := lt_of_cell hc
  refine but1_of hN (by rw [hv]; intro e; injection e with e; omega) (by omega) ?_
  rw [hb.cell hlt]
  exact hc
/-- A call of a function, as a step of a region whose order is drawn. -/
theorem step_go {P : Program} {ops : Array Oper} {o : Oper} {a : Act} {w : World} {K : Act → World → Prop} {Q : Exit → Act → World → Prop} {E : Prop} (hg : o.guard = none) (f : FuncId) (vals : Array Value)
    (hrun : (execOp a.eval o).run P w = .ok (.enter f vals) w) (C : Ending → World → Prop) (hC : Calls P f vals w C) (hK : ∀ e w', C e w' → ∃ v, e = .returned v ∧ K (a.put o.dst v) w') :
    if Region.wanted o (yielded ops a.tmps) = true then Oper.wp P o a w K Q else E := by
  have hw : Region.wanted o (yielded ops a.tmps) = true := by simp [Region.wanted, hg]
  rw [if_pos hw]
  unfold Oper.wp
  rw [hrun, Oper.upon_enter]
  refine hC.mono ?_
  rintro e w' h
  obtain ⟨v, rfl, hk⟩ := hK e w' h
  exact hk
/-- An append, as a step of a region whose order is drawn: where the row lies behind it is told, too. -/
theorem step_app_at {P : Program} {ops : Array Oper} {o : Oper} {a : Act} {w : World} {K : Act → World → Prop} {Q : Exit → Act → World → Prop} {E : Prop} (hg : o.guard = none) (s x : Operand) (t : TypeId)
    (hop : o.op = .call { callee := .builtin .append, args := #[s, x], argTypes := #[t, t] })
    (base : Nat) (e : TypeId) (i : TypeInfo) (z : Value) (size bytes : Nat) (ht : P.underlying t = some (.slice e)) (hi : P.info? e = some i) (hz : i.zero = some z)
    (hsize : i.size = size) (hby : i.bytes = bytes) (hzs : z.cells.size = size) (hsz : 0 < size)
    (v : Value) (n : Nat) (xs : List Value) (hs : a.eval s = v) (hown : w.ownsRow base e size v n xs)
    (ad : Addr) (m c : Nat) (news : List Value) (hx : a.eval x = .slice (some ad) m c) (hl : news.length = m * size) (hnews : ∀ j u, news[j]? = some u → w.cell? (ad.add j) = some u) (h1 : ∀ u ∈ news, u.oneCell' = true)
    (h63 : n + m ≤ maxLen) (hbytes : (n + m) * bytes ≤ 140737488355328) (hbase : base ≤ w.heap.size)
    (h : ∀ v' w', w'.ownsRow base e size v' (n + m) (xs ++ news) → w.grownBy w' v.ownBlock → (v'.ownBlock = v.ownBlock ∨ v'.ownBlock = some w.heap.size) → K (a.put o.dst v') w') :
    if Region.wanted o (yielded ops a.tmps) = true then Oper.wp P o a w K Q else E := by
  have hw : Region.wanted o (yielded ops a.tmps) = true := by simp [Region.wanted, hg]
  rw [if_pos hw]
  obtain ⟨v', w', hr, h2, h3, -, h5⟩ := run_append_own_at (P := P) w base t o.type e i z size bytes ht hi hz hsize hby hzs hsz v n xs hown ad m c news hl hnews h1 h63 hbytes hbase
  unfold Oper.wp execOp
  simp only [hop, resolve, invoke, builtin, Sem.run_bind, Sem.run_pure, Result.andThen_ok, List.map_toArray, List.map_cons, List.map_nil, hs, hx, hr]
  exact h v' w' h2 h3 h5
theorem sp_info : (Tryd.prog.info? 24).map (fun i => (i.zero, i.size, i.bytes)) = some (some (.agg #[.int .i64 0, .int .i64 0, .int .i64 0, .slice none 0 0]), 4, 48) := by kernel_rfl
theorem sp_und : Tryd.prog.underlying 22 = some (.slice 24) := by kernel_rfl
/-- What is still to come: nothing, or a comma and trees. -/
def Rest (R : Nat) (t b0 b1 b2 : ByteArray) (o : Nat) (rs : Fo) (q m0 : Nat) : Prop := (rs = nil ∧ m0 = q ∧ nextIs t q 44 = false) ∨ (nextIs t q 44 = true ∧ Row1 R t b0 b1 b2 o rs (q + 1) m0)
theorem app_nil : ∀ f : Fo, f.app nil = f
  | nil => rfl
  | cons _ _ _ _ rs => by rw [Fo.app, app_nil rs]
theorem app_app : ∀ f g h : Fo, (f.app g).app h = f.app (g.app h)
  | nil, _, _ => rfl
  | cons _ _ _ _ rs, g, h => by rw [Fo.app, Fo.app, Fo.app, app_app rs g h]
end Spl
end Go.Proofs.YtckkbmgdaplaaaaDoor

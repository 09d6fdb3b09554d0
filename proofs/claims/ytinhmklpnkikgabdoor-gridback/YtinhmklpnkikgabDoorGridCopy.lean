/- copy of elements that take several words; cells laid flat. -/
import Derived.Test.YtinhmklpnkikgabDoorGridCheck
import Derived.Laws.CopyOwn
namespace Go.Proofs.YtinhmklpnkikgabDoor
open Go.ChangeShapes Go.WideShapes Go.ChangeAt Go.RowKit
namespace Grd
theorem run_copy_wide {P : Program} (w : World) (dT sT ty elem : TypeId) (g o dLen dCap : Nat) (a : Addr) (sLen sCap k : Nat) (cur : Array Value) (t : TypeId) (cs : List Value)
    (hu : P.underlying dT = some (.slice elem)) (hs : (P.info? elem).map (·.size) = some k)
    (hg : w.heap[g]? = some (.cells cur t (0, 0))) (hn : cs.length = Nat.min sLen dLen * k)
    (hsrc : ∀ j v, cs[j]? = some v → w.cell? (a.add j) = some v) (hfit : o + cs.length ≤ cur.size) (h1 : ∀ v ∈ cs, v.oneCell' = true) :
    (Builtin.copy_ #[dT, sT] ty #[.slice (some ⟨g, o, none⟩) dLen dCap, .slice (some a) sLen sCap]).run P w =
      .ok (goInt (Nat.min sLen dLen)) (w.setRow g (cur.toList.take o ++ cs ++ cur.toList.drop (o + cs.length)).toArray) := by
  have hl := run_loadCells_list (P := P) w a cs hsrc
  have hst := run_storeCells_at P g o t cs 0 cur w hg (by simpa using hfit) h1
  cases hq : P.info? elem with
  | none => simp [hq] at hs
  | some i =>
    have hi : i.size = k := by simpa [hq] using hs
    simp [Builtin.copy_, run_underlying hu, Builtin.lenOf, Builtin.firstCells, sizeOf, typeInfo, hq, hi, ← hn, hl, hst]
theorem wpList_copy_wide {P : Program} {w : World} {ops : Array Oper} {rest : List Oper} {o : Oper} {a : Act} {Q : Exit → Act → World → Prop} (hgd : o.guard = none) (d s : Operand) (dT sT : TypeId)
    (ho : o.op = .call { callee := .builtin .copy, args := #[d, s], argTypes := #[dT, sT] }) (elem : TypeId) (hu : P.underlying dT = some (.slice elem)) (k : Nat) (hsz : (P.info? elem).map (·.size) = some k)
    (g off dLen dCap : Nat) (ad : Addr) (sLen sCap : Nat) (hd : a.eval d = .slice (some ⟨g, off, none⟩) dLen dCap) (hs : a.eval s = .slice (some ad) sLen sCap)
    (cur : Array Value) (t : TypeId) (hg : w.heap[g]? = some (.cells cur t (0, 0))) (cs : List Value) (m : Nat) (hm : Nat.min sLen dLen = m) (hn : cs.length = m * k)
    (hsrc : ∀ j v, cs[j]? = some v → w.cell? (ad.add j) = some v) (hfit : off + cs.length ≤ cur.size) (h1 : ∀ v ∈ cs, v.oneCell' = true)
    (h : wpList P ops Q rest (a.put o.dst (goInt m)) (w.setRow g (cur.toList.take off ++ (cs ++ cur.toList.drop (off + cs.length))).toArray)) : wpList P ops Q (o :: rest) a w := by
  refine wpList_plain hgd fun K hK => ?_
  have hrun := run_copy_wide (P := P) w dT sT o.type elem g off dLen dCap ad sLen sCap k cur t cs hu hsz hg (by rw [hm]; exact hn) hsrc hfit h1
  rw [hm] at hrun
  unfold Oper.wp
  simp [execOp, ho, resolve, invoke, builtin, hd, hs, hrun, Result.andThen]
  exact hK _ _ h
/-- The four words of a cell. -/
def words (c : C) : List Value := [.int .i32 c.1, .int .i64 c.2.1, .int .i64 c.2.2.1, .int .i64 c.2.2.2]
def flat (cs : List C) : List Value := cs.flatMap words
theorem flat_len : ∀ cs : List C, (flat cs).length = cs.length * 4
  | [] => rfl
  | c :: cs => by
    show (words c ++ flat cs).length = _
    rw [List.length_append, flat_len cs]
    simp [words]
    omega
theorem flat_append (a b : List C) : flat (a ++ b) = flat a ++ flat b := by simp [flat]
theorem flat_at : ∀ (cs : List C) (j i : Nat), j < cs.length → i < 4 → (flat cs)[j * 4 + i]? = (words (cs.getD j z0))[i]?
  | c :: cs, 0, i, _, hi => by
    show (words c ++ flat cs)[0 * 4 + i]? = _
    rw [List.getElem?_append_left (by simp [words]; omega)]
    simp
  | c :: cs, j + 1, i, hj, hi => by
    show (words c ++ flat cs)[(j + 1) * 4 + i]? = _
    rw [List.getElem?_append_right (by simp [words]; omega), show (j + 1) * 4 + i - (words c).length = j * 4 + i by simp [words]; omega, flat_at cs j i (by simpa using hj) hi]
    simp
theorem flat_one : ∀ cs : List C, ∀ v ∈ flat cs, v.oneCell' = true := by
  intro cs v hv
  obtain ⟨c, _, hv⟩ := List.mem_flatMap.1 hv
  simp [words] at hv
  rcases hv with rfl | rfl | rfl | rfl <;> rfl
/-- v is a slice of the call's own (in a block from base on) that reads as cs, from the block's head on. -/
def OwnG (w : World) (base : Nat) (v : Value) (cs : List C) : Prop := ∃ (g cap : Nat) (rest : List Value) (t : { t : TypeId // t = 30 }),
  v = .slice (some ⟨g, 0, none⟩) cs.length cap ∧ base ≤ g ∧ cs.length ≤ cap ∧ cap ≤ 9223372036854775807 ∧ w.heap[g]? = some (.cells (flat cs ++ rest).toArray t (0, 0))
theorem cellsAt_flat {w : World} {g : Nat} {cs : List C} {rest : List Value} {t : TypeId} (h : w.heap[g]? = some (.cells (flat cs ++ rest).toArray t (0, 0))) : CellsAt w g 0 cs := fun j hj => by
  have key : ∀ i, i < 4 → w.cell? ⟨g, 0 + j * 4 + i, none⟩ = (words (cs.getD j z0))[i]? := fun i hi => by
    rw [Nat.zero_add, ← flat_at cs j i hj hi]
    unfold World.cell?
    rw [h]
    have hl : j * 4 + i < (flat cs).length := by rw [flat_len]; omega
    simp [List.getElem?_append_left hl]
  exact ⟨key 0 (by omega), key 1 (by omega), key 2 (by omega), key 3 (by omega)⟩
theorem OwnG.slice {w : World} {base : Nat} {v : Value} {cs : List C} (h : OwnG w base v cs) : SliceAt w v cs := by
  obtain ⟨g, cap, rest, t, hv, _, hc, hm, hh⟩ := h
  rcases cs with _ | ⟨c, cs⟩
  · exact .inl ⟨rfl, _, _, hv⟩
  · exact .inr ⟨by simp, g, 0, cap, hv, hc, hm, cellsAt_flat hh⟩
theorem OwnG.below {w w' : World} {base : Nat} {v : Value} {cs : List C} (h : OwnG w base v cs) (hb : Below w.heap.size w w') : OwnG w' base v cs := by
  obtain ⟨g, cap, rest, t, hv, hg, hc, hm, hh⟩ := h
  exact ⟨g, cap, rest, t, hv, hg, hc, hm, carry hh hb⟩
end Grd
end Go.Proofs.YtinhmklpnkikgabDoor

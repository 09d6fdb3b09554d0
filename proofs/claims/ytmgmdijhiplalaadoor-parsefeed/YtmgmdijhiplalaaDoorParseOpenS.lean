/- How great a state's numbers may be. -/
import Derived.Test.YtmgmdijhiplalaaDoorParseOpen
namespace Go.Proofs.YtmgmdijhiplalaaDoor
open Go.ChangeShapes Go.WideShapes Go.ChangeAt Go.RowKit
namespace Prs
theorem und_ints' : Tryd.prog.underlying 22 = some (.slice 3) := by kernel_rfl
theorem sized_state {H : Type} {ts : List TypeId} {ds : List (DataW H)} {j : Nat} {d : DataW H} {l : List Int} (h : (DataW.weightsEach Tryd.prog ts ds).all (· ≤ reachBytes) = true) (ht : ts[j]? = some 24) (hd : ds[j]? = some d) (hz : l = [] ∨ ∃ d0 d1 d2 el sp d4 d5 d6, d = .agg [d0, d1, d2, .slice el sp, d4, d5, d6] ∧ l.length = el.length) : l.length * 8 ≤ 140737488351232 := by
  rcases hz with rfl | ⟨d0, d1, d2, el, sp, d4, d5, d6, rfl, hl⟩
  · simp
  · have hm : (el.length + sp.length) * Tryd.prog.bytesOf 3 ∈ (DataW.agg [d0, d1, d2, .slice el sp, d4, d5, d6] : DataW H).weights Tryd.prog 24 := by
      unfold DataW.weights
      rw [Tryd.underlying24]
      simp only [List.map_cons, List.map_nil, DataW.weightsEach, List.mem_append]
      right; right; right; left
      unfold DataW.weights
      rw [und_ints']
      exact List.mem_cons_self ..
    have := of_decide_eq_true (List.all_eq_true.1 h _ (DataW.weights_mem_each ht hd _ hm))
    rw [show Tryd.prog.bytesOf 3 = 8 by kernel_rfl, reachBytes] at this
    rw [hl]
    omega
end Prs
end Go.Proofs.YtmgmdijhiplalaaDoor

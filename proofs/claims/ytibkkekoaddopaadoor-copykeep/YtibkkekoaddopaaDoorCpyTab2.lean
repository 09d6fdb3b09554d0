/- Package copying: texts out of what the row reads, with their sizes; tables. -/
import Derived.Test.YtibkkekoaddopaaDoorCpyTab
import Derived.Lib.LaidTab
namespace Go.Proofs.YtibkkekoaddopaaDoor
open Go.ChangeShapes Go.WideShapes Go.ChangeAt Go.RowKit
namespace Cpy
def firstCells : Array Value := (Go.Pinned.utf8FirstZ.map fun (z : Nat) => Value.int .u8 (z : Int)).toArray
def acceptCells : Array Value := ((List.range 16).flatMap fun i => [Value.int .u8 (Lib.accLo i : Int), Value.int .u8 (Lib.accHi i : Int)]).toArray
variable {H : Type} {enc : TypeId × Value → H} {W : World}
set_option maxRecDepth 100000 in
theorem open_texts {b0 : Nat} {v : Value} {d : DataW H} {p : List MemPlace} (hval : Value.okWide Tryd.prog W .any b0 22 v) (h : DataW.Trod enc Tryd.prog W 0 (fun _ => true) true 22 v d p) :
    ∃ (L : List ByteArray) (a : Option Addr) (c : Nat), v = .slice a L.length c ∧ L.length ≤ c ∧ (a = none → c = 0) ∧ (L = [] ∨ ∃ b o, a = some ⟨b, o, none⟩ ∧ ∀ j x, L[j]? = some x → W.cell? ⟨b, o + j, none⟩ = some (.string x)) ∧ (L = [] ∨ ∃ spare, d = .slice (strs L) spare) := by
  obtain ⟨a0, len, cap, rfl⟩ := okWide_slice Tryd.underlying22 hval
  obtain ⟨fuel, hf⟩ := h
  rcases open_strings Tryd.underlying22 Tryd.underlying9 (by kernel_rfl) hf with ⟨hcs, hx⟩ | ⟨a, len', cap', zs, hcs, _, hl, hm, hz, hx, hcell, hwz⟩
  · simp [Value.cells] at hcs
    obtain ⟨rfl, rfl, rfl⟩ := hcs
    exact ⟨[], _, _, rfl, Nat.le_refl _, fun _ => rfl, .inl rfl, .inl rfl⟩
  · simp [Value.cells] at hcs
    obtain ⟨rfl, rfl, rfl⟩ := hcs
    simp only [Prod.mk.injEq] at hx
    obtain ⟨rfl, rfl⟩ := hx
    simp only [if_true] at hz
    have hlen : (zs.take len).length = len := by simp; omega
    refine ⟨zs.take len, some a, cap, by rw [hlen], by rw [hlen]; exact hl, (fun h => by cases h), ?_, .inr ⟨_, rfl⟩⟩
    · by_cases h0 : len = 0
      · left
        exact List.length_eq_zero_iff.1 (by omega)
      · right
        obtain ⟨b, off, spot⟩ := a
        have hspot : spot = none := by simpa [Addr.add] using World.cell?_spot (hcell 0 (by omega))
        subst hspot
        refine ⟨b, off, rfl, fun j x hj => ?_⟩
        obtain ⟨hjl, _⟩ := List.getElem?_eq_some_iff.1 hj
        have := hcell j (by omega)
        rw [add_plain] at this
        rw [this, List.getD_eq_getElem?_getD]
        rw [List.getElem?_take_of_lt (by omega)] at hj
        rw [hj]
        rfl
theorem weights_strs {P : Program} {e : TypeId} : ∀ (ss : List ByteArray) (x : ByteArray), x ∈ ss → x.size ∈ DataW.weightsAll (H := H) P e (strs ss)
  | [], x, hx => by simp at hx
  | y :: t, x, hx => by
    show x.size ∈ DataW.weights P e (.lit (.string y.data.toList)) ++ DataW.weightsAll P e (strs t)
    rw [List.mem_append]
    rcases List.mem_cons.1 hx with rfl | hx
    · left
      simp [DataW.weights]
    · exact .inr (weights_strs t x hx)
theorem sized_texts {ts : List TypeId} {ds : List (DataW H)} {L : List ByteArray} {d : DataW H} (h : (DataW.weightsEach Tryd.prog ts ds).all (· ≤ reachBytes) = true) {j : Nat} (ht : ts[j]? = some 22) (hd : ds[j]? = some d) (hs : L = [] ∨ ∃ spare, d = .slice (strs L) spare) :
    L.length * 16 ≤ 140737488355328 ∧ ∀ x ∈ L, x.size ≤ 281474976710656 := by
  have hr := reachBytes_lt
  rcases hs with rfl | ⟨spare, rfl⟩
  · simp
  · have h1 := sized_slice h ht hd Tryd.underlying22
    rw [show Tryd.prog.bytesOf 9 = 16 by kernel_rfl, show (strs L : List (DataW H)).length = L.length by simp [strs]] at h1
    refine ⟨by omega, fun x hx => ?_⟩
    have h2 := List.all_eq_true.1 h _ (DataW.weights_mem_each ht hd x.size (by
      simp only [DataW.weights, Tryd.underlying22, List.mem_cons, List.mem_append]
      exact .inr (.inl (weights_strs L x hx))))
    have h3 : x.size ≤ reachBytes := by simpa using h2
    omega
end Cpy
end Go.Proofs.YtibkkekoaddopaaDoor

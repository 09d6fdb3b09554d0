/- The closed fact: an item, and a choice; a line. -/
import Derived.Test.YtbhoklhcdefabaaDoorFmtState
namespace Go.Proofs.YtbhoklhcdefabaaDoor
open Go.ChangeShapes Go.WideShapes Go.ChangeAt Go.RowKit Go.Maps Go.Sort
namespace Fmt
def fs : ByteArray := ⟨#[35, 35, 91, 35, 123, 97, 125, 93, 32, 35, 123, 63, 98, 44, 121, 101, 115, 44, 110, 111, 125, 35, 123, 61, 49, 58, 97, 125]⟩
def fi : List (ByteArray × ByteArray) := [(⟨#[97]⟩, ⟨#[120, 121]⟩), (⟨#[98]⟩, ⟨#[48]⟩)]
set_option maxRecDepth 1000000 in
theorem fact_exp : expV fs fi = .tuple #[.string ⟨#[35, 91, 120, 121, 93, 32, 110, 111, 120]⟩, .int .i64 0, .int .i64 0] := by kernel_rfl
set_option maxRecDepth 1000000 in
theorem fact_state : stV ⟨#[108, 101, 102, 116]⟩ ⟨#[114]⟩ 6 = .tuple #[.string ⟨#[108, 101, 102, 116, 32, 114]⟩, .int .i64 0] := by kernel_rfl
set_option maxHeartbeats 4000000 in
set_option maxRecDepth 100000 in
theorem formatted_any (w : World) (hT : Txt.Tab w) :
    Calls Tryd.prog 6 #[] w fun e w' => e = .returned (.bool true) ∧ Below w.heap.size w w' := by
  have kA := own_of_below (w := w) (.cells #[.string ⟨#[97]⟩, .string ⟨#[120, 121]⟩, .string ⟨#[98]⟩, .string ⟨#[48]⟩] 27)
  have hA := heap_alloc_new w (.cells #[.string ⟨#[97]⟩, .string ⟨#[120, 121]⟩, .string ⟨#[98]⟩, .string ⟨#[48]⟩] 27)
  have hI : ItAt (w.alloc (.cells #[.string ⟨#[97]⟩, .string ⟨#[120, 121]⟩, .string ⟨#[98]⟩, .string ⟨#[48]⟩] 27)) (.slice (some ⟨w.heap.size, 0, none⟩) 2 2) fi := by
    refine ⟨some ⟨w.heap.size, 0, none⟩, 2, rfl, .inr ⟨w.heap.size, 0, rfl, fun j x hx => ?_⟩⟩
    unfold World.cell?
    rw [hA]
    match j, hx with
    | 0, hx => cases hx; exact ⟨rfl, rfl⟩
    | 1, hx => cases hx; exact ⟨rfl, rfl⟩
    | j + 2, hx => cases hx
  have H1 := expand_any fs (.slice (some ⟨w.heap.size, 0, none⟩) 2 2) fi _ hI (hT.below kA hT.pos) (by decide)
  rw [fact_exp] at H1
  have H2 := fun V (hV : Below w.heap.size w V) => state_any ⟨#[108, 101, 102, 116]⟩ ⟨#[114]⟩ 6 V (hT.below hV hT.pos)
  rw [fact_state] at H2
  unfold fs at H1
  clear hI hA
  go_enter Tryd.func6, Tryd.ntmps6
  go_wp2_with fail
  refine H1.mono ?_
  rintro e W ⟨rfl, b⟩
  have k1 := kA.trans (b.mono kA.size)
  go_wp2_with fail
  refine (H2 _ k1).mono ?_
  rintro e W2 ⟨rfl, b2⟩
  have k2 := k1.trans (b2.mono k1.size)
  go_wp2_with fail
  go_ret
  exact ⟨rfl, k2⟩
end Fmt
end Go.Proofs.YtbhoklhcdefabaaDoor

/- The walk of text.Columns: where the runes of a text stand. -/
import Derived.Test.YtbhoklhcdefabaaDoorTextTab
import Derived.WalkSmall
import Derived.Maps.AppendAt
namespace Go.Proofs.YtbhoklhcdefabaaDoor
open Go.ChangeShapes Go.WideShapes Go.ChangeAt Go.RowKit Go.Maps
namespace Txt
def colsL : List (Int × Nat) → Int → List Int
  | [], _ => []
  | x :: t, c => if 0 < wd x.1 then c :: colsL t (c + wd x.1) else colsL t c
def colsB (l : List UInt8) : List Int := colsL (rn l) 0
theorem colsL_length : ∀ (l : List (Int × Nat)) (c : Int), (colsL l c).length ≤ l.length
  | [], _ => by simp [colsL]
  | x :: t, c => by
    unfold colsL
    split
    · have := colsL_length t (c + wd x.1); simp; omega
    · have := colsL_length t c; simp; omega
theorem own_below {w w' : World} {base : Nat} {e : TypeId} {size : Nat} {v : Value} {n : Nat} {xs : List Value} (h : w.ownsRow base e size v n xs) (hb : Below w.heap.size w w') : w'.ownsRow base e size v n xs := by
  refine ⟨h.1, ?_⟩
  rcases h.2 with h2 | ⟨g, cap, cur, hv, hg, hh, r⟩
  · exact .inl h2
  · exact .inr ⟨g, cap, cur, hv, hg, by rw [hb.block g (Array.getElem?_eq_some_iff.1 hh).1]; exact hh, r⟩
theorem own_iter {w : World} {base : Nat} {e : TypeId} {size : Nat} {v : Value} {n : Nat} {xs : List Value} (h : w.ownsRow base e size v n xs) {k : Nat} (hk : k < base) (s : ByteArray) (p : Nat) : (w.iterAt k s p).ownsRow base e size v n xs := ownsRow_iterAt h hk s p
theorem info_int : (Tryd.prog.info? 3).map (fun i => (i.zero, i.size, i.bytes)) = some (some (.int .i64 0), 1, 8) := by kernel_rfl

end Txt
end Go.Proofs.YtbhoklhcdefabaaDoor

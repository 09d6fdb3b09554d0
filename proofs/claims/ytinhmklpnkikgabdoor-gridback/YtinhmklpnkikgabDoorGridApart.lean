/- What a call that writes into some blocks of its caller's own leaves as it was. -/
import Derived.Test.YtinhmklpnkikgabDoorGridEqual
import Derived.Deep.MidRow
import Derived.Lib.OthersKept
namespace Go.Proofs.YtinhmklpnkikgabDoor
open Go.ChangeShapes Go.WideShapes Go.ChangeAt Go.RowKit
namespace Grd
/-- Below N all is as it was; of the blocks that were there only those of S may have turned. -/
def Apart (N : Nat) (S : List Nat) (w w' : World) : Prop := Below N w w' ∧ ∀ k, k ∉ S → k < w.heap.size → w'.heap[k]? = w.heap[k]?
theorem Apart.size {N : Nat} {S : List Nat} {w w' : World} (h : Apart N S w w') : w.heap.size ≤ w'.heap.size := h.1.size
theorem Apart.refl (N : Nat) (S : List Nat) (w : World) : Apart N S w w := ⟨Below.refl _ _, fun _ _ _ => rfl⟩
theorem Apart.trans {N : Nat} {S : List Nat} {a b c : World} (h : Apart N S a b) (k : Apart N S b c) : Apart N S a c :=
  ⟨h.1.trans k.1, fun i hi hl => (k.2 i hi (Nat.lt_of_lt_of_le hl h.size)).trans (h.2 i hi hl)⟩
theorem Apart.mono {N M : Nat} {S T : List Nat} {a b : World} (h : Apart N S a b) (hN : M ≤ N) (hS : ∀ k, k ∈ S → k ∈ T) : Apart M T a b :=
  ⟨h.1.mono hN, fun i hi hl => h.2 i (fun q => hi (hS i q)) hl⟩
theorem Apart.of {N : Nat} {S : List Nat} {a b : World} (h : Below a.heap.size a b) (hN : N ≤ a.heap.size) : Apart N S a b := ⟨h.mono hN, fun i _ hl => h.block i hl⟩
theorem Apart.step {N : Nat} {S : List Nat} {a b c : World} (h : Apart N S a b) (k : Below b.heap.size b c) (hN : N ≤ b.heap.size) : Apart N S a c := h.trans (.of k hN)
theorem Apart.setCell {N : Nat} {S : List Nat} {a b : World} (h : Apart N S a b) (g o : Nat) (v : Value) (hg : g ∈ S) (hN : N ≤ g) : Apart N S a (b.setCell ⟨g, o, none⟩ v) :=
  h.trans ⟨(Below.refl _ _).setCell hN v, fun i hi _ => heap_setCell_other _ _ _ _ (fun e => hi (by rw [e]; exact hg))⟩
theorem heap_setCells_ne (g k : Nat) (hne : k ≠ g) : ∀ (vs : List Value) (o : Nat) (w : World), (w.setCells g o vs).heap[k]? = w.heap[k]?
  | [], _, _ => rfl
  | v :: r, o, w => by
    show ((w.setCell ⟨g, o, none⟩ v).setCells g (o + 1) r).heap[k]? = _
    rw [heap_setCells_ne g k hne r (o + 1) _, heap_setCell_other _ _ _ _ hne]
theorem size_setCells (g : Nat) : ∀ (vs : List Value) (o : Nat) (w : World), (w.setCells g o vs).heap.size = w.heap.size
  | [], _, _ => rfl
  | v :: r, o, w => by
    show ((w.setCell ⟨g, o, none⟩ v).setCells g (o + 1) r).heap.size = _
    rw [size_setCells g r (o + 1) _]; simp
theorem below_cells {B g : Nat} {a : World} (hb : B ≤ g) : ∀ (vs : List Value) (o : Nat) (w : World), Below B a w → Below B a (w.setCells g o vs)
  | [], _, _, h => h
  | v :: r, o, _, h => below_cells hb r (o + 1) _ (h.setCell hb v)
theorem Apart.setCells {N : Nat} {S : List Nat} {a b : World} (h : Apart N S a b) (g o : Nat) (vs : List Value) (hg : g ∈ S) (hN : N ≤ g) : Apart N S a (b.setCells g o vs) :=
  h.trans ⟨below_cells hN _ _ _ (Below.refl _ _), fun i hi _ => heap_setCells_ne _ _ (fun e => hi (by rw [e]; exact hg)) _ _ _⟩
theorem Apart.iterAt {N : Nat} {S : List Nat} {a b : World} (h : Apart N S a b) (g : Nat) (s : ByteArray) (p : Nat) (hg : g ∈ S) (hN : N ≤ g) : Apart N S a (b.iterAt g s p) :=
  h.trans ⟨Lib.below_iterAt (Below.refl _ _) hN s p, fun i hi _ => Lib.iterAt_other _ _ _ _ _ (fun e => hi (by rw [e]; exact hg))⟩
theorem Apart.alloc {N : Nat} {S : List Nat} {a b : World} (h : Apart N S a b) (o : Obj) (hN : N ≤ b.heap.size) : Apart N S a (b.alloc o) :=
  h.step ((Below.refl _ _).alloc (Nat.le_refl _) o) hN
theorem Apart.drew {N : Nat} {S : List Nat} {a b : World} (h : Apart N S a b) : Apart N S a b.drew := ⟨h.1.drew, h.2⟩
/-- A block that was there, and is none of S, is as it was. -/
theorem Apart.carry {N : Nat} {S : List Nat} {a b : World} (h : Apart N S a b) {k : Nat} {o : Obj} (hk : a.heap[k]? = some o) (hS : k ∉ S) : b.heap[k]? = some o :=
  (h.2 k hS (blk_lt hk)).trans hk
end Grd
end Go.Proofs.YtinhmklpnkikgabDoor

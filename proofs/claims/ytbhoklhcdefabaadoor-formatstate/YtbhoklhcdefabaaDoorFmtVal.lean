/- Package format: a Value, a number, a cut. -/
import Derived.Test.YtbhoklhcdefabaaDoorFmtIdx
import Derived.Test.YtbhoklhcdefabaaDoorTextCut
namespace Go.Proofs.YtbhoklhcdefabaaDoor
open Go.ChangeShapes Go.WideShapes Go.ChangeAt Go.RowKit Go.Maps Go.Sort
namespace Fmt
/-- What a reader stands on: the items, the table of spans, below its own block. -/
structure Env (w0 : World) (R : Nat) (iv : Value) (I : List (ByteArray × ByteArray)) : Prop where
  le : w0.heap.size ≤ R
  it : ∀ V, Below w0.heap.size w0 V → ItAt V iv I
  tab : ∀ V, Below w0.heap.size w0 V → Txt.Tab V
  sz : ∀ x ∈ I, x.2.size ≤ 4000
  len : I.length ≤ 20
theorem Env.but {w0 : World} {R : Nat} {iv : Value} {I : List (ByteArray × ByteArray)} (h : Env w0 R iv I) {w w' : World} (hb : Below w0.heap.size w0 w) (b : But R w w') : Below w0.heap.size w0 w' := hb.trans (b.below h.le hb.size)
set_option maxHeartbeats 4000000 in
set_option maxRecDepth 100000 in
theorem value_bad (R : Nat) (t : ByteArray) (iv : Value) (p d : Nat) (w : World) (hr : RdAt w R t iv p d) (hp : p ≤ t.size) (hs : t.size ≤ 4000) (hn : nm t p = p) :
    Calls Tryd.prog 61 #[.pointer (some ⟨R, 0, none⟩)] w fun e w' => e = stp p ∧ But R w w' := by
  have HR := run_name R t iv p d t.size w hr hp hs hs (fun e w' => e = stp p ∧ But R w w') (fun _ W h => ⟨rfl, h⟩) (fun h => absurd hn h)
  obtain ⟨⟨c0, c1, c2, c3⟩, _⟩ := hr.cells
  clear hr hn
  go_enter Tryd.func61, Tryd.ntmps61
  go_wp2_with fail
  refine HR.mono ?_
  rintro e W ⟨rfl, b⟩
  go_wp2_with fail
  exact ⟨rfl, rfl, b⟩
set_option maxHeartbeats 8000000 in
set_option maxRecDepth 100000 in
theorem value_ok (w0 : World) (R : Nat) (t : ByteArray) (iv : Value) (p d : Nat) (I : List (ByteArray × ByteArray)) (w : World) (E : Env w0 R iv I) (hb : Below w0.heap.size w0 w) (hr : RdAt w R t iv p d) (hp : p ≤ t.size) (hs : t.size ≤ 4000) (hn : ¬ nm t p = p) :
    Calls Tryd.prog 61 #[.pointer (some ⟨R, 0, none⟩)] w fun e w' => e = .returned (.string (val I (t.extract p (nm t p)))) ∧ RdAt w' R t iv (nm t p) d ∧ But R w w' := by
  have hmf : ∀ (fn : Fn) (first cap : Array Value) (w : World), (Instr.makeFunc fn first cap).run Tryd.prog w = .ok (.func fn first cap) w := fun _ _ _ _ => rfl
  have HR := run_name R t iv p d t.size w hr hp hs hs (fun e w' => e = .returned (.string (t.extract p (nm t p))) ∧ RdAt w' R t iv (nm t p) d ∧ But R w w') (fun h => absurd h hn) (fun _ W h g => ⟨rfl, h, g⟩)
  obtain ⟨⟨c0, c1, c2, c3⟩, _⟩ := hr.cells
  have HV : Hid (val I (t.extract p (nm t p)) = ((I.find? (fun x => x.1.toList == (t.extract p (nm t p)).toList)).map (·.2)).getD ⟨#[]⟩) := rfl
  have HEB : Hid (∀ W, But R w W → Below w0.heap.size w0 W) := fun W h => E.but hb h
  have hl20 := E.len
  generalize val I (t.extract p (nm t p)) = vv at *
  generalize t.extract p (nm t p) = n at *
  generalize nm t p = f at *
  clear hr hn hb
  go_enter Tryd.func61, Tryd.ntmps61
  go_wp2_with fail
  refine HR.mono ?_
  rintro e W1 ⟨rfl, r1, b1⟩
  have kA := own_of_below (w := W1) (.cells #[.string n] 9)
  have N1 := heap_alloc_new W1 (.cells #[.string n] 9)
  have r2 := r1.below kA
  have b2 := b1.trans (But.of_below kA)
  have i2 := E.it _ (HEB.out _ b2)
  have HI := idx_name I iv n W1.heap.size _ i2 (by omega) N1
  obtain ⟨⟨c0, c1, c2, c3⟩, _⟩ := r2.cells
  clear HR b1 r1 i2
  go_wp2_with fail
  refine HI.mono ?_
  rintro e W3 ⟨rfl, b3⟩
  have r3 := r2.below b3
  have b4 := b2.trans (But.of_below b3)
  obtain ⟨a, c, rfl, hcell⟩ := E.it _ (HEB.out _ b4)
  obtain ⟨⟨c0, c1, c2, c3⟩, _⟩ := r3.cells
  have HO : Hid (RdAt W3 R t (.slice a I.length c) f d ∧ But R w W3) := ⟨r3, b4⟩
  clear HI kA N1 r2 b2 r3 b3 b4 HEB
  rcases idxI_find (fun z : ByteArray × ByteArray => z.1.toList == n.toList) I 0 with ⟨h1, h2⟩ | ⟨j, x, h1, h2, h3⟩
  · have hv : vv = ⟨#[]⟩ := by rw [HV.out, h1]; rfl
    subst hv
    rw [h2]
    clear h1 h2 HV hcell
    go_wp2_with fail
    go_ret
    exact ⟨rfl, HO.out⟩
  · have hv : vv = x.2 := by rw [HV.out, h2]; rfl
    subst hv
    rw [h3]
    obtain ⟨hj, _⟩ := List.getElem?_eq_some_iff.1 h1
    obtain ⟨b, o, rfl, hc⟩ := hcell.resolve_left (by intro e; rw [e] at hj; simp at hj)
    have q1 := (hc j x h1).2
    have ij : ((0 + j : Nat) : Int) = (j : Int) := by omega
    rw [ij]
    have ijl : (j : Int) < (I.length : Int) := Int.ofNat_lt.2 hj
    clear h1 h2 h3 HV hc ij
    go_wp2_with fail
    go_ret
    exact ⟨rfl, HO.out⟩
end Fmt
end Go.Proofs.YtbhoklhcdefabaaDoor

/- The walk of style.Write. -/
import Derived.Test.YthnphjdpifpehaaDoorStyleApply
import Derived.Test.YthnphjdpifpehaaDoorShelfWrite
import Derived.Lib.ItoaLen
import Derived.Lib.SmallJoins
import Derived.Lib.AppendIntMem
namespace Go.Proofs.YthnphjdpifpehaaDoor
open Go.ChangeShapes Go.WideShapes Go.ChangeAt Go.RowKit
namespace Sty

/-- Numbers in digits, with a semicolon ahead of each but the first. -/
def numsL : Bool → List Int → List UInt8
  | _, [] => []
  | true, x :: l => Lib.itoa x ++ numsL false l
  | false, x :: l => 59 :: (Lib.itoa x ++ numsL false l)
def writeL (xs : List Int) : List UInt8 := if xs = [] then [] else [27, 91] ++ numsL true xs ++ [109]
def bs (l : List UInt8) : ByteArray := ⟨l.toArray⟩
theorem bs_size (l : List UInt8) : (bs l).size = l.length := by simp [bs, ByteArray.size]
theorem bs_append (a b : List UInt8) : bs a ++ bs b = bs (a ++ b) := by
  apply ByteArray.ext
  simp [bs]
/-- The table of the powers of ten. -/
def P10 (w : World) : Prop := Lib.TabIs Tryd.prog w "internal/strconv.uint64pow10" .u64 Lib.pow10Tab
theorem P10.below {w w' : World} (h : P10 w) (hb : Below w.heap.size w w') : P10 w' := Joins.tab_stays (g := 1) (by kernel_rfl) h hb (Nat.le_refl _)

theorem itoa_any (n : Int) (w : World) (h0 : -9223372036854775808 ≤ n) (h1 : n ≤ 9223372036854775807) (hP : P10 w) :
    Calls Tryd.prog 26 #[.int .i64 n] w fun e w' => e = .returned (.string (bs (Lib.itoa n))) ∧ Below w.heap.size w w' :=
  (Tryd.strconv_Itoa n h0 h1 w hP).mono fun e w' ⟨he, k, os, hw⟩ => ⟨he, by rw [hw]; exact Lib.below_grow _ _ (Nat.le_refl _) _ _⟩

theorem builder_below {T e : TypeId} {B b : Nat} {bs : List Value} {w w' : World} (h : Lib.IsBuilderF T e B b bs w) (hb : Below w.heap.size w w') : Lib.IsBuilderF T e B b bs w' := by
  have key : ∀ p, Lib.BuilderAtF T e B b p bs w → Lib.BuilderAtF T e B b p bs w' := by
    rintro p ⟨hB, v, hh, hown, hne⟩
    refine ⟨hB, v, by rw [hb.block b (Array.getElem?_eq_some_iff.1 hh).1]; exact hh, ⟨hown.1, ?_⟩, hne⟩
    rcases hown.2 with hn | ⟨g, cap, cur, fz, hv, hbg, hg, rest⟩
    · exact .inl hn
    · exact .inr ⟨g, cap, cur, fz, hv, hbg, by rw [hb.block g (Array.getElem?_eq_some_iff.1 hg).1]; exact hg, rest⟩
  exact h.elim (fun x => .inl (key _ x)) (fun x => .inr (key _ x))
set_option maxHeartbeats 1000000 in
theorem write_some (b o c : Nat) (xs : List Int) (w : World) (hP : P10 w) (hR : Row w b o xs) (h0 : xs ≠ []) (hlen : xs.length ≤ 4398046511104)
    (hw : ∀ x ∈ xs, -9223372036854775808 ≤ x ∧ x ≤ 9223372036854775807) :
    Calls Tryd.prog 16 #[.slice (some ⟨b, o, none⟩) xs.length c] w fun e w' => e = .returned (.string (bs (writeL xs))) ∧ Below w.heap.size w w' := by
  have hpos : 0 < xs.length := by cases xs; exact absurd rfl h0; simp
  have HP : Hid (P10 w) := hP
  have HR : Hid (Row w b o xs) := hR
  have HW : Hid (∀ x ∈ xs, -9223372036854775808 ≤ x ∧ x ≤ 9223372036854775807) := hw
  have HE : Hid (writeL xs = [27, 91] ++ numsL true xs ++ [109]) := by unfold Hid writeL; rw [if_neg h0]
  clear hP hR hw h0
  rw [HE.out]
  clear HE
  have hs2 : (bs [27, 91]).size = 2 := rfl
  go_enter Tryd.func16, Tryd.ntmps16
  go_wp2_with (go_at_call 24; refine (Tryd.Builder_WriteString_k w.heap.size w.heap.size [] (bs [27, 91]) _ (Lib.IsBuilderF.of (Lib.fresh_isBuilder 45 5 w)) (by rw [hs2]; decide) (by simp)).mono ?_; rintro e W0 ⟨rfl, h2, b2, k2⟩)
  go_loopg [12] xs.length (fun g i wr => ∃ (k : Nat) (acc : List UInt8), k ≤ xs.length ∧ xs.length - k ≤ g ∧ i = .int .i64 k ∧ Lib.IsBuilderF 45 5 w.heap.size w.heap.size (Lib.byteCells acc) wr ∧ Below w.heap.size w wr ∧ w.heap.size + 1 ≤ wr.heap.size ∧ acc ++ numsL (k == 0) (xs.drop k) = [27, 91] ++ numsL true xs ∧ acc.length ≤ 2 + 22 * k)
  case atStart => exact ⟨0, [27, 91], by omega, by omega, rfl, Or.inr h2, ((Below.refl _ w).alloc (Nat.le_refl _) _).trans b2, by have := b2.size; simpa using this, rfl, by simp⟩
  case round =>
    obtain ⟨k, acc, hk, hg, rfl, hI, hb, hsz, hacc, hal⟩ := hrel
    have HC : Hid (acc ++ numsL (k == 0) (xs.drop k) = [27, 91] ++ numsL true xs) := hacc
    clear hacc
    by_cases hlt : k < xs.length
    · have q0 : wr.cell? ⟨b, o + k, none⟩ = some (.int .i64 (xs.getD k 0)) := by
        have h := HR.out k hlt
        exact (hb.cell (cell_lt h)).trans h
      have hy := HW.out (xs.getD k 0) (by simp [List.getD, hlt])
      have hPk : Hid (P10 wr) := HP.out.below hb
      have HD : Hid (xs.drop k = xs.getD k 0 :: xs.drop (k + 1)) := drop_cons xs k hlt
      have hil := Lib.itoa_length_le (xs.getD k 0) hy.1 hy.2
      generalize xs.getD k 0 = y at *
      by_cases hk0 : k = 0
      · subst hk0
        simp only [Nat.add_zero] at q0
        go_wp2_with (first
          | (go_at_call 26; refine (itoa_any y _ hy.1 hy.2 hPk.out).mono ?_; rintro e W1 ⟨rfl, b1⟩)
          | (go_at_call 24; refine (Tryd.Builder_WriteString_k w.heap.size w.heap.size _ _ _ (builder_below hI b1) (by rw [Lib.byteCells_length, bs_size]; omega) (by have := b1.size; omega)).mono ?_; rintro e W2 ⟨rfl, h3, b3, k3⟩))
        go_roundg (xs.length - 1)
        case measure => omega
        case rel =>
          have hs1 := b1.size
          have hs3 := b3.size
          refine ⟨1, acc ++ Lib.itoa y, by omega, by omega, rfl, ?_, (hb.trans (b1.mono (by omega))).trans b3, by omega, ?_, by simp; omega⟩
          · rw [Lib.byteCells_append]; exact Or.inr h3
          · rw [← HC.out, HD.out]; simp [numsL]
      · go_wp2_with (first
          | (go_at_call 25; refine (Tryd.Builder_WriteByte_k w.heap.size w.heap.size _ _ _ hI (by rw [Lib.byteCells_length]; omega) (by omega)).mono ?_; rintro e W0' ⟨rfl, h0', b0, k0⟩)
          | (go_at_call 26; refine (itoa_any y _ hy.1 hy.2 (HP.out.below (hb.trans b0))).mono ?_; rintro e W1 ⟨rfl, b1⟩)
          | (go_at_call 24; refine (Tryd.Builder_WriteString_k w.heap.size w.heap.size _ _ _ (builder_below (Or.inr h0') b1) (by simp only [List.length_append, Lib.byteCells_length, bs_size, List.length_cons, List.length_nil]; omega) (by have := b1.size; have := b0.size; omega)).mono ?_; rintro e W2 ⟨rfl, h3, b3, k3⟩))
        have hkb : (k == 0) = false := by simp; omega
        go_roundg (xs.length - (k + 1))
        case measure => omega
        case rel =>
          have hs0 := b0.size
          have hs1 := b1.size
          have hs3 := b3.size
          refine ⟨k + 1, acc ++ [59] ++ Lib.itoa y, by omega, by omega, by go_num, ?_, ((hb.trans b0).trans (b1.mono (by omega))).trans b3, by omega, ?_, by simp; omega⟩
          · rw [Lib.byteCells_append, Lib.byteCells_append]; exact Or.inr h3
          · rw [← HC.out, HD.out, hkb]; simp [numsL]
    · have hk2 : k = xs.length := by omega
      have HA : Hid (acc = [27, 91] ++ numsL true xs) := by
        have h := HC.out
        rw [hk2, List.drop_length] at h
        unfold Hid
        cases hx : (xs.length == 0) <;> rw [hx] at h <;> simpa [numsL] using h
      go_wp2_with (first
        | (go_at_call 25; refine (Tryd.Builder_WriteByte_k w.heap.size w.heap.size _ _ _ hI (by rw [Lib.byteCells_length]; omega) (by omega)).mono ?_; rintro e W1 ⟨rfl, h1, b1, k1⟩)
        | (go_at_call 27; refine (Tryd.Builder_String_any_k w.heap.size w.heap.size (acc ++ [109]) _ (by rw [Lib.byteCells_append]; exact Or.inr h1) (by have := b1.size; omega)).mono ?_; rintro e W2 ⟨rfl, _, b2, _⟩))
      go_ret
      exact ⟨by rw [HA.out]; rfl, (hb.trans b1).trans b2⟩

def IntsAt (w : World) (v : Value) (xs : List Int) : Prop :=
  (xs = [] ∧ ∃ a c, v = .slice a 0 c) ∨ (xs ≠ [] ∧ ∃ b o c, v = .slice (some ⟨b, o, none⟩) xs.length c ∧ xs.length ≤ c ∧ Row w b o xs)
theorem IntsAt.below {w w' : World} {v : Value} {xs : List Int} (h : IntsAt w v xs) (hb : Below w.heap.size w w') : IntsAt w' v xs := by
  rcases h with h | ⟨h0, b, o, c, hv, hc, hR⟩
  · exact .inl h
  · exact .inr ⟨h0, b, o, c, hv, hc, hR.below hb⟩
theorem write_any (v : Value) (xs : List Int) (w : World) (hP : P10 w) (hI : IntsAt w v xs) (hlen : xs.length ≤ 4398046511104)
    (hw : ∀ x ∈ xs, -9223372036854775808 ≤ x ∧ x ≤ 9223372036854775807) :
    Calls Tryd.prog 16 #[v] w fun e w' => e = .returned (.string (bs (writeL xs))) ∧ Below w.heap.size w w' := by
  rcases hI with ⟨rfl, a, c, rfl⟩ | ⟨h0, b, o, c, rfl, hc, hR⟩
  · clear hP hw hlen
    have HE : Hid (bs (writeL []) = bs []) := rfl
    rw [HE.out]
    go_enter Tryd.func16, Tryd.ntmps16
    go_wp2
    go_ret
    exact ⟨rfl, Below.refl _ _⟩
  · exact write_some b o c xs w hP hR h0 hlen hw
def applyT (s : Int × Int × Int) (xs : List Int) : Int × Int × Int := if xs = [] then (0, 0, 0) else applyL s xs
theorem apply_any (s : Int × Int × Int) (v : Value) (xs : List Int) (w : World) (hT : Tab w) (hI : IntsAt w v xs) (hlen : xs.length ≤ 140737488355328) (hw : ∀ x ∈ xs, x ≤ 9223372036854775807) :
    Calls Tryd.prog 9 #[stv s, v] w fun e w' => e = .returned (stv (applyT s xs)) ∧ Below w.heap.size w w' := by
  rcases hI with ⟨rfl, a, c, rfl⟩ | ⟨h0, b, o, c, rfl, hc, hR⟩
  · clear hw hlen hT
    have HE : Hid (applyT s [] = (0, 0, 0)) := rfl
    rw [HE.out]
    obtain ⟨f, bk, x⟩ := s
    unfold stv
    go_enter Tryd.func9, Tryd.ntmps9
    go_wp2
    (try simp only [Exit.inBlock, Exit.then])
    refine bodyPost_ret (v := stv (0, 0, 0)) ?_ rfl ⟨rfl, ((Below.refl _ _).alloc (Nat.le_refl _) _).alloc (by simp) _⟩
    exact results_cell_row rfl _ _ (w.heap.size + 1) _ _ _ _ rfl (new2 w _ _ _) Tryd.underlying23 rfl (by kernel_rfl)
  · unfold applyT
    rw [if_neg h0]
    exact apply_some s b o c xs w hT hR h0 hlen hc hw

end Sty
end Go.Proofs.YthnphjdpifpehaaDoor

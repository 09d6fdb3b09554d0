/- Same; an event's numbers and mark as text. -/
import Derived.Test.YtmgmdijhiplalaaDoorParseBackT
import Derived.Test.YtmgmdijhiplalaaDoorParseJoin
import Derived.Test.YtmgmdijhiplalaaDoorShelfWrite
import Derived.Lib.ItoaLen
import Derived.Lib.SmallJoins
import Derived.Lib.AppendIntMem
namespace Go.Proofs.YtmgmdijhiplalaaDoor
open Go.ChangeShapes Go.WideShapes Go.ChangeAt Go.RowKit
namespace Prs
set_option maxHeartbeats 8000000 in
set_option maxRecDepth 100000 in
theorem same_any (a b : Ev) (pv qv : Value) (w : World) (hp : IntsV w pv a.ps) (hq : IntsV w qv b.ps) (hl : a.ps.length ≤ 9223372036854775807) (hm : b.ps.length ≤ 9223372036854775807) :
    Calls Tryd.prog 16 #[.agg #[.int .i64 a.kind, .int .i32 a.r, .int .u8 a.fin, .int .u8 a.mark, .string a.mid, pv, .string a.txt], .agg #[.int .i64 b.kind, .int .i32 b.r, .int .u8 b.fin, .int .u8 b.mark, .string b.mid, qv, .string b.txt]] w fun e w' => e = .returned (.bool (sameE a b)) ∧ Below w.heap.size w w' := by
  have x0 : ((w.alloc (.cells #[.int .i64 a.kind, .int .i32 a.r, .int .u8 a.fin, .int .u8 a.mark, .string a.mid, pv, .string a.txt] 37)).alloc (.cells #[.int .i64 b.kind, .int .i32 b.r, .int .u8 b.fin, .int .u8 b.mark, .string b.mid, qv, .string b.txt] 37)).heap[w.heap.size]? = some (.cells #[.int .i64 a.kind, .int .i32 a.r, .int .u8 a.fin, .int .u8 a.mark, .string a.mid, pv, .string a.txt] 37 (0, 0)) := heap_box _ _ (heap_alloc_new w _)
  have x1 := new_two w (.cells #[.int .i64 a.kind, .int .i32 a.r, .int .u8 a.fin, .int .u8 a.mark, .string a.mid, pv, .string a.txt] 37) (.cells #[.int .i64 b.kind, .int .i32 b.r, .int .u8 b.fin, .int .u8 b.mark, .string b.mid, qv, .string b.txt] 37)
  obtain ⟨c0, c1, c2, c3, c4, c5, c6, cf⟩ := cells7 x0
  obtain ⟨d0, d1, d2, d3, d4, d5, d6, df⟩ := cells7 x1
  have HP : Hid (∀ W, Below w.heap.size w W → IntsV W pv a.ps) := fun W hb => hp.next hb
  have HQ : Hid (∀ W, Below w.heap.size w W → IntsV W qv b.ps) := fun W hb => hq.next hb
  have HLM : Hid (a.ps.length ≤ 9223372036854775807 ∧ b.ps.length ≤ 9223372036854775807) := ⟨hl, hm⟩
  clear cf df x0 x1 hp hq hl hm
  go_enter Tryd.func16, Tryd.ntmps16
  go_wp2_with (go_at_call 26; refine (equal_any a.ps b.ps pv qv _ (HP.out _ (below_two w _ _)) (HQ.out _ (below_two w _ _)) HLM.out.1 HLM.out.2).mono ?_; rintro e W1 ⟨rfl, b1⟩; have HK1 : Hid (Below w.heap.size w W1) := (below_two w _ _).trans (b1.mono (below_two w _ _).size); clear b1)
  all_goals (go_ret; refine ⟨ret_bool ?_, by first | exact HK1.out | exact below_two w _ _⟩; clear c0 c1 c2 c3 c4 c5 c6 d0 d1 d2 d3 d4 d5 d6 HP HQ HLM)
  all_goals simp [sameE, *]
def bs (l : List UInt8) : ByteArray := ⟨l.toArray⟩
theorem bs_size (l : List UInt8) : (bs l).size = l.length := by simp [bs, ByteArray.size]
theorem bs_append (a b : List UInt8) : bs a ++ bs b = bs (a ++ b) := by
  apply ByteArray.ext
  simp [bs]
theorem bs_self (s : ByteArray) : bs s.data.toList = s := by
  apply ByteArray.ext
  simp [bs]
/-- The table of the powers of ten. -/
def P10 (w : World) : Prop := Lib.TabIs Tryd.prog w "internal/strconv.uint64pow10" .u64 Lib.pow10Tab
theorem P10.below {w w' : World} (h : P10 w) (hb : Below w.heap.size w w') : P10 w' := Joins.tab_stays (g := 3) (by kernel_rfl) h hb (Nat.le_refl _)
theorem itoa_any (n : Int) (w : World) (h0 : -9223372036854775808 ≤ n) (h1 : n ≤ 9223372036854775807) (hP : P10 w) :
    Calls Tryd.prog 61 #[.int .i64 n] w fun e w' => e = .returned (.string (bs (Lib.itoa n))) ∧ Below w.heap.size w w' :=
  (Tryd.strconv_Itoa n h0 h1 w hP).mono fun e w' ⟨he, k, os, hw⟩ => ⟨he, by rw [hw]; exact Lib.below_grow _ _ (Nat.le_refl _) _ _⟩
theorem builder_below {T e : TypeId} {B b : Nat} {bs : List Value} {w w' : World} (h : Lib.IsBuilderF T e B b bs w) (hb : Below w.heap.size w w') : Lib.IsBuilderF T e B b bs w' := by
  have key : ∀ p, Lib.BuilderAtF T e B b p bs w → Lib.BuilderAtF T e B b p bs w' := by
    rintro p ⟨hB, v, hh, hown, hne⟩
    refine ⟨hB, v, by rw [hb.block b (Array.getElem?_eq_some_iff.1 hh).1]; exact hh, ⟨hown.1, ?_⟩, hne⟩
    rcases hown.2 with hn | ⟨g, cap, cur, fz, hv, hbg, hg, rest⟩
    · exact .inl hn
    · exact .inr ⟨g, cap, cur, fz, hv, hbg, by rw [hb.block g (Array.getElem?_eq_some_iff.1 hg).1]; exact hg, rest⟩
  exact h.elim (fun x => .inl (key _ x)) (fun x => .inr (key _ x))
theorem markText_any (m : Int) (w : World) (h0 : 0 ≤ m) (h1 : m ≤ 255) : Calls Tryd.prog 58 #[.int .u8 m] w fun e w' => e = .returned (.string (bs (markL m))) ∧ Below w.heap.size w w' := by
  by_cases hm : m = 0
  · subst hm
    go_enter Tryd.func58, Tryd.ntmps58
    go_wp2_with fail
    go_ret
    exact ⟨rfl, Below.refl _ _⟩
  · have HX := asText_any m.toNat.toUInt8 w
    rw [byteN _ (by omega), Int.toNat_of_nonneg h0] at HX
    have HE : Hid (one m.toNat.toUInt8 = bs (markL m)) := by unfold Hid markL; rw [if_neg hm]; rfl
    go_enter Tryd.func58, Tryd.ntmps58
    go_wp2_with fail
    refine HX.mono ?_
    rintro e W1 ⟨rfl, b1⟩
    go_wp2_with fail
    go_ret
    exact ⟨by rw [← HE.out]; rfl, b1⟩
theorem drop_cons (xs : List Int) (k : Nat) (h : k < xs.length) : xs.drop k = xs.getD k 0 :: xs.drop (k + 1) := by
  rw [List.drop_eq_getElem_cons h, List.getD_eq_getElem?_getD, List.getElem?_eq_getElem h]
  rfl
theorem num_len (n : Int) (h0 : -9223372036854775808 ≤ n) (h1 : n ≤ 9223372036854775807) : (numT n).length ≤ 21 := by
  unfold numT
  split
  · simp
  · exact Lib.itoa_length_le n h0 h1
set_option maxHeartbeats 4000000 in
set_option maxRecDepth 100000 in
theorem paramsText_any (xs : List Int) (v : Value) (w : World) (hP : P10 w) (hI : IntsV w v xs) (hlen : xs.length ≤ 4398046511104) (hw : ∀ x ∈ xs, -9223372036854775808 ≤ x ∧ x ≤ 9223372036854775807) :
    Calls Tryd.prog 59 #[v] w fun e w' => e = .returned (.string (bs (psL true xs))) ∧ Below w.heap.size w w' := by
  obtain ⟨pa, pc, rfl⟩ := hI.slice
  have HP : Hid (P10 w) := hP
  have HR : Hid (IntsV w (.slice pa xs.length pc) xs) := hI
  have HW : Hid (∀ x ∈ xs, -9223372036854775808 ≤ x ∧ x ≤ 9223372036854775807) := hw
  clear hP hI hw
  go_enter Tryd.func59, Tryd.ntmps59
  go_wp2_with fail
  go_loopg [8] xs.length (fun g i wr => ∃ (k : Nat) (acc : List UInt8), k ≤ xs.length ∧ xs.length - k ≤ g ∧ i = .int .i64 k ∧ Lib.IsBuilderF 61 5 w.heap.size w.heap.size (Lib.byteCells acc) wr ∧ Below w.heap.size w wr ∧ w.heap.size + 1 ≤ wr.heap.size ∧ acc ++ psL (k == 0) (xs.drop k) = psL true xs ∧ acc.length ≤ 22 * k)
  case atStart => exact ⟨0, [], by omega, by omega, rfl, Lib.IsBuilderF.of (Lib.fresh_isBuilder 61 5 w), (Below.refl _ w).alloc (Nat.le_refl _) _, by simp, rfl, by simp⟩
  case round =>
    obtain ⟨k, acc, hk, hg, rfl, hI, hb, hsz, hacc, hal⟩ := hrel
    have HC : Hid (acc ++ psL (k == 0) (xs.drop k) = psL true xs) := hacc
    clear hacc
    by_cases hlt : k < xs.length
    · have lt1 : ((k : Int) < (xs.length : Int)) := by omega
      rcases HR.out with ⟨he, -⟩ | ⟨b, o, c, hvv, hc⟩
      · rw [he] at hlt
        exact absurd hlt (by simp)
      injection hvv with hvv1 hvv2 hvv3
      subst hvv1 hvv3
      have q0 : wr.cell? ⟨b, o + k, none⟩ = some (.int .i64 (xs.getD k 0)) := cell_stay hb (ints_cell hc k hlt)
      have hy := HW.out (xs.getD k 0) (by simp [List.getD, hlt])
      have hPk : Hid (P10 wr) := HP.out.below hb
      have HD : Hid (xs.drop k = xs.getD k 0 :: xs.drop (k + 1)) := drop_cons xs k hlt
      have hil := Lib.itoa_length_le (xs.getD k 0) hy.1 hy.2
      have HNL : Hid ((numT (xs.getD k 0)).length ≤ 21) := num_len _ hy.1 hy.2
      clear hc
      generalize xs.getD k 0 = y at *
      by_cases hym : y = -1
      · have HN : Hid (numT y = []) := by unfold Hid numT; rw [if_pos hym]
        subst hym
        by_cases hk0 : k = 0
        · subst hk0
          simp only [Nat.add_zero] at q0
          go_wp2_with fail
          go_roundg (xs.length - 1)
          case measure => omega
          case rel => exact ⟨1, acc, by omega, by omega, rfl, hI, hb, hsz, by rw [← HC.out, HD.out]; simp [psL, HN.out], by omega⟩
        · have hkb : (k == 0) = false := by simp; omega
          go_wp2_with (go_at_call 75; refine (Tryd.Builder_WriteByte_k w.heap.size w.heap.size _ _ _ hI (by rw [Lib.byteCells_length]; omega) (by omega)).mono ?_; rintro e W0' ⟨rfl, h0', b0, k0⟩)
          go_roundg (xs.length - (k + 1))
          case measure => omega
          case rel =>
            have hs0 := b0.size
            refine ⟨k + 1, acc ++ [59], by omega, by omega, by go_num, ?_, hb.trans b0, by omega, ?_, by simp; omega⟩
            · rw [Lib.byteCells_append]; exact Or.inr h0'
            · rw [← HC.out, HD.out, hkb]; simp [psL, HN.out]
      · have HN : Hid (numT y = Lib.itoa y) := by unfold Hid numT; rw [if_neg hym]
        by_cases hk0 : k = 0
        · subst hk0
          simp only [Nat.add_zero] at q0
          go_wp2_with (first
            | (go_at_call 61; refine (itoa_any y _ hy.1 hy.2 hPk.out).mono ?_; rintro e W1 ⟨rfl, b1⟩)
            | (go_at_call 34; refine (Tryd.Builder_WriteString_k w.heap.size w.heap.size _ _ _ (builder_below hI b1) (by rw [Lib.byteCells_length, bs_size]; omega) (by have := b1.size; omega)).mono ?_; rintro e W2 ⟨rfl, h3, b3, k3⟩))
          go_roundg (xs.length - 1)
          case measure => omega
          case rel =>
            have hs1 := b1.size
            have hs3 := b3.size
            refine ⟨1, acc ++ Lib.itoa y, by omega, by omega, rfl, ?_, (hb.trans (b1.mono (by omega))).trans b3, by omega, ?_, by simp; omega⟩
            · rw [Lib.byteCells_append]; exact Or.inr h3
            · rw [← HC.out, HD.out]; simp [psL, HN.out]
        · have hkb : (k == 0) = false := by simp; omega
          go_wp2_with (first
            | (go_at_call 75; refine (Tryd.Builder_WriteByte_k w.heap.size w.heap.size _ _ _ hI (by rw [Lib.byteCells_length]; omega) (by omega)).mono ?_; rintro e W0' ⟨rfl, h0', b0, k0⟩)
            | (go_at_call 61; refine (itoa_any y _ hy.1 hy.2 (HP.out.below (hb.trans b0))).mono ?_; rintro e W1 ⟨rfl, b1⟩)
            | (go_at_call 34; refine (Tryd.Builder_WriteString_k w.heap.size w.heap.size _ _ _ (builder_below (Or.inr h0') b1) (by simp only [List.length_append, Lib.byteCells_length, bs_size, List.length_cons, List.length_nil]; omega) (by have := b1.size; have := b0.size; omega)).mono ?_; rintro e W2 ⟨rfl, h3, b3, k3⟩))
          go_roundg (xs.length - (k + 1))
          case measure => omega
          case rel =>
            have hs0 := b0.size
            have hs1 := b1.size
            have hs3 := b3.size
            refine ⟨k + 1, acc ++ [59] ++ Lib.itoa y, by omega, by omega, by go_num, ?_, ((hb.trans b0).trans (b1.mono (by omega))).trans b3, by omega, ?_, by simp; omega⟩
            · rw [Lib.byteCells_append, Lib.byteCells_append]; exact Or.inr h3
            · rw [← HC.out, HD.out, hkb]; simp [psL, HN.out]
    · have lt1 : ¬ ((k : Int) < (xs.length : Int)) := by omega
      have hk2 : k = xs.length := by omega
      have HA : Hid (acc = psL true xs) := by
        have h := HC.out
        rw [hk2, List.drop_length] at h
        unfold Hid
        cases hx : (xs.length == 0) <;> rw [hx] at h <;> simpa [psL] using h
      go_wp2_with (go_at_call 35; refine (Tryd.Builder_String_any_k w.heap.size w.heap.size acc _ hI (by omega)).mono ?_; rintro e W2 ⟨rfl, _, b2, _⟩)
      go_ret
      exact ⟨by rw [HA.out]; rfl, hb.trans b2⟩
end Prs
end Go.Proofs.YtmgmdijhiplalaaDoor

/- Package format: State. -/
import Derived.Test.YtbhoklhcdefabaaDoorFmtExpand
import Derived.Test.YtbhoklhcdefabaaDoorTextFit
import Derived.Test.YtbhoklhcdefabaaDoorTextClean
namespace Go.Proofs.YtbhoklhcdefabaaDoor
open Go.ChangeShapes Go.WideShapes Go.ChangeAt Go.RowKit Go.Maps Go.Sort
namespace Fmt
open Txt (bs cutB fitB wideB cleanL runes fitL)
/-- The right of a line of n cells, and the left. -/
def endB (r : ByteArray) (n : Int) : List UInt8 := cutB (cleanL (runes r)) n
def leftB (l r : ByteArray) (n : Int) : List UInt8 := fitL (cleanL (runes l)) (n - wideB (endB r n))
def stV (l r : ByteArray) (n : Int) : Value :=
  if (long l || long r) = true then .tuple #[.string ⟨#[]⟩, .int .i64 2]
  else if n < 1 ∨ 120 < n then .tuple #[.string ⟨#[]⟩, .int .i64 3]
  else .tuple #[.string (bs (leftB l r n ++ endB r n)), .int .i64 0]
theorem clean_le (s : ByteArray) : (cleanL (runes s)).length ≤ 4 * s.size := by
  have h : ∀ L : List (Int × Nat), (cleanL L).length ≤ 4 * L.length := by
    intro L
    induction L with
    | nil => simp [Txt.cleanL]
    | cons x t ih =>
      unfold Txt.cleanL
      rw [List.length_append, List.length_cons]
      have := (Txt.encodeRune_length x.1).2
      split
      · omega
      · simp; omega
  have h2 : ∀ f i, (Txt.rs s f i).length ≤ f := by
    intro f
    induction f with
    | zero => intro i; simp [Txt.rs]
    | succ f ih =>
      intro i
      unfold Txt.rs
      split
      · rw [List.length_cons]; have := ih (i + (Utf8.decode s i).2); omega
      · simp
  have h1 := h (runes s)
  have h3 : (runes s).length ≤ s.size := h2 _ _
  omega
theorem end_wide (r : ByteArray) (n : Int) (hn : 0 ≤ n) : 0 ≤ wideB (endB r n) ∧ wideB (endB r n) ≤ n := Txt.cut_wide n hn _
set_option maxHeartbeats 4000000 in
set_option maxRecDepth 100000 in
theorem state_any (l r : ByteArray) (n : Int) (w : World) (hT : Txt.Tab w) :
    Calls Tryd.prog 8 #[.string l, .string r, .int .i64 n] w fun e w' => e = .returned (stV l r n) ∧ Below w.heap.size w w' := by
  have HL := fun x W => tooLong_any x W
  have HT : Hid (∀ V, Below w.heap.size w V → Txt.Tab V) := fun V hV => hT.below hV hT.pos
  unfold stV
  cases h1 : long l
  · have HL1 := HL l
    rw [h1] at HL1
    cases h2 : long r
    · have HL2 := HL r
      rw [h2] at HL2
      rw [if_neg (by simp)]
      have hl4 : l.size ≤ 4000 := by
        have := of_decide_eq_false h1
        omega
      have hr4 : r.size ≤ 4000 := by
        have := of_decide_eq_false h2
        omega
      by_cases h3 : n < 1 ∨ 120 < n
      · rw [if_pos h3]
        clear h1 h2 HL hT
        by_cases h4 : n < 1
        · go_enter Tryd.func8, Tryd.ntmps8
          go_wp2_with fail
          refine (HL1 _).mono ?_
          rintro e W ⟨rfl, rfl⟩
          go_wp2_with fail
          refine (HL2 _).mono ?_
          rintro e W2 ⟨rfl, rfl⟩
          go_wp2_with fail
          go_ret2
          exact ⟨rfl, Below.refl _ _⟩
        · have h5 : 120 < n := h3.resolve_left h4
          go_enter Tryd.func8, Tryd.ntmps8
          go_wp2_with fail
          refine (HL1 _).mono ?_
          rintro e W ⟨rfl, rfl⟩
          go_wp2_with fail
          refine (HL2 _).mono ?_
          rintro e W2 ⟨rfl, rfl⟩
          go_wp2_with fail
          go_ret2
          exact ⟨rfl, Below.refl _ _⟩
      · rw [if_neg h3]
        obtain ⟨h4, h5⟩ := not_or.1 h3
        obtain ⟨w1, w2⟩ := end_wide r n (by omega)
        have hrl := clean_le r
        have hll := clean_le l
        have HCR := fun W (hW : Below w.heap.size w W) => Txt.clean_any r W (HT.out W hW) (by omega)
        have HCU := fun W (hW : Below w.heap.size w W) => Txt.cut_b (cleanL (runes r)) n W (HT.out W hW) (by omega)
        have hcl : (endB r n).length ≤ (cleanL (runes r)).length := Txt.cutB_length _ _
        rw [show cutB (cleanL (runes r)) n = endB r n from rfl] at HCU
        have HCL := fun W (hW : Below w.heap.size w W) => Txt.clean_any l W (HT.out W hW) (by omega)
        have HWD := fun W (hW : Below w.heap.size w W) => Txt.wide_b (endB r n) W (HT.out W hW) (by omega)
        have HFT := fun W (hW : Below w.heap.size w W) => Txt.fit_b (cleanL (runes l)) (n - wideB (endB r n)) W (HT.out W hW) (by omega)
        have hff : fitB (cleanL (runes l)) (n - wideB (endB r n)) = leftB l r n := by
          unfold Txt.fitB leftB
          rw [if_neg (by omega)]
        rw [hff] at HFT
        have hfl : (leftB l r n).length ≤ 17000 := by
          unfold leftB Txt.fitL
          rw [List.length_append, List.length_replicate]
          have h9 : (List.take (Txt.cutL (n - wideB (endB r n)) (Txt.rn (cleanL (runes l))) 0) (cleanL (runes l))).length ≤ (cleanL (runes l)).length := by rw [List.length_take]; exact Nat.min_le_right _ _
          have h10 := (Txt.cut_wide (n - wideB (endB r n)) (by omega) (cleanL (runes l))).1
          omega
        have hsum : ¬ 9223372036854775807 < (bs (leftB l r n)).size + (bs (endB r n)).size := by
          rw [Txt.bs_size, Txt.bs_size]
          omega
        have hap := Txt.bs_append (leftB l r n) (endB r n)
        have HAP : Hid (bs (leftB l r n) ++ bs (endB r n) = bs (leftB l r n ++ endB r n)) := hap
        generalize bs (leftB l r n ++ endB r n) = out at *
        generalize wideB (endB r n) = ww at *
        generalize bs (leftB l r n) = lf at *
        generalize bs (endB r n) = en at *
        generalize bs (cleanL (runes r)) = cr at *
        generalize bs (cleanL (runes l)) = cl at *
        have hwr : wrap64 (n - ww) = n - ww := w64_s (by omega) (by omega)
        clear h1 h2 h3 HL hT hrl hll hcl hff hfl hap w1 w2 hl4 hr4
        go_enter Tryd.func8, Tryd.ntmps8
        go_wp2_with fail
        refine (HL1 _).mono ?_
        rintro e W ⟨rfl, rfl⟩
        go_wp2_with fail
        refine (HL2 _).mono ?_
        rintro e W2 ⟨rfl, rfl⟩
        go_wp2_with fail
        refine (HCR _ (Below.refl _ _)).mono ?_
        rintro e W3 ⟨rfl, b3⟩
        go_wp2_with fail
        refine (HCU _ b3).mono ?_
        rintro e W4 ⟨rfl, b4⟩
        have k4 := b3.trans (b4.mono b3.size)
        go_wp2_with fail
        refine (HCL _ k4).mono ?_
        rintro e W5 ⟨rfl, b5⟩
        have k5 := k4.trans (b5.mono k4.size)
        go_wp2_with fail
        refine (HWD _ k5).mono ?_
        rintro e W6 ⟨rfl, b6⟩
        have k6 := k5.trans (b6.mono k5.size)
        go_wp2_with fail
        refine (HFT _ k6).mono ?_
        rintro e W7 ⟨rfl, b7⟩
        have k7 := k6.trans (b7.mono k6.size)
        go_wp2_with fail
        go_ret2
        exact ⟨by rw [← HAP.out]; rfl, k7⟩
    · have HL2 := HL r
      rw [h2] at HL2
      rw [if_pos (by simp)]
      clear h1 h2 HL hT
      go_enter Tryd.func8, Tryd.ntmps8
      go_wp2_with fail
      refine (HL1 _).mono ?_
      rintro e W ⟨rfl, rfl⟩
      go_wp2_with fail
      refine (HL2 _).mono ?_
      rintro e W2 ⟨rfl, rfl⟩
      go_wp2_with fail
      go_ret2
      exact ⟨rfl, Below.refl _ _⟩
  · have HL1 := HL l
    rw [h1] at HL1
    rw [if_pos (by simp)]
    clear h1 HL hT
    go_enter Tryd.func8, Tryd.ntmps8
    go_wp2_with fail
    refine (HL1 _).mono ?_
    rintro e W ⟨rfl, rfl⟩
    go_wp2_with fail
    go_ret2
    exact ⟨rfl, Below.refl _ _⟩
end Fmt
end Go.Proofs.YtbhoklhcdefabaaDoor

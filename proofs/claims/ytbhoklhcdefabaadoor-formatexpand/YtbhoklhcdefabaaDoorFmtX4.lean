/- The reference's expander: an item. (Written by gen_fmtx4.py.) -/
import Derived.Test.YtbhoklhcdefabaaDoorFmtX3
import Derived.Test.YtbhoklhcdefabaaDoorFmtItem
import Derived.Test.YtbhoklhcdefabaaDoorTextCutOf
namespace Go.Proofs.YtbhoklhcdefabaaDoor
open Go.ChangeShapes Go.WideShapes Go.ChangeAt Go.RowKit Go.Maps Go.Sort
namespace Fmt
open Txt (bs cutB)
/-- What an item's inside makes, from j on, with its closing brace. -/
def closeR (t : ByteArray) : Res → Res
  | .bad q => .bad q
  | .ok o q => if nx t q 125 then .ok o (q + 1) else .bad q
set_option maxHeartbeats 4000000 in
set_option maxRecDepth 100000 in
theorem text_dead (X : Nat) (t : ByteArray) (iv : Value) (q k d : Nat) (w : World) (h : ExAt w X t iv t.size (q : Int)) :
    Calls Tryd.prog 7 #[.pointer (some ⟨X, 0, none⟩), .string (ends k), .int .i64 d] w fun e w' => e = .returned (.string ⟨#[]⟩) ∧ ExAt w' X t iv t.size (q : Int) ∧ But X w w' := by
  obtain ⟨⟨c0, c1, c2, c3⟩, hf⟩ := h.cells
  have iq : ¬ (q : Int) < 0 := Int.not_lt.2 (Int.natCast_nonneg _)
  have iqd : decide ((q : Int) < 0) = false := decide_eq_false iq
  have HX : Hid (ExAt w X t iv t.size (q : Int)) := h
  have g0 := fun d os => cell_regrown c0 d os
  have g1 := fun d os => cell_regrown c1 d os
  have g2 := fun d os => cell_regrown c2 d os
  generalize ends k = en at *
  clear h c3 hf
  go_enter Tryd.func7, Tryd.ntmps7
  go_wp2_with fail
  go_loopg [7] 1 (fun g u7 wr => u7 = .string ⟨#[]⟩ ∧ wr = w)
  case atStart => exact ⟨rfl, rfl⟩
  case round =>
    obtain ⟨rfl, hw0⟩ := hrel
    obtain rfl := hw0.symm
    go_wp2_with fail
    refine wp_region_quiet_below (by kernel_rfl) (by kernel_rfl) ?_
    repeat (first | go_big_quiet_skip | quiet_step (fail))
    refine wpQuiet_nil ?_
    intro _ hw'
    obtain ⟨⟨dq, os⟩, hw''⟩ := hw'
    subst hw''
    have kR := below_regrown w dq os
    have rV := HX.out.below kR
    go_wp2_with fail
    go_ret
    exact ⟨rfl, rV, But.of_below kR⟩
set_option maxHeartbeats 8000000 in
set_option maxRecDepth 100000 in
theorem item_val (w0 : World) (X : Nat) (t : ByteArray) (iv : Value) (j d : Nat) (I : List (ByteArray × ByteArray)) (w : World) (E : Env w0 X iv I) (hb : Below w0.heap.size w0 w) (h : ExAt w X t iv j (-1)) (hj : j ≤ t.size) (hs : t.size ≤ 4000) (h63 : nx t j 63 = false) (h61 : nx t j 61 = false) :
    Calls Tryd.prog 20 #[.pointer (some ⟨X, 0, none⟩), .int .i64 d] w fun e w' => PostX X t iv (4000 * (t.size - j)) w (closeR t (vaR t I j)) e w' := by
  have HEB : Hid (∀ W, But X w W → Below w0.heap.size w0 W) := fun W h => E.but hb h
  have HX : Hid (ExAt w X t iv j (-1)) := h
  obtain ⟨⟨c0, c1, _, _⟩, _⟩ := h.cells
  have ij : (j : Int) ≤ (t.size : Int) := Int.ofNat_le.2 hj
  have ij0 : (0 : Int) ≤ (j : Int) := Int.natCast_nonneg _
  have HP63 := fun W => Tryd.strings_HasPrefix (t.extract j t.size) ⟨#[63]⟩ W
  rw [extract_drop, show Lib.hasPrefix (t.data.toList.drop j) (⟨#[63]⟩ : ByteArray).data.toList = nx t j 63 from nexts_one t j 63] at HP63
  have HP61 := fun W => Tryd.strings_HasPrefix (t.extract j t.size) ⟨#[61]⟩ W
  rw [extract_drop, show Lib.hasPrefix (t.data.toList.drop j) (⟨#[61]⟩ : ByteArray).data.toList = nx t j 61 from nexts_one t j 61] at HP61
  clear h hb
  rw [h63] at HP63
  rw [h61] at HP61
  have HV := fun W hW h => valueX_any w0 X t iv j I W E hW h hj hs
  have HK := vaR_keeps E.sz j hj
  clear h63 h61
  cases hv : vaR t I j with
  | bad q =>
    rw [hv] at HV
    unfold closeR
    clear HK hv
    go_enter Tryd.func20, Tryd.ntmps20
    go_wp2_with fail
    go_quiet (fail)
    have rV : ExAt (w.drewN nq) X t iv j (-1) := HX.out
    have bV : But X w (w.drewN nq) := ⟨rfl, rfl, rfl, Nat.le_refl _, fun _ _ _ => rfl⟩
    generalize w.drewN nq = V at *
    clear c0 c1
    go_wp2_with fail
    refine (HP63 _).mono ?_
    rintro e W1 ⟨rfl, hw1⟩
    obtain rfl := hw1.symm
    go_wp2_with fail
    refine (HP61 _).mono ?_
    rintro e W1 ⟨rfl, hw1⟩
    obtain rfl := hw1.symm
    go_wp2_with fail
    refine (HV _ (HEB.out _ bV) rV).mono ?_
    rintro e W2 ⟨z, rfl, hz, r2, b2⟩
    obtain ⟨⟨_, _, c2, _⟩, _⟩ := r2.cells
    have iq : ¬ (q : Int) < 0 := Int.not_lt.2 (Int.natCast_nonneg _)
    have b3 := bV.trans b2
    go_wp2_with fail
    go_ret
    exact ⟨z, rfl, by omega, r2, b3⟩
  | ok o q =>
    rw [hv] at HV
    obtain ⟨a1, hq, a3⟩ := HK o q hv
    have hol : (⟨o.toArray⟩ : ByteArray).size = o.length := List.size_toArray
    have hbd : (⟨o.toArray⟩ : ByteArray).size ≤ 4000 * (t.size - j) := by omega
    have HWT := fun W h => want_any X t iv q ⟨#[125]⟩ W h hq hs (by decide)
    rw [nexts_one t q 125, show q + (⟨#[125]⟩ : ByteArray).size = q + 1 from rfl] at HWT
    show Calls _ _ _ _ fun e w' => PostX X t iv (4000 * (t.size - j)) w (if nx t q 125 then .ok o (q + 1) else .bad q) e w'
    clear HK hv a1 a3
    cases hx : nx t q 125
    · rw [hx] at HWT
      simp only [Bool.false_eq_true, if_false] at HWT ⊢
      clear hx
      go_enter Tryd.func20, Tryd.ntmps20
      go_wp2_with fail
      go_quiet (fail)
      have rV : ExAt (w.drewN nq) X t iv j (-1) := HX.out
      have bV : But X w (w.drewN nq) := ⟨rfl, rfl, rfl, Nat.le_refl _, fun _ _ _ => rfl⟩
      generalize w.drewN nq = V at *
      clear c0 c1
      go_wp2_with fail
      refine (HP63 _).mono ?_
      rintro e W1 ⟨rfl, hw1⟩
      obtain rfl := hw1.symm
      go_wp2_with fail
      refine (HP61 _).mono ?_
      rintro e W1 ⟨rfl, hw1⟩
      obtain rfl := hw1.symm
      go_wp2_with fail
      refine (HV _ (HEB.out _ bV) rV).mono ?_
      rintro e W2 ⟨rfl, r2, b2⟩
      obtain ⟨⟨_, _, c2, _⟩, _⟩ := r2.cells
      have b3 := bV.trans b2
      go_wp2_with fail
      refine (HWT _ r2).mono ?_
      rintro e W3 ⟨rfl, r3, b4⟩
      have b5 := b3.trans b4
      go_wp2_with fail
      go_ret
      exact ⟨_, rfl, hbd, r3, b5⟩
    · rw [hx] at HWT
      simp only [if_true] at HWT ⊢
      clear hx
      go_enter Tryd.func20, Tryd.ntmps20
      go_wp2_with fail
      go_quiet (fail)
      have rV : ExAt (w.drewN nq) X t iv j (-1) := HX.out
      have bV : But X w (w.drewN nq) := ⟨rfl, rfl, rfl, Nat.le_refl _, fun _ _ _ => rfl⟩
      generalize w.drewN nq = V at *
      clear c0 c1
      go_wp2_with fail
      refine (HP63 _).mono ?_
      rintro e W1 ⟨rfl, hw1⟩
      obtain rfl := hw1.symm
      go_wp2_with fail
      refine (HP61 _).mono ?_
      rintro e W1 ⟨rfl, hw1⟩
      obtain rfl := hw1.symm
      go_wp2_with fail
      refine (HV _ (HEB.out _ bV) rV).mono ?_
      rintro e W2 ⟨rfl, r2, b2⟩
      obtain ⟨⟨_, _, c2, _⟩, _⟩ := r2.cells
      have b3 := bV.trans b2
      go_wp2_with fail
      refine (HWT _ r2).mono ?_
      rintro e W3 ⟨rfl, r3, b4⟩
      have b5 := b3.trans b4
      go_wp2_with fail
      go_ret
      exact ⟨rfl, r3, b5⟩
end Fmt
end Go.Proofs.YtbhoklhcdefabaaDoor

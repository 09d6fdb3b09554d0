/- Package format: what a piece says, a number, a cut. -/
import Derived.Test.YtbhoklhcdefabaaDoorFmtVal
namespace Go.Proofs.YtbhoklhcdefabaaDoor
open Go.ChangeShapes Go.WideShapes Go.ChangeAt Go.RowKit Go.Maps Go.Sort
namespace Fmt
/-- How a piece of the reader ends. -/
def Post (R : Nat) (t : ByteArray) (iv : Value) (d : Nat) (w : World) : Res → Ending → World → Prop
  | .bad q, e, w' => e = stp q ∧ But R w w'
  | .ok o q, e, w' => e = .returned (.string ⟨o.toArray⟩) ∧ RdAt w' R t iv q d ∧ But R w w'
theorem self_bytes (v : ByteArray) : (⟨v.data.toList.toArray⟩ : ByteArray) = v := by
  cases v
  simp
theorem value_any (w0 : World) (R : Nat) (t : ByteArray) (iv : Value) (p d : Nat) (I : List (ByteArray × ByteArray)) (w : World) (E : Env w0 R iv I) (hb : Below w0.heap.size w0 w) (hr : RdAt w R t iv p d) (hp : p ≤ t.size) (hs : t.size ≤ 4000) :
    Calls Tryd.prog 61 #[.pointer (some ⟨R, 0, none⟩)] w fun e w' => Post R t iv d w (vaR t I p) e w' := by
  unfold vaR
  by_cases hn : nm t p = p
  · rw [if_pos hn]
    exact value_bad R t iv p d w hr hp hs hn
  · rw [if_neg hn]
    refine (value_ok w0 R t iv p d I w E hb hr hp hs hn).mono ?_
    rintro e w' ⟨rfl, h1, h2⟩
    exact ⟨by rw [self_bytes], h1, h2⟩
theorem digit_val (c : UInt8) (h : isD c = true) : Lib.digitVal c = some (c.toNat - 48) ∧ 48 ≤ c.toNat ∧ c.toNat ≤ 57 := by
  unfold isD at h
  rw [Bool.and_eq_true, decide_eq_true_eq, decide_eq_true_eq] at h
  exact ⟨by unfold Lib.digitVal; rw [if_pos h], h⟩
theorem dec_fold : ∀ (l : List UInt8) (acc : Nat), (∀ c ∈ l, isD c = true) → ∃ n : Nat, Lib.decFrom acc l = some n ∧ (n : Int) = l.foldl (fun a c => a * 10 + ((c.toNat : Int) - 48)) (acc : Int)
  | [], acc, _ => ⟨acc, rfl, rfl⟩
  | c :: l, acc, h => by
    obtain ⟨h1, h2, h3⟩ := digit_val c (h c (List.mem_cons_self ..))
    obtain ⟨n, h4, h5⟩ := dec_fold l (acc * 10 + (c.toNat - 48)) (fun x hx => h x (List.mem_cons_of_mem _ hx))
    refine ⟨n, ?_, ?_⟩
    · unfold Lib.decFrom
      rw [h1]
      exact h4
    · rw [h5, List.foldl_cons]
      congr 1
      omega
theorem run_all (f : UInt8 → Bool) (t : ByteArray) : ∀ m p, ∀ c ∈ (t.data.toList.drop p).take (run f t m p - p), f c = true
  | 0, p, c, h => by
    rw [show run f t 0 p - p = 0 by unfold run; omega] at h
    simp at h
  | m + 1, p, c, h => by
    unfold run at h
    split at h
    · rename_i hlt
      split at h
      · rename_i hf
        have hge := run_ge f t m (p + 1)
        rw [get_drop t p hlt, show run f t m (p + 1) - p = (run f t m (p + 1) - (p + 1)) + 1 by omega, List.take_succ_cons] at h
        rcases List.mem_cons.1 h with h | h
        · rw [h]; exact hf
        · exact run_all f t m (p + 1) c h
      · rw [Nat.sub_self] at h; simp at h
    · rw [Nat.sub_self] at h; simp at h
theorem extract_list (t : ByteArray) (p q : Nat) : (t.extract p q).data.toList = (t.data.toList.drop p).take (q - p) := by
  rw [ByteArray.data_extract, Array.toList_extract, List.extract_eq_take_drop]
theorem atoi_num (t : ByteArray) (p : Nat) (hp : p ≤ t.size) (h : ¬ run isD t 3 p = p) : Lib.atoi (t.extract p (run isD t 3 p)).data.toList = some (num t p (run isD t 3 p)) := by
  have hge := run_ge isD t 3 p
  have hle := run_le isD t 3 p hp
  have hall := run_all isD t 3 p
  rw [extract_list]
  unfold num
  have hlen : ((t.data.toList.drop p).take (run isD t 3 p - p)).length = run isD t 3 p - p := by
    have : t.data.toList.length = t.size := Array.length_toList
    rw [List.length_take, List.length_drop]
    omega
  cases hl : (t.data.toList.drop p).take (run isD t 3 p - p) with
  | nil => rw [hl] at hlen; simp at hlen; omega
  | cons c l =>
    rw [hl] at hall
    obtain ⟨_, h2, h3⟩ := digit_val c (hall c (List.mem_cons_self ..))
    obtain ⟨n, h4, h5⟩ := dec_fold (c :: l) 0 hall
    have e1 : (c == 45) = false := by rw [beq_eq_false_iff_ne]; intro e; rw [e] at h2; exact absurd h2 (by decide)
    have e2 : (c == 43) = false := by rw [beq_eq_false_iff_ne]; intro e; rw [e] at h2; exact absurd h2 (by decide)
    simp only [Lib.atoi, e1, e2, Bool.false_eq_true, if_false]
    unfold Lib.decNat
    rw [if_neg (by simp), h4, Option.map_some, h5]
    rfl
set_option maxHeartbeats 4000000 in
set_option maxRecDepth 100000 in
theorem number_bad (R : Nat) (t : ByteArray) (iv : Value) (p d : Nat) (w : World) (hr : RdAt w R t iv p d) (hp : p ≤ t.size) (hs : t.size ≤ 4000) (hn : run isD t 3 p = p) :
    Calls Tryd.prog 63 #[.pointer (some ⟨R, 0, none⟩)] w fun e w' => e = stp p ∧ But R w w' := by
  have HR := run_digit R t iv p d 3 w hr hp hs (by omega) (fun e w' => e = stp p ∧ But R w w') (fun _ W h => ⟨rfl, h⟩) (fun h => absurd hn h)
  clear hr hn
  go_enter Tryd.func63, Tryd.ntmps63
  go_wp2_with fail
  refine HR.mono ?_
  rintro e W ⟨rfl, b⟩
  go_wp2_with fail
  exact ⟨rfl, rfl, b⟩
set_option maxHeartbeats 4000000 in
set_option maxRecDepth 100000 in
theorem number_ok (R : Nat) (t : ByteArray) (iv : Value) (p d : Nat) (w : World) (hr : RdAt w R t iv p d) (hp : p ≤ t.size) (hs : t.size ≤ 4000) (hn : ¬ run isD t 3 p = p) :
    Calls Tryd.prog 63 #[.pointer (some ⟨R, 0, none⟩)] w fun e w' => e = .returned (.int .i64 (num t p (run isD t 3 p))) ∧ RdAt w' R t iv (run isD t 3 p) d ∧ But R w w' := by
  have HR := run_digit R t iv p d 3 w hr hp hs (by omega) (fun e w' => e = .returned (.string (t.extract p (run isD t 3 p))) ∧ RdAt w' R t iv (run isD t 3 p) d ∧ But R w w') (fun h => absurd h hn) (fun _ W h g => ⟨rfl, h, g⟩)
  have hm := run_most isD t 3 p
  have HA := fun W => (Tryd.strconv_Atoi (t.extract p (run isD t 3 p)) (num t p (run isD t 3 p)) (by rw [ByteArray.size_extract]; omega) (atoi_num t p hp hn) W).mono (fun e w' ⟨he, tt, hw⟩ => (⟨he, by rw [hw]; exact Lib.bytesWorld_below _ _ _⟩ : e = Ending.returned (Value.tuple #[.int .i64 (num t p (run isD t 3 p)), .nilIface]) ∧ Below W.heap.size W w'))
  generalize num t p (run isD t 3 p) = n at *
  generalize t.extract p (run isD t 3 p) = x at *
  generalize run isD t 3 p = f at *
  clear hr hn hm
  go_enter Tryd.func63, Tryd.ntmps63
  go_wp2_with fail
  refine HR.mono ?_
  rintro e W ⟨rfl, r, b⟩
  go_wp2_with fail
  refine (HA _).mono ?_
  rintro e W2 ⟨rfl, b2⟩
  have r2 := r.below b2
  have b3 := b.trans (But.of_below b2)
  go_wp2_with fail
  go_ret
  exact ⟨rfl, r2, b3⟩
set_option maxHeartbeats 8000000 in
set_option maxRecDepth 100000 in
theorem cuts_any (w0 : World) (R : Nat) (t : ByteArray) (iv : Value) (p d : Nat) (I : List (ByteArray × ByteArray)) (w : World) (E : Env w0 R iv I) (hb : Below w0.heap.size w0 w) (hr : RdAt w R t iv p d) (hp : p ≤ t.size) (hs : t.size ≤ 4000) :
    Calls Tryd.prog 59 #[.pointer (some ⟨R, 0, none⟩)] w fun e w' => Post R t iv d w (ctR t I p) e w' := by
  have HEB : Hid (∀ W, But R w W → Below w0.heap.size w0 W) := fun W h => E.but hb h
  unfold ctR
  by_cases h1 : run isD t 3 p = p
  · rw [if_pos h1]
    have HN := number_bad R t iv p d w hr hp hs h1
    clear hr h1
    go_enter Tryd.func59, Tryd.ntmps59
    go_wp2_with fail
    refine HN.mono ?_
    rintro e W ⟨rfl, b⟩
    go_wp2_with fail
    exact ⟨rfl, rfl, b⟩
  · rw [if_neg h1]
    have HN := number_ok R t iv p d w hr hp hs h1
    have hle := run_le isD t 3 p hp
    have hnn := nexts_one t (run isD t 3 p) 58
    generalize num t p (run isD t 3 p) = n at *
    generalize run isD t 3 p = f at *
    clear h1 hr
    by_cases h2 : nx t f 58 = true
    · rw [if_pos h2]
      have HD := fun W h => need_yes R t iv f d ⟨#[58]⟩ W h hle hs (by decide) (hnn.trans h2)
      rw [show f + (⟨#[58]⟩ : ByteArray).size = f + 1 from rfl] at HD
      have hlt := nx_lt h2
      have HV := fun W hW h => value_any w0 R t iv (f + 1) d I W E hW h (by omega) hs
      have HKP : Hid (∀ v q, vaR t I (f + 1) = .ok v q → v.length ≤ 16000000) := fun v q e => by
        have := vaR_keeps E.sz (f + 1) (by omega) v q e
        omega
      clear h2 hnn hlt
      cases hv : vaR t I (f + 1) with
      | bad q =>
        rw [hv] at HV
        clear HKP hv
        go_enter Tryd.func59, Tryd.ntmps59
        go_wp2_with fail
        refine HN.mono ?_
        rintro e W1 ⟨rfl, r1, b1⟩
        go_wp2_with fail
        refine (HD _ r1).mono ?_
        rintro e W2 ⟨rfl, r2, b2⟩
        have b3 := b1.trans b2
        go_wp2_with fail
        refine (HV _ (HEB.out _ b3) r2).mono ?_
        rintro e W3 ⟨rfl, b4⟩
        go_wp2_with fail
        exact ⟨rfl, rfl, b3.trans b4⟩
      | ok v q =>
        rw [hv] at HV
        have hvl := HKP.out v q hv
        have HC := fun W (hW : But R w W) => Txt.cut_any ⟨v.toArray⟩ n W (E.tab _ (HEB.out _ hW)) (by rw [show (⟨v.toArray⟩ : ByteArray).size = v.length from List.size_toArray]; omega)
        clear HKP hv hvl
        go_enter Tryd.func59, Tryd.ntmps59
        go_wp2_with fail
        refine HN.mono ?_
        rintro e W1 ⟨rfl, r1, b1⟩
        go_wp2_with fail
        refine (HD _ r1).mono ?_
        rintro e W2 ⟨rfl, r2, b2⟩
        have b3 := b1.trans b2
        go_wp2_with fail
        refine (HV _ (HEB.out _ b3) r2).mono ?_
        rintro e W3 ⟨rfl, r4, b4⟩
        have b5 := b3.trans b4
        go_wp2_with fail
        refine (HC _ b5).mono ?_
        rintro e W4 ⟨rfl, b6⟩
        have r6 := r4.below b6
        have b7 := b5.trans (But.of_below b6)
        go_wp2_with fail
        go_ret
        exact ⟨rfl, r6, b7⟩
    · rw [if_neg h2]
      have HD := fun W h => need_no R t iv f d ⟨#[58]⟩ W h hle hs (by decide) (hnn.trans (Bool.not_eq_true _ ▸ h2))
      clear h2 hnn
      go_enter Tryd.func59, Tryd.ntmps59
      go_wp2_with fail
      refine HN.mono ?_
      rintro e W1 ⟨rfl, r1, b1⟩
      go_wp2_with fail
      refine (HD _ r1).mono ?_
      rintro e W2 ⟨rfl, b2⟩
      go_wp2_with fail
      exact ⟨rfl, rfl, b1.trans b2⟩
end Fmt
end Go.Proofs.YtbhoklhcdefabaaDoor

/- The law ParseBack. -/
import Derived.Test.YtbcpoofpmlemmaaDoorParseWr4
namespace Go.Proofs.YtbcpoofpmlemmaaDoor
open Go.ChangeShapes Go.WideShapes Go.ChangeAt Go.RowKit
namespace Prs
theorem text_eq {a b : ByteArray} (h : (a.toList == b.toList) = true) : a = b := by
  have h1 := eq_of_beq h
  rw [Lib.toList_data, Lib.toList_data] at h1
  apply ByteArray.ext
  exact Array.toList_inj.1 h1
theorem same_eq {a b : Ev} (h : sameE a b = true) : a = b := by
  obtain ⟨ak, ar, af, am, ai, ap, at'⟩ := a
  obtain ⟨bk, br, bf, bm, bi, bp, bt⟩ := b
  simp only [sameE, Bool.and_eq_true] at h
  obtain ⟨h1, h2, h3, h4, h5, h6, h7⟩ := h
  have e1 := eq_of_beq h1
  have e2 := eq_of_beq h2
  have e3 := eq_of_beq h3
  have e4 := eq_of_beq h4
  have e5 := text_eq h5
  have e6 := text_eq h6
  have e7 := eq_of_beq h7
  subst e1 e2 e3 e4 e5 e6 e7
  rfl
theorem tell_told {e : Ev} (h : tellB (bs (evB e)) e = true) : (feed (bare 0) (evB e)).2 = [e] := by
  unfold tellB at h
  rw [Bool.and_eq_true] at h
  have h2 := h.2
  rw [show (bs (evB e)).data.toList = evB e from rfl] at h2
  unfold one1 at h2
  split at h2
  · rename_i x hx
    rw [hx, same_eq h2]
  · simp at h2
theorem run_ok : ∀ (es : List Ev) (acc : List UInt8), acc.length ≤ 4000 → (run es acc).2 = 0 → (run es acc).1 = acc ++ es.flatMap evB ∧ (run es acc).1.length ≤ 4000 ∧ ∀ e, e ∈ es → (feed (bare 0) (evB e)).2 = [e]
  | [], acc, ha, _ => ⟨by simp [run], ha, fun e he => absurd he (by simp)⟩
  | e :: es, acc, ha, h => by
    have hr : run (e :: es) acc = if tellB (bs (evB e)) e = false then ([], 5) else if 4000 < acc.length + (evB e).length then ([], 2) else run es (acc ++ evB e) := rfl
    rw [hr] at h ⊢
    cases ht : tellB (bs (evB e)) e with
    | false => rw [ht] at h; simp at h
    | true =>
      rw [ht] at h
      rw [if_neg (by simp)] at h ⊢
      by_cases hm : 4000 < acc.length + (evB e).length
      · rw [if_pos hm] at h
        simp at h
      · rw [if_neg hm] at h ⊢
        obtain ⟨h1, h2, h3⟩ := run_ok es (acc ++ evB e) (by rw [List.length_append]; omega) h
        refine ⟨by rw [h1]; simp, h2, fun x hx => ?_⟩
        rcases List.mem_cons.1 hx with rfl | hx
        · exact tell_told ht
        · exact h3 x hx
theorem run_many : ∀ (es : List Ev) (acc : List UInt8), (run es acc).2 = 0 ∨ (run es acc).2 = 5 ∨ (run es acc).2 = 2
  | [], acc => .inl rfl
  | e :: es, acc => by
    have hr : run (e :: es) acc = if tellB (bs (evB e)) e = false then ([], 5) else if 4000 < acc.length + (evB e).length then ([], 2) else run es (acc ++ evB e) := rfl
    rw [hr]
    split
    · exact .inr (.inl rfl)
    · split
      · exact .inr (.inr rfl)
      · exact run_many es _
set_option maxHeartbeats 8000000 in
set_option maxRecDepth 100000 in
theorem parseBack_any (es : List Ev) (v : Value) (w : World) (hT : Tabs w) (hP : P10 w) (hE : EvsR w v es) (hf : ∀ e, e ∈ es → Fine e) (hn : es.length ≤ 1048576) :
    Calls Tryd.prog 6 #[v] w fun e w' => e = .returned (.bool true) ∧ Below w.heap.size w w' := by
  have HW := write_any es v w hT hP hE hf hn
  have HT : Hid (Tabs w) := hT
  have HE : Hid (EvsR w v es) := hE
  obtain ⟨pa, pc, hpv⟩ := hE.slice
  subst hpv
  have hmany := run_many es []
  have hrok := run_ok es [] (by simp)
  obtain ⟨B, n, hBn⟩ : ∃ B n, run es [] = (B, n) := ⟨_, _, rfl⟩
  rw [hBn] at HW hmany hrok
  simp only at hmany hrok HW
  clear hT hP hE hf hBn
  by_cases h0 : n = 0
  · obtain ⟨hB, hBl, htold⟩ := hrok h0
    rw [List.nil_append] at hB
    subst h0
    have hall := feed_all es htold
    have hfew : Few es := fun e he => few_feed (evB e) (bare 0) ok_zero e (by rw [htold e he]; simp)
    rw [← hB] at hall
    have HAL : Hid (feed (bare 0) B = (bare 0, es)) := hall
    have HFW : Hid (Few es) := hfew
    have HBL : Hid ((bs B).size ≤ 4000) := by unfold Hid; rw [bs_size]; exact hBl
    clear hmany hrok hB hBl htold hall hfew
    go_enter Tryd.func6, Tryd.ntmps6
    go_wp2_with fail
    refine HW.mono ?_
    rintro e W1 ⟨rfl, b1⟩
    clear HW
    go_wp2_with fail
    refine (readIn_any _ (HT.out.next b1)).mono ?_
    rintro e W2 ⟨rfl, b2⟩
    have HK2 : Hid (Below w.heap.size w W2) := b1.trans (b2.mono b1.size)
    have HF := feed_right (bare 0) (.slice none 0 0) (bs B) W2 (HT.out.next HK2.out) (.inl ⟨rfl, _, _, rfl⟩) ok_zero HBL.out
    rw [show (bs B).data.toList = B from rfl, HAL.out] at HF
    simp only [stV] at HF
    clear b1 b2
    go_wp2_with fail
    refine HF.mono ?_
    rintro e W3 ⟨qv, uv, rfl, hQ, hM, b3⟩
    obtain ⟨qp, qc, rfl⟩ := hQ.slice
    obtain ⟨ta, tc, htv⟩ := hM.slice
    have HQ : Hid (IntsV W3 (.slice qp 0 qc) []) := hQ
    have HM : Hid (EvsR W3 uv es) := hM
    have HK3 : Hid (Below w.heap.size w W3) := HK2.out.trans (b3.mono HK2.out.size)
    subst htv
    clear HF hQ hM b3
    simp only [bare, nt, List.length_nil]
    go_wp2_with fail
    have kA : Below W3.heap.size W3 (W3.alloc (.cells #[.int .i64 0, .int .u8 0, .string ⟨#[]⟩, .slice qp 0 qc, .string ⟨#[]⟩, .string ⟨#[]⟩, .bool false] 24)) := (Below.refl _ _).alloc (Nat.le_refl _) _
    refine (sameState_refl (bare 0) _ _ _ (HQ.out.next kA) (.inl ⟨rfl, _, _, rfl⟩) (by decide)).mono ?_
    rintro e W4 ⟨rfl, b4⟩
    have k4 := kA.trans (b4.mono kA.size)
    have HK4 : Hid (Below w.heap.size w W4) := HK3.out.trans (k4.mono HK3.out.size)
    have HM4 : Hid (EvsR W4 (.slice ta es.length tc) es) := HM.out.next k4
    have HE4 : Hid (EvsR W4 (.slice pa es.length pc) es) := HE.out.next HK4.out
    clear kA b4 k4 HQ HM
    go_wp2_with fail
    refine (equalFunc_refl es _ _ W4 HE4.out HM4.out HFW.out (by omega)).mono ?_
    rintro e W5 ⟨rfl, b5⟩
    go_wp2_with fail
    go_ret
    exact ⟨rfl, HK4.out.trans (b5.mono HK4.out.size)⟩
  · clear hrok hmany
    go_enter Tryd.func6, Tryd.ntmps6
    go_wp2_with fail
    refine HW.mono ?_
    rintro e W1 ⟨rfl, b1⟩
    clear HW
    go_wp2_with fail
    refine (readIn_any _ (HT.out.next b1)).mono ?_
    rintro e W2 ⟨rfl, b2⟩
    have HK2 : Hid (Below w.heap.size w W2) := b1.trans (b2.mono b1.size)
    clear b1 b2
    go_wp2_with fail
    refine (readIn_any _ (HT.out.next HK2.out)).mono ?_
    rintro e W3 ⟨rfl, b3⟩
    go_wp2_with fail
    go_ret
    exact ⟨rfl, HK2.out.trans (b3.mono HK2.out.size)⟩
end Prs
end Go.Proofs.YtbcpoofpmlemmaaDoor

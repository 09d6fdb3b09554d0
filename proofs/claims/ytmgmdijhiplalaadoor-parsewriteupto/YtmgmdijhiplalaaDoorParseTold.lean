/- Plain mathematics: what Write writes; the reference's own bytes of an event, which tell the same. -/
import Derived.Test.YtmgmdijhiplalaaDoorParseWr4
namespace Go.Proofs.YtmgmdijhiplalaaDoor
namespace Prs
theorem text_eq {a b : ByteArray} (h : (a.toList == b.toList) = true) : a = b := by
  have h1 := eq_of_beq h
  rw [Lib.toList_data, Lib.toList_data] at h1
  apply ByteArray.ext
  exact Array.toList_inj.1 h1
theorem same_eq {a b : Ev} (h : sameE a b = true) : a = b := by
  obtain ⟨ak, ar, af, am, ai, ap, at'⟩ := a
  obtain ⟨bk, br, bf, bm, bi, bp, bt⟩ := b
  simp only [sameE, Bool.and_eq_true] at h
  obtain ⟨h1, h2, h3, h4, h5, h6, h7⟩ := h
  have e1 := eq_of_beq h1
  have e2 := eq_of_beq h2
  have e3 := eq_of_beq h3
  have e4 := eq_of_beq h4
  have e5 := text_eq h5
  have e6 := text_eq h6
  have e7 := eq_of_beq h7
  subst e1 e2 e3 e4 e5 e6 e7
  rfl
theorem tell_told {e : Ev} (h : tellB (bs (evB e)) e = true) : (feed (bare 0) (evB e)).2 = [e] := by
  unfold tellB at h
  rw [Bool.and_eq_true] at h
  have h2 := h.2
  rw [show (bs (evB e)).data.toList = evB e from rfl] at h2
  unfold one1 at h2
  split at h2
  · rename_i x hx
    rw [hx, same_eq h2]
  · simp at h2
theorem run_ok : ∀ (es : List Ev) (acc : List UInt8), acc.length ≤ 4000 → (run es acc).2 = 0 → (run es acc).1 = acc ++ es.flatMap evB ∧ (run es acc).1.length ≤ 4000 ∧ ∀ e, e ∈ es → (feed (bare 0) (evB e)).2 = [e]
  | [], acc, ha, _ => ⟨by simp [run], ha, fun e he => absurd he (by simp)⟩
  | e :: es, acc, ha, h => by
    have hr : run (e :: es) acc = if tellB (bs (evB e)) e = false then ([], 5) else if 4000 < acc.length + (evB e).length then ([], 2) else run es (acc ++ evB e) := rfl
    rw [hr] at h ⊢
    cases ht : tellB (bs (evB e)) e with
    | false => rw [ht] at h; simp at h
    | true =>
      rw [ht] at h
      rw [if_neg (by simp)] at h ⊢
      by_cases hm : 4000 < acc.length + (evB e).length
      · rw [if_pos hm] at h
        simp at h
      · rw [if_neg hm] at h ⊢
        obtain ⟨h1, h2, h3⟩ := run_ok es (acc ++ evB e) (by rw [List.length_append]; omega) h
        refine ⟨by rw [h1]; simp, h2, fun x hx => ?_⟩
        rcases List.mem_cons.1 hx with rfl | hx
        · exact tell_told ht
        · exact h3 x hx
theorem run_many : ∀ (es : List Ev) (acc : List UInt8), (run es acc).2 = 0 ∨ (run es acc).2 = 5 ∨ (run es acc).2 = 2
  | [], acc => .inl rfl
  | e :: es, acc => by
    have hr : run (e :: es) acc = if tellB (bs (evB e)) e = false then ([], 5) else if 4000 < acc.length + (evB e).length then ([], 2) else run es (acc ++ evB e) := rfl
    rw [hr]
    split
    · exact .inr (.inl rfl)
    · split
      · exact .inr (.inr rfl)
      · exact run_many es _
/-- The reference's numbers: below 0 none. -/
def numR (n : Int) : List UInt8 := if n < 0 then [] else Lib.itoa n
def psR : Bool → List Int → List UInt8
  | _, [] => []
  | true, x :: l => numR x ++ psR false l
  | false, x :: l => 59 :: (numR x ++ psR false l)
def evR (e : Ev) : List UInt8 :=
  if e.kind = 1 then Lib.encodeRune e.r
  else if e.kind = 2 then (if e.r < 0 ∨ 31 < e.r then [] else [(e.r % 256).toNat.toUInt8])
  else if e.kind = 3 then 27 :: (e.mid.data.toList ++ [e.fin.toNat.toUInt8])
  else if e.kind = 4 then 27 :: 91 :: (markL e.mark ++ psR true e.ps ++ e.mid.data.toList ++ [e.fin.toNat.toUInt8])
  else if e.kind = 5 then 27 :: 93 :: (e.txt.data.toList ++ [7])
  else []
theorem num_eq (n : Int) (h : -1 ≤ n) : numR n = numT n := by
  unfold numR numT
  by_cases h1 : n = -1
  · rw [if_pos (by omega), if_pos h1]
  · rw [if_neg (by omega), if_neg h1]
theorem ps_eq : ∀ (l : List Int) (b : Bool), (∀ y, y ∈ l → -1 ≤ y) → psR b l = psL b l
  | [], b, _ => by cases b <;> rfl
  | x :: l, b, h => by
    have h1 := num_eq x (h x (by simp))
    have h2 := ps_eq l false fun y hy => h y (by simp [hy])
    cases b with
    | true => show numR x ++ psR false l = numT x ++ psL false l; rw [h1, h2]
    | false => show 59 :: (numR x ++ psR false l) = 59 :: (numT x ++ psL false l); rw [h1, h2]
theorem tell_iff {l : List UInt8} {e : Ev} (h : tellB (bs l) e = true) : (feed (bare 0) l).2 = [e] := by
  unfold tellB at h
  rw [Bool.and_eq_true] at h
  have h2 := h.2
  rw [show (bs l).data.toList = l from rfl] at h2
  unfold one1 at h2
  split at h2
  · rename_i x hx
    rw [hx, same_eq h2]
  · simp at h2
theorem byte_ctl (x : UInt8) (e : Ev) (h : (feed (bare 0) [x]).2 = [e]) (hk : e.kind = 2) : 0 ≤ e.r ∧ e.r ≤ 31 := by
  have e1 : feed (bare 0) [x] = ((take (bare 0) x).1, (take (bare 0) x).2) := by simp [feed]
  rw [e1] at h
  cases hc : isCtl x with
  | true =>
    have ht : take (bare 0) x = control (bare 0) x := by
      unfold take
      rw [show woken (bare 0) x = bare 0 from rfl, hc, if_pos ⟨by simp [bare], rfl⟩]
    rw [ht] at h
    have hx : x.toNat < 32 ∨ x.toNat = 127 := by simpa [isCtl] using hc
    unfold control at h
    rw [show (bare 0).left.size = 0 from rfl] at h
    by_cases h27 : x.toNat = 27
    · simp [h27] at h
    · rw [if_neg h27] at h
      by_cases h24 : x.toNat = 24 ∨ x.toNat = 26
      · rw [if_pos h24] at h
        simp at h
      · rw [if_neg h24] at h
        by_cases h7 : x.toNat = 127
        · rw [if_pos h7] at h
          simp at h
        · rw [if_neg h7] at h
          simp at h
          rw [← h]
          simp only [evC]
          omega
  | false =>
    have hm : e ∈ (take (bare 0) x).2 := by rw [h]; simp
    rw [show take (bare 0) x = take (gnd nt) x from rfl, take_gnd nt x hc] at hm
    have := drain_kind _ _ e hm
    omega
theorem evR_tell (e : Ev) : tellB (bs (evR e)) e = tellB (bs (evB e)) e ∧ (tellB (bs (evB e)) e = true → evR e = evB e) := by
  by_cases k2 : e.kind = 2 ∧ (e.r < 0 ∨ 31 < e.r)
  · have hB : evB e = [(e.r % 256).toNat.toUInt8] := by
      unfold evB
      rw [if_neg (by omega), if_pos k2.1]
    have hR : evR e = [] := by
      unfold evR
      rw [if_neg (by omega), if_pos k2.1, if_pos k2.2]
    have f1 : tellB (bs (evB e)) e = false := by
      cases ht : tellB (bs (evB e)) e with
      | false => rfl
      | true =>
        have h1 := tell_iff ht
        rw [hB] at h1
        have := byte_ctl _ e h1 k2.1
        omega
    have f2 : tellB (bs (evR e)) e = false := by
      cases ht : tellB (bs (evR e)) e with
      | false => rfl
      | true =>
        have h1 := tell_iff ht
        rw [hR] at h1
        simp [feed] at h1
    rw [f1, f2]
    exact ⟨rfl, fun h => by cases h⟩
  · by_cases k4 : e.kind = 4 ∧ ¬ ∀ y, y ∈ e.ps → -1 ≤ y
    · have key : ∀ l, tellB (bs l) e = false := fun l => by
        cases ht : tellB (bs l) e with
        | false => rfl
        | true =>
          have hv : Vd e := feed_vd l (bare 0) ok_zero e (by rw [tell_iff ht]; simp)
          exact absurd (fun y hy => ((hv.2 k4.1).2.1 y hy).1) k4.2
      rw [key, key]
      exact ⟨rfl, fun h => by cases h⟩
    · have hE : evR e = evB e := by
        unfold evR evB
        by_cases h4 : e.kind = 4
        · have h5 : ∀ y, y ∈ e.ps → -1 ≤ y := Classical.byContradiction fun h => k4 ⟨h4, h⟩
          rw [ps_eq e.ps true h5]
          simp [h4]
        · rw [if_neg h4, if_neg h4]
          by_cases h2 : e.kind = 2
          · have h3 : ¬ (e.r < 0 ∨ 31 < e.r) := fun h => k2 ⟨h2, h⟩
            rw [if_neg h3]
          · rw [if_neg h2, if_neg h2]
      rw [hE]
      exact ⟨rfl, fun _ => rfl⟩
end Prs
end Go.Proofs.YtmgmdijhiplalaaDoor

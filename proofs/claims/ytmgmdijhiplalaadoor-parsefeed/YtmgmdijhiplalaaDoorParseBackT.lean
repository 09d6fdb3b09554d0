/- Plain mathematics: what is told of an event's own bytes leaves the reader in its ground. -/
import Derived.Test.YtmgmdijhiplalaaDoorParseBackE
namespace Go.Proofs.YtmgmdijhiplalaaDoor
namespace Prs
theorem drain_kind : ∀ (q : Nat) (D : ByteArray), ∀ e, e ∈ (drain q D).1 → e.kind = 1
  | 0, D => fun e h => absurd h (by simp [drain])
  | q + 1, D => by
    cases hf : full D with
    | false => rw [drain_stop _ _ hf]; exact fun e h => absurd h (by simp)
    | true =>
      rw [drain_go _ _ hf]
      intro e he
      rcases List.mem_cons.1 he with rfl | h
      · rfl
      · exact drain_kind q _ e h
theorem mem_rep {n : Nat} {c : Int} {e : Ev} (h : e ∈ List.replicate n (evP c)) : e.kind = 1 := by rw [List.eq_of_mem_replicate h]; rfl
/-- Who tells an escape, a command or a text is in the ground then. -/
theorem take_end (s : St) (x : UInt8) (e : Ev) (h : (take s x).2 = [e]) (hk : 3 ≤ e.kind) : (take s x).1 = bare 0 := by
  have hm : e ∈ (take s x).2 := by rw [h]; simp
  unfold take at h hm ⊢
  generalize woken s x = s1 at h hm ⊢
  split at h
  · rename_i hc
    rw [if_pos hc] at hm
    exfalso
    unfold control at hm
    repeat' split at hm
    · have := mem_rep hm; omega
    · have := mem_rep hm; omega
    · have := mem_rep hm; omega
    · rcases List.mem_append.1 hm with q | q
      · have := mem_rep q; omega
      · rw [List.mem_singleton.1 q] at hk
        simp [evC] at hk
  · rename_i hc
    rw [if_neg hc] at hm ⊢
    unfold acts at h hm ⊢
    split at h
    · rename_i h0
      rw [if_pos h0] at hm
      have := drain_kind _ _ e hm
      omega
    · rename_i h0
      rw [if_neg h0] at hm ⊢
      split at h
      · rename_i h1
        rw [if_pos h1]
        unfold inEscape at h ⊢
        repeat' split at h
        all_goals simp_all
      · rename_i h1
        rw [if_neg h1] at hm ⊢
        split at h
        · rename_i h2
          rw [if_pos h2]
          unfold inMiddle at h ⊢
          repeat' split at h
          all_goals simp_all
        · rename_i h2
          rw [if_neg h2] at hm ⊢
          split at h
          · rename_i h3
            rw [if_pos h3]
            unfold inCommand at h ⊢
            split at h
            · simp at h
            · rename_i a1
              rw [if_neg a1]
              split at h
              · simp at h
              · rename_i a2
                rw [if_neg a2]
                split at h
                · simp at h
                · rename_i a3
                  rw [if_neg a3]
                  split at h
                  · simp at h
                  · rename_i a4
                    rw [if_neg a4]
                    split at h
                    · rename_i a5
                      rw [if_pos a5]
                    · simp at h
          · rename_i h3
            rw [if_neg h3] at hm ⊢
            split at h
            · rename_i h4
              rw [if_pos h4]
              unfold inSystem at h ⊢
              split at h
              · rename_i a1
                rw [if_pos a1]
              · exfalso
                repeat' split at h
                all_goals simp at h
            · exfalso
              unfold inSkip at h
              split at h
              all_goals simp at h
/-- What events that are told keep to. -/
def Vd (e : Ev) : Prop := (e.kind = 3 → allB isMid e.mid = true ∧ e.mid.size ≤ 2) ∧ (e.kind = 4 → (e.mark = 0 ∨ isMark e.mark = true) ∧ (∀ y, y ∈ e.ps → -1 ≤ y ∧ y ≤ 9999) ∧ allB isMid e.mid = true)
theorem vd_low {e : Ev} (h : e.kind = 1 ∨ e.kind = 2 ∨ e.kind = 5) : Vd e := ⟨fun q => by omega, fun q => by omega⟩
theorem take_vd (s : St) (x : UInt8) (hs : Ok s) : ∀ e, e ∈ (take s x).2 → Vd e := by
  have hw : Ok (woken s x) := by
    unfold woken
    split
    · exact ok_bare 1 (by omega) (by omega) (by omega)
    · exact hs
  unfold take
  generalize woken s x = s1 at hw ⊢
  intro e hm
  split at hm
  · unfold control at hm
    repeat' split at hm
    · exact vd_low (.inl (mem_rep hm))
    · exact vd_low (.inl (mem_rep hm))
    · exact vd_low (.inl (mem_rep hm))
    · rcases List.mem_append.1 hm with q | q
      · exact vd_low (.inl (mem_rep q))
      · rw [List.mem_singleton.1 q]
        exact vd_low (.inr (.inl rfl))
  · unfold acts at hm
    split at hm
    · exact vd_low (.inl (drain_kind _ _ e hm))
    · split at hm
      · unfold inEscape at hm
        repeat' split at hm
        all_goals first
          | (rw [List.mem_singleton.1 hm]; exact ⟨fun _ => ⟨rfl, by simp [nt_size]⟩, fun q => absurd q (by simp)⟩)
          | exact absurd hm (by simp)
      · split at hm
        · unfold inMiddle at hm
          repeat' split at hm
          all_goals first
            | (rw [List.mem_singleton.1 hm]; exact ⟨fun _ => ⟨hw.ma, hw.ms⟩, fun q => absurd q (by simp)⟩)
            | exact absurd hm (by simp)
        · split at hm
          · unfold inCommand at hm
            repeat' split at hm
            all_goals first
              | (rw [List.mem_singleton.1 hm]; exact ⟨fun q => absurd q (by simp), fun _ => ⟨hw.mm, hw.pa, hw.ma⟩⟩)
              | exact absurd hm (by simp)
          · split at hm
            · unfold inSystem at hm
              repeat' split at hm
              all_goals first
                | (rw [List.mem_singleton.1 hm]; exact vd_low (.inr (.inr rfl)))
                | exact absurd hm (by simp)
            · unfold inSkip at hm
              split at hm
              all_goals exact absurd hm (by simp)
theorem feed_vd (l : List UInt8) : ∀ (s : St), Ok s → ∀ e, e ∈ (feed s l).2 → Vd e := by
  induction l with
  | nil => exact fun s _ e h => absurd h (by simp [feed])
  | cons x l ih =>
    intro s hs e h
    rcases List.mem_append.1 h with q | q
    · exact take_vd s x hs e q
    · exact ih _ (take_ok s x hs) e q
/-- Bytes of a command ahead of its last tell nothing. -/
theorem low_take (s : St) (x : UInt8) (hs : (s.at' = 3 ∨ s.at' = 5) ∧ s.late = false) (h0 : 32 ≤ x.toNat) (h1 : x.toNat < 64) : (take s x).2 = [] ∧ (((take s x).1.at' = 3 ∨ (take s x).1.at' = 5) ∧ (take s x).1.late = false) := by
  obtain ⟨ha, hl⟩ := hs
  have hw : woken s x = s := by unfold woken; rw [hl, if_neg (by simp)]
  have hc : isCtl x = false := by simp [isCtl]; omega
  unfold take
  rw [hw, hc, if_neg (by simp)]
  unfold acts
  rcases ha with ha | ha
  · rw [if_neg (by omega), if_neg (by omega), if_neg (by omega), if_pos ha]
    unfold inCommand
    split
    · refine ⟨rfl, ?_⟩
      show ((param s x).at' = 3 ∨ (param s x).at' = 5) ∧ (param s x).late = false
      unfold param
      repeat' split
      · exact ⟨.inl ha, hl⟩
      · exact ⟨.inl ha, hl⟩
      · exact ⟨.inr rfl, rfl⟩
    · split
      · exact ⟨rfl, .inl ha, hl⟩
      · split
        · exact ⟨rfl, .inl ha, hl⟩
        · rw [if_neg (by omega), if_neg (by omega)]
          exact ⟨rfl, .inr rfl, rfl⟩
  · rw [if_neg (by omega), if_neg (by omega), if_neg (by omega), if_neg (by omega), if_neg (by omega)]
    unfold inSkip
    rw [if_neg (by omega)]
    exact ⟨rfl, .inr ha, hl⟩
theorem low_feed (l : List UInt8) : ∀ (s : St), (s.at' = 3 ∨ s.at' = 5) ∧ s.late = false → (∀ x, x ∈ l → 32 ≤ x.toNat ∧ x.toNat < 64) → (feed s l).2 = [] := by
  induction l with
  | nil => exact fun s _ _ => rfl
  | cons x l ih =>
    intro s hs hx
    obtain ⟨h1, h2⟩ := low_take s x hs (hx x (by simp)).1 (hx x (by simp)).2
    show (take s x).2 ++ (feed (take s x).1 l).2 = []
    rw [h1, ih _ h2 (fun y hy => hx y (by simp [hy]))]
    rfl
theorem dec_low (u : Nat) : ∀ x, x ∈ Lib.decDigits u → 32 ≤ x.toNat ∧ x.toNat < 64 := by
  induction u using Nat.strongRecOn with
  | _ u ih =>
    intro x hx
    rw [Lib.decDigits] at hx
    split at hx
    · rename_i h
      rw [List.mem_singleton.1 hx, UInt8.toNat_ofNat']
      omega
    · rename_i h
      rcases List.mem_append.1 hx with q | q
      · exact ih (u / 10) (by omega) x q
      · rw [List.mem_singleton.1 q, UInt8.toNat_ofNat']
        omega
theorem num_low (n : Int) (h : -1 ≤ n) : ∀ x, x ∈ numT n → 32 ≤ x.toNat ∧ x.toNat < 64 := by
  unfold numT
  split
  · exact fun x hx => absurd hx (by simp)
  · intro x hx
    unfold Lib.itoa at hx
    rw [if_neg (by omega)] at hx
    exact dec_low _ x hx
theorem ps_low : ∀ (l : List Int) (b : Bool), (∀ y, y ∈ l → -1 ≤ y ∧ y ≤ 9999) → ∀ x, x ∈ psL b l → 32 ≤ x.toNat ∧ x.toNat < 64
  | [], b, _, x, hx => by cases b <;> exact absurd hx (by simp [psL])
  | y :: l, true, h, x, hx => by
    rcases List.mem_append.1 hx with q | q
    · exact num_low y (h y (by simp)).1 x q
    · exact ps_low l false (fun z hz => h z (by simp [hz])) x q
  | y :: l, false, h, x, hx => by
    rcases List.mem_cons.1 hx with rfl | q
    · exact ⟨by decide, by decide⟩
    · rcases List.mem_append.1 q with q | q
      · exact num_low y (h y (by simp)).1 x q
      · exact ps_low l false (fun z hz => h z (by simp [hz])) x q
theorem mid_low {b : ByteArray} (h : allB isMid b = true) : ∀ x, x ∈ b.data.toList → 32 ≤ x.toNat ∧ x.toNat < 64 := fun x hx => by
  have := List.all_eq_true.1 h x hx
  simp only [isMid, Bool.and_eq_true, decide_eq_true_eq] at this
  omega
theorem mid_feed (l : List UInt8) (h : ∀ x, x ∈ l → isMid x = true) (hl : l.length ≤ 2) : (feed (bare 1) l).2 = [] := by
  have hc : ∀ x : UInt8, isMid x = true → isCtl x = false ∧ x.toNat ≠ 91 ∧ x.toNat ≠ 93 := fun x hx => by
    simp only [isMid, Bool.and_eq_true, decide_eq_true_eq] at hx
    refine ⟨?_, by omega, by omega⟩
    simp [isCtl]
    omega
  have h1 : ∀ x : UInt8, isMid x = true → take (bare 1) x = ({ bare 2 with mid := one x }, []) := fun x hx => by
    obtain ⟨a, b, c⟩ := hc x hx
    unfold take
    rw [show woken (bare 1) x = bare 1 from rfl, a, if_neg (by simp)]
    show inEscape x = _
    unfold inEscape
    rw [if_neg b, if_neg c, if_pos hx]
  match l, hl with
  | [], _ => rfl
  | [x], _ => simp only [feed, h1 x (h x (by simp)), List.append_nil]
  | [x, y], _ =>
    have hy := h y (by simp)
    obtain ⟨a, b, c⟩ := hc y hy
    have h2 : (take { bare 2 with mid := one x } y).2 = [] := by
      unfold take
      rw [show woken { bare 2 with mid := one x } y = { bare 2 with mid := one x } from rfl, a, if_neg (by simp)]
      show (inMiddle { bare 2 with mid := one x } y).2 = []
      unfold inMiddle
      rw [if_pos ⟨hy, by show (one x).size < 2; simp [one, ByteArray.size]⟩]
    simp only [feed, h1 x (h x (by simp)), h2, List.append_nil]
theorem bell_ne (s : St) : (take s 7).2 ≠ [] := by
  have e7 : ((7 : UInt8).toNat) = 7 := rfl
  unfold take
  by_cases h4 : (woken s 7).at' = 4
  · rw [if_neg (by rw [h4]; simp)]
    unfold acts
    rw [h4]
    simp [inSystem, e7]
  · rw [if_pos ⟨h4, by decide⟩]
    unfold control
    simp [e7]
theorem feed_byte (x : UInt8) (e : Ev) (h : (feed (bare 0) [x]).2 = [e]) : (feed (bare 0) [x]).1 = bare 0 := by
  cases hc : isCtl x with
  | true => exact feed_ctl x hc e h
  | false =>
    have e1 : feed (bare 0) [x] = ((take (bare 0) x).1, (take (bare 0) x).2) := by simp [feed]
    rw [e1] at h ⊢
    rw [show take (bare 0) x = take (gnd nt) x from rfl] at h ⊢
    cases hf : full (nt ++ one x) with
    | false =>
      rw [gnd_wait nt x hc hf] at h
      simp at h
    | true =>
      have hp := dec_pos (nt ++ one x) (full_pos hf)
      have hs : (nt ++ one x).size = 1 := snoc_size nt x
      rw [gnd_done nt x (Lib.decodeGo (nt ++ one x)).1 hc hf (by
        have : (Lib.decodeGo (nt ++ one x)).2 = (nt ++ one x).size := by omega
        rw [← this])]
theorem told_back (e : Ev) (h : (feed (bare 0) (evB e)).2 = [e]) : (feed (bare 0) (evB e)).1 = bare 0 := by
  have hv : Vd e := feed_vd (evB e) (bare 0) ok_zero e (by rw [h]; simp)
  unfold evB at h ⊢
  by_cases k1 : e.kind = 1
  · rw [if_pos k1] at h ⊢
    exact feed_encode _ e h
  · rw [if_neg k1] at h ⊢
    by_cases k2 : e.kind = 2
    · rw [if_pos k2] at h ⊢
      exact feed_byte _ e h
    · rw [if_neg k2] at h ⊢
      by_cases k3 : e.kind = 3
      · rw [if_pos k3] at h ⊢
        obtain ⟨hm, hs⟩ := hv.1 k3
        have ht : take (bare 0) 27 = (bare 1, []) := rfl
        have hf : ∀ l, feed (bare 0) (27 :: l) = feed (bare 1) l := fun l => by simp only [feed, ht, List.nil_append]
        rw [hf] at h ⊢
        rw [feed_snoc] at h ⊢
        have h0 : (feed (bare 1) e.mid.data.toList).2 = [] := mid_feed _ (fun x hx => List.all_eq_true.1 hm x hx) (by rw [Array.length_toList]; exact hs)
        rw [h0, List.nil_append] at h
        exact take_end _ _ e h (by omega)
      · rw [if_neg k3] at h ⊢
        by_cases k4 : e.kind = 4
        · rw [if_pos k4] at h ⊢
          obtain ⟨hmk, hps, hm⟩ := hv.2 k4
          have ht : take (bare 0) 27 = (bare 1, []) := rfl
          have ht2 : take (bare 1) 91 = (bare 3, []) := rfl
          have hf : ∀ l, feed (bare 0) (27 :: 91 :: l) = feed (bare 3) l := fun l => by simp only [feed, ht, ht2, List.nil_append]
          rw [hf] at h ⊢
          rw [feed_snoc] at h ⊢
          have h0 : (feed (bare 3) (markL e.mark ++ psL true e.ps ++ e.mid.data.toList)).2 = [] := low_feed _ _ ⟨.inl rfl, rfl⟩ (fun x hx => by
            rcases List.mem_append.1 hx with q | q
            · rcases List.mem_append.1 q with q | q
              · unfold markL at q
                split at q
                · exact absurd q (by simp)
                · rename_i hne
                  rcases hmk with hmk | hmk
                  · exact absurd hmk hne
                  · simp only [isMark, Bool.and_eq_true, decide_eq_true_eq] at hmk
                    rw [List.mem_singleton.1 q, byteN _ (by omega)]
                    omega
              · exact ps_low e.ps true hps x q
            · exact mid_low hm x q)
          rw [h0, List.nil_append] at h
          exact take_end _ _ e h (by omega)
        · rw [if_neg k4] at h ⊢
          by_cases k5 : e.kind = 5
          · rw [if_pos k5] at h ⊢
            have ht : take (bare 0) 27 = (bare 1, []) := rfl
            have ht2 : take (bare 1) 93 = (bare 4, []) := rfl
            have hf : ∀ l, feed (bare 0) (27 :: 93 :: l) = feed (bare 4) l := fun l => by simp only [feed, ht, ht2, List.nil_append]
            rw [hf] at h ⊢
            rw [feed_snoc] at h ⊢
            have hne := bell_ne (feed (bare 4) e.txt.data.toList).1
            generalize (feed (bare 4) e.txt.data.toList).1 = s1 at h hne ⊢
            have : (take s1 7).2 = [e] := by
              cases ht1 : (feed (bare 4) e.txt.data.toList).2 with
              | nil => rw [ht1, List.nil_append] at h; exact h
              | cons y l =>
                rw [ht1] at h
                simp only [List.cons_append, List.cons.injEq, List.append_eq_nil_iff] at h
                exact absurd h.2.2 hne
            exact take_end _ _ e this (by omega)
          · rw [if_neg k5] at h
            simp [feed] at h
theorem feed_all : ∀ (es : List Ev), (∀ e, e ∈ es → (feed (bare 0) (evB e)).2 = [e]) → feed (bare 0) (es.flatMap evB) = (bare 0, es)
  | [], _ => rfl
  | e :: es, h => by
    have h1 := h e (by simp)
    have h2 := told_back e h1
    rw [List.flatMap_cons, feed_append, h2, feed_all es (fun x hx => h x (by simp [hx])), h1]
    rfl
end Prs
end Go.Proofs.YtmgmdijhiplalaaDoor

/- Plain mathematics: which states a reader can be in, and that each byte leaves it in such a one. -/
import Derived.Test.YtmgmdijhiplalaaDoorParsePure
namespace Go.Proofs.YtmgmdijhiplalaaDoor
namespace Prs
def allB (p : UInt8 → Bool) (b : ByteArray) : Bool := b.data.toList.all p
def noParam (n : Int) : Bool := decide (n < -1) || decide (9999 < n)
def anyNo (l : List Int) : Bool := l.any noParam
def high (x : UInt8) : Bool := decide (32 ≤ x.toNat)
def parts (s : St) : Bool :=
  !(decide (s.at' = 2) && decide (s.mid.size = 0)) && ((decide (s.left.size = 0) || !full s.left) && ((decide (s.mark = 0) || isMark s.mark) && (decide (s.mid.size ≤ 2) && (allB isMid s.mid && (decide (s.ps.length ≤ 16) && (!anyNo s.ps && (decide (s.txt.size ≤ 64) && allB high s.txt)))))))
def isBare (s : St) : Bool := decide (s.mark = 0) && (decide (s.mid.size = 0) && (decide (s.ps.length = 0) && (decide (s.txt.size = 0) && (decide (s.left.size = 0) && !s.late))))
def restOf (s : St) : St :=
  if s.at' = 0 then { s with left := nt } else if s.at' = 2 then { s with mid := nt } else if s.at' = 3 then { s with mark := 0, mid := nt, ps := [] } else if s.at' = 4 then { s with txt := nt, late := false } else s
def okS (s : St) : Bool := (decide (0 ≤ s.at') && decide (s.at' ≤ 5)) && (isBare (restOf s) && parts s)
structure Ok (s : St) : Prop where
  a0 : 0 ≤ s.at'
  a5 : s.at' ≤ 5
  lf : s.at' = 0 ∨ s.left.size = 0
  md : s.at' = 2 ∨ s.at' = 3 ∨ s.mid.size = 0
  mz : s.at' = 3 ∨ s.mark = 0
  pz : s.at' = 3 ∨ s.ps = []
  tx : s.at' = 4 ∨ s.txt.size = 0
  lt : s.at' = 4 ∨ s.late = false
  m2 : s.at' = 2 → s.mid.size ≠ 0
  fl : s.left.size = 0 ∨ full s.left = false
  mm : s.mark = 0 ∨ isMark s.mark = true
  ms : s.mid.size ≤ 2
  ma : allB isMid s.mid = true
  pl : s.ps.length ≤ 16
  pa : ∀ y, y ∈ s.ps → -1 ≤ y ∧ y ≤ 9999
  tl : s.txt.size ≤ 64
  ta : allB high s.txt = true
theorem any_noParam (l : List Int) : anyNo l = false ↔ ∀ y, y ∈ l → -1 ≤ y ∧ y ≤ 9999 := by
  unfold anyNo
  induction l with
  | nil => simp
  | cons x l ih =>
    simp only [List.any_cons, Bool.or_eq_false_iff, ih, List.forall_mem_cons, noParam, decide_eq_false_iff_not]
    constructor
    · rintro ⟨⟨h1, h2⟩, h3⟩
      exact ⟨by omega, h3⟩
    · rintro ⟨⟨h1, h2⟩, h3⟩
      exact ⟨by omega, h3⟩
theorem nt_size : nt.size = 0 := rfl
theorem okS_iff (s : St) : okS s = true ↔ Ok s := by
  have hp : parts s = true ↔ (s.at' = 2 → s.mid.size ≠ 0) ∧ (s.left.size = 0 ∨ full s.left = false) ∧ (s.mark = 0 ∨ isMark s.mark = true) ∧ s.mid.size ≤ 2 ∧ allB isMid s.mid = true ∧ s.ps.length ≤ 16 ∧ (∀ y, y ∈ s.ps → -1 ≤ y ∧ y ≤ 9999) ∧ s.txt.size ≤ 64 ∧ allB high s.txt = true := by
    rw [← any_noParam]
    simp only [parts, Bool.and_eq_true, Bool.or_eq_true, Bool.not_eq_true', decide_eq_true_eq, Bool.and_eq_false_iff, decide_eq_false_iff_not]
    constructor
    · rintro ⟨h1, h2⟩
      exact ⟨fun h => h1.elim (fun g => absurd h g) id, h2⟩
    · rintro ⟨h1, h2⟩
      exact ⟨Classical.byCases (p := s.at' = 2) (fun h => .inr (h1 h)) (fun h => .inl h), h2⟩
  have hb : isBare (restOf s) = true ↔ (s.at' = 0 ∨ s.left.size = 0) ∧ (s.at' = 2 ∨ s.at' = 3 ∨ s.mid.size = 0) ∧ (s.at' = 3 ∨ s.mark = 0) ∧ (s.at' = 3 ∨ s.ps = []) ∧ (s.at' = 4 ∨ s.txt.size = 0) ∧ (s.at' = 4 ∨ s.late = false) := by
    unfold restOf isBare
    by_cases h0 : s.at' = 0
    · simp [h0, nt_size]; constructor <;> (intro h; simp [h])
    · by_cases h2 : s.at' = 2
      · simp [h2, nt_size]; constructor <;> (intro h; simp [h])
      · by_cases h3 : s.at' = 3
        · simp [h3, nt_size]; constructor <;> (intro h; simp [h])
        · by_cases h4 : s.at' = 4
          · simp [h4, nt_size]; constructor <;> (intro h; simp [h])
          · simp [h0, h2, h3, h4]; constructor <;> (intro h; simp [h])
  rw [show okS s = ((decide (0 ≤ s.at') && decide (s.at' ≤ 5)) && (isBare (restOf s) && parts s)) from rfl, Bool.and_eq_true, Bool.and_eq_true, Bool.and_eq_true, hp, hb, decide_eq_true_eq, decide_eq_true_eq]
  constructor
  · rintro ⟨⟨a, b⟩, ⟨c1, c2, c3, c4, c5, c6⟩, d1, d2, d3, d4, d5, d6, d7, d8, d9⟩
    exact ⟨a, b, c1, c2, c3, c4, c5, c6, d1, d2, d3, d4, d5, d6, d7, d8, d9⟩
  · rintro ⟨a, b, c1, c2, c3, c4, c5, c6, d1, d2, d3, d4, d5, d6, d7, d8, d9⟩
    exact ⟨⟨a, b⟩, ⟨c1, c2, c3, c4, c5, c6⟩, d1, d2, d3, d4, d5, d6, d7, d8, d9⟩
theorem Ok.fit {s : St} (h : Ok s) : Fit s := ⟨h.a0, h.a5, fun g => h.lt.elim id fun e => absurd g (by rw [e]; simp), h.pl, fun y hy => (h.pa y hy).2⟩
theorem ok_bare (a : Int) (h0 : 0 ≤ a) (h5 : a ≤ 5) (h2 : a ≠ 2) : Ok (bare a) :=
  ⟨h0, h5, .inr rfl, .inr (.inr rfl), .inr rfl, .inr rfl, .inr rfl, .inr rfl, fun h => absurd h h2, .inl rfl, .inl rfl, by simp [bare, nt_size], rfl, by simp [bare], fun y hy => absurd hy (by simp [bare]), by simp [bare, nt_size], rfl⟩
theorem firstT_len (x : Nat) : Lib.firstT x % 8 ≤ 4 := by
  unfold Lib.firstT
  repeat' split
  all_goals decide
theorem left_small {b : ByteArray} (h : b.size = 0 ∨ full b = false) : b.size ≤ 3 := by
  rcases h with h | h
  · omega
  · unfold full at h
    split at h
    · omega
    · unfold fullN at h
      have := firstT_len (b.get! 0).toNat
      split at h
      · simp at h
      · omega
theorem drain_not : ∀ (q : Nat) (D : ByteArray), D.size ≤ q → full (drain q D).2 = false
  | 0, D, h => by
    have : D.size = 0 := by omega
    simp [drain, full, this]
  | q + 1, D, h => by
    cases hf : full D with
    | false => rw [drain_stop _ _ hf]; exact hf
    | true =>
      rw [drain_go _ _ hf]
      have ⟨p1, p2⟩ := dec_pos D (full_pos hf)
      have hs : (D.extract (Lib.decodeGo D).2 D.size).size = D.size - (Lib.decodeGo D).2 := by rw [ByteArray.size_extract]; omega
      exact drain_not q _ (by omega)
theorem allB_snoc (p : UInt8 → Bool) (b : ByteArray) (x : UInt8) (h : allB p b = true) (hx : p x = true) : allB p (b ++ one x) = true := by
  unfold allB at h ⊢
  rw [ByteArray.data_append, Array.toList_append, List.all_append, h, show (one x).data.toList = [x] from rfl]
  simp [hx]
theorem snoc_size (b : ByteArray) (x : UInt8) : (b ++ one x).size = b.size + 1 := by rw [ByteArray.size_append]; rfl
theorem param_ok (s : St) (x : UInt8) (h : Ok s) (h3 : s.at' = 3) : Ok (param s x) := by
  have hb : ∀ y, y ∈ begun s.ps → -1 ≤ y ∧ y ≤ 9999 := by
    unfold begun
    split
    · intro y hy; simp at hy; omega
    · exact h.pa
  have hl : (begun s.ps).length ≤ 16 := (begun_fit s.ps h.pl (fun y hy => (h.pa y hy).2)).1
  have n0 : s.at' ≠ 2 := by omega
  unfold param
  split
  · rename_i hd
    refine ⟨h.a0, h.a5, h.lf, h.md, .inl h3, .inl h3, h.tx, h.lt, h.m2, h.fl, h.mm, h.ms, h.ma, by simp only [digit, List.length_set]; exact hl, fun y hy => ?_, h.tl, h.ta⟩
    rcases List.mem_or_eq_of_mem_set hy with g | g
    · exact hb y g
    · simp only [isDig, Bool.and_eq_true, decide_eq_true_eq] at hd
      rw [g]; omega
  · split
    · refine ⟨h.a0, h.a5, h.lf, h.md, .inl h3, .inl h3, h.tx, h.lt, h.m2, h.fl, h.mm, h.ms, h.ma, by simp only [List.length_append, List.length_singleton]; omega, fun y hy => ?_, h.tl, h.ta⟩
      rw [List.mem_append, List.mem_singleton] at hy
      rcases hy with g | g
      · exact hb y g
      · omega
    · exact ok_bare 5 (by omega) (by omega) (by omega)
theorem take_ok (s : St) (x : UInt8) (h : Ok s) : Ok (take s x).1 := by
  have hw : Ok (woken s x) := by
    unfold woken
    split
    · exact ok_bare 1 (by omega) (by omega) (by omega)
    · exact h
  unfold take
  generalize woken s x = s1 at hw ⊢
  split
  · unfold control
    have hz : Ok { s1 with left := nt } := ⟨hw.a0, hw.a5, .inr rfl, hw.md, hw.mz, hw.pz, hw.tx, hw.lt, hw.m2, .inl rfl, hw.mm, hw.ms, hw.ma, hw.pl, hw.pa, hw.tl, hw.ta⟩
    repeat' split
    · exact ok_bare 1 (by omega) (by omega) (by omega)
    · exact ok_bare 0 (by omega) (by omega) (by omega)
    · exact hz
    · exact hz
  · unfold acts
    split
    · rename_i h0
      exact ⟨hw.a0, hw.a5, .inl h0, hw.md, hw.mz, hw.pz, hw.tx, hw.lt, hw.m2, .inr (drain_not _ _ (Nat.le_refl _)), hw.mm, hw.ms, hw.ma, hw.pl, hw.pa, hw.tl, hw.ta⟩
    · split
      · unfold inEscape
        repeat' split
        · exact ok_bare 3 (by omega) (by omega) (by omega)
        · exact ok_bare 4 (by omega) (by omega) (by omega)
        · rename_i hm
          refine ⟨by simp [bare], by simp [bare], .inr rfl, .inl rfl, .inr rfl, .inr rfl, .inr rfl, .inr rfl, fun _ => by simp [one, ByteArray.size], .inl rfl, .inl rfl, by simp [one, ByteArray.size], ?_, by simp [bare], fun y hy => absurd hy (by simp [bare]), by simp [bare, nt_size], rfl⟩
          simp [allB, one, hm]
        · exact ok_bare 0 (by omega) (by omega) (by omega)
        · exact ok_bare 0 (by omega) (by omega) (by omega)
      · split
        · rename_i h2
          unfold inMiddle
          repeat' split
          · rename_i hc
            have hs := snoc_size s1.mid x
            exact ⟨hw.a0, hw.a5, hw.lf, .inl h2, hw.mz, hw.pz, hw.tx, hw.lt, fun _ => by simp only [hs]; omega, hw.fl, hw.mm, by simp only [hs]; omega, allB_snoc _ _ _ hw.ma hc.1, hw.pl, hw.pa, hw.tl, hw.ta⟩
          · exact ok_bare 0 (by omega) (by omega) (by omega)
          · exact ok_bare 0 (by omega) (by omega) (by omega)
        · split
          · rename_i h3
            unfold inCommand
            repeat' split
            · exact param_ok s1 x hw h3
            · rename_i hc
              exact ⟨hw.a0, hw.a5, hw.lf, hw.md, .inl h3, hw.pz, hw.tx, hw.lt, hw.m2, hw.fl, .inr hc.1, hw.ms, hw.ma, hw.pl, hw.pa, hw.tl, hw.ta⟩
            · rename_i hc
              have hs := snoc_size s1.mid x
              exact ⟨hw.a0, hw.a5, hw.lf, .inr (.inl h3), hw.mz, hw.pz, hw.tx, hw.lt, fun _ => by simp only [hs]; omega, hw.fl, hw.mm, by simp only [hs]; omega, allB_snoc _ _ _ hw.ma hc.1, hw.pl, hw.pa, hw.tl, hw.ta⟩
            · exact ok_bare 0 (by omega) (by omega) (by omega)
            · exact ok_bare 0 (by omega) (by omega) (by omega)
            · exact ok_bare 5 (by omega) (by omega) (by omega)
          · split
            · rename_i h4
              unfold inSystem
              repeat' split
              · exact ok_bare 0 (by omega) (by omega) (by omega)
              · exact ⟨hw.a0, hw.a5, hw.lf, hw.md, hw.mz, hw.pz, hw.tx, .inl h4, hw.m2, hw.fl, hw.mm, hw.ms, hw.ma, hw.pl, hw.pa, hw.tl, hw.ta⟩
              · exact ok_bare 0 (by omega) (by omega) (by omega)
              · rename_i hc
                have hs := snoc_size s1.txt x
                exact ⟨hw.a0, hw.a5, hw.lf, hw.md, hw.mz, hw.pz, .inl h4, hw.lt, hw.m2, hw.fl, hw.mm, hw.ms, hw.ma, hw.pl, hw.pa, by simp only [hs]; omega, allB_snoc _ _ _ hw.ta (by simp [high, hc.1])⟩
              · exact hw
            · unfold inSkip
              split
              · exact ok_bare 0 (by omega) (by omega) (by omega)
              · exact hw
theorem feed_okS (l : List UInt8) : ∀ (s : St), Ok s → Ok (feed s l).1 := by
  induction l with
  | nil => exact fun s h => h
  | cons x l ih => exact fun s h => ih _ (take_ok s x h)
/-- Behind a byte 24 a reader is in its ground. -/
theorem take_24 (s : St) : (take s 24).1 = bare 0 := by
  have e : ((24 : UInt8).toNat) = 24 := rfl
  unfold take
  by_cases hl : s.late = true
  · have hw : woken s 24 = bare 1 := by simp [woken, hl, e]
    rw [hw]
    simp [isCtl, e, control, bare]
  · have hw : woken s 24 = s := by simp [woken, hl]
    rw [hw]
    by_cases h4 : s.at' = 4
    · simp [h4, acts, inSystem, hl, e]
    · simp [h4, isCtl, e, control]
theorem full_a : full (one 97) = true := by decide
theorem dec_a : Lib.decodeGo (one 97) = (97, 1) := by decide
theorem take_a : take (bare 0) 97 = (bare 0, [evP 97]) := by
  have e : nt ++ one 97 = one 97 := by decide
  have e1 : (one 97).size = 0 + 1 := rfl
  have e2 : (one 97).extract 1 (one 97).size = nt := by decide
  have hd : drain (nt ++ one 97).size (nt ++ one 97) = ([evP 97], nt) := by
    rw [e]
    show drain (0 + 1) (one 97) = _
    rw [drain_go _ _ full_a, dec_a, e2]
    rfl
  have ht : take (bare 0) 97 = inGround (bare 0) 97 := rfl
  have hg : inGround (bare 0) 97 = ({ bare 0 with left := (drain (nt ++ one 97).size (nt ++ one 97)).2 }, (drain (nt ++ one 97).size (nt ++ one 97)).1) := rfl
  rw [ht, hg, hd]
  rfl
theorem always (s : St) : ∃ es, feed s [24, 24, 97] = (bare 0, es ++ [evP 97]) ∧ es.length ≤ s.left.size + 2 := by
  refine ⟨(take s 24).2 ++ (take (bare 0) 24).2, ?_, ?_⟩
  · simp only [feed, take_24, take_a, List.append_nil, List.append_assoc]
  · have h1 := take_tot s 24
    have h2 := take_tot (bare 0) 24
    rw [size_bare] at h2
    rw [List.length_append]
    omega
end Prs
end Go.Proofs.YtmgmdijhiplalaaDoor

/- Plain mathematics: a rune that is encoded is read as it. -/
import Derived.Test.YtmgmdijhiplalaaDoorParseBackM
namespace Go.Proofs.YtmgmdijhiplalaaDoor
namespace Prs
open Go.Lib (firstT accLo accHi)
theorem fT2 (b : Nat) (h0 : 194 ≤ b) (h1 : b < 224) : firstT b = 2 := by
  unfold Lib.firstT
  rw [if_neg (by omega), if_neg (by omega), if_pos (by omega)]
theorem fT3 (b : Nat) (h0 : 224 ≤ b) (h1 : b < 240) : (b = 224 ∧ firstT b = 19) ∨ (b = 237 ∧ firstT b = 35) ∨ (b ≠ 224 ∧ b ≠ 237 ∧ firstT b = 3) := by
  unfold Lib.firstT
  repeat' split
  all_goals omega
theorem fT4 (b : Nat) (h0 : 240 ≤ b) (h1 : b ≤ 244) : (b = 240 ∧ firstT b = 52) ∨ (b = 244 ∧ firstT b = 68) ∨ (b ≠ 240 ∧ b ≠ 244 ∧ firstT b = 4) := by
  unfold Lib.firstT
  repeat' split
  all_goals omega
theorem fullN_end (n x0 x1 x2 : Nat) (h : firstT x0 % 8 ≤ n) : fullN n x0 x1 x2 = true := by unfold fullN; rw [if_pos h]
theorem fullN_one (x0 x1 x2 : Nat) (h : ¬ firstT x0 % 8 ≤ 1) : fullN 1 x0 x1 x2 = false := by
  unfold fullN
  rw [if_neg h, if_neg (by omega)]
  simp
theorem fullN_two (x0 x1 x2 : Nat) (h : ¬ firstT x0 % 8 ≤ 2) (h1 : accLo (firstT x0 / 16) ≤ x1 ∧ x1 ≤ accHi (firstT x0 / 16)) : fullN 2 x0 x1 x2 = false := by
  unfold fullN
  rw [if_neg h, if_neg (by omega)]
  simp
theorem fullN_three (x0 x1 x2 : Nat) (h : ¬ firstT x0 % 8 ≤ 3) (h1 : accLo (firstT x0 / 16) ≤ x1 ∧ x1 ≤ accHi (firstT x0 / 16)) (h2 : 128 ≤ x2 ∧ x2 ≤ 191) : fullN 3 x0 x1 x2 = false := by
  unfold fullN
  rw [if_neg h, if_neg (by omega)]
  simp
  omega
theorem decN_two (n c b2 b3 : Nat) (hn : 2 ≤ n) (h0 : 128 ≤ c) (h1 : c ≤ 2047) : Lib.decodeN n (192 + c / 64) (128 + c % 64) b2 b3 = (c, 2) := by
  unfold Lib.decodeN
  rw [if_neg (by omega), if_pos ⟨by omega, by omega, by omega⟩, if_pos (by omega)]
  congr 1; omega
theorem decN_three (n c b3 : Nat) (hn : 3 ≤ n) (h : (2048 ≤ c ∧ c < 55296) ∨ (57343 < c ∧ c ≤ 65535)) : Lib.decodeN n (224 + c / 4096) (128 + c / 64 % 64) (128 + c % 64) b3 = (c, 3) := by
  unfold Lib.decodeN
  have e : (224 + c / 4096) % 16 * 4096 + (128 + c / 64 % 64) % 64 * 64 + (128 + c % 64) % 64 = c := by omega
  rw [if_neg (by omega), if_neg (by omega), if_pos ⟨by omega, ⟨by omega, by omega⟩, by omega, by omega⟩, e, if_pos (by omega)]
theorem decN_four (n c : Nat) (hn : 4 ≤ n) (h0 : 65536 ≤ c) (h1 : c ≤ 1114111) : Lib.decodeN n (240 + c / 262144) (128 + c / 4096 % 64) (128 + c / 64 % 64) (128 + c % 64) = (c, 4) := by
  unfold Lib.decodeN
  have e : (240 + c / 262144) % 8 * 262144 + (128 + c / 4096 % 64) % 64 * 4096 + (128 + c / 64 % 64) % 64 * 64 + (128 + c % 64) % 64 = c := by omega
  rw [if_neg (by omega), if_neg (by omega), if_neg (by omega), if_pos ⟨by omega, ⟨by omega, by omega⟩, ⟨by omega, by omega⟩, by omega, by omega⟩, e, if_pos (by omega)]
theorem feed_two (c : Nat) (h0 : 128 ≤ c) (h1 : c ≤ 2047) : feed (bare 0) [(192 + c / 64).toUInt8, (128 + c % 64).toUInt8] = (bare 0, [evP c]) := by
  have e0 := byteN (192 + c / 64) (by omega)
  have e1 := byteN (128 + c % 64) (by omega)
  have hT := fT2 (192 + c / 64) (by omega) (by omega)
  refine feed_rune _ _ c 2 (by rw [e0]; omega) (fun x hx => ?_) rfl (fun k hk1 hk2 => ?_) ?_ ?_ (by omega)
  · simp only [List.mem_cons, List.not_mem_nil, or_false] at hx
    rw [hx, e1]; omega
  · obtain rfl : k = 1 := by omega
    rw [fullB]
    simp only [List.take_succ_cons, List.take_zero, List.length_cons, List.length_nil, List.getD_cons_zero, e0]
    rw [if_neg (by omega)]
    exact fullN_one _ _ _ (by rw [hT]; omega)
  · rw [fullB]
    simp only [List.length_cons, List.length_nil, List.getD_cons_zero, e0]
    rw [if_neg (by omega)]
    exact fullN_end _ _ _ _ (by rw [hT]; omega)
  · rw [decB _ (by simp)]
    simp only [List.length_cons, List.length_nil, List.getD_cons_zero, List.getD_cons_succ, List.getD_nil, e0, e1]
    exact decN_two _ c _ _ (by omega) h0 h1
theorem feed_three (c : Nat) (h : (2048 ≤ c ∧ c < 55296) ∨ (57343 < c ∧ c ≤ 65535)) : feed (bare 0) [(224 + c / 4096).toUInt8, (128 + c / 64 % 64).toUInt8, (128 + c % 64).toUInt8] = (bare 0, [evP c]) := by
  have e0 := byteN (224 + c / 4096) (by omega)
  have e1 := byteN (128 + c / 64 % 64) (by omega)
  have e2 := byteN (128 + c % 64) (by omega)
  have hT := fT3 (224 + c / 4096) (by omega) (by omega)
  have h3 : firstT (224 + c / 4096) % 8 = 3 := by rcases hT with ⟨_, q⟩ | ⟨_, q⟩ | ⟨_, _, q⟩ <;> rw [q]
  have ha : accLo (firstT (224 + c / 4096) / 16) ≤ 128 + c / 64 % 64 ∧ 128 + c / 64 % 64 ≤ accHi (firstT (224 + c / 4096) / 16) := by
    rcases hT with ⟨hb, q⟩ | ⟨hb, q⟩ | ⟨hb, hb2, q⟩
    · rw [q]; simp only [Lib.accLo, Lib.accHi]; simp; omega
    · rw [q]; simp only [Lib.accLo, Lib.accHi]; simp; omega
    · rw [q]; simp only [Lib.accLo, Lib.accHi]; simp; omega
  refine feed_rune _ _ c 3 (by rw [e0]; omega) (fun x hx => ?_) rfl (fun k hk1 hk2 => ?_) ?_ ?_ (by omega)
  · simp only [List.mem_cons, List.not_mem_nil, or_false] at hx
    rcases hx with rfl | rfl
    · rw [e1]; omega
    · rw [e2]; omega
  · rcases (by omega : k = 1 ∨ k = 2) with rfl | rfl
    · rw [fullB]
      simp only [List.take_succ_cons, List.take_zero, List.length_cons, List.length_nil, List.getD_cons_zero, e0]
      rw [if_neg (by omega)]
      exact fullN_one _ _ _ (by omega)
    · rw [fullB]
      simp only [List.take_succ_cons, List.take_zero, List.length_cons, List.length_nil, List.getD_cons_zero, List.getD_cons_succ, e0, e1]
      rw [if_neg (by omega)]
      exact fullN_two _ _ _ (by omega) ha
  · rw [fullB]
    simp only [List.length_cons, List.length_nil, List.getD_cons_zero, e0]
    rw [if_neg (by omega)]
    exact fullN_end _ _ _ _ (by omega)
  · rw [decB _ (by simp)]
    simp only [List.length_cons, List.length_nil, List.getD_cons_zero, List.getD_cons_succ, List.getD_nil, e0, e1, e2]
    exact decN_three _ c _ (by omega) h
theorem feed_four (c : Nat) (h0 : 65536 ≤ c) (h1 : c ≤ 1114111) : feed (bare 0) [(240 + c / 262144).toUInt8, (128 + c / 4096 % 64).toUInt8, (128 + c / 64 % 64).toUInt8, (128 + c % 64).toUInt8] = (bare 0, [evP c]) := by
  have e0 := byteN (240 + c / 262144) (by omega)
  have e1 := byteN (128 + c / 4096 % 64) (by omega)
  have e2 := byteN (128 + c / 64 % 64) (by omega)
  have e3 := byteN (128 + c % 64) (by omega)
  have hT := fT4 (240 + c / 262144) (by omega) (by omega)
  have h4 : firstT (240 + c / 262144) % 8 = 4 := by rcases hT with ⟨_, q⟩ | ⟨_, q⟩ | ⟨_, _, q⟩ <;> rw [q]
  have ha : accLo (firstT (240 + c / 262144) / 16) ≤ 128 + c / 4096 % 64 ∧ 128 + c / 4096 % 64 ≤ accHi (firstT (240 + c / 262144) / 16) := by
    rcases hT with ⟨hb, q⟩ | ⟨hb, q⟩ | ⟨hb, hb2, q⟩
    · rw [q]; simp only [Lib.accLo, Lib.accHi]; simp; omega
    · rw [q]; simp only [Lib.accLo, Lib.accHi]; simp; omega
    · rw [q]; simp only [Lib.accLo, Lib.accHi]; simp; omega
  refine feed_rune _ _ c 4 (by rw [e0]; omega) (fun x hx => ?_) rfl (fun k hk1 hk2 => ?_) ?_ ?_ (by omega)
  · simp only [List.mem_cons, List.not_mem_nil, or_false] at hx
    rcases hx with rfl | rfl | rfl
    · rw [e1]; omega
    · rw [e2]; omega
    · rw [e3]; omega
  · rcases (by omega : k = 1 ∨ k = 2 ∨ k = 3) with rfl | rfl | rfl
    · rw [fullB]
      simp only [List.take_succ_cons, List.take_zero, List.length_cons, List.length_nil, List.getD_cons_zero, e0]
      rw [if_neg (by omega)]
      exact fullN_one _ _ _ (by omega)
    · rw [fullB]
      simp only [List.take_succ_cons, List.take_zero, List.length_cons, List.length_nil, List.getD_cons_zero, List.getD_cons_succ, e0, e1]
      rw [if_neg (by omega)]
      exact fullN_two _ _ _ (by omega) ha
    · rw [fullB]
      simp only [List.take_succ_cons, List.take_zero, List.length_cons, List.length_nil, List.getD_cons_zero, List.getD_cons_succ, e0, e1, e2]
      rw [if_neg (by omega)]
      exact fullN_three _ _ _ (by omega) ha (by omega)
  · rw [fullB]
    simp only [List.length_cons, List.length_nil, List.getD_cons_zero, e0]
    rw [if_neg (by omega)]
    exact fullN_end _ _ _ _ (by omega)
  · rw [decB _ (by simp)]
    simp only [List.length_cons, List.length_nil, List.getD_cons_zero, List.getD_cons_succ, e0, e1, e2, e3]
    exact decN_four _ c (by omega) h0 h1
/-- One byte below 128, in the ground. -/
theorem feed_ascii (x : UInt8) (hx : x.toNat < 128) (hc : isCtl x = false) : feed (bare 0) [x] = (bare 0, [evP x.toNat]) := by
  have hf : full (nt ++ one x) = true := by
    rw [show nt ++ one x = ⟨[x].toArray⟩ by apply ByteArray.ext; simp [nt, one], fullB]
    simp only [List.length_cons, List.length_nil, List.getD_cons_zero]
    rw [if_neg (by omega)]
    exact fullN_end _ _ _ _ (by unfold Lib.firstT; rw [if_pos hx]; omega)
  have hd : Lib.decodeGo (nt ++ one x) = (x.toNat, (nt ++ one x).size) := by
    rw [snoc_size, show nt ++ one x = ⟨[x].toArray⟩ by apply ByteArray.ext; simp [nt, one], decB _ (by simp)]
    simp only [List.length_cons, List.length_nil, List.getD_cons_zero]
    unfold Lib.decodeN
    rw [if_pos hx]
    rfl
  have := gnd_done nt x x.toNat hc hf hd
  show ((feed (take (bare 0) x).1 []).1, (take (bare 0) x).2 ++ (feed (take (bare 0) x).1 []).2) = _
  rw [show take (bare 0) x = take (gnd nt) x from rfl, this]
  rfl
theorem feed_ctl (x : UInt8) (hc : isCtl x = true) (e : Ev) (h : (feed (bare 0) [x]).2 = [e]) : (feed (bare 0) [x]).1 = bare 0 := by
  have e1 : feed (bare 0) [x] = ((take (bare 0) x).1, (take (bare 0) x).2) := by simp [feed]
  have ht : take (bare 0) x = control (bare 0) x := by
    unfold take
    rw [show woken (bare 0) x = bare 0 from rfl, hc, if_pos ⟨by simp [bare], rfl⟩]
  rw [e1, ht] at h ⊢
  unfold control at h ⊢
  have hl : (bare 0).left.size = 0 := rfl
  rw [hl] at h
  by_cases h27 : x.toNat = 27
  · simp [h27] at h
  · rw [if_neg h27] at h ⊢
    by_cases h24 : x.toNat = 24 ∨ x.toNat = 26
    · rw [if_pos h24]
    · rw [if_neg h24]
      split <;> rfl
theorem feed_encode (r : Int) (e : Ev) (h : (feed (bare 0) (Lib.encodeRune r)).2 = [e]) : (feed (bare 0) (Lib.encodeRune r)).1 = bare 0 := by
  unfold Lib.encodeRune at h ⊢
  by_cases h1 : 0 ≤ r ∧ r ≤ 127
  · rw [Lib.encodeRuneZ_one h1.1 h1.2] at h ⊢
    simp only [List.map_cons, List.map_nil] at h ⊢
    cases hc : isCtl r.toNat.toUInt8 with
    | true => exact feed_ctl _ hc e h
    | false => rw [feed_ascii _ (by rw [byteN _ (by omega)]; omega) hc]
  · by_cases h2 : 128 ≤ r ∧ r ≤ 2047
    · obtain ⟨c, rfl⟩ := Int.eq_ofNat_of_zero_le (show 0 ≤ r by omega)
      rw [Lib.encodeRuneZ_two h2.1 h2.2] at h ⊢
      have := feed_two c (by omega) (by omega)
      simp only [List.map_cons, List.map_nil] at h ⊢
      rw [show ((192 : Int) + (c : Int) / 64).toNat = 192 + c / 64 by omega, show ((128 : Int) + (c : Int) % 64).toNat = 128 + c % 64 by omega, this]
    · by_cases h3 : (2048 ≤ r ∧ r < 55296) ∨ (57343 < r ∧ r ≤ 65535)
      · obtain ⟨c, rfl⟩ := Int.eq_ofNat_of_zero_le (show 0 ≤ r by omega)
        rw [Lib.encodeRuneZ_three h3] at h ⊢
        have := feed_three c (by omega)
        simp only [List.map_cons, List.map_nil] at h ⊢
        rw [show ((224 : Int) + (c : Int) / 4096).toNat = 224 + c / 4096 by omega, show ((128 : Int) + (c : Int) / 64 % 64).toNat = 128 + c / 64 % 64 by omega, show ((128 : Int) + (c : Int) % 64).toNat = 128 + c % 64 by omega, this]
      · by_cases h4 : 65536 ≤ r ∧ r ≤ 1114111
        · obtain ⟨c, rfl⟩ := Int.eq_ofNat_of_zero_le (show 0 ≤ r by omega)
          rw [Lib.encodeRuneZ_four h4.1 h4.2] at h ⊢
          have := feed_four c (by omega) (by omega)
          simp only [List.map_cons, List.map_nil] at h ⊢
          rw [show ((240 : Int) + (c : Int) / 262144).toNat = 240 + c / 262144 by omega, show ((128 : Int) + (c : Int) / 4096 % 64).toNat = 128 + c / 4096 % 64 by omega, show ((128 : Int) + (c : Int) / 64 % 64).toNat = 128 + c / 64 % 64 by omega, show ((128 : Int) + (c : Int) % 64).toNat = 128 + c % 64 by omega, this]
        · have e5 : Lib.encodeRuneZ r = [239, 191, 189] := by
            unfold Lib.encodeRuneZ
            rw [if_neg h1, if_neg h2, if_neg h3, if_neg h4]
          rw [e5] at h ⊢
          have := feed_three 65533 (by omega)
          simp only [List.map_cons, List.map_nil] at h ⊢
          exact congrArg Prod.fst this
end Prs
end Go.Proofs.YtmgmdijhiplalaaDoor

/- Plain mathematics: what a reader keeps to, byte by byte. -/
import Derived.Test.YtmgmdijhiplalaaDoorParseTake
namespace Go.Proofs.YtmgmdijhiplalaaDoor
namespace Prs
theorem drain_tot : ∀ (q : Nat) (D : ByteArray), (drain q D).1.length + (drain q D).2.size ≤ D.size
  | 0, D => by simp [drain]
  | q + 1, D => by
    cases hf : full D with
    | false => rw [drain_stop _ _ hf]; simp
    | true =>
      rw [drain_go _ _ hf]
      have h := drain_tot q (D.extract (Lib.decodeGo D).2 D.size)
      have ⟨p1, p2⟩ := dec_pos D (full_pos hf)
      have hs : (D.extract (Lib.decodeGo D).2 D.size).size = D.size - (Lib.decodeGo D).2 := by rw [ByteArray.size_extract]; omega
      rw [hs] at h
      simp only [List.length_cons]
      omega
theorem fit_bare (a : Int) (h0 : 0 ≤ a) (h5 : a ≤ 5) : Fit (bare a) := ⟨h0, h5, fun h => absurd h (by simp [bare]), by simp [bare], fun y hy => absurd hy (by simp [bare])⟩
theorem begun_fit (l : List Int) (h16 : l.length ≤ 16) (hlo : ∀ y, y ∈ l → y ≤ 9999) : (begun l).length ≤ 16 ∧ (∀ y, y ∈ begun l → y ≤ 9999) := by
  unfold begun
  split
  · exact ⟨by simp, fun y hy => by simp at hy; omega⟩
  · exact ⟨h16, hlo⟩
theorem param_fit (s : St) (x : UInt8) (hF : Fit s) : Fit (param s x) := by
  obtain ⟨f0, f5, fl, h16, hlo⟩ := hF
  obtain ⟨b1, b2⟩ := begun_fit s.ps h16 hlo
  unfold param
  split
  · refine ⟨f0, f5, fl, by simp only [digit, List.length_set]; exact b1, fun y hy => ?_⟩
    rcases List.mem_or_eq_of_mem_set hy with h | h
    · exact b2 y h
    · rw [h]; omega
  · split
    · refine ⟨f0, f5, fl, by simp only [List.length_append, List.length_singleton]; omega, fun y hy => ?_⟩
      rw [List.mem_append, List.mem_singleton] at hy
      rcases hy with h | h
      · exact b2 y h
      · omega
    · exact fit_bare 5 (by omega) (by omega)
theorem woken_fit (s : St) (x : UInt8) (hF : Fit s) : Fit (woken s x) := by
  unfold woken
  split
  · exact fit_bare 1 (by omega) (by omega)
  · exact hF
theorem take_fit (s : St) (x : UInt8) (hF : Fit s) : Fit (take s x).1 := by
  have hw := woken_fit s x hF
  unfold take
  generalize woken s x = s1 at hw ⊢
  obtain ⟨f0, f5, fl, h16, hlo⟩ := hw
  split
  · unfold control
    split
    · exact fit_bare 1 (by omega) (by omega)
    · split
      · exact fit_bare 0 (by omega) (by omega)
      · split
        · exact ⟨f0, f5, fl, h16, hlo⟩
        · exact ⟨f0, f5, fl, h16, hlo⟩
  · unfold acts
    split
    · exact ⟨f0, f5, fl, h16, hlo⟩
    · split
      · unfold inEscape
        repeat' split
        all_goals first | exact fit_bare _ (by omega) (by omega) | exact ⟨by simp [bare], by simp [bare], by simp [bare], by simp [bare], by simp [bare]⟩
      · split
        · unfold inMiddle
          repeat' split
          all_goals first | exact fit_bare _ (by omega) (by omega) | exact ⟨f0, f5, fl, h16, hlo⟩
        · split
          · unfold inCommand
            repeat' split
            all_goals first | exact fit_bare _ (by omega) (by omega) | exact ⟨f0, f5, fl, h16, hlo⟩ | exact param_fit s1 x ⟨f0, f5, fl, h16, hlo⟩
          · split
            · rename_i h4
              unfold inSystem
              repeat' split
              all_goals first | exact fit_bare _ (by omega) (by omega) | exact ⟨f0, f5, fl, h16, hlo⟩ | exact ⟨f0, f5, fun _ => h4, h16, hlo⟩
            · unfold inSkip
              split
              · exact fit_bare 0 (by omega) (by omega)
              · exact ⟨f0, f5, fl, h16, hlo⟩
theorem size_bare (a : Int) : (bare a).left.size = 0 := rfl
theorem param_left (s : St) (x : UInt8) : (param s x).left.size ≤ s.left.size := by
  unfold param
  repeat' split
  all_goals simp [size_bare]
theorem woken_left (s : St) (x : UInt8) : (woken s x).left.size ≤ s.left.size := by
  unfold woken
  split
  · simp [size_bare]
  · exact Nat.le_refl _
theorem take_tot (s : St) (x : UInt8) : (take s x).2.length + (take s x).1.left.size ≤ s.left.size + 1 := by
  have hw := woken_left s x
  have hnt : nt.size = 0 := rfl
  unfold take
  generalize woken s x = s1 at hw ⊢
  split
  · unfold control
    repeat' split
    all_goals simp [size_bare, hnt]
    all_goals omega
  · unfold acts
    split
    · unfold inGround
      have h := drain_tot (s1.left ++ one x).size (s1.left ++ one x)
      have e : (s1.left ++ one x).size = s1.left.size + 1 := by rw [ByteArray.size_append]; rfl
      rw [e] at h
      simp only [e]
      omega
    · split
      · unfold inEscape
        repeat' split
        all_goals simp [bare, hnt]
      · split
        · unfold inMiddle
          repeat' split
          all_goals simp [size_bare]
          all_goals omega
        · split
          · have hp := param_left s1 x
            unfold inCommand
            repeat' split
            all_goals simp [size_bare]
            all_goals omega
          · split
            · unfold inSystem
              repeat' split
              all_goals simp [size_bare]
              all_goals omega
            · unfold inSkip
              split
              all_goals simp [size_bare]
              all_goals omega
end Prs
end Go.Proofs.YtmgmdijhiplalaaDoor

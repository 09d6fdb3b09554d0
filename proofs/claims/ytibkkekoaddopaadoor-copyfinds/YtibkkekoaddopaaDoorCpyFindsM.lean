/- Package copying: what is pure: what is taken from where a text was found on begins with it. -/
import Derived.Test.YtibkkekoaddopaaDoorCpyMoveE
import Derived.Test.YtibkkekoaddopaaDoorCpySeekC
import Derived.Test.YtibkkekoaddopaaDoorCpyTake
namespace Go.Proofs.YtibkkekoaddopaaDoor
open Go.ChangeShapes Go.WideShapes Go.ChangeAt Go.RowKit Go.Maps
namespace Cpy
open Txt (bs wideS)
theorem find_spec {S : List (Int × Int)} {ws : List Int} {i : Nat} {c : Int} (h : findM S ws i = c) (hc : 0 ≤ c) : ∃ j, (S.map (·.2))[j]? = some c ∧ ws <+: (S.map (·.1)).drop j := by
  unfold findM at h
  cases hp : pos ws ((S.map (·.1)).drop i) with
  | none => rw [hp] at h; simp only [] at h; omega
  | some k =>
    rw [hp] at h
    obtain ⟨h1, h2, _⟩ := pos_some _ _ _ hp
    have hik : i + k < (S.map (·.2)).length := by simp at h1 ⊢; omega
    simp only [] at h
    rw [List.getD_eq_getElem?_getD, List.getElem?_eq_getElem hik] at h
    refine ⟨i + k, by rw [List.getElem?_eq_getElem hik, ← h]; rfl, ?_⟩
    rwa [List.drop_drop] at h2
theorem seek_spec {L : List ByteArray} {ws : List Int} {y : Nat} (hL : 0 < L.length) : ∀ (g i fr : Nat) (c yy : Int), seekG L ws y g i fr = some (c, yy) → ∃ Y : Nat, Y < L.length ∧ yy = Y ∧ 0 ≤ c ∧ ∃ fr', findM (sp (ln L Y)) ws fr' = c
  | 0, _, _, _, _, h => by cases h
  | g + 1, i, fr, c, yy, h => by
    unfold seekG at h
    split at h
    · rename_i h0
      obtain ⟨h1, h2⟩ := Prod.mk.inj (Option.some.inj h)
      exact ⟨(y + i) % L.length, Nat.mod_lt _ hL, h2.symm, by omega, fr, h1⟩
    · exact seek_spec hL g (i + 1) 0 c yy h
theorem atI_get : ∀ (cs : List Int) (j : Nat) (c : Int), cs.Pairwise (· < ·) → cs[j]? = some c → atI cs c = j
  | [], j, c, _, h => by simp at h
  | x :: t, j, c, hp, h => by
    rw [List.pairwise_cons] at hp
    unfold atI
    rw [List.countP_cons]
    cases j with
    | zero =>
      obtain rfl : x = c := by simpa using h
      have : t.countP (fun y => decide (y ≤ x)) = 0 := by
        rw [List.countP_eq_zero]
        intro a ha
        have := hp.1 a ha
        simp
        omega
      rw [this]
      simp
    | succ j =>
      have h2 : t[j]? = some c := by simpa using h
      have := hp.1 c (List.mem_of_getElem? h2)
      have ih := atI_get t j c hp.2 h2
      unfold atI at ih
      have : decide (x ≤ c) = true := decide_eq_true (by omega)
      rw [this]
      simp only [if_true]
      omega
theorem le_end {cs : List Int} {j : Nat} {c : Int} (hp : cs.Pairwise (· < ·)) (h : cs[j]? = some c) : c ≤ endI cs := by
  obtain ⟨hj, rfl⟩ := List.getElem?_eq_some_iff.1 h
  rw [endI_get cs (by omega)]
  by_cases e : j = cs.length - 1
  · subst e; exact Int.le_refl _
  · have := List.pairwise_iff_getElem.1 hp j (cs.length - 1) hj (by omega) (by omega)
    omega
theorem all_le_end {cs : List Int} (hp : cs.Pairwise (· < ·)) : ∀ c ∈ cs, c ≤ endI cs := by
  intro c hc
  obtain ⟨j, hj⟩ := List.getElem?_of_mem hc
  exact le_end hp hj
theorem end_nonneg (s : ByteArray) : 0 ≤ endI (cols s) := by
  by_cases h : (cols s).length = 0
  · have : cols s = [] := List.length_eq_zero_iff.1 h
    rw [this]; decide
  · rw [endI_get _ (by omega)]
    have hm : (cols s)[(cols s).length - 1] ∈ cols s := List.getElem_mem _
    obtain ⟨x, hx, e⟩ := List.mem_map.1 hm
    rw [← e]
    exact sp_pos s x hx
theorem bet_from (L : List ByteArray) (Y j : Nat) (c : Int) (h : (cols (ln L Y))[j]? = some c) : (betM L c Y (endI (cols (ln L Y))) Y).data.toList = E (((sp (ln L Y)).map (·.1)).drop j) := by
  have hlt := sp_lt (ln L Y)
  have hj : j < (sp (ln L Y)).length := by
    obtain ⟨hj, _⟩ := List.getElem?_eq_some_iff.1 h
    rwa [cols_len] at hj
  have hw : ¬ wideS (ln L Y) ≤ c := by
    obtain ⟨x, hx, e⟩ := List.mem_map.1 (List.mem_of_getElem? h)
    have := spots_wide (Txt.runes (ln L Y)) 0 x hx
    unfold wideS
    omega
  unfold betM partsM
  rw [show Y + 1 - Y = 1 by omega]
  simp only [List.range_one, List.map_cons, List.map_nil, Lib.join_one]
  rw [bs_data, bytes_E]
  congr 1
  unfold partM frM toM
  rw [Nat.add_zero]
  simp only [beq_self_eq_true, if_true, if_neg hw]
  rw [atI_get (cols (ln L Y)) j c hlt h, atI_all (cols (ln L Y)) _ (all_le_end hlt), cols_len, Int.toNat_natCast]
  rw [show ((sp (ln L Y)).length : Int) - 1 + 1 = ((sp (ln L Y)).length : Int) by omega, Int.toNat_natCast]
  rw [List.take_of_length_le (by simp)]
theorem chk_of {L : List ByteArray} {k : Cp} (h1 : 1 ≤ L.length) (h2 : L.length ≤ 110) (h3 : ∀ s ∈ L, s.size ≤ 4000) (h4 : 0 ≤ k.y ∧ k.y < L.length ∧ 0 ≤ k.x ∧ k.x ≤ 120) (h5 : 0 ≤ k.fy ∧ k.fy < L.length ∧ 0 ≤ k.fx ∧ k.fx ≤ 120) : chk L k = 0 := by
  have hl : okL L = true := by
    unfold okL
    have : L.any long = false := by
      rw [List.any_eq_false]
      intro s hs
      unfold long
      have := h3 s hs
      simp
      omega
    rw [this]
    simp [h1, h2]
  have hm : (okM L.length k.x k.y && okM L.length k.fx k.fy) = true := by
    unfold okM
    simp only [Bool.and_eq_true, decide_eq_true_eq]
    omega
  unfold chk
  rw [if_pos hl, if_pos hm]
/-- Where it is found, what is marked there, and the line's end. -/
def fX (L : List ByteArray) (k : Cp) (s : ByteArray) : Cp := chgK (chk L k) (seekCE L k s) (seekCK L k s)
def fE (L : List ByteArray) (k : Cp) (s : ByteArray) : Int := chgE (chk L k) (seekCE L k s)
def fY (X : Cp) : Cp := chgK 0 0 (selK X true)
def fZ (L : List ByteArray) (Y : Cp) : Cp := chgK 0 0 (endK L Y)
theorem finds_ok (L : List ByteArray) (k : Cp) (s : ByteArray) (he : fE L k s = 0) (hx : (fX L k s).x < 120) :
    chk L (fX L k s) = 0 ∧ chk L (fY (fX L k s)) = 0 ∧ chk L (fZ L (fY (fX L k s))) = 0 ∧
      (takeE L (fZ L (fY (fX L k s))) = 10 ∨ (takeE L (fZ L (fY (fX L k s))) = 0 ∧ (120 ≤ (fZ L (fY (fX L k s))).x ∨ E (what s) <+: (takeT L (fZ L (fY (fX L k s)))).data.toList))) := by
  unfold fE chgE at he
  have hc : chk L k = 0 := by
    by_cases h : chk L k = 0
    · exact h
    · rw [if_neg h] at he; exact he
  rw [if_pos hc] at he
  obtain ⟨n1, n2, n3, _, n5⟩ := chk_zero hc
  have hX : fX L k s = { seekCK L k s with x := min (seekCK L k s).x 120 } := by
    unfold fX chgK
    rw [if_pos ⟨hc, he⟩]
  unfold seekCE at he
  by_cases hw : 4000 < s.size ∨ what s = []
  · rw [if_pos hw] at he; cases he
  · rw [if_neg hw] at he
    have hK : seekCK L k s = seekK k (seekM L k.x k.y.toNat (what s)) := by unfold seekCK; rw [if_neg hw]
    cases hm : seekM L k.x k.y.toNat (what s) with
    | none => rw [hm] at he; cases he
    | some m =>
      obtain ⟨c, yy⟩ := m
      rw [hm] at hK
      obtain ⟨Y, hY, rfl, hc0, fr, hf⟩ := seek_spec (by omega) _ _ _ _ _ hm
      obtain ⟨j, hj, hpre⟩ := find_spec hf hc0
      rw [hK] at hX
      have hX2 : fX L k s = ⟨min c 120, Y, k.fx, k.fy, k.on⟩ := hX
      rw [hX2] at hx ⊢
      simp only [] at hx
      rw [show min c 120 = c by omega]
      have hYv : fY ⟨c, Y, k.fx, k.fy, k.on⟩ = ⟨c, Y, c, Y, true⟩ := by
        show (⟨min c 120, Y, c, Y, true⟩ : Cp) = _
        rw [show min c 120 = c by omega]
      rw [hYv]
      have hZv : fZ L ⟨c, Y, c, Y, true⟩ = ⟨min (endI (cols (ln L Y))) 120, Y, c, Y, true⟩ := rfl
      rw [hZv]
      have hen := end_nonneg (ln L Y)
      have k1 : chk L ⟨c, Y, k.fx, k.fy, k.on⟩ = 0 := chk_of n1 n2 n3 (by simp only []; omega) n5
      have k2 : chk L ⟨c, Y, c, Y, true⟩ = 0 := chk_of n1 n2 n3 (by simp only []; omega) (by simp only []; omega)
      have k3 : chk L ⟨min (endI (cols (ln L Y))) 120, Y, c, Y, true⟩ = 0 := chk_of n1 n2 n3 (by simp only []; omega) (by simp only []; omega)
      refine ⟨k1, k2, k3, ?_⟩
      unfold takeE takeT
      unfold takeE
      rw [k3]
      simp only [if_true]
      by_cases hs : 4000 < (takeM L ⟨min (endI (cols (ln L Y))) 120, Y, c, Y, true⟩).size
      · left
        rw [if_pos hs]
      · right
        rw [if_neg hs]
        refine ⟨rfl, ?_⟩
        by_cases hb : 120 ≤ min (endI (cols (ln L Y))) 120
        · exact .inl hb
        · right
          rw [if_pos rfl]
          have he2 : min (endI (cols (ln L Y))) 120 = endI (cols (ln L Y)) := by omega
          rw [he2]
          have hle := le_end (sp_lt (ln L Y)) hj
          have ha : ahead (endI (cols (ln L Y))) Y c Y = false := by
            unfold ahead
            have : ¬ endI (cols (ln L Y)) < c := by
              have : c ≤ endI (cols (ln L Y)) := hle
              omega
            simp [this]
          unfold takeM
          simp only [ha, Bool.false_eq_true, if_false, Int.toNat_natCast]
          rw [bet_from L Y j c hj]
          exact (prefix_E _ _ (fun r hr => by
            obtain ⟨z, hz, rfl⟩ := List.mem_map.1 hr
            exact sp_ok s z hz) (fun r hr => by
            obtain ⟨z, hz, rfl⟩ := List.mem_map.1 (List.mem_of_mem_drop hr)
            exact sp_ok _ z hz)).2 hpre
end Cpy
end Go.Proofs.YtibkkekoaddopaaDoor

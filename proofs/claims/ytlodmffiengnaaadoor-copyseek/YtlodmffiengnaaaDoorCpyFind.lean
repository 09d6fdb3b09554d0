/- Package copying: find, in a line. -/
import Derived.Test.YtlodmffiengnaaaDoorCpyLine
import Derived.Test.YtlodmffiengnaaaDoorCpyEnd
import Derived.Deep.RegionWith
import Derived.Deep.CutRange
import Derived.Deep.DeepCutAuto
import Derived.Test.YtlodmffiengnaaaDoorCpyUtf
import Derived.Deep.MidRow
import Derived.BigQuiet
import Derived.Lib.QuietBelow
namespace Go.Proofs.YtlodmffiengnaaaDoor
open Go.ChangeShapes Go.WideShapes Go.ChangeAt Go.RowKit Go.Maps Go.Sort
namespace Cpy
open Txt (runes rn wd spotsL colsL cleanL bs okRune Tab)
/-- The library's variable that strings.Index reads. -/
def MaxAt (w : World) : Prop := ∃ m, w.cell? ⟨1, 0, none⟩ = some (.int .i64 m)
theorem MaxAt.ck {w w' : World} (h : MaxAt w) (b : CK w w') : MaxAt w' := by
  obtain ⟨m, hm⟩ := h
  exact ⟨m, b _ _ _ hm⟩
theorem MaxAt.below {w w' : World} (h : MaxAt w) (b : Below w.heap.size w w') : MaxAt w' := h.ck (CK.below b)
theorem index_ix (s sub : ByteArray) (w : World) (h : MaxAt w) (hs : s.size < 4294967281) :
    Calls Tryd.prog 60 #[.string s, .string sub] w fun e w' => e = .returned (.int .i64 (Lib.index s.data.toList sub.data.toList)) ∧ w' = w := by
  obtain ⟨m, hm⟩ := h
  exact Tryd.strings_Index s sub m w hs hm
theorem spots_ok : ∀ (l : List (Int × Nat)) (c : Int), (∀ x ∈ l, okRune x.1) → ∀ x ∈ spotsL l c, okRune x.1
  | [], _, _, x, hx => by simp [spotsL] at hx
  | y :: t, c, h, x, hx => by
    have ht : ∀ z ∈ t, okRune z.1 := fun z hz => h z (List.mem_cons_of_mem _ hz)
    unfold spotsL at hx
    split at hx
    · rcases List.mem_cons.1 hx with rfl | hx
      · exact h y (List.mem_cons_self ..)
      · exact spots_ok t _ ht x hx
    · exact spots_ok t _ ht x hx
theorem sp_ok (s : ByteArray) : ∀ x ∈ sp s, okRune x.1 := spots_ok _ _ (runes_ok s)
/-- The column where runes stand first, from the i-th rune on; -1: nowhere. -/
def findM (S : List (Int × Int)) (ws : List Int) (i : Nat) : Int :=
  match pos ws ((S.map (·.1)).drop i) with | none => -1 | some k => (S.map (·.2)).getD (i + k) 0
theorem w64_add {a b : Nat} (h : a + b ≤ 1000000) : wrap64 ((a : Int) + (b : Int)) = ((a + b : Nat) : Int) := by unfold wrap64; omega
theorem wrap_n {n : Nat} (h : n ≤ 1000000) : IntKind.i64.wrap (n : Int) = (n : Int) := by rw [IntWalk.i64_left, IntWalk.wrap64_in _ (by omega)]
theorem ne_of_ik {i k n d : Nat} (h : i + k < n) (hd : n ≤ d) : ¬ d = i := by omega
theorem ik_facts {i k n : Nat} (h : i + k < n) : (i : Int) + (k : Int) < (n : Int) ∧ (0 : Int) ≤ (i : Int) + (k : Int) := by omega
theorem ik_eq {i k n : Nat} (h : i + k = n) : (i : Int) + (k : Int) = (n : Int) := by omega
theorem below_iter (w : World) (s : ByteArray) (p : Nat) : Below w.heap.size w (w.iter s p) := (Below.refl _ w).alloc (Nat.le_refl _) _
set_option maxHeartbeats 8000000 in
set_option maxRecDepth 100000 in
theorem find_any (rv cv : Value) (S : List (Int × Int)) (sub : ByteArray) (ws : List Int) (i : Nat) (w : World) (h : LnAt w rv cv S) (hM : MaxAt w) (hn : S.length ≤ 1000000) (hi : i ≤ S.length)
    (hsub : sub.data.toList = E ws) (hws : ws ≠ []) (h1 : ∀ r ∈ ws, okRune r) (h2 : ∀ x ∈ S, okRune x.1) :
    Calls Tryd.prog 54 #[.agg #[rv, cv], .string sub, .int .i64 i] w fun e w' => e = .returned (.int .i64 (findM S ws i)) ∧ Below w.heap.size w w' := by
  have kb : Below w.heap.size w (w.alloc (.cells #[rv, cv] 82)) := (Below.refl _ _).alloc (Nat.le_refl _) _
  obtain ⟨c0, c1⟩ := box2 w rv cv 82
  have hl := h.below kb
  have hM2 := hM.below kb
  obtain ⟨⟨b, o, d, rfl, hd, hr⟩, a, c, rfl, hc⟩ := hl
  have ok2 : ∀ r ∈ (S.map (·.1)).drop i, okRune r := by
    intro r hr
    obtain ⟨x, hx, rfl⟩ := List.mem_map.1 (List.mem_of_mem_drop hr)
    exact h2 x hx
  have HIX := index_E ws ((S.map (·.1)).drop i) h1 ok2 hws
  have hsz : (runesBytes ((S.map (·.1)).drop i)).size < 4294967281 := by
    have := runesBytes_size_le ((S.map (·.1)).drop i)
    simp at this
    omega
  have HI := index_ix (runesBytes ((S.map (·.1)).drop i)) sub _ hM2 hsz
  rw [bytes_E, hsub, HIX] at HI
  have hcells : ∀ j, j < ((S.map (·.1)).drop i).length → (w.alloc (.cells #[.slice (some ⟨b, o, none⟩) S.length d, .slice a S.length c] 82)).cell? ((⟨b, o + i, none⟩ : Addr).add j) = some (.int .i32 (((S.map (·.1)).drop i).getD j 0)) := by
    intro j hj
    rw [Addr.add_mid, Nat.add_assoc]
    have hj2 : i + j < (S.map (·.1)).length := by simp at hj ⊢; omega
    refine (hr (i + j) _ (List.getElem?_eq_getElem hj2)).trans ?_
    rw [List.getD_eq_getElem?_getD, List.getElem?_drop, List.getElem?_eq_getElem hj2]
    rfl
  have HCV := fun cap => run_convert_runes (P := Tryd.prog) (w.alloc (.cells #[.slice (some ⟨b, o, none⟩) S.length d, .slice a S.length c] 82)) 48 9 21 ⟨b, o + i, none⟩ (S.length - i) cap ((S.map (·.1)).drop i) (by simp) (by kernel_rfl) (by kernel_rfl) (by kernel_rfl) hcells
  rw [List.take_of_length_le (by simp)] at HCV
  have HCV2 := fun (h0 : S.length - i = 0) => run_convert_runes (P := Tryd.prog) (w.alloc (.cells #[.slice (some ⟨b, o, none⟩) S.length d, .slice a S.length c] 82)) 48 9 21 ⟨b, o, none⟩ (S.length - i) 0 ((S.map (·.1)).drop i) (by simp) (by kernel_rfl) (by kernel_rfl) (by kernel_rfl) (by intro j hj; simp at hj; omega)
  rw [List.take_of_length_le (by simp)] at HCV2
  have hil : (i : Int) ≤ (S.length : Int) := by omega
  have hid : (i : Int) ≤ (d : Int) := by omega
  obtain ⟨R, hR⟩ : ∃ R, findM S ws i = R := ⟨_, rfl⟩
  rw [hR]
  unfold findM at hR
  have HRB : Hid ((runesBytes ((S.map (·.1)).drop i)).data.toList = E ((S.map (·.1)).drop i)) := bytes_E _
  have HOK : Hid (∀ r ∈ (S.map (·.1)).drop i, okRune r) := ok2
  generalize hrest : runesBytes ((S.map (·.1)).drop i) = rest at *
  cases hp : pos ws ((S.map (·.1)).drop i) with
  | none =>
    rw [hp] at hR HI
    simp only [] at hR HI
    subst hR
    clear HIX hcells hr hc hp hrest
    by_cases hdi : d = i
    · have hcv2 := HCV2 (by omega)
      rw [show S.length - i = 0 by omega] at hcv2
      subst hdi
      clear HCV2 HCV
      go_enter Tryd.func54, Tryd.ntmps54
      go_wp2_with fail
      refine HI.mono ?_
      rintro e W1 ⟨rfl, rfl⟩
      go_wp2_with fail
      go_ret
      exact ⟨rfl, kb⟩
    · clear HCV2
      go_enter Tryd.func54, Tryd.ntmps54
      go_wp2_with fail
      refine HI.mono ?_
      rintro e W1 ⟨rfl, rfl⟩
      go_wp2_with fail
      go_ret
      exact ⟨rfl, kb⟩
  | some k =>
    obtain ⟨p1, _, _⟩ := pos_some _ _ _ hp
    rw [hp] at hR HI
    simp only [] at hR HI
    have hne : S ≠ [] := by rintro rfl; simp at p1
    obtain ⟨cb, co, rfl, hc⟩ := hc.resolve_left hne
    have hik : i + k < (S.map (·.2)).length := by simp at p1 ⊢; omega
    have q := hc (i + k) _ (List.getElem?_eq_getElem hik)
    rw [List.getD_eq_getElem?_getD, List.getElem?_eq_getElem hik] at hR
    simp only [Option.getD_some] at hR
    rw [hR] at q
    have hlen2 : (E ((S.map (·.1)).drop i)).length = rest.size := by rw [← HRB.out]; exact (Array.length_toList)
    have hle : (E (((S.map (·.1)).drop i).take k)).length ≤ rest.size := by
      rw [← hlen2]
      have := congrArg List.length (E_split ((S.map (·.1)).drop i) k)
      rw [List.length_append] at this
      omega
    have HCN : ∀ W, Calls Tryd.prog 61 #[.string (rest.extract 0 (E (((S.map (·.1)).drop i).take k)).length)] W fun e w' => e = .returned (.int .i64 k) ∧ Below W.heap.size W w' := by
      intro W
      refine (Tryd.utf8_RuneCountInString _ W (by rw [ByteArray.size_extract]; omega)).mono ?_
      rintro e w' ⟨rfl, p, rfl⟩
      refine ⟨ret_i ?_, below_iter _ _ _⟩
      rw [count_E (((S.map (·.1)).drop i).take k) (fun r hr => HOK.out r (List.mem_of_mem_take hr))]
      · rw [List.length_take, Nat.min_eq_left (by omega)]
      · rw [ByteArray.data_extract, Array.toList_extract, List.extract_eq_take_drop, List.drop_zero, Nat.sub_zero, HRB.out, E_take]
    generalize (E (((S.map (·.1)).drop i).take k)).length = m at *
    have im0 : (0 : Int) ≤ (m : Int) := Int.natCast_nonneg _
    have im1 : ¬ (m : Int) < 0 := Int.not_lt.2 im0
    have im2 : (m : Int) ≤ (rest.size : Int) := Int.ofNat_le.2 hle
    have hikS : i + k < S.length := by rw [List.length_map] at hik; exact hik
    have hdi : ¬ d = i := ne_of_ik hikS hd
    have HR : Hid ((S.map (·.2))[i + k] = R) := hR
    clear hR
    have HK : Hid (i + k < S.length) := hikS
    have hw := w64_add (Nat.le_trans (Nat.le_of_lt hikS) hn)
    obtain ⟨ikl2, ik02⟩ := ik_facts hikS
    obtain ⟨n9, h9⟩ : ∃ n9, i + k = n9 := ⟨_, rfl⟩
    have ikn2 := ik_eq h9
    have ikl := Int.ofNat_lt.2 hikS
    have q9 := q
    rw [h9] at hw ikl q9
    clear q
    have HK9 : Hid (i + k = n9) := h9
    have hw9 := wrap_n (n := n9) (Nat.le_trans (Nat.le_of_lt (h9 ▸ hikS)) hn)
    clear h9 hikS
    clear HIX hcells hr hc hp hrest HR hik hlen2 p1 HRB HOK HCV2 hsz
    go_enter Tryd.func54, Tryd.ntmps54
    go_wp2_with fail
    refine HI.mono ?_
    rintro e W1 ⟨rfl, rfl⟩
    go_upto_region 5 with fail
    have g1 := fun d os => cell_regrown c1 d os
    have gq := fun d os => cell_regrown q9 d os
    have K1 : Hid (∀ dd os, Calls Tryd.prog 61 #[.string (rest.extract 0 m)] (grow (redrawn (w.alloc (.cells #[.slice (some ⟨b, o, none⟩) S.length d, .slice (some ⟨cb, co, none⟩) S.length c] 82)) dd) os) fun e w'' => e = .returned (.int .i64 k) ∧ ∃ p : Regrown, w'' = grow (redrawn (w.alloc (.cells #[.slice (some ⟨b, o, none⟩) S.length d, .slice (some ⟨cb, co, none⟩) S.length c] 82)) p.d) p.os) := fun dd os => Calls.regrown_of (HCN _)
    refine wp_region_quiet_below (by kernel_rfl) (by kernel_rfl) ?_
    repeat (quiet_step (first | (go_at_call 61; exact K1.out _ _)))
    refine wpQuiet_nil ?_
    intro _ hw'
    obtain ⟨⟨dq, os⟩, hw''⟩ := hw'
    subst hw''
    have kR := kb.trans ((below_regrown (w.alloc (.cells #[.slice (some ⟨b, o, none⟩) S.length d, .slice (some ⟨cb, co, none⟩) S.length c] 82)) dq os).mono kb.size)
    go_wp2_with fail
    go_ret
    exact ⟨rfl, kR⟩
end Cpy
end Go.Proofs.YtlodmffiengnaaaDoor

/- The reference's CheckSplit: the closure that goes through a tree. -/
import Derived.Test.YtckkbmgdaplaaaaDoorSplHas
import Derived.Test.YtckkbmgdaplaaaaDoorSplChk2
import Derived.Test.YtckkbmgdaplaaaaDoorSplLv
namespace Go.Proofs.YtckkbmgdaplaaaaDoor
open Go.ChangeShapes Go.WideShapes Go.ChangeAt Go.RowKit Go.Maps
namespace Spl
open Fo
/-- Blocks of trees and of functions stand as they stood. -/
def KT (w w' : World) : Prop := ∀ (j : Nat) (cs : Array Value) (t : TypeId) (fr : Nat × Nat), w.heap[j]? = some (.cells cs t fr) → t ≠ 32 → t ≠ 3 → w'.heap[j]? = some (.cells cs t fr)
theorem KT.refl (w : World) : KT w w := fun _ _ _ _ h _ _ => h
theorem KT.trans {a b c : World} (h : KT a b) (g : KT b c) : KT a c := fun j cs t fr hj h1 h2 => g j cs t fr (h j cs t fr hj h1 h2) h1 h2
theorem KT.below {w w' : World} (h : Below w.heap.size w w') : KT w w' := fun j cs t fr hj _ _ => by
  rw [h.block j (Array.getElem?_eq_some_iff.1 hj).1]; exact hj
/-- What the closure keeps: the panes met, and itself. -/
structure St (N : Nat) (w0 w : World) (P Q : Nat) (met : List Int) : Prop where
  keep : Below N w0 w
  hP : N ≤ P
  lt : Q < w.heap.size
  pq : P < Q
  fn : ∃ fr, w.heap[Q]? = some (.cells #[.func (.func 46) #[] #[.pointer (some ⟨P, 0, none⟩), .pointer (some ⟨Q, 0, none⟩)]] 72 fr)
  row : ∃ v, w.heap[P]? = some (.cells #[v] 32 (0, 0)) ∧ OwnI w (Q + 1) v met
theorem St.below {N : Nat} {w0 w w' : World} {P Q : Nat} {met : List Int} (h : St N w0 w P Q met) (hb : Below w.heap.size w w') (hN : N ≤ w.heap.size) : St N w0 w' P Q met := by
  obtain ⟨fr, hf⟩ := h.fn
  obtain ⟨v, hv, ho⟩ := h.row
  have hp := h.pq
  have hl := h.lt
  exact ⟨h.keep.trans (hb.mono hN), h.hP, Nat.lt_of_lt_of_le hl hb.size, hp, ⟨fr, by rw [hb.block Q hl]; exact hf⟩, ⟨v, by rw [hb.block P (by omega)]; exact hv, ho.below hb⟩⟩
theorem KT.grown {a b : World} {base : Nat} {v : Value} {l : List Int} (h : OwnI a base v l) (hg : a.grownBy b v.ownBlock) : KT a b := by
  intro j cs t fr hj h1 h2
  rw [hg.block j (Array.getElem?_eq_some_iff.1 hj).1 ?_]
  · exact hj
  · intro e
    rcases h.2 with ⟨hv, _⟩ | ⟨g, cap, cur, hv, _, hh, _⟩
    · rw [hv] at e; simp [Value.ownBlock] at e
    · rw [hv] at e
      simp only [Value.ownBlock, Option.some.injEq] at e
      subst e
      rw [hj] at hh
      simp only [Option.some.injEq, Obj.cells.injEq] at hh
      exact h2 hh.2.1
theorem KT.setCell {a : World} {P i : Nat} {cs : Array Value} {fr : Nat × Nat} (h : a.heap[P]? = some (.cells cs 32 fr)) (u : Value) : KT a (a.setCell ⟨P, i, none⟩ u) := by
  intro j cs' t fr' hj h1 h2
  by_cases e : j = P
  · subst e
    rw [hj] at h
    simp only [Option.some.injEq, Obj.cells.injEq] at h
    exact absurd h.2.1 h1
  · rw [Below.heap_setCell _ _ _ _ e]; exact hj
theorem chkF_len : ∀ (f : Fo) (way : Int) (met : List Int), met.length ≤ 12 → (chkF way f met).2.length ≤ 12
  | .nil, _, met, h => h
  | .cons wy pn sz ks rs, way, met, h => by
    have h1 := part_len way wy pn sz ks.len met h
    have h2 := chkF_len ks wy _ h1
    have h3 := chkF_len rs way _ h2
    rw [chkF]
    split
    · exact h1
    · split
      · exact h2
      · exact h3
theorem own_form {w : World} {base : Nat} {e : TypeId} {size : Nat} {v : Value} {n : Nat} {xs : List Value} (h : w.ownsRow base e size v n xs) : ∃ a c, v = .slice a n c := by
  rcases h.2 with ⟨h, h0⟩ | ⟨g, cap, cur, hv, _⟩
  · exact ⟨none, 0, by rw [h, h0]⟩
  · exact ⟨_, _, hv⟩
theorem own_setCell {w : World} {base : Nat} {e : TypeId} {size : Nat} {v : Value} {n : Nat} {xs : List Value} {P i : Nat} (h : w.ownsRow base e size v n xs) (hP : P < base) (u : Value) : (w.setCell ⟨P, i, none⟩ u).ownsRow base e size v n xs := by
  refine ⟨h.1, ?_⟩
  rcases h.2 with h2 | ⟨g, cap, cur, hv, hg, hh, r⟩
  · exact .inl h2
  · exact .inr ⟨g, cap, cur, hv, hg, by rw [Below.heap_setCell _ _ _ _ (show g ≠ P by omega)]; exact hh, r⟩
theorem at_P {A W W2 W3 : World} {P : Nat} {cs : Value} {row : Option Nat} (h : A.heap[P]? = some (.cells #[cs] 32 (0, 0))) (b1 : Below A.heap.size A W) (b2 : Below W.heap.size W W2) (hg : W2.grownBy W3 row) (hne : row = some P → False) :
    W3.cell? ⟨P, 0, none⟩ = some cs ∧ W3.frozen? ⟨P, 0, none⟩ = false ∧ W3.heap[P]? = some (.cells #[cs] 32 (0, 0)) := by
  have h1 : W.heap[P]? = some (.cells #[cs] 32 (0, 0)) := by rw [b1.block P (Array.getElem?_eq_some_iff.1 h).1]; exact h
  have h2 : W2.heap[P]? = some (.cells #[cs] 32 (0, 0)) := by rw [b2.block P (Array.getElem?_eq_some_iff.1 h1).1]; exact h1
  have h3 : W3.heap[P]? = some (.cells #[cs] 32 (0, 0)) := by rw [hg.block P (Array.getElem?_eq_some_iff.1 h2).1 (fun e => hne e.symm)]; exact h2
  refine ⟨?_, ?_, h3⟩
  · unfold World.cell?; rw [h3]; rfl
  · simp [World.frozen?, h3]
/-- One step: 'e' and what is met are as 'r' says. -/
def Done (N : Nat) (w0 : World) (P Q : Nat) (r : Int × List Int) (w : World) (e : Ending) (w' : World) : Prop := e = .returned (.int .i64 r.1) ∧ St N w0 w' P Q r.2 ∧ KT w w'
theorem chkF_one (way wy pn sz : Int) (ks : Fo) (met : List Int) (h : (part way wy pn sz ks.len met).1 ≠ 0) : chkF way (cons wy pn sz ks nil) met = part way wy pn sz ks.len met := by
  rw [chkF, if_pos h]
theorem chkF_two (way wy pn sz : Int) (ks : Fo) (met : List Int) (h : (part way wy pn sz ks.len met).1 = 0) : chkF way (cons wy pn sz ks nil) met = chkF wy ks (part way wy pn sz ks.len met).2 := by
  rw [chkF, if_neg (by simp [h])]
  by_cases h2 : (chkF wy ks (part way wy pn sz ks.len met).2).1 ≠ 0
  · rw [if_pos h2]
  · rw [if_neg h2, chkF]
    have : (chkF wy ks (part way wy pn sz ks.len met).2).1 = 0 := by simpa using h2
    exact Prod.ext this.symm rfl
theorem chkF_cons (way wy pn sz : Int) (ks rs : Fo) (met : List Int) : chkF way (cons wy pn sz ks rs) met = if (chkF way (cons wy pn sz ks nil) met).1 ≠ 0 then chkF way (cons wy pn sz ks nil) met else chkF way rs (chkF way (cons wy pn sz ks nil) met).2 := by
  by_cases h1 : (part way wy pn sz ks.len met).1 = 0
  · rw [chkF_two _ _ _ _ _ _ h1, chkF, if_neg (by simp [h1])]
  · rw [chkF_one _ _ _ _ _ _ h1, if_pos h1, chkF, if_pos h1]
set_option maxHeartbeats 16000000 in
set_option maxRecDepth 100000 in
theorem walkR_any : ∀ (n : Nat) (way wy pn sz : Int) (ks : Fo) (kv : Value) (N P Q : Nat) (w0 w : World) (met : List Int), ks.cnt < n → ks.cnt ≤ 2000000 → N ≤ w.heap.size → w0.heap.size ≤ N → KAt w0 kv ks → met.length ≤ 12 → St N w0 w P Q met →
    Calls Tryd.prog 46 #[.agg #[.int .i64 wy, .int .i64 pn, .int .i64 sz, kv], .int .i64 way, .pointer (some ⟨P, 0, none⟩), .pointer (some ⟨Q, 0, none⟩)] w (Done N w0 P Q (chkF way (cons wy pn sz ks nil) met) w)
  | 0, _, _, _, _, _, _, _, _, _, _, _, _, h, _, _, _, _, _, _ => absurd h (Nat.not_lt_zero _)
  | n + 1, way, wy, pn, sz, ks, kv, N, P, Q, w0, w, met, hn, hcnt, hNw, hw0, hk, hml, hst => by
    have IH := walkR_any n
    obtain ⟨i0, hi, hzz⟩ := Option.map_eq_some_iff.1 int_info
    simp only [Prod.mk.injEq] at hzz
    obtain ⟨hz0, hz1, hz2⟩ := hzz
    unfold Done
    obtain ⟨ka, kc, rfl, hkle, hkk⟩ := hk
    have kb : Below w.heap.size w (w.alloc (.cells #[.int .i64 wy, .int .i64 pn, .int .i64 sz, .slice ka ks.len kc] 24)) := (Below.refl _ _).alloc (Nat.le_refl _) _
    have s1 := hst.below kb hNw
    have HS1 : Hid (St N w0 (w.alloc (.cells #[.int .i64 wy, .int .i64 pn, .int .i64 sz, .slice ka ks.len kc] 24)) P Q met) := s1
    have HK1 : Hid (KT w (w.alloc (.cells #[.int .i64 wy, .int .i64 pn, .int .i64 sz, .slice ka ks.len kc] 24))) := KT.below kb
    have xb := heap_alloc_new w (.cells #[.int .i64 wy, .int .i64 pn, .int .i64 sz, .slice ka ks.len kc] 24)
    obtain ⟨pv, hpv, hprow⟩ := s1.row
    obtain ⟨pa, pc, rfl⟩ : ∃ a c, pv = .slice a met.length c := by
      rcases hprow.sl with ⟨h, a, c, hv⟩ | ⟨b, o, c, hv, _⟩
      · exact ⟨a, c, by rw [hv, h]; rfl⟩
      · exact ⟨_, _, hv⟩
    have hPlt : P < (w.alloc (.cells #[.int .i64 wy, .int .i64 pn, .int .i64 sz, .slice ka ks.len kc] 24)).heap.size := (Array.getElem?_eq_some_iff.1 hpv).1
    have hN1 : N ≤ (w.alloc (.cells #[.int .i64 wy, .int .i64 pn, .int .i64 sz, .slice ka ks.len kc] 24)).heap.size := Nat.le_trans hNw kb.size
    have hpc : (w.alloc (.cells #[.int .i64 wy, .int .i64 pn, .int .i64 sz, .slice ka ks.len kc] 24)).cell? ⟨P, 0, none⟩ = some (.slice pa met.length pc) := by unfold World.cell?; rw [hpv]; rfl
    have hpf : (w.alloc (.cells #[.int .i64 wy, .int .i64 pn, .int .i64 sz, .slice ka ks.len kc] 24)).frozen? ⟨P, 0, none⟩ = false := by simp [World.frozen?, hpv]
    have HPR : Hid (OwnI (w.alloc (.cells #[.int .i64 wy, .int .i64 pn, .int .i64 sz, .slice ka ks.len kc] 24)) (Q + 1) (.slice pa met.length pc) met) := hprow
    by_cases hsz : 1 ≤ sz ∧ sz ≤ 9999
    · obtain ⟨z1, z2⟩ := hsz
      have z1' : ¬ sz < 1 := by omega
      have z2' : ¬ 9999 < sz := by omega
      by_cases h0 : wy = 0
      · subst h0
        by_cases hln : ks.len = 0
        · have hks : ks = nil := len_nil hln
          subst hks
          by_cases hp : 1 ≤ pn ∧ pn ≤ 9999
          · obtain ⟨p1, p2⟩ := hp
            have p1' : ¬ pn < 1 := by omega
            have p2' : ¬ 9999 < pn := by omega
            have HC := contains_any met (.slice pa met.length pc) pn _ (OwnI.sl hprow) (by omega)
            by_cases hin : pn ∈ met
            · have e : part way 0 pn sz (len nil) met = (7, met) := by rw [part_leaf way pn sz _ met ⟨z1, z2⟩]; unfold leafP; rw [if_neg (by simp [len]), if_neg (fun h => h ⟨p1, p2⟩), if_pos hin]
              rw [chkF_one _ _ _ _ _ _ (by rw [e]; simp), e]
              rw [decide_eq_true hin] at HC
              clear e IH hkk hin hprow hst
              simp only [len] at *
              go_enter Tryd.func46, Tryd.ntmps46
              go_wp2_with fail
              refine HC.mono ?_
              rintro e W ⟨rfl, bW⟩
              go_wp2_with fail
              go_ret
              exact ⟨rfl, HS1.out.below bW (Nat.le_trans hNw kb.size), HK1.out.trans (KT.below bW)⟩
            · rw [decide_eq_false hin] at HC
              by_cases h12 : 12 ≤ met.length
              · have e : part way 0 pn sz (len nil) met = (2, met) := by rw [part_leaf way pn sz _ met ⟨z1, z2⟩]; unfold leafP; rw [if_neg (by simp [len]), if_neg (fun h => h ⟨p1, p2⟩), if_neg hin, if_pos h12]
                rw [chkF_one _ _ _ _ _ _ (by rw [e]; simp), e]
                have j12 : (12 : Int) ≤ (met.length : Int) := by omega
                clear e IH hkk hin hprow hst h12 hml
                simp only [len] at *
                go_enter Tryd.func46, Tryd.ntmps46
                go_wp2_with fail
                refine HC.mono ?_
                rintro e W ⟨rfl, bW⟩
                have hpc2 := (bW.cell hPlt).trans hpc
                go_wp2_with fail
                go_ret
                exact ⟨rfl, HS1.out.below bW hN1, HK1.out.trans (KT.below bW)⟩
              · have e : part way 0 pn sz (len nil) met = (0, met ++ [pn]) := by rw [part_leaf way pn sz _ met ⟨z1, z2⟩]; unfold leafP; rw [if_neg (by simp [len]), if_neg (fun h => h ⟨p1, p2⟩), if_neg hin, if_neg h12]
                rw [chkF_two _ _ _ _ _ _ (by rw [e]), e, chkF]
                have j12 : ¬ (12 : Int) ≤ (met.length : Int) := by omega
                have HN1 : Hid (N ≤ (w.alloc (.cells #[.int .i64 0, .int .i64 pn, .int .i64 sz, .slice ka (len nil) kc] 24)).heap.size) := hN1
                have HPV : Hid ((w.alloc (.cells #[.int .i64 0, .int .i64 pn, .int .i64 sz, .slice ka (len nil) kc] 24)).heap[P]? = some (.cells #[.slice pa met.length pc] 32 (0, 0))) := hpv
                clear e IH hkk hin hprow hst h12 hN1 hpv s1
                simp only [len] at *
                go_enter Tryd.func46, Tryd.ntmps46
                go_wp2_with fail
                refine HC.mono ?_
                rintro e W ⟨rfl, bW⟩
                have hpc2 := (bW.cell hPlt).trans hpc
                have oW := HPR.out.below bW
                have xW := (bW.block _ (Array.getElem?_eq_some_iff.1 xb).1).trans xb
                obtain ⟨⟨d0, d1, d2, d3⟩, _⟩ := four_at xW
                have hfr := oW.from
                have kbx := (Below.refl W.heap.size W).alloc (Nat.le_refl _) (.cells #[.int .i64 pn] 3)
                have hP1 : P < W.heap.size := Nat.lt_of_lt_of_le hPlt bW.size
                have hpq := HS1.out.pq
                clear HC
                go_wp2_with (at_builtin; refine wpList_append_own _ rfl _ _ 32 rfl (Q + 1) 3 i0 (.int .i64 0) 1 8 ints_und hi hz0 hz1 hz2 rfl (by decide) _ _ _ rfl (World.ownsRow.alloc oW _) ⟨W.heap.size, 0, none⟩ 1 1 [.int .i64 pn] rfl rfl (cells_of_row (heap_alloc_new W _)) (by intro u hu; simp at hu; rw [hu]; rfl) (by unfold maxLen; omega) (by omega) (by have := HS1.out.lt; have := bW.size; simp; omega) ?_; intro v3 W3 hown3 hgrow hnil; have hpc3 : W3.cell? ⟨P, 0, none⟩ = some (.slice pa met.length pc) ∧ W3.frozen? ⟨P, 0, none⟩ = false ∧ W3.heap[P]? = some (.cells #[.slice pa met.length pc] 32 (0, 0)) := at_P (HPV.out) bW kbx hgrow (fun h => by have := hfr _ h; omega); obtain ⟨q0, q1, q2⟩ := hpc3; obtain ⟨a3, c3, hv3⟩ := own_form hown3; subst hv3)
                go_ret
                refine ⟨rfl, ⟨?_, HS1.out.hP, ?_, hpq, ?_, ⟨_, heap_setCell_same W3 P 0 _ _ _ q2, ?_⟩⟩, ?_⟩
                · exact (((HS1.out.keep.trans (bW.mono HN1.out)).alloc (Nat.le_trans HN1.out bW.size) _).grown hgrow (Nat.le_trans (Nat.le_trans HN1.out bW.size) kbx.size) (fun k hk => by have := hfr _ hk; have := HS1.out.hP; omega)).setCell (p := ⟨P, 0, none⟩) HS1.out.hP _
                · have := HS1.out.lt
                  have := bW.size
                  have := kbx.size
                  have := hgrow.size
                  simp only [World.setCell] at *
                  simp
                  omega
                · obtain ⟨fr, hf⟩ := HS1.out.fn
                  refine ⟨fr, ?_⟩
                  rw [Below.heap_setCell _ _ _ _ (show Q ≠ P by omega)]
                  have f1 := (bW.block Q HS1.out.lt).trans hf
                  have f2 := (kbx.block Q (Array.getElem?_eq_some_iff.1 f1).1).trans f1
                  exact (hgrow.block Q (Array.getElem?_eq_some_iff.1 f2).1 (fun h => by have := hfr _ h.symm; omega)).trans f2
                · unfold OwnI
                  rw [List.length_append, List.map_append]
                  exact own_setCell hown3 (by omega) _
                · exact ((HK1.out.trans (KT.below bW)).trans (KT.below kbx)).trans ((KT.grown (World.ownsRow.alloc oW _) hgrow).trans (KT.setCell q2 _))
          · have e : part way 0 pn sz (len nil) met = (4, met) := by rw [part_leaf way pn sz _ met ⟨z1, z2⟩]; unfold leafP; rw [if_neg (by simp [len]), if_pos hp]
            rw [chkF_one _ _ _ _ _ _ (by rw [e]; simp), e]
            clear e IH hkk hprow hst hpc hpf hpv
            simp only [len] at *
            by_cases p1 : pn < 1
            · clear hp
              go_enter Tryd.func46, Tryd.ntmps46
              go_wp2_with fail
              go_ret
              exact ⟨rfl, HS1.out, HK1.out⟩
            · have p2 : 9999 < pn := by omega
              clear hp
              go_enter Tryd.func46, Tryd.ntmps46
              go_wp2_with fail
              go_ret
              exact ⟨rfl, HS1.out, HK1.out⟩
        · have e : part way 0 pn sz ks.len met = (5, met) := by rw [part_leaf way pn sz _ met ⟨z1, z2⟩]; unfold leafP; rw [if_pos hln]
          rw [chkF_one _ _ _ _ _ _ (by rw [e]; simp), e]
          have jl : ((ks.len : Int) != 0) = true := by rw [bne_iff_ne]; omega
          clear e IH hkk hprow hst hln
          go_enter Tryd.func46, Tryd.ntmps46
          go_wp2_with fail
          go_ret
          exact ⟨rfl, HS1.out, HK1.out⟩
      · have j0 : (wy == 0) = false := by rw [beq_eq_false_iff_ne]; exact h0
        have hpi := part_in way wy pn sz ks.len met ⟨z1, z2⟩ h0
        by_cases hw1 : wy < 1
        · have e : part way wy pn sz ks.len met = (5, met) := by rw [hpi, if_pos (by omega)]
          rw [chkF_one _ _ _ _ _ _ (by rw [e]; simp), e]
          clear e IH hkk hprow hst hpc hpf hpv
          clear hpi h0
          go_enter Tryd.func46, Tryd.ntmps46
          go_wp2_with fail
          go_ret
          exact ⟨rfl, HS1.out, HK1.out⟩
        · by_cases hw2 : 2 < wy
          · have e : part way wy pn sz ks.len met = (5, met) := by rw [hpi, if_pos (by omega)]
            rw [chkF_one _ _ _ _ _ _ (by rw [e]; simp), e]
            clear e IH hkk hprow hst hpc hpf hpv
            clear hpi h0
            go_enter Tryd.func46, Tryd.ntmps46
            go_wp2_with fail
            go_ret
            exact ⟨rfl, HS1.out, HK1.out⟩
          · rw [if_neg (by omega)] at hpi
            by_cases hwy : wy = way
            · have e : part way wy pn sz ks.len met = (5, met) := by rw [hpi, if_pos hwy]
              rw [chkF_one _ _ _ _ _ _ (by rw [e]; simp), e]
              clear e IH hkk hprow hst hpc hpf hpv
              have jw : (wy == way) = true := by rw [beq_iff_eq]; exact hwy
              clear hpi h0 hwy
              go_enter Tryd.func46, Tryd.ntmps46
              go_wp2_with fail
              go_ret
              exact ⟨rfl, HS1.out, HK1.out⟩
            · rw [if_neg hwy] at hpi
              have jw : (wy == way) = false := by rw [beq_eq_false_iff_ne]; exact hwy
              by_cases hl2 : ks.len < 2
              · have e : part way wy pn sz ks.len met = (5, met) := by rw [hpi, if_pos hl2]
                rw [chkF_one _ _ _ _ _ _ (by rw [e]; simp), e]
                clear e IH hkk hprow hst hpc hpf hpv
                have jl : (ks.len : Int) < 2 := by omega
                clear hpi h0 hwy hl2
                go_enter Tryd.func46, Tryd.ntmps46
                go_wp2_with fail
                go_ret
                exact ⟨rfl, HS1.out, HK1.out⟩
              · rw [if_neg hl2] at hpi
                have jl : ¬ (ks.len : Int) < 2 := by omega
                by_cases hpn : pn ≠ 0
                · have e : part way wy pn sz ks.len met = (5, met) := by rw [hpi, if_pos hpn]
                  rw [chkF_one _ _ _ _ _ _ (by rw [e]; simp), e]
                  clear e IH hkk hprow hst hpc hpf hpv
                  have jp : (pn != 0) = true := by rw [bne_iff_ne]; exact hpn
                  clear hpi h0 hwy hl2 hpn
                  go_enter Tryd.func46, Tryd.ntmps46
                  go_wp2_with fail
                  go_ret
                  exact ⟨rfl, HS1.out, HK1.out⟩
                · rw [if_neg hpn] at hpi
                  rw [chkF_two _ _ _ _ _ _ (by rw [hpi]), hpi]
                  have hpn : pn = 0 := by simpa using hpn
                  subst hpn
                  obtain ⟨R, hR⟩ : ∃ R, chkF wy ks met = R := ⟨_, rfl⟩
                  have HR : Hid (chkF wy ks met = R) := hR
                  rw [hR]
                  obtain ⟨b, o, rfl, hf⟩ := hkk.resolve_left (by intro e; subst e; simp [len] at hl2)
                  have HF0 : Hid (FoAt w0 ks b o) := hf
                  have hlc := len_le_cnt ks
                  have HXB : Hid (_ = some (Obj.cells #[.int .i64 wy, .int .i64 0, .int .i64 sz, .slice (some ⟨b, o, none⟩) ks.len kc] 24 (0, 0))) := xb
                  clear hpi h0 hwy hl2 hR hkk hf hprow hst hpc hpf hpv xb
                  go_enter Tryd.func46, Tryd.ntmps46
                  go_wp2_with fail
                  go_loopg [77] ks.len (fun g u wr => ∃ (i : Nat) (rs : Fo) (mt : List Int), u = .int .i64 (i : Int) ∧ i + rs.len = ks.len ∧ rs.len ≤ g ∧ rs.cnt ≤ ks.cnt ∧ FoAt w0 rs b (o + i * 4) ∧ St N w0 wr P Q mt ∧ mt.length ≤ 12 ∧ chkF wy rs mt = R ∧ KT (w.alloc (.cells #[.int .i64 wy, .int .i64 0, .int .i64 sz, .slice (some ⟨b, o, none⟩) ks.len kc] 24)) wr)
                  case atStart => exact ⟨0, ks, met, rfl, by omega, Nat.le_refl _, Nat.le_refl _, by simpa using HF0.out, HS1.out, hml, HR.out, KT.refl _⟩
                  case round =>
                    obtain ⟨i, rs, mt, rfl, hil, hg, hrc, hfo, hst, hmt, hdr, hkt⟩ := hrel
                    have HD : Hid (chkF wy rs mt = R) := hdr
                    have xw := hkt _ _ _ _ HXB.out (by decide) (by decide)
                    have hkw := HK1.out.trans hkt
                    have HKT : Hid (KT (w.alloc (.cells #[.int .i64 wy, .int .i64 0, .int .i64 sz, .slice (some ⟨b, o, none⟩) ks.len kc] 24)) wr) := hkt
                    clear hdr HR HF0 HS1 HXB hkt HPR hPlt hN1
                    cases rs with
                    | nil =>
                      have iex : ¬ (i : Int) < (ks.len : Int) := by simp only [len] at hil; omega
                      have e : R = (0, mt) := HD.out.symm
                      subst e
                      clear HD IH hfo hil xw
                      go_wp2_with fail
                      go_ret
                      exact ⟨rfl, hst, hkw⟩
                    | cons wy' pn' sz' ks' rs' =>
                      obtain ⟨kv', h0, h1, h2, h3, hk', hr'⟩ := hfo.head
                      simp only [len] at hil hg
                      simp only [cnt] at hrc
                      have hck := CK.below (hst.keep.mono hw0)
                      have y0 := hck _ _ _ h0
                      have y1 := hck _ _ _ h1
                      have y2 := hck _ _ _ h2
                      have y3 := hck _ _ _ h3
                      obtain ⟨ka', kc', rfl, hkle', _⟩ := id hk'
                      have kA : Below wr.heap.size wr (wr.alloc (.cells #[.int .i64 wy', .int .i64 pn', .int .i64 sz', .slice ka' ks'.len kc'] 24)) := (Below.refl _ _).alloc (Nat.le_refl _) _
                      have hNr : N ≤ wr.heap.size := by have := hst.hP; have := hst.pq; have := hst.lt; omega
                      have hsA := hst.below kA hNr
                      have HC := IH wy wy' pn' sz' ks' (.slice ka' ks'.len kc') N P Q w0 _ mt (by omega) (by omega) (Nat.le_trans hNr kA.size) hw0 hk' hmt hsA
                      obtain ⟨fr, hfn⟩ := hsA.fn
                      have hq : (wr.alloc (.cells #[.int .i64 wy', .int .i64 pn', .int .i64 sz', .slice ka' ks'.len kc'] 24)).cell? ⟨Q, 0, none⟩ = some (.func (.func 46) #[] #[.pointer (some ⟨P, 0, none⟩), .pointer (some ⟨Q, 0, none⟩)]) := by unfold World.cell?; rw [hfn]; rfl
                      have xA := (kA.block _ (Array.getElem?_eq_some_iff.1 xw).1).trans xw
                      obtain ⟨⟨d0, d1, d2, d3⟩, _⟩ := four_at xA
                      have iin : (i : Int) < (ks.len : Int) := by omega
                      have hi20 : i < 2000000 := by omega
                      have HR' : Hid (FoAt w0 rs' b (o + (i + 1) * 4)) := by
                        unfold Hid
                        rw [show o + (i + 1) * 4 = o + i * 4 + 4 by omega]
                        exact hr'
                      have hdc := HD.out
                      rw [chkF_cons] at hdc
                      have hpl := chkF_len (cons wy' pn' sz' ks' nil) wy mt hmt
                      clear IH hfo hr' h0 h1 h2 h3 hck HD hst hsA hfn xA xw
                      obtain ⟨pe, hpe⟩ : ∃ pe, chkF wy (cons wy' pn' sz' ks' nil) mt = pe := ⟨_, rfl⟩
                      rw [hpe] at HC hdc hpl
                      unfold Done at HC
                      clear hpe
                      by_cases he : pe.1 = 0
                      · rw [if_neg (by simp [he])] at hdc
                        have HD2 : Hid (chkF wy rs' pe.2 = R) := hdc
                        rw [he] at HC
                        clear hdc he
                        go_wp2_with fail
                        refine HC.mono ?_
                        rintro e W ⟨rfl, sW, kW⟩
                        have kt2 := (HKT.out.trans (KT.below kA)).trans kW
                        clear HC d0 d1 d2 d3 hq y0 y1 y2 y3 kW
                        go_wp2_with fail
                        go_roundg rs'.len
                        case measure => omega
                        case rel => exact ⟨i + 1, rs', pe.2, by go_num, by omega, Nat.le_refl _, by omega, HR'.out, sW, hpl, HD2.out, kt2⟩
                      · rw [if_pos he] at hdc
                        subst hdc
                        have hne : (pe.1 != 0) = true := by rw [bne_iff_ne]; exact he
                        clear he
                        go_wp2_with fail
                        refine HC.mono ?_
                        rintro e W ⟨rfl, sW, kW⟩
                        have kt2 := (hkw.trans (KT.below kA)).trans kW
                        clear HC d0 d1 d2 d3 hq y0 y1 y2 y3 kW
                        go_wp2_with fail
                        go_ret
                        exact ⟨rfl, sW, kt2⟩
    · have e : part way wy pn sz ks.len met = (4, met) := part_size _ _ _ _ _ _ hsz
      rw [chkF_one _ _ _ _ _ _ (by rw [e]; simp), e]
      clear IH hkk hprow hst e
      by_cases z1 : sz < 1
      · clear hsz
        go_enter Tryd.func46, Tryd.ntmps46
        go_wp2_with fail
        go_ret
        exact ⟨rfl, HS1.out, HK1.out⟩
      · have z2 : 9999 < sz := by omega
        clear hsz
        go_enter Tryd.func46, Tryd.ntmps46
        go_wp2_with fail
        go_ret
        exact ⟨rfl, HS1.out, HK1.out⟩
end Spl
end Go.Proofs.YtckkbmgdaplaaaaDoor

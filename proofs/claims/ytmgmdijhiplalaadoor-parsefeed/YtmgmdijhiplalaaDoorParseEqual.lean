/- Two rows of events that are alike. -/
import Derived.Test.YtmgmdijhiplalaaDoorParseRead
namespace Go.Proofs.YtmgmdijhiplalaaDoor
open Go.ChangeShapes Go.WideShapes Go.ChangeAt Go.RowKit
namespace Prs
def Few (es : List Ev) : Prop := ∀ e, e ∈ es → e.ps.length ≤ 16
theorem few_nil : Few [] := fun _ h => absurd h (by simp)
theorem few_one (e : Ev) (h : e.ps.length ≤ 16) : Few [e] := fun x hx => by rw [List.mem_singleton.1 hx]; exact h
theorem few_app {a b : List Ev} (ha : Few a) (hb : Few b) : Few (a ++ b) := fun e he => (List.mem_append.1 he).elim (ha e) (hb e)
theorem few_rep (n : Nat) (c : Int) : Few (List.replicate n (evP c)) := fun e he => by rw [List.eq_of_mem_replicate he]; exact Nat.zero_le _
theorem few_drain : ∀ (q : Nat) (D : ByteArray), Few (drain q D).1
  | 0, D => few_nil
  | q + 1, D => by
    cases hf : full D with
    | false => rw [drain_stop _ _ hf]; exact few_nil
    | true =>
      rw [drain_go _ _ hf]
      exact few_app (few_one (evP _) (Nat.zero_le _)) (few_drain q _)
theorem few_take (s : St) (x : UInt8) (h : Ok s) : Few (take s x).2 := by
  have hw : (woken s x).ps.length ≤ 16 := by
    unfold woken
    split
    · exact Nat.zero_le _
    · exact h.pl
  unfold take
  generalize woken s x = s1 at hw ⊢
  split
  · unfold control
    repeat' split
    · exact few_rep _ _
    · exact few_rep _ _
    · exact few_rep _ _
    · exact few_app (few_rep _ _) (few_one _ (Nat.zero_le _))
  · unfold acts
    split
    · exact few_drain _ _
    · split
      · unfold inEscape
        repeat' split
        all_goals first | exact few_nil | exact few_one _ (Nat.zero_le _)
      · split
        · unfold inMiddle
          repeat' split
          all_goals first | exact few_nil | exact few_one _ (Nat.zero_le _)
        · split
          · unfold inCommand
            repeat' split
            all_goals first | exact few_nil | exact few_one _ hw
          · split
            · unfold inSystem
              repeat' split
              all_goals first | exact few_nil | exact few_one _ (Nat.zero_le _)
            · unfold inSkip
              split
              all_goals exact few_nil
theorem few_feed (l : List UInt8) : ∀ (s : St), Ok s → Few (feed s l).2 := by
  induction l with
  | nil => exact fun s h => few_nil
  | cons x l ih => exact fun s h => few_app (few_take s x h) (ih _ (take_ok s x h))
set_option maxHeartbeats 8000000 in
set_option maxRecDepth 100000 in
theorem equalFunc_refl (es : List Ev) (v u : Value) (w : World) (hv : EvsR w v es) (hu : EvsR w u es) (hf : Few es) (hn : es.length ≤ 4000000) :
    Calls Tryd.prog 12 #[v, u, .func (.func 13) #[] #[]] w fun e w' => e = .returned (.bool true) ∧ Below w.heap.size w w' := by
  obtain ⟨pa, pc, hpv⟩ := hv.slice
  obtain ⟨qa, qc, hqv⟩ := hu.slice
  have HV : Hid (EvsR w v es) := hv
  have HU : Hid (EvsR w u es) := hu
  have HF : Hid (Few es) := hf
  subst hpv
  subst hqv
  clear hv hu hf
  go_enter Tryd.func12, Tryd.ntmps12
  go_wp2_with fail
  go_loopg [17] es.length (fun q i wr => ∃ k : Nat, i = .int .i64 (k : Int) ∧ k ≤ es.length ∧ es.length - k ≤ q ∧ Below w.heap.size w wr)
  case atStart => exact ⟨0, rfl, by omega, by omega, Below.refl _ _⟩
  case round =>
    obtain ⟨k, rfl, hk, hq, hb⟩ := hrel
    have HB : Hid (Below w.heap.size w wr) := hb
    clear hb
    by_cases hlt : k < es.length
    · have lt1 : ((k : Int) < (es.length : Int)) := by omega
      rcases HV.out with ⟨he, -⟩ | ⟨b, o, c, hvv, hc⟩
      · rw [he] at hlt
        exact absurd hlt (by simp)
      rcases HU.out with ⟨he, -⟩ | ⟨b', o', c', huu, hc'⟩
      · rw [he] at hlt
        exact absurd hlt (by simp)
      injection hvv with hvv1 hvv2 hvv3
      injection huu with huu1 huu2 huu3
      subst hvv1 hvv3 huu1 huu3
      obtain ⟨q0, h0⟩ := hc k hlt
      obtain ⟨q1, h1⟩ := hc' k hlt
      obtain ⟨ra, rc, rfl⟩ := h0.ps.slice
      obtain ⟨sa, sc, rfl⟩ := h1.ps.slice
      have HX : Hid (∀ W, Below w.heap.size w W → Calls Tryd.prog 13 #[.agg #[.int .i64 es[k].kind, .int .i32 es[k].r, .int .u8 es[k].fin, .int .u8 es[k].mark, .string es[k].mid, .slice ra es[k].ps.length rc, .string es[k].txt], .agg #[.int .i64 es[k].kind, .int .i32 es[k].r, .int .u8 es[k].fin, .int .u8 es[k].mark, .string es[k].mid, .slice sa es[k].ps.length sc, .string es[k].txt]] W fun e w' => e = .returned (.bool true) ∧ Below W.heap.size W w') := fun W hW => by
        have hp := HF.out es[k] (List.getElem_mem hlt)
        refine (sameEvent_any es[k] es[k] _ _ W (h0.ps.next hW) (h1.ps.next hW) (by omega) (by omega)).mono ?_
        rintro e w' ⟨rfl, b1⟩
        exact ⟨by rw [sameE_refl], b1⟩
      have g0 := h0.next HB.out
      have kA : Below w.heap.size w (wr.alloc (.cells #[.int .i64 es[k].kind, .int .i32 es[k].r, .int .u8 es[k].fin, .int .u8 es[k].mark, .string es[k].mid, .slice ra es[k].ps.length rc, .string es[k].txt] 37)) := HB.out.alloc HB.out.size _
      have g1 := h1.next kA
      have HKB : Hid (∀ o o', Below w.heap.size w ((wr.alloc o).alloc o')) := fun o o' => HB.out.trans ((below_two wr o o').mono HB.out.size)
      generalize hev : es[k] = ev at *
      have y0 := g0.c0
      have y1 := g0.c1
      have y2 := g0.c2
      have y3 := g0.c3
      have y4 := g0.c4
      have y5 := g0.c5
      have y6 := g0.c6
      have z0 := g1.c0
      have z1 := g1.c1
      have z2 := g1.c2
      have z3 := g1.c3
      have z4 := g1.c4
      have z5 := g1.c5
      have z6 := g1.c6
      clear hc hc' h0 h1 g0 g1 kA HV HU
      go_wp2_with fail
      refine (HX.out _ (HKB.out _ _)).mono ?_
      rintro e W5 ⟨rfl, b5⟩
      have k5 := (HKB.out _ _).trans (b5.mono (HKB.out _ _).size)
      go_wp2_with fail
      go_roundg (es.length - (k + 1))
      case measure => omega
      case rel => exact ⟨k + 1, rfl, by omega, by omega, k5⟩
    · have lt1 : ¬ ((k : Int) < (es.length : Int)) := by omega
      go_wp2_with fail
      go_ret
      exact ⟨rfl, HB.out⟩
end Prs
end Go.Proofs.YtmgmdijhiplalaaDoor

/- Package format: Expand. -/
import Derived.Test.YtbhoklhcdefabaaDoorFmtRead
import Derived.OwnWalk
namespace Go.Proofs.YtbhoklhcdefabaaDoor
open Go.ChangeShapes Go.WideShapes Go.ChangeAt Go.RowKit Go.Maps Go.Sort
namespace Fmt
def outV : Res → Value
  | .ok o _ => if 4000 < o.length then .tuple #[.string ⟨#[]⟩, .int .i64 0, .int .i64 10] else .tuple #[.string ⟨o.toArray⟩, .int .i64 0, .int .i64 0]
  | .bad q => .tuple #[.string ⟨#[]⟩, .int .i64 q, .int .i64 1]
/-- Is there too much? -/
def much (s : ByteArray) (I : List (ByteArray × ByteArray)) : Bool := long s || decide (20 < I.length) || I.any (fun z => long z.2)
def expV (s : ByteArray) (I : List (ByteArray × ByteArray)) : Value := if much s I then .tuple #[.string ⟨#[]⟩, .int .i64 0, .int .i64 2] else outV (tx s I 5000 0 0 0)
set_option maxHeartbeats 4000000 in
set_option maxRecDepth 100000 in
theorem expand_any (s : ByteArray) (iv : Value) (I : List (ByteArray × ByteArray)) (w : World) (hI : ItAt w iv I) (hT : Txt.Tab w) (hn : I.length ≤ 70368744177664) :
    Calls Tryd.prog 5 #[.string s, iv] w fun e w' => e = .returned (expV s I) ∧ Below w.heap.size w w' := by
  have HL := fun x W => tooLong_any x W
  have HMU : Hid (much s I = (long s || decide (20 < I.length) || I.any (fun z => long z.2))) := rfl
  obtain ⟨a, c, rfl, hcell⟩ := hI
  have hI : ItAt w (.slice a I.length c) I := ⟨a, c, rfl, hcell⟩
  unfold expV
  cases h1 : long s
  · cases h2 : decide (20 < I.length)
    · have i2 : ¬ (20 : Int) < (I.length : Int) := by
        have := of_decide_eq_false h2
        omega
      have hlen : I.length ≤ 20 := by omega
      have HCF := contains_much I (.slice a I.length c) w hI (by omega)
      have HL1 := HL s
      rw [h1] at HL1
      cases h3 : I.any (fun z => long z.2)
      · have hm : much s I = false := by rw [HMU.out, h1, h2, h3]; rfl
        rw [hm]
        simp only [Bool.false_eq_true, if_false]
        rw [h3] at HCF
        have hs4 : s.size ≤ 4000 := by
          have := of_decide_eq_false h1
          omega
        have hz : ∀ x ∈ I, x.2.size ≤ 4000 := fun x hx => by
          have := List.any_eq_false.1 h3 x hx
          unfold long at this
          simp at this
          exact this
        have HRD := fun W (hW : Below w.heap.size w W) => read_any s (.slice a I.length c) I W (hI.below hW) (hT.below hW hT.pos) hs4 hz hlen
        clear hm h1 h2 h3 HMU hcell hI
        cases hx : tx s I 5000 0 0 0 with
        | bad q =>
          rw [hx] at HRD
          have HL2 := HL ⟨#[]⟩
          rw [show long ⟨#[]⟩ = false from rfl] at HL2
          clear hx HL
          go_enter Tryd.func5, Tryd.ntmps5
          go_wp2_with fail
          refine (HL1 _).mono ?_
          rintro e W ⟨rfl, rfl⟩
          go_wp2_with fail
          refine HCF.mono ?_
          rintro e W2 ⟨rfl, b2⟩
          go_wp2_with fail
          refine (HRD _ b2).mono ?_
          rintro e W3 ⟨rfl, b3⟩
          have kb := b2.trans (b3.mono b2.size)
          simp only [rdV]
          go_wp2_with fail
          refine (HL2 _).mono ?_
          rintro e W4 ⟨rfl, rfl⟩
          go_wp2_with fail
          go_ret3
          exact ⟨rfl, kb⟩
        | ok o q =>
          rw [hx] at HRD
          have HL2 := HL ⟨o.toArray⟩
          have hol : (⟨o.toArray⟩ : ByteArray).size = o.length := List.size_toArray
          have HLO : Hid (long ⟨o.toArray⟩ = decide (4000 < o.length)) := by
            show _ = _
            unfold long
            rw [hol]
          rw [HLO.out] at HL2
          clear hx HL
          unfold outV
          by_cases h4 : 4000 < o.length
          · rw [decide_eq_true h4] at HL2
            simp only [if_pos h4]
            clear h4 hol
            go_enter Tryd.func5, Tryd.ntmps5
            go_wp2_with fail
            refine (HL1 _).mono ?_
            rintro e W ⟨rfl, rfl⟩
            go_wp2_with fail
            refine HCF.mono ?_
            rintro e W2 ⟨rfl, b2⟩
            go_wp2_with fail
            refine (HRD _ b2).mono ?_
            rintro e W3 ⟨rfl, b3⟩
            have kb := b2.trans (b3.mono b2.size)
            simp only [rdV]
            go_wp2_with fail
            refine (HL2 _).mono ?_
            rintro e W4 ⟨rfl, rfl⟩
            go_wp2_with fail
            go_ret3
            exact ⟨rfl, kb⟩
          · rw [decide_eq_false h4] at HL2
            simp only [if_neg h4]
            clear h4 hol
            go_enter Tryd.func5, Tryd.ntmps5
            go_wp2_with fail
            refine (HL1 _).mono ?_
            rintro e W ⟨rfl, rfl⟩
            go_wp2_with fail
            refine HCF.mono ?_
            rintro e W2 ⟨rfl, b2⟩
            go_wp2_with fail
            refine (HRD _ b2).mono ?_
            rintro e W3 ⟨rfl, b3⟩
            have kb := b2.trans (b3.mono b2.size)
            simp only [rdV]
            go_wp2_with fail
            refine (HL2 _).mono ?_
            rintro e W4 ⟨rfl, rfl⟩
            go_wp2_with fail
            go_ret3
            exact ⟨rfl, kb⟩
      · have hm : much s I = true := by rw [HMU.out, h1, h2, h3]; rfl
        rw [hm]
        simp only [if_true]
        rw [h3] at HCF
        clear hm h1 h2 h3 HMU hcell hI hT
        go_enter Tryd.func5, Tryd.ntmps5
        go_wp2_with fail
        refine (HL1 _).mono ?_
        rintro e W ⟨rfl, rfl⟩
        go_wp2_with fail
        refine HCF.mono ?_
        rintro e W2 ⟨rfl, b2⟩
        go_wp2_with fail
        go_ret3
        exact ⟨rfl, b2⟩
    · have i2 : (20 : Int) < (I.length : Int) := by
        have := of_decide_eq_true h2
        omega
      have HL1 := HL s
      rw [h1] at HL1
      have hm : much s I = true := by rw [HMU.out, h1, h2]; rfl
      rw [hm]
      simp only [if_true]
      clear hm h1 h2 HMU hcell hI hT
      go_enter Tryd.func5, Tryd.ntmps5
      go_wp2_with fail
      refine (HL1 _).mono ?_
      rintro e W ⟨rfl, rfl⟩
      go_wp2_with fail
      go_ret3
      exact ⟨rfl, Below.refl _ _⟩
  · have HL1 := HL s
    rw [h1] at HL1
    have hm : much s I = true := by rw [HMU.out, h1]; rfl
    rw [hm]
    simp only [if_true]
    clear hm h1 HMU hcell hI hT
    go_enter Tryd.func5, Tryd.ntmps5
    go_wp2_with fail
    refine (HL1 _).mono ?_
    rintro e W ⟨rfl, rfl⟩
    go_wp2_with fail
    go_ret3
    exact ⟨rfl, Below.refl _ _⟩
end Fmt
end Go.Proofs.YtbhoklhcdefabaaDoor

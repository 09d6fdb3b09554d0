/- What the reference's reader does with one byte, whole. -/
import Derived.Test.YtmgmdijhiplalaaDoorParseRo2
import Derived.Test.YtmgmdijhiplalaaDoorParseRo3
import Derived.Test.YtmgmdijhiplalaaDoorParseRo4
import Derived.Test.YtmgmdijhiplalaaDoorParseRo5
import Derived.Test.YtmgmdijhiplalaaDoorParseRo6
import Derived.Test.YtmgmdijhiplalaaDoorParseRo7
namespace Go.Proofs.YtmgmdijhiplalaaDoor
open Go.ChangeShapes Go.WideShapes Go.ChangeAt Go.RowKit
namespace Prs
theorem ctl_not {x : UInt8} (h : isCtl x = false) : 32 ≤ x.toNat ∧ x.toNat ≠ 127 := by
  simp [isCtl] at h
  omega
theorem one_not4 (x : UInt8) {w0 : World} {R T G O : Nat} {s : St} {es : List Ev} {W : World} (hT : Tabs w0) (h : RfE w0 R T G O s es W) (ho : Ok s) (h4 : s.at' ≠ 4) (hn : es.length + s.left.size ≤ 1000000) :
    Calls Tryd.prog 28 #[.int .u8 (x.toNat : Int), .pointer (some ⟨R, 0, none⟩), .pointer (some ⟨T, 0, none⟩), .pointer (some ⟨G, 0, none⟩), .pointer (some ⟨O, 0, none⟩)] W fun e W' => e = .returned (.tuple #[]) ∧ RfE w0 R T G O (take s x).1 (es ++ (take s x).2) W' := by
  have hl : s.late = false := ho.lt.elim (fun q => absurd q h4) id
  have hw : woken s x = s := by unfold woken; rw [hl, if_neg (by simp)]
  cases hc : isCtl x with
  | true =>
    have e : take s x = control s x := by unfold take; rw [hw, if_pos ⟨h4, hc⟩]
    rw [e]
    exact one_control x h h4 hc hn
  | false =>
    obtain ⟨x0, x1⟩ := ctl_not hc
    have e : take s x = acts s x := by unfold take; rw [hw, hc, if_neg (by simp)]
    rw [e]
    unfold acts
    by_cases a0 : s.at' = 0
    · rw [if_pos a0]
      exact one_ground x h a0 x0 x1 hT hn
    · rw [if_neg a0]
      by_cases a1 : s.at' = 1
      · rw [if_pos a1]
        exact one_escape x h a1 x0 x1 (by omega)
      · rw [if_neg a1]
        by_cases a2 : s.at' = 2
        · rw [if_pos a2]
          exact one_middle x h a2 x0 x1 (by omega) (by have := ho.m2 a2; have := ho.ms; omega)
        · rw [if_neg a2]
          by_cases a3 : s.at' = 3
          · rw [if_pos a3]
            by_cases hp : (isDig x = true ∨ x.toNat = 59) ∧ s.mid.size = 0
            · have e2 : inCommand s x = (param s x, []) := by unfold inCommand; rw [if_pos hp]
              rw [e2]
              exact one_command_param x h a3 x0 x1 hp ho.pl (fun y hy => (ho.pa y hy).2)
            · exact one_command_rest x h a3 x0 x1 (by omega) hp ho.ms
          · rw [if_neg a3, if_neg h4]
            exact one_skip x h (by have := ho.a0; have := ho.a5; omega) x0 x1
theorem one_take (x : UInt8) {w0 : World} {R T G O : Nat} {s : St} {es : List Ev} {W : World} (hT : Tabs w0) (h : RfE w0 R T G O s es W) (ho : Ok s) (hn : es.length + s.left.size ≤ 1000000) :
    Calls Tryd.prog 28 #[.int .u8 (x.toNat : Int), .pointer (some ⟨R, 0, none⟩), .pointer (some ⟨T, 0, none⟩), .pointer (some ⟨G, 0, none⟩), .pointer (some ⟨O, 0, none⟩)] W fun e W' => e = .returned (.tuple #[]) ∧ RfE w0 R T G O (take s x).1 (es ++ (take s x).2) W' := by
  by_cases h4 : s.at' = 4
  · refine one_system x h h4 (by omega) (fun W' hW => ?_)
    exact one_not4 x hT hW (ok_bare 1 (by omega) (by omega) (by omega)) (by simp [bare]) (by rw [size_bare]; omega)
  · exact one_not4 x hT h ho h4 hn
end Prs
end Go.Proofs.YtmgmdijhiplalaaDoor

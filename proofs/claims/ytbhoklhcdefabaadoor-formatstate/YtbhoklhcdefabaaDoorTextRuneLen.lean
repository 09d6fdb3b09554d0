/- Plain mathematics: how many bytes a rune takes, told by the rune itself. No program is named. -/
import Derived.Test.YtbhoklhcdefabaaDoorTextKeep
import Derived.Lib.Small
namespace Go.Proofs.YtbhoklhcdefabaaDoor
namespace Txt
theorem decN_len (n b0 b1 b2 b3 : Nat) (h : (Lib.decodeN n b0 b1 b2 b3).1 ≠ 65533) : Lib.runeLen ((Lib.decodeN n b0 b1 b2 b3).1 : Int) = ((Lib.decodeN n b0 b1 b2 b3).2 : Int) := by
  unfold Lib.decodeN at h ⊢
  repeat' split at h
  all_goals simp_all
  all_goals unfold Lib.runeLen
  all_goals repeat' split
  all_goals omega
theorem decN_err (n b0 b1 b2 b3 : Nat) (h : (Lib.decodeN n b0 b1 b2 b3).1 = 65533) :
    (2 < n ∧ b0 = 239 ∧ b1 = 191 ∧ b2 = 189 → (Lib.decodeN n b0 b1 b2 b3).2 = 3) ∧ (¬ (2 < n ∧ b0 = 239 ∧ b1 = 191 ∧ b2 = 189) → (Lib.decodeN n b0 b1 b2 b3).2 = 1) := by
  refine ⟨fun ⟨hn, h0, h1, h2⟩ => ?_, fun hne => ?_⟩
  · subst h0 h1 h2
    simp [Lib.decodeN, show 1 < n by omega, hn]
  · unfold Lib.decodeN at h ⊢
    repeat' split
    all_goals simp_all
    all_goals omega
theorem prefix_err (l : List UInt8) : Lib.hasPrefix l [239, 191, 189] = true ↔ (2 < l.length ∧ (l.getD 0 0).toNat = 239 ∧ (l.getD 1 0).toNat = 191 ∧ (l.getD 2 0).toNat = 189) := by
  match l with
  | [] => simp [Lib.hasPrefix]
  | [a] => simp [Lib.hasPrefix]
  | [a, b] => simp [Lib.hasPrefix]
  | a :: b :: c :: t =>
    simp [Lib.hasPrefix, List.isPrefixOf]
    have e : ∀ (x y : UInt8), y = x ↔ x.toNat = y.toNat := fun x y => ⟨fun h => by rw [h], fun h => (UInt8.toNat_inj.1 h).symm⟩
    rw [e a 239, e b 191, e c 189]
    rfl
theorem dec_len (l : List UInt8) (h : (dec l).1 ≠ 65533) : Lib.runeLen ((dec l).1 : Int) = ((dec l).2 : Int) := decN_len _ _ _ _ _ h
theorem dec_err_yes (l : List UInt8) (h : (dec l).1 = 65533) (hp : Lib.hasPrefix l [239, 191, 189] = true) : (dec l).2 = 3 := (decN_err _ _ _ _ _ h).1 ((prefix_err l).1 hp)
theorem dec_err_no (l : List UInt8) (h : (dec l).1 = 65533) (hp : Lib.hasPrefix l [239, 191, 189] = false) : (dec l).2 = 1 :=
  (decN_err _ _ _ _ _ h).2 (fun hh => by rw [(prefix_err l).2 hh] at hp; cases hp)
end Txt
end Go.Proofs.YtbhoklhcdefabaaDoor

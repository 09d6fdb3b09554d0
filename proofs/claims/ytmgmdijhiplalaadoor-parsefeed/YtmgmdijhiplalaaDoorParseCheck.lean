/- Check: is a state one that a reader can be in? -/
import Derived.Test.YtmgmdijhiplalaaDoorParseOk
import Derived.Test.YtmgmdijhiplalaaDoorParseCopy
namespace Go.Proofs.YtmgmdijhiplalaaDoor
open Go.ChangeShapes Go.WideShapes Go.ChangeAt Go.RowKit
namespace Prs
theorem isNoParam_any (n : Int) (w : World) : Calls Tryd.prog 54 #[.int .i64 n] w fun e w' => e = .returned (.bool (noParam n)) ∧ w' = w := by
  go_enter Tryd.func54, Tryd.ntmps54
  go_wp2
  all_goals (go_ret; exact ⟨ret_bool (by rw [Bool.eq_iff_iff]; simp [noParam]; try omega), rfl⟩)
theorem high_any (x : UInt8) (w : World) : Calls Tryd.prog 55 #[.int .u8 (x.toNat : Int)] w fun e w' => e = .returned (.bool (high x)) ∧ w' = w := by
  go_enter Tryd.func55, Tryd.ntmps55
  go_wp2
  all_goals (go_ret; exact ⟨ret_bool (by rw [Bool.eq_iff_iff]; simp [high]; try omega), rfl⟩)
theorem all_cut (p : UInt8 → Bool) (s : ByteArray) (k : Nat) (hk : k < s.size) : (s.data.toList.take (k + 1)).all p = ((s.data.toList.take k).all p && p s[k]) := by
  have hl : k < s.data.toList.length := by rw [Array.length_toList]; exact hk
  rw [List.take_succ_eq_append_getElem hl, List.all_append]
  simp only [List.all_cons, List.all_nil, Bool.and_true]
  rfl
theorem all_not (p : UInt8 → Bool) (s : ByteArray) (k : Nat) (hk : k < s.size) (h : p s[k] = false) : allB p s = false := by
  unfold allB
  rw [← Bool.not_eq_true, List.all_eq_true]
  intro hc
  have := hc s[k] (by
    show s.data[k] ∈ s.data.toList
    exact Array.getElem_mem_toList ..)
  rw [h] at this
  exact absurd this (by simp)
set_option maxHeartbeats 4000000 in
set_option maxRecDepth 100000 in
theorem every_mid (s : ByteArray) (w : World) (hs : s.size ≤ 9223372036854775807) :
    Calls Tryd.prog 51 #[.string s, .func (.func 52) #[] #[]] w fun e w' => e = .returned (.bool (allB isMid s)) ∧ w' = w := by
  go_enter Tryd.func51, Tryd.ntmps51
  go_wp2_with fail
  go_loopg [8] s.size (fun q i wr => ∃ k : Nat, i = .int .i64 (k : Int) ∧ k ≤ s.size ∧ s.size - k ≤ q ∧ wr = w ∧ (s.data.toList.take k).all isMid = true)
  case atStart => exact ⟨0, rfl, by omega, by omega, rfl, rfl⟩
  case round =>
    obtain ⟨k, rfl, hk, hq, rfl, hall⟩ := hrel
    have HA : Hid ((s.data.toList.take k).all isMid = true) := hall
    clear hall
    by_cases hlt : k < s.size
    · have lt1 : ((k : Int) < (s.size : Int)) := by omega
      have HC := all_cut isMid s k hlt
      rw [HA.out, Bool.true_and] at HC
      have HCC : Hid _ := HC
      clear HC
      have HX := isMiddle_any s[k] wr
      cases hp : isMid s[k] with
      | true =>
        rw [hp] at HX
        go_wp2_with fail
        refine HX.mono ?_
        rintro e W5 ⟨rfl, rfl⟩
        go_wp2_with fail
        go_roundg (s.size - (k + 1))
        case measure => omega
        case rel => exact ⟨k + 1, rfl, by omega, by omega, rfl, HCC.out.trans hp⟩
      | false =>
        rw [hp] at HX
        go_wp2_with fail
        refine HX.mono ?_
        rintro e W5 ⟨rfl, rfl⟩
        go_wp2_with fail
        go_ret
        exact ⟨ret_bool (all_not isMid s k hlt hp).symm, rfl⟩
    · have lt1 : ¬ ((k : Int) < (s.size : Int)) := by omega
      have hkb : s.data.toList.take k = s.data.toList := List.take_of_length_le (by rw [Array.length_toList]; show s.size ≤ k; omega)
      go_wp2_with fail
      go_ret
      exact ⟨ret_bool (by rw [← HA.out, hkb]; rfl), rfl⟩
set_option maxHeartbeats 4000000 in
set_option maxRecDepth 100000 in
theorem every_high (s : ByteArray) (w : World) (hs : s.size ≤ 9223372036854775807) :
    Calls Tryd.prog 51 #[.string s, .func (.func 55) #[] #[]] w fun e w' => e = .returned (.bool (allB high s)) ∧ w' = w := by
  go_enter Tryd.func51, Tryd.ntmps51
  go_wp2_with fail
  go_loopg [8] s.size (fun q i wr => ∃ k : Nat, i = .int .i64 (k : Int) ∧ k ≤ s.size ∧ s.size - k ≤ q ∧ wr = w ∧ (s.data.toList.take k).all high = true)
  case atStart => exact ⟨0, rfl, by omega, by omega, rfl, rfl⟩
  case round =>
    obtain ⟨k, rfl, hk, hq, rfl, hall⟩ := hrel
    have HA : Hid ((s.data.toList.take k).all high = true) := hall
    clear hall
    by_cases hlt : k < s.size
    · have lt1 : ((k : Int) < (s.size : Int)) := by omega
      have HC := all_cut high s k hlt
      rw [HA.out, Bool.true_and] at HC
      have HCC : Hid _ := HC
      clear HC
      have HX := high_any s[k] wr
      cases hp : high s[k] with
      | true =>
        rw [hp] at HX
        go_wp2_with fail
        refine HX.mono ?_
        rintro e W5 ⟨rfl, rfl⟩
        go_wp2_with fail
        go_roundg (s.size - (k + 1))
        case measure => omega
        case rel => exact ⟨k + 1, rfl, by omega, by omega, rfl, HCC.out.trans hp⟩
      | false =>
        rw [hp] at HX
        go_wp2_with fail
        refine HX.mono ?_
        rintro e W5 ⟨rfl, rfl⟩
        go_wp2_with fail
        go_ret
        exact ⟨ret_bool (all_not high s k hlt hp).symm, rfl⟩
    · have lt1 : ¬ ((k : Int) < (s.size : Int)) := by omega
      have hkb : s.data.toList.take k = s.data.toList := List.take_of_length_le (by rw [Array.length_toList]; show s.size ≤ k; omega)
      go_wp2_with fail
      go_ret
      exact ⟨ret_bool (by rw [← HA.out, hkb]; rfl), rfl⟩
theorem any_cut (l : List Int) (k : Nat) (hk : k < l.length) : (l.take (k + 1)).any noParam = ((l.take k).any noParam || noParam l[k]) := by
  rw [List.take_succ_eq_append_getElem hk, List.any_append]
  simp
theorem any_yes (l : List Int) (k : Nat) (hk : k < l.length) (h : noParam l[k] = true) : anyNo l = true := List.any_eq_true.2 ⟨_, List.getElem_mem hk, h⟩
set_option maxHeartbeats 4000000 in
set_option maxRecDepth 100000 in
theorem indexFunc_any (l : List Int) (pv : Value) (w : World) (hI : IntsV w pv l) (h16 : l.length ≤ 16) :
    Calls Tryd.prog 74 #[pv, .func (.func 54) #[] #[]] w fun e w' => ∃ i : Int, e = .returned (.int .i64 i) ∧ decide (0 ≤ i) = anyNo l ∧ w' = w := by
  rcases hI with ⟨rfl, p0, n0, rfl⟩ | ⟨b, o, c, rfl, hc⟩
  · go_enter Tryd.func74, Tryd.ntmps74
    go_wp2_with fail
    go_loopg [8] 0 (fun q i wr => i = .int .i64 0 ∧ wr = w)
    case atStart => exact ⟨rfl, rfl⟩
    case round =>
      obtain ⟨rfl, rfl⟩ := hrel
      go_wp2_with fail
      go_ret
      exact ⟨_, rfl, rfl, rfl⟩
  · have HC : Hid (∀ j u, (ints l)[j]? = some u → w.cell? ((⟨b, o, none⟩ : Addr).add j) = some u) := hc
    clear hc
    go_enter Tryd.func74, Tryd.ntmps74
    go_wp2_with fail
    go_loopg [8] l.length (fun q i wr => ∃ k : Nat, i = .int .i64 (k : Int) ∧ k ≤ l.length ∧ l.length - k ≤ q ∧ wr = w ∧ (l.take k).any noParam = false)
    case atStart => exact ⟨0, rfl, by omega, by omega, rfl, rfl⟩
    case round =>
      obtain ⟨k, rfl, hk, hq, rfl, hall⟩ := hrel
      have HA : Hid ((l.take k).any noParam = false) := hall
      clear hall
      by_cases hlt : k < l.length
      · have lt1 : ((k : Int) < (l.length : Int)) := by omega
        have hck := HC.out k (.int .i64 l[k]) (by simp [ints, List.getElem?_eq_getElem hlt])
        rw [Addr.add_mid] at hck
        have HX := isNoParam_any l[k] wr
        have HCU : Hid _ := any_cut l k hlt
        cases hp : noParam l[k] with
        | false =>
          rw [hp] at HX
          go_wp2_with fail
          refine HX.mono ?_
          rintro e W5 ⟨rfl, rfl⟩
          go_wp2_with fail
          go_roundg (l.length - (k + 1))
          case measure => omega
          case rel => exact ⟨k + 1, rfl, by omega, by omega, rfl, by rw [HCU.out, HA.out, hp]; rfl⟩
        | true =>
          rw [hp] at HX
          go_wp2_with fail
          refine HX.mono ?_
          rintro e W5 ⟨rfl, rfl⟩
          go_wp2_with fail
          go_ret
          exact ⟨_, rfl, by rw [any_yes l k hlt hp]; simp, rfl⟩
      · have lt1 : ¬ ((k : Int) < (l.length : Int)) := by omega
        have hkb : l.take k = l := List.take_of_length_le (by omega)
        go_wp2_with fail
        go_ret
        have h9 := HA.out
        rw [hkb] at h9
        exact ⟨_, rfl, by rw [show anyNo l = false from h9]; rfl, rfl⟩
set_option maxRecDepth 100000 in
theorem containsFunc_any (l : List Int) (pv : Value) (w : World) (hI : IntsV w pv l) (h16 : l.length ≤ 16) :
    Calls Tryd.prog 53 #[pv, .func (.func 54) #[] #[]] w fun e w' => e = .returned (.bool (anyNo l)) ∧ w' = w := by
  have HX := indexFunc_any l pv w hI h16
  clear hI
  go_enter Tryd.func53, Tryd.ntmps53
  go_wp2_with fail
  refine HX.mono ?_
  rintro e W5 ⟨i, rfl, hi, rfl⟩
  have HI : Hid (decide (0 ≤ i) = anyNo l) := hi
  clear hi
  go_wp2_with fail
  go_ret
  exact ⟨ret_bool HI.out, rfl⟩
theorem tl_iff (s : ByteArray) : s.toList = [] ↔ s.size = 0 := by
  rw [← beq_iff_eq, empty_iff, decide_eq_true_eq]
set_option maxHeartbeats 4000000 in
set_option maxRecDepth 100000 in
theorem isBare_any (a mk : Int) (mid txt left : ByteArray) (p : Option Addr) (n c : Nat) (late : Bool) (w : World) :
    Calls Tryd.prog 24 #[.agg #[.int .i64 a, .int .u8 mk, .string mid, .slice p n c, .string txt, .string left, .bool late]] w fun e w' => e = .returned (.bool (decide (mk = 0) && (decide (mid.size = 0) && (decide (n = 0) && (decide (txt.size = 0) && (decide (left.size = 0) && !late)))))) ∧ Below w.heap.size w w' := by
  have x0 := heap_alloc_new w (.cells #[.int .i64 a, .int .u8 mk, .string mid, .slice p n c, .string txt, .string left, .bool late] 24)
  have kb : Below w.heap.size w (w.alloc (.cells #[.int .i64 a, .int .u8 mk, .string mid, .slice p n c, .string txt, .string left, .bool late] 24)) := (Below.refl _ _).alloc (Nat.le_refl _) _
  obtain ⟨c0, c1, c2, c3, c4, c5, c6, cf⟩ := cells7 x0
  clear cf
  go_enter Tryd.func24, Tryd.ntmps24
  go_wp2
  all_goals (go_ret; exact ⟨ret_bool (by clear c0 c1 c2 c3 c4 c5 c6 x0 kb; (try simp only [tl_iff] at *); simp only [*, decide_true, decide_false, Bool.true_and, Bool.false_and, Bool.and_false]), (Below.refl _ _).alloc (Nat.le_refl _) _⟩)
theorem parts_early (s : St) (h : s.at' = 2) (h2 : s.mid.size = 0) : parts s = false := by simp [parts, h, h2]
theorem IntsV.next {w w' : World} {v : Value} {l : List Int} (h : IntsV w v l) (hb : Below w.heap.size w w') : IntsV w' v l := by
  rcases h with h | ⟨b, o, c, hv, hc⟩
  · exact .inl h
  · refine .inr ⟨b, o, c, hv, fun j u hj => ?_⟩
    have h1 := hc j u hj
    rw [Addr.add_mid] at h1 ⊢
    exact cell_stay hb h1
theorem ieT (s : ByteArray) : (s.toList.isEmpty = true) = (s.size = 0) := propext (by rw [List.isEmpty_iff, tl_iff])
theorem ieF (s : ByteArray) : (s.toList.isEmpty = false) = ¬ (s.size = 0) := propext (by rw [← ieT, Bool.not_eq_true])
theorem le2 (a : Nat) : ((a : Int) ≤ 2) = (a ≤ 2) := propext ⟨fun h => by omega, fun h => by omega⟩
theorem le16 (a : Nat) : ((a : Int) ≤ 16) = (a ≤ 16) := propext ⟨fun h => by omega, fun h => by omega⟩
theorem le64 (a : Nat) : ((a : Int) ≤ 64) = (a ≤ 64) := propext ⟨fun h => by omega, fun h => by omega⟩
theorem lt2 (a : Nat) : ((2 : Int) < (a : Int)) = ¬ (a ≤ 2) := propext ⟨fun h => by omega, fun h => by omega⟩
theorem lt16 (a : Nat) : ((16 : Int) < (a : Int)) = ¬ (a ≤ 16) := propext ⟨fun h => by omega, fun h => by omega⟩
theorem lt64 (a : Nat) : ((64 : Int) < (a : Int)) = ¬ (a ≤ 64) := propext ⟨fun h => by omega, fun h => by omega⟩
end Prs
end Go.Proofs.YtmgmdijhiplalaaDoor

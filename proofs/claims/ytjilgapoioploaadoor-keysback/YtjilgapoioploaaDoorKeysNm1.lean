/- Package keys: Name. -/
import Derived.Test.YtjilgapoioploaaDoorKeysN
import Derived.Test.YtjilgapoioploaaDoorKeysWr4
namespace Go.Proofs.YtjilgapoioploaaDoor
open Go.ChangeShapes Go.WideShapes Go.ChangeAt Go.RowKit
namespace Kys
open Txt (wd bs)
def nameCells : Array Value := (namesL.map fun l => Value.string (bs l)).toArray
def NameTab (w : World) : Prop := ∃ (t : TypeId) (fr : Nat × Nat), w.heap[1]? = some (.cells nameCells t fr)
theorem NameTab.below {w w' : World} (h : NameTab w) (hb : Below w.heap.size w w') : NameTab w' := by
  obtain ⟨t, fr, h⟩ := h
  exact ⟨t, fr, by_block h hb⟩
def holdCells : Array Value := #[.int .i64 4, .string (bs [67, 45]), .int .i64 2, .string (bs [77, 45]), .int .i64 1, .string (bs [83, 45])]
def HoldTab (w : World) : Prop := ∃ (t : TypeId) (fr : Nat × Nat), w.heap[0]? = some (.cells holdCells t fr)
theorem HoldTab.below {w w' : World} (h : HoldTab w) (hb : Below w.heap.size w w') : HoldTab w' := by
  obtain ⟨t, fr, h⟩ := h
  exact ⟨t, fr, by_block h hb⟩
theorem name_cells : ∀ m, m < 15 → nameCells[m]? = some (.string (bs (namesL.getD m []))) := by
  intro m hm
  have : m = 0 ∨ m = 1 ∨ m = 2 ∨ m = 3 ∨ m = 4 ∨ m = 5 ∨ m = 6 ∨ m = 7 ∨ m = 8 ∨ m = 9 ∨ m = 10 ∨ m = 11 ∨ m = 12 ∨ m = 13 ∨ m = 14 := by omega
  rcases this with rfl | rfl | rfl | rfl | rfl | rfl | rfl | rfl | rfl | rfl | rfl | rfl | rfl | rfl | rfl <;> rfl
theorem NameTab.cell {w : World} (h : NameTab w) (m : Nat) (hm : m < 15) : w.cell? ⟨1, m, none⟩ = some (.string (bs (namesL.getD m []))) := by
  obtain ⟨t, fr, h⟩ := h
  unfold World.cell?
  rw [h]
  exact name_cells m hm
theorem dig12 : ∀ j ∈ List.range 13, Lib.decDigits j = digB j ∧ (digB j).length ≤ 2 := by decide +kernel
set_option maxHeartbeats 4000000 in
theorem bareName_any (k : Ky) (hk : chk k = true) (w : World) (hN : NameTab w) : Calls Tryd.prog 29 #[kyv k] w fun e w' => e = .returned (.string (bs (bareN k))) ∧ Below w.heap.size w w' := by
  have hc := chk_cases k hk
  obtain ⟨kind, r, n, held⟩ := k
  have kb : Below w.heap.size w (w.alloc (.cells #[.int .i64 kind, .int .i32 r, .int .i64 n, .int .i64 held] 23)) := (Below.refl _ _).alloc (Nat.le_refl _) _
  have hN1 := hN.below kb
  unfold kyv
  simp only
  by_cases h15 : kind = 15
  · subst h15
    have hn : 1 ≤ n ∧ n ≤ 12 := by
      unfold chk at hk
      simp only at hk
      split at hk
      · cases hk
      · simp at hk
        exact hk
    obtain ⟨j, hj, rfl⟩ : ∃ j : Nat, j < 13 ∧ n = (j : Int) := ⟨n.toNat, by omega, by omega⟩
    obtain ⟨d1, d2⟩ := dig12 j (List.mem_range.2 hj)
    have HI := Tryd.strconv_Itoa_small j (by omega) (w.alloc (.cells #[.int .i64 15, .int .i32 r, .int .i64 (j : Int), .int .i64 held] 23))
    rw [d1] at HI
    have e : bs (bareN ⟨15, r, (j : Int), held⟩) = ⟨#[70]⟩ ++ bs (digB j) := by
      unfold bareN
      rw [if_pos rfl]
      exact (Txt.bs_append [70] (digB j)).symm
    rw [e]
    rw [show (⟨(digB j).toArray⟩ : ByteArray) = bs (digB j) from rfl] at HI
    have hs : (bs (digB j)).size ≤ 2 := by rw [bs_size]; exact d2
    have hs2 : ¬ 9223372036854775807 < 1 + (bs (digB j)).size := by omega
    clear e d1 d2 hc hk hN1 hN hn
    generalize bs (digB j) = t at *
    go_enter Tryd.func29, Tryd.ntmps29
    go_wp2_with (go_at_call 25; refine HI.mono ?_; rintro e W1 ⟨rfl, hW⟩; subst hW)
    go_ret
    exact ⟨rfl, kb⟩
  · have b15 : (kind == 15) = false := by rw [beq_eq_false_iff_ne]; exact h15
    by_cases h1 : kind = 1
    · subst h1
      by_cases h32 : r = 32
      · subst h32
        clear hc hk hN1 hN
        go_enter Tryd.func29, Tryd.ntmps29
        go_wp2_with fail
        go_ret
        exact ⟨rfl, kb⟩
      · have b32 : (r == 32) = false := by rw [beq_eq_false_iff_ne]; exact h32
        have e : bs (bareN ⟨1, r, n, held⟩) = Utf8.encode r := by rw [encode_eq]; simp [bareN, h32]
        rw [e]
        clear e hc hk hN1 hN
        go_enter Tryd.func29, Tryd.ntmps29
        go_wp2_with fail
        go_ret
        exact ⟨rfl, kb⟩
    · have hr : 2 ≤ kind ∧ kind ≤ 14 := by
        rcases hc with hc | ⟨hc, _⟩ | ⟨hc, _⟩
        · have hp := plain_kinds _ hc
          simp only at hp
          omega
        · exact absurd (ctrl_kinds _ hc).1 h1
        · exact absurd hc h1
      obtain ⟨m, hm, rfl⟩ : ∃ m : Nat, m < 15 ∧ kind = (m : Int) := ⟨kind.toNat, by omega, by omega⟩
      have c0 := hN1.cell m hm
      have b1 : ((m : Int) != 1) = true := by rw [bne_iff_ne]; exact h1
      have e : bs (bareN ⟨(m : Int), r, n, held⟩) = bs (namesL.getD m []) := by
        unfold bareN
        rw [if_neg h15, if_pos h1, Int.toNat_natCast]
      rw [e]
      have i1 : (m : Int) < 15 := by omega
      have i0 : (0 : Int) ≤ (m : Int) := by omega
      clear e hc hk hN1 hN hr
      generalize bs (namesL.getD m []) = t at *
      go_enter Tryd.func29, Tryd.ntmps29
      go_wp2_with fail
      go_ret
      exact ⟨rfl, kb⟩
theorem hold_idx (i : Nat) (hi : i < 3) : ∃ (b : Int) (l : List UInt8), (i = 0 ∧ b = 4 ∧ l = [67, 45] ∨ i = 1 ∧ b = 2 ∧ l = [77, 45] ∨ i = 2 ∧ b = 1 ∧ l = [83, 45]) ∧ ∀ wr : World, (Instr.index 58 (.agg holdCells) (.int .i64 (i : Int))).run Tryd.prog wr = .ok (.agg #[.int .i64 b, .string (bs l)]) wr := by
  have : i = 0 ∨ i = 1 ∨ i = 2 := by omega
  rcases this with rfl | rfl | rfl
  · exact ⟨4, [67, 45], .inl ⟨rfl, rfl, rfl⟩, fun wr => by kernel_rfl⟩
  · exact ⟨2, [77, 45], .inr (.inl ⟨rfl, rfl, rfl⟩), fun wr => by kernel_rfl⟩
  · exact ⟨1, [83, 45], .inr (.inr ⟨rfl, rfl, rfl⟩), fun wr => by kernel_rfl⟩
theorem and_bit (h b : Int) (h0 : 0 ≤ h) (h7 : h ≤ 7) (hb : b = 4 ∨ b = 2 ∨ b = 1) : (bits BinOp.and IntKind.i64 h b != 0) = decide (h / b % 2 = 1) := by
  obtain ⟨j, hj, rfl⟩ := held_cases (h := h) h0 h7
  have : j = 0 ∨ j = 1 ∨ j = 2 ∨ j = 3 ∨ j = 4 ∨ j = 5 ∨ j = 6 ∨ j = 7 := by omega
  rcases this with rfl | rfl | rfl | rfl | rfl | rfl | rfl | rfl <;> rcases hb with rfl | rfl | rfl <;> decide +kernel
/-- The first i signs of what is held. -/
def hN (h : Int) : Nat → List UInt8
  | 0 => []
  | 1 => sgn h 4 [67, 45]
  | 2 => sgn h 4 [67, 45] ++ sgn h 2 [77, 45]
  | _ => holdsN h
theorem hN_succ (h : Int) (i : Nat) (b : Int) (l : List UInt8) (hh : i = 0 ∧ b = 4 ∧ l = [67, 45] ∨ i = 1 ∧ b = 2 ∧ l = [77, 45] ∨ i = 2 ∧ b = 1 ∧ l = [83, 45]) : hN h (i + 1) = hN h i ++ sgn h b l := by
  rcases hh with ⟨rfl, rfl, rfl⟩ | ⟨rfl, rfl, rfl⟩ | ⟨rfl, rfl, rfl⟩
  · rfl
  · rfl
  · rfl
theorem hN_len (h : Int) : ∀ i, (hN h i).length ≤ 6 := by
  have hs : ∀ b l, (sgn h b l).length ≤ l.length := fun b l => by unfold sgn; split <;> simp
  have a := hs 4 [67, 45]
  have b := hs 2 [77, 45]
  have c := hs 1 [83, 45]
  simp at a b c
  intro i
  match i with
  | 0 => simp [hN]
  | 1 => simp [hN]; omega
  | 2 => simp [hN]; omega
  | k + 3 => simp [hN, holdsN]; omega
set_option maxHeartbeats 4000000 in
set_option maxRecDepth 100000 in
theorem name_any (k : Ky) (hk : chk k = true) (w : World) (hT : Txt.Tab w) (hNm : NameTab w) (hH : HoldTab w) : Calls Tryd.prog 16 #[kyv k] w fun e w' => e = .returned (.tuple #[.string (bs (nameL k)), .int .i64 0]) ∧ Below w.heap.size w w' := by
  have hd : 0 ≤ k.held ∧ k.held ≤ 7 := by
    unfold chk at hk
    split at hk
    · cases hk
    · omega
  have hln := (named_name k hk).2
  have HBN := fun W (h : NameTab W) => bareName_any k hk W h
  obtain ⟨kind, r, n, held⟩ := k
  simp only at hd
  have kb : Below w.heap.size w (w.alloc (.cells #[.int .i64 kind, .int .i32 r, .int .i64 n, .int .i64 held] 23)) := (Below.refl _ _).alloc (Nat.le_refl _) _
  have HC := check_any ⟨kind, r, n, held⟩ _ (Tab.alloc hT (.cells #[.int .i64 kind, .int .i32 r, .int .i64 n, .int .i64 held] 23))
  rw [hk] at HC
  have hH1 := hH.below kb
  have hN1 := hNm.below kb
  obtain ⟨res, hres⟩ : ∃ res, bs (nameL ⟨kind, r, n, held⟩) = res := ⟨_, rfl⟩
  have HR : Hid (bs (hN held 3) ++ bs (bareN ⟨kind, r, n, held⟩) = res) := by
    unfold Hid
    rw [← hres, Txt.bs_append]
    rfl
  have hsz : (bs (hN held 3)).size + (bs (bareN ⟨kind, r, n, held⟩)).size ≤ 16 := by
    rw [bs_size, bs_size]
    unfold nameL at hln
    rw [List.length_append] at hln
    exact hln
  rw [hres]
  clear hres hln hk hT hNm hH
  generalize bs (bareN ⟨kind, r, n, held⟩) = tb at *
  unfold kyv at HC HBN ⊢
  simp only at HC HBN ⊢
  go_enter Tryd.func16, Tryd.ntmps16
  go_wp2_with (first | (go_at_call 11; refine HC.mono ?_; rintro e W1 ⟨rfl, b1⟩; have z1 := held_block b1; have k1 := kb.trans (b1.mono kb.size); obtain ⟨tt, fr, h1⟩ := hH1.below b1; have N1 := hN1.below b1) | (refine wpList_load_row rfl 58 (.global 0) rfl 0 rfl _ holdCells _ _ h1 Tryd.underlying58 rfl (by kernel_rfl) ?_))
  clear b1 HC hH1 hN1 kb h1
  go_loopg [4, 11] 3 (fun g v4 v11 wr => ∃ i : Nat, i ≤ 3 ∧ 3 - i ≤ g ∧ v11 = .int .i64 (i : Int) ∧ v4 = .string (bs (hN held i)) ∧ Below W1.heap.size W1 wr)
  case atStart => exact ⟨0, by omega, by omega, rfl, rfl, Below.refl _ _⟩
  case round =>
    obtain ⟨i, hi, hg, rfl, rfl, hb⟩ := hrel
    have zr := by_block z1 hb
    obtain ⟨⟨c0, c1, c2, c3⟩, _⟩ := four_cells zr
    have hsz2 := hb.size
    have zlt : w.heap.size < wr.heap.size := (Array.getElem?_eq_some_iff.1 zr).1
    have hne : ¬ w.heap.size = wr.heap.size := by omega
    have hl6 := hN_len held i
    by_cases h3 : i < 3
    · have i3 : (i : Int) < 3 := by omega
      obtain ⟨b, l, hbl, hix⟩ := hold_idx i h3
      have hbit := and_bit held b hd.1 hd.2 (by omega)
      have hsu := hN_succ held i b l hbl
      have hw : wrap64 ((i : Int) + 1) = (i : Int) + 1 := by unfold wrap64; omega
      have hll : l.length = 2 := by rcases hbl with ⟨_, _, rfl⟩ | ⟨_, _, rfl⟩ | ⟨_, _, rfl⟩ <;> rfl
      by_cases hq : held / b % 2 = 1
      · rw [decide_eq_true hq] at hbit
        have e : bs (hN held (i + 1)) = bs (hN held i) ++ bs l := by rw [hsu, ← Txt.bs_append]; unfold sgn; rw [if_pos hq]
        have hs1 : ¬ 9223372036854775807 < (bs (hN held i)).size + (bs l).size := by rw [bs_size, bs_size]; omega
        have HE : Hid (bs (hN held (i + 1)) = bs (hN held i) ++ bs l) := e
        clear e hsu hbl hq
        generalize bs (hN held i) = ta at *
        generalize bs l = tl at *
        clear hd hl6 hll HR hsz HBN
        have hix := hix wr
        go_wp2_with fail
        go_roundg (3 - (i + 1))
        case measure => omega
        case rel => exact ⟨i + 1, by omega, by omega, by go_num, congrArg Value.string HE.out.symm, hb.alloc hsz2 _⟩
      · rw [decide_eq_false hq] at hbit
        have e : bs (hN held (i + 1)) = bs (hN held i) := by rw [hsu]; unfold sgn; rw [if_neg hq, List.append_nil]
        have HE : Hid (bs (hN held (i + 1)) = bs (hN held i)) := e
        clear e hsu hbl hq
        generalize bs (hN held i) = ta at *
        generalize bs l = tl at *
        clear hd hl6 hll HR hsz HBN
        have hix := hix wr
        go_wp2_with fail
        go_roundg (3 - (i + 1))
        case measure => omega
        case rel => exact ⟨i + 1, by omega, by omega, by go_num, congrArg Value.string HE.out.symm, hb.alloc hsz2 _⟩
    · have e3 : i = 3 := by omega
      subst e3
      have HB := HBN wr (N1.below hb)
      have hs1 : ¬ 9223372036854775807 < (bs (hN held 3)).size + tb.size := by omega
      go_wp2_with (go_at_call 29; refine HB.mono ?_; rintro e W2 ⟨rfl, b2⟩)
      go_ret2
      have k2 := k1.trans (hb.mono k1.size)
      exact ⟨by rw [← HR.out]; rfl, k2.trans (b2.mono k2.size)⟩
end Kys
end Go.Proofs.YtjilgapoioploaaDoor

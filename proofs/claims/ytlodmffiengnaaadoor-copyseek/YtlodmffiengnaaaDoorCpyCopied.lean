/- Package copying: the closed fact: a word, marked, sought, taken. -/
import Derived.Test.YtlodmffiengnaaaDoorCpyCopiedM
namespace Go.Proofs.YtlodmffiengnaaaDoor
open Go.ChangeShapes Go.WideShapes Go.ChangeAt Go.RowKit Go.Maps Go.Sort
namespace Cpy
open Txt (Tab)
def k1 : Cp := ⟨4, 0, 0, 0, false⟩
def k2 : Cp := ⟨4, 0, 4, 0, true⟩
def k3 : Cp := ⟨2, 1, 4, 0, true⟩
theorem wordK0 : wordK L0 zCp = k1 := by
  unfold wordK
  rw [show wordM L0 zCp.x zCp.y.toNat = (4, 0) from wd0]
  rfl
theorem seekCE0 : seekCE L0 k2 sk = 0 := by
  unfold seekCE
  rw [if_neg (by rw [spk]; decide), spk]
  rw [show seekM L0 k2.x k2.y.toNat [26412] = some (2, 1) from sk0]
  rfl
theorem seekCK0 : seekCK L0 k2 sk = k3 := by
  unfold seekCK
  rw [if_neg (by rw [spk]; decide), spk]
  rw [show seekM L0 k2.x k2.y.toNat [26412] = some (2, 1) from sk0]
  rfl
theorem takeM0 : takeM L0 k3 = ⟨#[116, 119, 111, 10, 230, 151, 165, 230, 156, 172]⟩ := by
  unfold takeM
  rw [if_neg (by decide)]
  exact tk0
theorem takeE0 : takeE L0 k3 = 0 := by
  unfold takeE
  rw [takeM0, if_pos (show chk L0 k3 = 0 from chk3)]
  decide
theorem takeT0 : takeT L0 k3 = ⟨#[116, 119, 111, 10, 230, 151, 165, 230, 156, 172]⟩ := by
  unfold takeT
  rw [takeE0, if_pos rfl, takeM0]
theorem two_texts (w : World) (a b : ByteArray) : LsAt (w.alloc (.cells #[.string a, .string b] 9)) (.slice (some ⟨w.heap.size, 0, none⟩) 2 2) [a, b] := by
  refine ⟨_, _, rfl, .inr ⟨_, _, rfl, fun j x hx => ?_⟩⟩
  unfold World.cell?
  rw [heap_alloc_new, Nat.zero_add]
  match j, hx with
  | 0, hx => rw [← Option.some.inj hx]; rfl
  | 1, hx => rw [← Option.some.inj hx]; rfl
  | n + 2, hx => simp at hx
set_option maxHeartbeats 16000000 in
set_option maxRecDepth 100000 in
theorem copied_any (w : World) (hT : Tab w) (hM : MaxAt w) :
    Calls Tryd.prog 9 #[] w fun e w' => e = .returned (.bool true) ∧ Below w.heap.size w w' := by
  have kb : Below w.heap.size w (w.alloc (.cells #[.string la, .string lb] 9)) := (Below.refl _ _).alloc (Nat.le_refl _) _
  have HLS : Hid (∀ V, Below (w.alloc (.cells #[.string la, .string lb] 9)).heap.size (w.alloc (.cells #[.string la, .string lb] 9)) V → LsAt V (.slice (some ⟨w.heap.size, 0, none⟩) 2 2) L0) := fun V hV => (two_texts w la lb).below hV
  have HTB : Hid (∀ V, Below w.heap.size w V → Tab V) := fun V hV => hT.below hV hT.pos
  have HMB : Hid (∀ V, Below w.heap.size w V → MaxAt V) := fun V hV => hM.below hV
  have HL0 := HLS.out _ (Below.refl _ _)
  have H1 := move_any L0 (.slice (some ⟨w.heap.size, 0, none⟩) 2 2) zCp k1 ⟨#[119, 111, 114, 100]⟩ 0 _ HL0 (fun hc => by
    rw [← wordK0]
    exact word_how L0 _ zCp _ (HTB.out _ kb) hc)
  rw [chk0] at H1
  have H2 := fun V h => select_any L0 (.slice (some ⟨w.heap.size, 0, none⟩) 2 2) k1 true V h
  rw [show chk L0 k1 = 0 from chk1] at H2
  have H3 := fun V h (ht : Tab V) (hm : MaxAt V) => seek_any L0 (.slice (some ⟨w.heap.size, 0, none⟩) 2 2) k2 k3 sk 0 V h (fun hc => by
    rw [← seekCE0, ← seekCK0]
    exact seek_how L0 _ k2 sk V ht hm hc)
  rw [show chk L0 k2 = 0 from chk2] at H3
  have H4 := fun V h (ht : Tab V) => take_any L0 (.slice (some ⟨w.heap.size, 0, none⟩) 2 2) k3 V h ht
  rw [takeE0, takeT0] at H4
  have q1 : chgK 0 0 k1 = k1 := rfl
  have q2 : chgK 0 0 (selK k1 true) = k2 := rfl
  have q3 : chgK 0 0 k3 = k3 := rfl
  have qe : chgE 0 0 = 0 := rfl
  rw [q1, qe] at H1
  rw [q2, qe] at H2
  rw [q3, qe] at H3
  simp only [Cp.cells, k1, k2, k3] at H1 H2 H3 H4
  clear q1 q2 q3 qe hT hM HL0
  go_enter Tryd.func9, Tryd.ntmps9
  go_wp2_with fail
  refine H1.mono ?_
  rintro e W1 ⟨rfl, b1⟩
  have kk := b1
  have kw1 := kk
  have ka1 := kb.trans (b1.mono kb.size)
  have kc1A : Below W1.heap.size W1 (W1.alloc (.cells #[.int .i64 4, .int .i64 0, .int .i64 0, .int .i64 0, .bool false] 26)) := (Below.refl _ _).alloc (Nat.le_refl _) _
  have x1 : BoxAt (W1.alloc (.cells #[.int .i64 4, .int .i64 0, .int .i64 0, .int .i64 0, .bool false] 26)) W1.heap.size ⟨4, 0, 0, 0, false⟩ := heap_alloc_new W1 (.cells #[.int .i64 4, .int .i64 0, .int .i64 0, .int .i64 0, .bool false] 26)
  have kc1 := kw1.trans (kc1A.mono kw1.size)
  obtain ⟨⟨c0, c1, c2, c3, c4⟩, _⟩ := x1.cells
  simp only [] at c0 c1 c2 c3 c4
  go_wp2_with fail
  refine (H2 _ (HLS.out _ kc1)).mono ?_
  rintro e W2 ⟨rfl, b2⟩
  have y1 := x1.below b2
  have kw2 := kc1.trans (b2.mono kc1.size)
  have kc2A : Below W2.heap.size W2 (W2.alloc (.cells #[.int .i64 4, .int .i64 0, .int .i64 4, .int .i64 0, .bool true] 26)) := (Below.refl _ _).alloc (Nat.le_refl _) _
  have x2 : BoxAt (W2.alloc (.cells #[.int .i64 4, .int .i64 0, .int .i64 4, .int .i64 0, .bool true] 26)) W2.heap.size ⟨4, 0, 4, 0, true⟩ := heap_alloc_new W2 (.cells #[.int .i64 4, .int .i64 0, .int .i64 4, .int .i64 0, .bool true] 26)
  have kc2 := kw2.trans (kc2A.mono kw2.size)
  have y1a := y1.below kc2A
  obtain ⟨⟨d0, d1, d2, d3, d4⟩, _⟩ := x2.cells
  simp only [] at d0 d1 d2 d3 d4
  have ke2 := kb.trans (kc2.mono kb.size)
  clear H2 c0 c1 c2 c3 c4
  go_wp2_with fail
  refine (H3 _ (HLS.out _ kc2) (HTB.out _ ke2) (HMB.out _ ke2)).mono ?_
  rintro e W3 ⟨rfl, b3⟩
  have y1b := y1a.below b3
  have kw3 := kc2.trans (b3.mono kc2.size)
  have kc3A : Below W3.heap.size W3 (W3.alloc (.cells #[.int .i64 2, .int .i64 1, .int .i64 4, .int .i64 0, .bool true] 26)) := (Below.refl _ _).alloc (Nat.le_refl _) _
  have x3 : BoxAt (W3.alloc (.cells #[.int .i64 2, .int .i64 1, .int .i64 4, .int .i64 0, .bool true] 26)) W3.heap.size ⟨2, 1, 4, 0, true⟩ := heap_alloc_new W3 (.cells #[.int .i64 2, .int .i64 1, .int .i64 4, .int .i64 0, .bool true] 26)
  have kc3 := kw3.trans (kc3A.mono kw3.size)
  have y1c := y1b.below kc3A
  obtain ⟨⟨f0, f1, f2, f3, f4⟩, _⟩ := x3.cells
  simp only [] at f0 f1 f2 f3 f4
  have ke3 := kb.trans (kc3.mono kb.size)
  clear H3 d0 d1 d2 d3 d4
  go_wp2_with fail
  refine (H4 _ (HLS.out _ kc3) (HTB.out _ ke3)).mono ?_
  rintro e W4 ⟨rfl, b4⟩
  have y1d := y1c.below b4
  obtain ⟨⟨g0, g1, g2, g3, g4⟩, _⟩ := y1d.cells
  simp only [] at g0 g1 g2 g3 g4
  have ke4 := ke3.trans (b4.mono ke3.size)
  clear H4 f0 f1 f2 f3 f4
  go_wp2_with fail
  go_ret
  exact ⟨rfl, ke4⟩
end Cpy
end Go.Proofs.YtlodmffiengnaaaDoor

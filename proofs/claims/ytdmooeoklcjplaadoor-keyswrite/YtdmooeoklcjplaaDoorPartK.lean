/- slices.Equal of keys that read alike; Read of too many bytes. -/
import Derived.Test.YtdmooeoklcjplaaDoorPartJ
import Derived.BigQuiet
import Derived.Test.YtdmooeoklcjplaaDoorPartH
import Derived.Test.YtdmooeoklcjplaaDoorPartI
namespace Go.Proofs.YtdmooeoklcjplaaDoor
open Go.ChangeShapes Go.WideShapes Go.ChangeAt Go.RowKit
namespace Kys
open Txt (wd bs dec)
def KAt (w : World) (b o : Nat) (ks : List Ky) : Prop := ∀ j, j < ks.length →
  w.cell? ⟨b, o + j * 4, none⟩ = some (.int .i64 (ks.getD j zk).kind) ∧ w.cell? ⟨b, o + j * 4 + 1, none⟩ = some (.int .i32 (ks.getD j zk).r) ∧
  w.cell? ⟨b, o + j * 4 + 2, none⟩ = some (.int .i64 (ks.getD j zk).n) ∧ w.cell? ⟨b, o + j * 4 + 3, none⟩ = some (.int .i64 (ks.getD j zk).held)
theorem KAt.below {w w' : World} {b o : Nat} {ks : List Ky} (h : KAt w b o ks) (hb : Below w.heap.size w w') : KAt w' b o ks := fun j hj => by
  obtain ⟨a, b1, c, d⟩ := h j hj
  have hl := Txt.lt_of_cell a
  exact ⟨by rw [hb.cell hl]; exact a, by rw [hb.cell hl]; exact b1, by rw [hb.cell hl]; exact c, by rw [hb.cell hl]; exact d⟩
def KSl (w : World) (v : Value) (ks : List Ky) : Prop := (ks = [] ∧ ∃ a c, v = .slice a 0 c) ∨ (ks ≠ [] ∧ ∃ b o c, v = .slice (some ⟨b, o, none⟩) ks.length c ∧ KAt w b o ks)
theorem KSl.below {w w' : World} {v : Value} {ks : List Ky} (h : KSl w v ks) (hb : Below w.heap.size w w') : KSl w' v ks := by
  rcases h with h | ⟨h0, b, o, c, hv, hC⟩
  · exact .inl h
  · exact .inr ⟨h0, b, o, c, hv, hC.below hb⟩
theorem flatK_get : ∀ (ks : List Ky) (j : Nat), j < ks.length → (flatK ks)[j * 4]? = some (.int .i64 (ks.getD j zk).kind) ∧ (flatK ks)[j * 4 + 1]? = some (.int .i32 (ks.getD j zk).r) ∧ (flatK ks)[j * 4 + 2]? = some (.int .i64 (ks.getD j zk).n) ∧ (flatK ks)[j * 4 + 3]? = some (.int .i64 (ks.getD j zk).held)
  | [], j, h => absurd h (Nat.not_lt_zero _)
  | k :: ks, 0, _ => ⟨rfl, rfl, rfl, rfl⟩
  | k :: ks, j + 1, h => by
    have ih := flatK_get ks j (by simpa using h)
    rw [show (j + 1) * 4 = j * 4 + 4 by omega]
    exact ih
theorem OwnK.sl {w : World} {base : Nat} {v : Value} {ks : List Ky} (h : OwnK w base v ks) : KSl w v ks := by
  obtain ⟨hl, h1 | ⟨g, cap, cur, hv, hg, hh, hn, hc, hs, ht⟩⟩ := h
  · exact .inl ⟨List.length_eq_zero_iff.1 h1.2, none, 0, h1.1⟩
  · by_cases h0 : ks = []
    · subst h0
      exact .inl ⟨rfl, _, _, hv⟩
    · refine .inr ⟨h0, g, 0, cap, hv, fun j hj => ?_⟩
      have key : ∀ i u, i < ks.length * 4 → (flatK ks)[i]? = some u → w.cell? ⟨g, i, none⟩ = some u := fun i u hi hu => by
        have : cur[i]? = some u := by
          rw [← ht, List.getElem?_take_of_lt hi] at hu
          simpa using hu
        unfold World.cell?
        rw [hh]
        exact this
      obtain ⟨a, b, c, d⟩ := flatK_get ks j hj
      simp only [Nat.zero_add]
      exact ⟨key _ _ (by omega) a, key _ _ (by omega) b, key _ _ (by omega) c, key _ _ (by omega) d⟩
theorem neq_key (r f b x : Int) (w : World) : (binOp .neq 23 (.agg #[.int .i64 r, .int .i32 f, .int .i64 b, .int .i64 x]) (.agg #[.int .i64 r, .int .i32 f, .int .i64 b, .int .i64 x])).run Tryd.prog w = .ok (.bool false) w := by
  go_simp
set_option maxHeartbeats 1000000 in
theorem equal_keys (b1 o1 c1 b2 o2 c2 : Nat) (ks : List Ky) (w : World) (h1 : KAt w b1 o1 ks) (h2 : KAt w b2 o2 ks) (hn : ks.length ≤ 1000000) :
    Calls Tryd.prog 13 #[.slice (some ⟨b1, o1, none⟩) ks.length c1, .slice (some ⟨b2, o2, none⟩) ks.length c2] w fun e w' => e = .returned (.bool true) ∧ Below w.heap.size w w' := by
  have H1 : Hid (KAt w b1 o1 ks) := h1
  have H2 : Hid (KAt w b2 o2 ks) := h2
  clear h1 h2
  generalize hl : ks.length = L at *
  have HL : Hid (ks.length = L) := hl
  clear hl
  have ne : ((L : Int) != (L : Int)) = false := by simp
  go_enter Tryd.func13, Tryd.ntmps13
  go_wp2_with fail
  go_loopg [13] L (fun g i wr => ∃ k : Nat, i = .int .i64 (k : Int) ∧ k ≤ L ∧ L - k ≤ g ∧ Below w.heap.size w wr)
  case atStart => exact ⟨0, rfl, by omega, by omega, Below.refl _ _⟩
  case round =>
    obtain ⟨k, rfl, hk, hg, hb⟩ := hrel
    by_cases hlt : k < L
    · have lt1 : ((k : Int) < (L : Int)) := by omega
      obtain ⟨p0, p1, p2, p3⟩ := H1.out.below hb k (by rw [HL.out]; exact hlt)
      obtain ⟨q0, q1, q2, q3⟩ := H2.out.below hb k (by rw [HL.out]; exact hlt)
      rcases hc : ks.getD k zk with ⟨r, f, bk, x⟩
      rw [hc] at p0 p1 p2 p3 q0 q1 q2 q3
      dsimp only at p0 p1 p2 p3 q0 q1 q2 q3
      clear hc
      have nq := neq_key r f bk x
      go_wp2_with fail
      go_region
      go_wp2_with fail
      go_roundg (L - (k + 1))
      case measure => omega
      case rel => exact ⟨k + 1, rfl, by omega, by omega, hb.drew⟩
    · have lt1 : ¬ ((k : Int) < (L : Int)) := by omega
      go_wp2_with fail
      go_ret
      exact ⟨rfl, hb⟩
set_option maxHeartbeats 1000000 in
theorem equal_empty (a1 a2 : Option Addr) (c1 c2 : Nat) (w : World) :
    Calls Tryd.prog 13 #[.slice a1 0 c1, .slice a2 0 c2] w fun e w' => e = .returned (.bool true) ∧ Below w.heap.size w w' := by
  go_enter Tryd.func13, Tryd.ntmps13
  go_wp2_with fail
  go_loopg [13] 1 (fun g i wr => i = .int .i64 0 ∧ wr = w)
  case atStart => exact ⟨rfl, rfl⟩
  case round =>
    obtain ⟨rfl, rfl⟩ := hrel
    go_wp2_with fail
    go_ret
    exact ⟨rfl, Below.refl _ _⟩
theorem equal_any (v1 v2 : Value) (ks : List Ky) (w : World) (h1 : KSl w v1 ks) (h2 : KSl w v2 ks) (hn : ks.length ≤ 1000000) :
    Calls Tryd.prog 13 #[v1, v2] w fun e w' => e = .returned (.bool true) ∧ Below w.heap.size w w' := by
  rcases h1 with ⟨rfl, a1, c1, rfl⟩ | ⟨h0, b1, o1, c1, rfl, hC1⟩
  · rcases h2 with ⟨_, a2, c2, rfl⟩ | ⟨h0, _⟩
    · exact equal_empty a1 a2 c1 c2 w
    · exact absurd rfl h0
  · rcases h2 with ⟨rfl, _⟩ | ⟨_, b2, o2, c2, rfl, hC2⟩
    · exact absurd rfl h0
    · exact equal_keys b1 o1 c1 b2 o2 c2 ks w hC1 hC2 hn
set_option maxHeartbeats 1000000 in
theorem read_many (s : ByteArray) (last : Bool) (hs : 4000 < s.size) (w : World) : Calls Tryd.prog 11 #[.string s, .bool last] w fun e w' => e = .returned (.tuple #[.slice none 0 0, .string ⟨#[]⟩, .int .i64 2]) ∧ Below w.heap.size w w' := by
  have i4 : (4000 : Int) < (s.size : Int) := by omega
  go_enter Tryd.func11, Tryd.ntmps11
  go_wp2_with fail
  go_ret3
  exact ⟨rfl, Below.refl _ _⟩
end Kys
end Go.Proofs.YtdmooeoklcjplaaDoor

/- The closed fact: an arrow with something held. -/
namespace Go.Proofs.YtdmooeoklcjplaaDoor
open Go.ChangeShapes Go.WideShapes Go.ChangeAt Go.RowKit
namespace Kys
open Txt (wd bs dec)
theorem rd_struck : rd [27, 91, 49, 59, 53, 65, 113, 27] false = ([⟨6, 0, 0, 4⟩, ⟨1, 113, 0, 0⟩], [27]) := by decide +kernel
theorem wr_struck : wr ⟨6, 0, 0, 4⟩ true = [27, 91, 49, 59, 53, 65] := by decide +kernel
theorem two_keys (W : World) (a b c d p q r z : Int) : KSl (W.alloc (.cells #[.int .i64 a, .int .i32 b, .int .i64 c, .int .i64 d, .int .i64 p, .int .i32 q, .int .i64 r, .int .i64 z] 23)) (.slice (some ⟨W.heap.size, 0, none⟩) 2 2) [⟨a, b, c, d⟩, ⟨p, q, r, z⟩] := by
  refine .inr ⟨by simp, W.heap.size, 0, 2, rfl, fun j hj => ?_⟩
  have hc : ∀ i, (W.alloc (.cells #[.int .i64 a, .int .i32 b, .int .i64 c, .int .i64 d, .int .i64 p, .int .i32 q, .int .i64 r, .int .i64 z] 23)).cell? ⟨W.heap.size, i, none⟩ = #[.int .i64 a, .int .i32 b, .int .i64 c, .int .i64 d, .int .i64 p, .int .i32 q, .int .i64 r, .int .i64 z][i]? := fun i => by
    unfold World.cell?
    rw [heap_alloc_new]
    rfl
  simp only [hc]
  have : j = 0 ∨ j = 1 := by simp at hj; omega
  rcases this with rfl | rfl <;> exact ⟨rfl, rfl, rfl, rfl⟩
set_option maxHeartbeats 4000000 in
set_option maxRecDepth 100000 in
theorem struck_any (w : World) (hE : Env w) : Calls Tryd.prog 8 #[] w fun e w' => e = .returned (.bool true) ∧ Below w.heap.size w w' := by
  have HW := write_6 0 0 4 true w hE.tab (by decide +kernel) (by decide) (by decide)
  rw [wr_struck] at HW
  have HRd := fun W (h : Env W) => read_any ⟨#[27, 91, 49, 59, 53, 65, 113, 27]⟩ false (by decide) W h
  rw [show (⟨#[27, 91, 49, 59, 53, 65, 113, 27]⟩ : ByteArray).data.toList = [27, 91, 49, 59, 53, 65, 113, 27] from rfl, rd_struck] at HRd
  simp only at HRd
  rw [show bs [27, 91, 49, 59, 53, 65] = ⟨#[27, 91, 49, 59, 53, 65]⟩ from rfl] at HW
  rw [show bs [27] = ⟨#[27]⟩ from rfl] at HRd
  have HEq := fun v1 v2 W h1 h2 => equal_any v1 v2 [⟨6, 0, 0, 4⟩, ⟨1, 113, 0, 0⟩] W h1 h2 (by simp)
  unfold kyv at HW
  simp only at HW
  go_enter Tryd.func8, Tryd.ntmps8
  go_wp2_with (first | (go_at_call 6; refine HW.mono ?_; rintro e W1 ⟨rfl, b1⟩) | (go_at_call 11; refine (HRd _ (hE.below b1)).mono ?_; rintro e W2 ⟨v, rfl, ho, b2⟩) | (go_at_call 13; refine (HEq _ _ _ (ho.sl.below ((Below.refl _ _).alloc (Nat.le_refl _) _)) (two_keys _ _ _ _ _ _ _ _ _)).mono ?_; rintro e W3 ⟨rfl, b3⟩))
  go_ret
  have k2 := b1.trans (b2.mono b1.size)
  have k3 := k2.alloc k2.size (.cells #[.int .i64 6, .int .i32 0, .int .i64 0, .int .i64 4, .int .i64 1, .int .i32 113, .int .i64 0, .int .i64 0] 23)
  exact ⟨rfl, k3.trans (b3.mono k3.size)⟩
end Kys
end Go.Proofs.YtdmooeoklcjplaaDoor

/- The walk of the law KeysWrite. -/
namespace Go.Proofs.YtdmooeoklcjplaaDoor
open Go.ChangeShapes Go.WideShapes Go.ChangeAt Go.RowKit
namespace Kys
open Txt (wd bs dec)
set_option maxHeartbeats 4000000 in
set_option maxRecDepth 100000 in
theorem write_law_no (k : Ky) (kp : Bool) (w : World) (hE : Env w) (hf : Wf k) (hk : chk k = false) : Calls Tryd.prog 3 #[kyv k, .bool kp] w fun e w' => e = .returned (.bool true) ∧ Below w.heap.size w w' := by
  have HEV : Hid (∀ W, Below w.heap.size w W → Env W) := fun W h => hE.below h
  have HW := fun W (h : Env W) => write_no k kp W h.tab hk
  have HI := fun W => isKey_any k W hf
  have HC := fun W (h : Env W) => check_any k W h.tab
  rw [hk] at HI HC
  clear hE hk hf
  obtain ⟨kd, rr, nn, hh⟩ := k
  have kb : Below w.heap.size w (w.alloc (.cells #[.int .i64 kd, .int .i32 rr, .int .i64 nn, .int .i64 hh] 23)) := (Below.refl _ _).alloc (Nat.le_refl _) _
  unfold kyv at HW HI HC ⊢
  simp only at HW HI HC ⊢
  go_enter Tryd.func3, Tryd.ntmps3
  go_wp2_with (go_at_call 6; refine (HW _ (HEV.out _ kb)).mono ?_; rintro e W1 ⟨rfl, b1⟩; have k1 := kb.trans (b1.mono kb.size); have y1 := held_block b1; obtain ⟨⟨c0, c1, c2, c3⟩, _⟩ := four_cells y1; clear HW)
  refine (HI W1).mono ?_
  rintro e W2 ⟨rfl, b2⟩
  have k2 := k1.trans (b2.mono k1.size)
  have y2 := by_block y1 b2
  have HS := struck_any W2 (HEV.out W2 k2)
  clear HI c0 c1 c2 c3
  go_wp2_with fail
  refine HS.mono ?_
  rintro e W3 ⟨rfl, b3⟩
  have k3 := k2.trans (b3.mono k2.size)
  have y3 := by_block y2 b3
  obtain ⟨⟨c0, c1, c2, c3⟩, _⟩ := four_cells y3
  have HC := HC W3 (HEV.out W3 k3)
  clear HS
  go_wp2_with fail
  refine HC.mono ?_
  rintro e W4 ⟨rfl, b4⟩
  have k4 := k3.trans (b4.mono k3.size)
  clear HC c0 c1 c2 c3
  go_wp2_with fail
  go_ret
  exact ⟨rfl, k4⟩
set_option maxHeartbeats 4000000 in
set_option maxRecDepth 100000 in
theorem write_law_yes (k : Ky) (kp : Bool) (w : World) (hE : Env w) (hf : Wf k) (hk : chk k = true) : Calls Tryd.prog 3 #[kyv k, .bool kp] w fun e w' => e = .returned (.bool true) ∧ Below w.heap.size w w' := by
  have HEV : Hid (∀ W, Below w.heap.size w W → Env W) := fun W h => hE.below h
  have HW := fun W (h : Env W) => write_any k kp W h.tab h.num hk
  have HI := fun W => isKey_any k W hf
  have HC := fun W (h : Env W) => check_any k W h.tab
  have HB := fun W => keyBytes_any k kp W hf hk
  rw [hk] at HI HC
  clear hE hk hf
  generalize bs (wr k kp) = tw at *
  obtain ⟨kd, rr, nn, hh⟩ := k
  have kb : Below w.heap.size w (w.alloc (.cells #[.int .i64 kd, .int .i32 rr, .int .i64 nn, .int .i64 hh] 23)) := (Below.refl _ _).alloc (Nat.le_refl _) _
  unfold kyv at HW HI HC HB ⊢
  simp only at HW HI HC HB ⊢
  go_enter Tryd.func3, Tryd.ntmps3
  go_wp2_with (go_at_call 6; refine (HW _ (HEV.out _ kb)).mono ?_; rintro e W1 ⟨rfl, b1⟩; have k1 := kb.trans (b1.mono kb.size); have y1 := held_block b1; obtain ⟨⟨c0, c1, c2, c3⟩, _⟩ := four_cells y1; clear HW)
  refine (HI W1).mono ?_
  rintro e W2 ⟨rfl, b2⟩
  have k2 := k1.trans (b2.mono k1.size)
  have y2 := by_block y1 b2
  have HS := struck_any W2 (HEV.out W2 k2)
  clear HI c0 c1 c2 c3
  go_wp2_with fail
  refine HS.mono ?_
  rintro e W3 ⟨rfl, b3⟩
  have k3 := k2.trans (b3.mono k2.size)
  have y3 := by_block y2 b3
  obtain ⟨⟨c0, c1, c2, c3⟩, _⟩ := four_cells y3
  have HC := HC W3 (HEV.out W3 k3)
  clear HS
  go_wp2_with fail
  refine HC.mono ?_
  rintro e W4 ⟨rfl, b4⟩
  have k4 := k3.trans (b4.mono k3.size)
  have y4 := by_block y3 b4
  clear HC c0 c1 c2 c3
  obtain ⟨⟨c0, c1, c2, c3⟩, _⟩ := four_cells y4
  go_wp2_with fail
  refine (HB W4).mono ?_
  rintro e W5 ⟨rfl, b5⟩
  have k5 := k4.trans (b5.mono k4.size)
  clear HB c0 c1 c2 c3
  go_wp2_with fail
  go_ret
  exact ⟨rfl, k5⟩
theorem keysWrite_walk (k : Ky) (kp : Bool) (w : World) (hE : Env w) (hf : Wf k) : Calls Tryd.prog 3 #[kyv k, .bool kp] w fun e w' => e = .returned (.bool true) ∧ Below w.heap.size w w' := by
  cases hk : chk k with
  | true => exact write_law_yes k kp w hE hf hk
  | false => exact write_law_no k kp w hE hf hk
end Kys
end Go.Proofs.YtdmooeoklcjplaaDoor

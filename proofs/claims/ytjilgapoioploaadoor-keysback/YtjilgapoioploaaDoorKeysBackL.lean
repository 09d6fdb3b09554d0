/- The walk of the law KeysBack. -/
import Derived.Test.YtjilgapoioploaaDoorKeysNm3
import Derived.Test.YtjilgapoioploaaDoorKeysStruck
namespace Go.Proofs.YtjilgapoioploaaDoor
open Go.ChangeShapes Go.WideShapes Go.ChangeAt Go.RowKit
namespace Kys
open Txt (wd bs dec)
theorem one_key (W : World) (a b c d : Int) : KSl (W.alloc (.cells #[.int .i64 a, .int .i32 b, .int .i64 c, .int .i64 d] 23)) (.slice (some ⟨W.heap.size, 0, none⟩) 1 1) [⟨a, b, c, d⟩] := by
  refine .inr ⟨by simp, W.heap.size, 0, 1, rfl, fun j hj => ?_⟩
  have hc : ∀ i, (W.alloc (.cells #[.int .i64 a, .int .i32 b, .int .i64 c, .int .i64 d] 23)).cell? ⟨W.heap.size, i, none⟩ = #[.int .i64 a, .int .i32 b, .int .i64 c, .int .i64 d][i]? := fun i => by
    unfold World.cell?
    rw [heap_alloc_new]
    rfl
  simp only [hc]
  have : j = 0 := by simp at hj; omega
  subst this
  exact ⟨rfl, rfl, rfl, rfl⟩
theorem eql_same (a b c d : Int) (w : World) : (binOp .eql 23 (.agg #[.int .i64 a, .int .i32 b, .int .i64 c, .int .i64 d]) (.agg #[.int .i64 a, .int .i32 b, .int .i64 c, .int .i64 d])).run Tryd.prog w = .ok (.bool true) w := by
  go_simp
set_option maxHeartbeats 4000000 in
set_option maxRecDepth 100000 in
theorem back_no (k : Ky) (kp : Bool) (w : World) (hE : Env w) (hk : chk k = false) : Calls Tryd.prog 6 #[kyv k, .bool kp] w fun e w' => e = .returned (.bool true) ∧ Below w.heap.size w w' := by
  obtain ⟨kd, rr, nn, hh⟩ := k
  have kb : Below w.heap.size w (w.alloc (.cells #[.int .i64 kd, .int .i32 rr, .int .i64 nn, .int .i64 hh] 23)) := (Below.refl _ _).alloc (Nat.le_refl _) _
  have HEV : Hid (∀ W, Below w.heap.size w W → Env W) := fun W h => hE.below h
  have HW := write_no ⟨kd, rr, nn, hh⟩ kp _ (HEV.out _ kb).tab hk
  clear hE hk
  unfold kyv at HW ⊢
  simp only at HW ⊢
  go_enter Tryd.func6, Tryd.ntmps6
  go_wp2_with (go_at_call 8; refine HW.mono ?_; rintro e W1 ⟨rfl, b1⟩; have k1 := kb.trans (b1.mono kb.size); have HS := struck_any W1 (HEV.out W1 k1))
  refine HS.mono ?_
  rintro e W2 ⟨rfl, b2⟩
  have k2 := k1.trans (b2.mono k1.size)
  have HS2 := struck_any W2 (HEV.out W2 k2)
  clear HS HW
  go_wp2_with fail
  refine HS2.mono ?_
  rintro e W3 ⟨rfl, b3⟩
  go_wp2_with fail
  go_ret
  exact ⟨rfl, k2.trans (b3.mono k2.size)⟩
set_option maxHeartbeats 4000000 in
set_option maxRecDepth 100000 in
theorem back_yes (k : Ky) (kp : Bool) (w : World) (hE : Env w) (hNm : NameTab w) (hH : HoldTab w) (hk : chk k = true) : Calls Tryd.prog 6 #[kyv k, .bool kp] w fun e w' => e = .returned (.bool true) ∧ Below w.heap.size w w' := by
  have HEV : Hid (∀ W, Below w.heap.size w W → Env W ∧ NameTab W ∧ HoldTab W) := fun W h => ⟨hE.below h, hNm.below h, hH.below h⟩
  have hlen := (wr_any k hk kp).2.2
  have hnl := named_name k hk
  have hcd : cand (nameL k) = k := by
    have := hnl.1
    unfold named at this
    split at this
    · exact Option.some.inj this
    · cases this
  have HR := fun W (h : Env W) => read_any (bs (wr k kp)) true (by rw [bs_sz]; omega) W h
  rw [bs_list, rd_wr k hk kp] at HR
  simp only at HR
  have HW := fun W (h : Env W) => write_any k kp W h.tab h.num hk
  have HNa := fun W h1 h2 h3 => name_any k hk W h1 h2 h3
  have HNd := fun W h1 h2 h3 => named_good (bs (nameL k)) (by rw [bs_sz]; have := hnl.2; omega) (by rw [bs_list, hcd]; exact hk) (by rw [bs_list, hcd]) W h1 h2 h3
  rw [bs_list, hcd] at HNd
  have HQ := fun v1 v2 W h1 h2 => equal_any v1 v2 [k] W h1 h2 (by simp)
  clear hE hNm hH hk hlen hnl hcd
  generalize bs (wr k kp) = tw at *
  generalize bs (nameL k) = tn at *
  rw [show bs ([] : List UInt8) = ⟨#[]⟩ from rfl] at HR
  obtain ⟨kd, rr, nn, hh⟩ := k
  have kb : Below w.heap.size w (w.alloc (.cells #[.int .i64 kd, .int .i32 rr, .int .i64 nn, .int .i64 hh] 23)) := (Below.refl _ _).alloc (Nat.le_refl _) _
  have hes := eql_same kd rr nn hh
  unfold kyv at HW HNa HNd ⊢
  simp only at HW HNa HNd ⊢
  go_enter Tryd.func6, Tryd.ntmps6
  go_wp2_with (go_at_call 8; refine (HW _ (HEV.out _ kb).1).mono ?_; rintro e W1 ⟨rfl, b1⟩; have k1 := kb.trans (b1.mono kb.size); have y1 := held_block b1; have HS := struck_any W1 (HEV.out W1 k1).1)
  refine HS.mono ?_
  rintro e W2 ⟨rfl, b2⟩
  have k2 := k1.trans (b2.mono k1.size)
  have y2 := by_block y1 b2
  have HR := HR W2 (HEV.out W2 k2).1
  clear HS HW
  go_wp2_with fail
  refine HR.mono ?_
  rintro e W3 ⟨v, rfl, ow, b3⟩
  have k3 := k2.trans (b3.mono k2.size)
  have y3 := by_block y2 b3
  have HNa := HNa W3 (HEV.out W3 k3).1.tab (HEV.out W3 k3).2.1 (HEV.out W3 k3).2.2
  obtain ⟨⟨c0, c1, c2, c3⟩, _⟩ := four_cells y3
  clear HR
  go_wp2_with fail
  refine HNa.mono ?_
  rintro e W4 ⟨rfl, b4⟩
  have k4 := k3.trans (b4.mono k3.size)
  have HNd := HNd W4 (HEV.out W4 k4).1 (HEV.out W4 k4).2.1 (HEV.out W4 k4).2.2
  clear HNa c0 c1 c2 c3
  go_wp2_with fail
  refine HNd.mono ?_
  rintro e W5 ⟨rfl, b5⟩
  have b35 := b4.trans (b5.mono b4.size)
  have k5 := k3.trans (b35.mono k3.size)
  have s5 := ow.sl.below b35
  have y5 := by_block y3 b35
  have a5 : Below W5.heap.size W5 ((W5.alloc (.cells #[.int .i64 kd, .int .i32 rr, .int .i64 nn, .int .i64 hh] 23)).alloc (.cells #[.int .i64 kd, .int .i32 rr, .int .i64 nn, .int .i64 hh] 23)) := ((Below.refl _ _).alloc (Nat.le_refl _) _).alloc (by simp) _
  have s6 := s5.below a5
  have t6 := one_key (W5.alloc (.cells #[.int .i64 kd, .int .i32 rr, .int .i64 nn, .int .i64 hh] 23)) kd rr nn hh
  rw [show (W5.alloc (.cells #[.int .i64 kd, .int .i32 rr, .int .i64 nn, .int .i64 hh] 23)).heap.size = W5.heap.size + 1 by simp] at t6
  have HQ6 := HQ _ _ _ s6 t6
  have y6 := by_block y5 a5
  have x6 : ((W5.alloc (.cells #[.int .i64 kd, .int .i32 rr, .int .i64 nn, .int .i64 hh] 23)).alloc (.cells #[.int .i64 kd, .int .i32 rr, .int .i64 nn, .int .i64 hh] 23)).heap[W5.heap.size]? = some (.cells #[.int .i64 kd, .int .i32 rr, .int .i64 nn, .int .i64 hh] 23) := by_block (heap_alloc_new W5 (.cells #[.int .i64 kd, .int .i32 rr, .int .i64 nn, .int .i64 hh] 23)) ((Below.refl _ _).alloc (Nat.le_refl _) (.cells #[.int .i64 kd, .int .i32 rr, .int .i64 nn, .int .i64 hh] 23))
  have k6 := k5.trans (a5.mono k5.size)
  obtain ⟨⟨c0, c1, c2, c3⟩, _⟩ := four_cells y5
  have hlt : w.heap.size < W5.heap.size := (Array.getElem?_eq_some_iff.1 y5).1
  have hne : ¬ w.heap.size = W5.heap.size := by omega
  clear HNd HQ
  go_wp2_with (go_at_call 15; refine HQ6.mono ?_; rintro e W7 ⟨rfl, b7⟩; obtain ⟨⟨d0, d1, d2, d3⟩, _⟩ := four_cells (by_block y6 b7); obtain ⟨⟨e0, e1, e2, e3⟩, _⟩ := four_cells (by_block x6 b7))
  go_ret
  exact ⟨rfl, k6.trans (b7.mono k6.size)⟩
theorem keysBack_walk (k : Ky) (kp : Bool) (w : World) (hE : Env w) (hNm : NameTab w) (hH : HoldTab w) : Calls Tryd.prog 6 #[kyv k, .bool kp] w fun e w' => e = .returned (.bool true) ∧ Below w.heap.size w w' := by
  cases hk : chk k with
  | true => exact back_yes k kp w hE hNm hH hk
  | false => exact back_no k kp w hE hk
end Kys
end Go.Proofs.YtjilgapoioploaaDoor

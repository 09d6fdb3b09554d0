/- Package sheet: Insert's closure: a row with blanks put in. -/
import Derived.Test.YtnkeahfcpbepjaaDoorPartK
import Derived.Test.YtnkeahfcpbepjaaDoorPartI
import Derived.Test.YtnkeahfcpbepjaaDoorPartJ
import Derived.Deep.RegionHeld3
import Derived.BigRegion
import Derived.Test.YtnkeahfcpbepjaaDoorPartF
import Derived.Maps.AppendAt
import Derived.Test.YtnkeahfcpbepjaaDoorPartH
namespace Go.Proofs.YtnkeahfcpbepjaaDoor
open Go.ChangeShapes Go.WideShapes Go.ChangeAt Go.RowKit
namespace Put
open Grd (C SliceAt CellsAt gridErr z0 nilV flat rowsL RowB OwnG)
/-- A row with n blanks put in at x; what leaves it goes. -/
def insR (row : List C) (x n : Nat) (bk : Int) : List C := row.take x ++ (List.replicate n (32, 0, bk, 0) ++ (row.drop x).take (row.length - n - x))
theorem insR_len (row : List C) (x n : Nat) (bk : Int) (h : x + n ≤ row.length) : (insR row x n bk).length = row.length := by
  unfold insR
  rw [List.length_append, List.length_append, List.length_replicate, List.length_take, List.length_take, List.length_drop]
  omega
set_option maxHeartbeats 8000000 in
set_option maxRecDepth 100000 in
theorem ins1_any (W : World) (p Bp Bn rb ro c x n : Nat) (bk : Int) (row : List C) (hp : W.cell? ⟨Bp, 0, none⟩ = some (.pointer (some ⟨p, 0, none⟩))) (hn : W.cell? ⟨Bn, 0, none⟩ = some (.int .i64 (n : Int))) (hx : W.cell? ⟨p, 3, none⟩ = some (.int .i64 (x : Int))) (h7 : W.cell? ⟨p, 7, none⟩ = some (.int .i64 bk)) (hC : CellsAt W rb ro row) (hc : row.length ≤ c) (hn1 : 1 ≤ n) (hxn : x + n ≤ row.length) (hl : row.length ≤ 120) :
    Calls Tryd.prog 136 #[.slice (some ⟨rb, ro, none⟩) row.length c, .pointer (some ⟨Bp, 0, none⟩), .pointer (some ⟨Bn, 0, none⟩)] W fun e W' => ∃ v', e = .returned v' ∧ W'.ownsRow W.heap.size 63 4 v' row.length (flat (insR row x n bk)) ∧ Below W.heap.size W W' := by
  have SK : Hid (∀ V, Below W.heap.size W V → V.cell? ⟨Bp, 0, none⟩ = some (.pointer (some ⟨p, 0, none⟩)) ∧ V.cell? ⟨Bn, 0, none⟩ = some (.int .i64 (n : Int)) ∧ V.cell? ⟨p, 3, none⟩ = some (.int .i64 (x : Int))) := fun V h => ⟨cell_stay h hp, cell_stay h hn, cell_stay h hx⟩
  have HBL : Hid (∀ V, Below W.heap.size W V → Calls Tryd.prog 137 #[.pointer (some ⟨p, 0, none⟩), .int .i64 (n : Int)] V fun e W' => ∃ a c g, e = .returned (.slice a n c) ∧ V.heap.size ≤ g ∧ RowB W' g (.slice a n c) (List.replicate n (32, 0, bk, 0)) ∧ Below V.heap.size V W') := fun V h => blanks_any p n bk V (cell_stay h h7) hn1 (by omega)
  have HCC : Hid (CellsAt W rb ro row) := hC
  obtain ⟨L, hL⟩ : ∃ L, L = row.length := ⟨_, rfl⟩
  obtain ⟨k, hk⟩ : ∃ k, k = L - n - x := ⟨_, rfl⟩
  obtain ⟨m, hm⟩ : ∃ m, m = x + k := ⟨_, rfl⟩
  have hwr : IntKind.i64.wrap ((L : Int) - (n : Int)) = (m : Int) := by
    rw [wrap_id _ (by omega) (by omega)]
    omega
  have HLR : Hid (row.length = L) := hL.symm
  have HIR : Hid (insR row x n bk = row.take x ++ (List.replicate n (32, 0, bk, 0) ++ (row.drop x).take k)) := by
    unfold Hid insR
    rw [← hL, ← hk]
  have HCN : Hid (∀ (V : World) (a : Option Addr) (vc g : Nat), Below W.heap.size W V → RowB V g (.slice a n vc) (List.replicate n (32, 0, bk, 0)) → Calls Tryd.prog 64 #[.slice (some ⟨V.heap.size, 0, none⟩) 3 3] (V.alloc (.cells #[.slice (some ⟨rb, ro, none⟩) x c, .slice a n vc, .slice (some ⟨rb, ro + x * 4, none⟩) k (c - x)] 22)) fun e w' => ∃ v', e = .returned v' ∧ w'.ownsRow (V.alloc (.cells #[.slice (some ⟨rb, ro, none⟩) x c, .slice a n vc, .slice (some ⟨rb, ro + x * 4, none⟩) k (c - x)] 22)).heap.size 63 4 v' L (flat (insR row x n bk)) ∧ Below (V.alloc (.cells #[.slice (some ⟨rb, ro, none⟩) x c, .slice a n vc, .slice (some ⟨rb, ro + x * 4, none⟩) k (c - x)] 22)).heap.size (V.alloc (.cells #[.slice (some ⟨rb, ro, none⟩) x c, .slice a n vc, .slice (some ⟨rb, ro + x * 4, none⟩) k (c - x)] 22)) w') := fun V a vc g hV hB => by
    have kb : Below V.heap.size V (V.alloc (.cells #[.slice (some ⟨rb, ro, none⟩) x c, .slice a n vc, .slice (some ⟨rb, ro + x * 4, none⟩) k (c - x)] 22)) := (Below.refl _ _).alloc (Nat.le_refl _) _
    have hnew := heap_alloc_new V (.cells #[.slice (some ⟨rb, ro, none⟩) x c, .slice a n vc, .slice (some ⟨rb, ro + x * 4, none⟩) k (c - x)] 22)
    have hCV := (HCC.out.below hV).below kb
    have hC1 := hCV.part 0 x (by omega)
    have hC2 := hCV.part x k (by omega)
    have hB2 := hB.below kb
    obtain ⟨bc, brest, hbv, -⟩ := hB
    rw [List.length_replicate] at hbv
    injection hbv with ha _ _
    have hcell : ∀ (j : Nat) (v : Value), (#[.slice (some ⟨rb, ro, none⟩) x c, .slice a n vc, .slice (some ⟨rb, ro + x * 4, none⟩) k (c - x)] : Array Value)[j]? = some v → (V.alloc (.cells #[.slice (some ⟨rb, ro, none⟩) x c, .slice a n vc, .slice (some ⟨rb, ro + x * 4, none⟩) k (c - x)] 22)).cell? ⟨V.heap.size, j, none⟩ = some v := fun j v h => by
      unfold World.cell?
      rw [hnew]
      exact h
    have hfl : ([row.take x, List.replicate n (32, 0, bk, 0), (row.drop x).take k] : List (List C)).flatten = insR row x n bk := by
      rw [HIR.out]
      simp
    have hVV : ∀ j, j < ([row.take x, List.replicate n (32, 0, bk, 0), (row.drop x).take k] : List (List C)).length → ∃ b' o' c', (V.alloc (.cells #[.slice (some ⟨rb, ro, none⟩) x c, .slice a n vc, .slice (some ⟨rb, ro + x * 4, none⟩) k (c - x)] 22)).cell? ⟨V.heap.size, 0 + j, none⟩ = some (.slice (some ⟨b', o', none⟩) (([row.take x, List.replicate n (32, 0, bk, 0), (row.drop x).take k] : List (List C)).getD j []).length c') ∧ CellsAt (V.alloc (.cells #[.slice (some ⟨rb, ro, none⟩) x c, .slice a n vc, .slice (some ⟨rb, ro + x * 4, none⟩) k (c - x)] 22)) b' o' (([row.take x, List.replicate n (32, 0, bk, 0), (row.drop x).take k] : List (List C)).getD j []) := fun j hj => by
      have e1 : (row.take x).length = x := by rw [List.length_take]; omega
      have e3 : ((row.drop x).take k).length = k := by rw [List.length_take, List.length_drop]; omega
      match j, hj with
      | 0, _ =>
        refine ⟨rb, ro, c, ?_, ?_⟩
        · show World.cell? _ ⟨V.heap.size, 0, none⟩ = some (.slice _ (row.take x).length c)
          rw [e1]
          exact hcell 0 _ rfl
        · have h := hC1
          rw [Nat.zero_mul, Nat.add_zero, List.drop_zero] at h
          exact h
      | 1, _ =>
        refine ⟨g, 0, vc, ?_, hB2.cells⟩
        show World.cell? _ ⟨V.heap.size, 1, none⟩ = some (.slice _ (List.replicate n ((32, 0, bk, 0) : C)).length vc)
        rw [List.length_replicate, ← ha]
        exact hcell 1 _ rfl
      | 2, _ =>
        refine ⟨rb, ro + x * 4, c - x, ?_, hC2⟩
        show World.cell? _ ⟨V.heap.size, 2, none⟩ = some (.slice _ ((row.drop x).take k).length (c - x))
        rw [e3]
        exact hcell 2 _ rfl
    have := concat_any V.heap.size 0 3 [row.take x, List.replicate n (32, 0, bk, 0), (row.drop x).take k] (V.alloc (.cells #[.slice (some ⟨rb, ro, none⟩) x c, .slice a n vc, .slice (some ⟨rb, ro + x * 4, none⟩) k (c - x)] 22)) hVV (insR row x n bk) hfl (by rw [insR_len _ _ _ _ hxn]; omega) (by simp)
    rw [insR_len _ _ _ _ hxn, HLR.out] at this
    exact this
  have b0 : Below W.heap.size W W.drew := (Below.refl _ _).drew
  have hx1 : (x : Int) ≤ (c : Int) := by omega
  have hx2 : (x : Int) ≤ (m : Int) := by omega
  have hx3 : (m : Int) ≤ (c : Int) := by omega
  have hx4 : x < c := by omega
  have hx6 : (x : Int) < (c : Int) := by omega
  have hx5 : m - x = k := by omega
  rw [← hL]
  clear hp hn hx h7 hC hc hn1 hxn hl hL hk HCC hm
  generalize insR row x n bk = res at *
  go_enter Tryd.func136, Tryd.ntmps136
  go_upto_region 1 with fail
  go_region_held3 (fun w' => w'.cell? ⟨Bp, 0, none⟩ = some (.pointer (some ⟨p, 0, none⟩)) ∧ w'.cell? ⟨Bn, 0, none⟩ = some (.int .i64 (n : Int)) ∧ w'.cell? ⟨p, 3, none⟩ = some (.int .i64 (x : Int)))
    (first | exact SK.out _ q3 | exact SK.out _ q2 | exact SK.out _ q1 | exact SK.out _ b0)
    (first
      | (go_at_call 137; refine (HBL.out _ b0).mono ?_; rintro e V1 ⟨a, vc, g, rfl, hg, hB, b1⟩; have q1 : Below W.heap.size W V1 := b0.trans (b1.mono b0.size); have q2 := q1.alloc q1.size (.cells #[.slice (some ⟨rb, ro, none⟩) x c, .slice a n vc, .slice (some ⟨rb, ro + x * 4, none⟩) k (c - x)] 22); have HC1 := HCN.out V1 a vc g q1 hB)
      | (go_at_call 64; (try rw [hx5]); refine HC1.mono ?_; rintro e V2 ⟨v', rfl, hO, b2⟩; have q3 : Below W.heap.size W V2 := q2.trans (b2.mono q2.size); have HFI : Hid _ := And.intro (Grd.ownsRow_mono hO q2.size) q3; obtain ⟨za, zc, hzv⟩ := own_slice hO; subst hzv))
  all_goals go_wp2_with fail
  all_goals go_ret
  all_goals exact ⟨_, rfl, HFI.out.1, HFI.out.2⟩
end Put
end Go.Proofs.YtnkeahfcpbepjaaDoor

/- Package sheet: Insert. -/
namespace Go.Proofs.YtnkeahfcpbepjaaDoor
open Go.ChangeShapes Go.WideShapes Go.ChangeAt Go.RowKit
namespace Put
open Grd (C SliceAt CellsAt gridErr z0 nilV flat rowsL RowB OwnG mendL)
theorem insR_at (row : List C) (x n : Nat) (bk : Int) (h : x + n ≤ row.length) (i : Nat) (hi : i < row.length) : (insR row x n bk).getD i z0 = if i < x then row.getD i z0 else if i < x + n then (32, 0, bk, 0) else row.getD (i - n) z0 := by
  have e1 : (row.take x).length = x := by rw [List.length_take]; omega
  unfold insR
  by_cases h1 : i < x
  · rw [if_pos h1]
    simp only [List.getD]
    rw [List.getElem?_append_left (by omega), List.getElem?_take_of_lt h1]
  · rw [if_neg h1]
    simp only [List.getD]
    rw [List.getElem?_append_right (by omega), e1]
    by_cases h2 : i < x + n
    · rw [if_pos h2, List.getElem?_append_left (by rw [List.length_replicate]; omega), List.getElem?_replicate, if_pos (by omega)]
      rfl
    · rw [if_neg h2, List.getElem?_append_right (by rw [List.length_replicate]; omega), List.length_replicate, List.getElem?_take_of_lt (by omega), List.getElem?_drop, show x + (i - x - n) = i - n by omega]
theorem ins_meant {row : List C} (hr : Grd.Meant row) (x n : Nat) (bk : Int) (hn : 1 ≤ n) (hx : x + n ≤ row.length) (hs : Sty.isSt (0, bk, 0) = true) : Grd.Meant (insR row x n bk) := fun i hi => by
  rw [insR_len _ _ _ _ hx] at hi
  rw [insR_at _ _ _ _ hx i hi]
  by_cases h1 : i < x
  · rw [if_pos h1]
    refine ⟨(hr i hi).1, (hr i hi).2.1, fun h0 hp hw => ?_⟩
    rw [insR_at _ _ _ _ hx (i - 1) (by omega), if_pos (by omega)] at hw ⊢
    exact (hr i hi).2.2 h0 hp hw
  · rw [if_neg h1]
    by_cases h2 : i < x + n
    · rw [if_pos h2]
      exact ⟨fun _ => by dsimp only; rw [Grd.wd32]; decide, hs, fun h => absurd h (by simp)⟩
    · rw [if_neg h2]
      have hi2 : i - n < row.length := by omega
      refine ⟨(hr _ hi2).1, (hr _ hi2).2.1, fun h0 hp hw => ?_⟩
      rw [insR_at _ _ _ _ hx (i - 1) (by omega), if_neg (by omega)] at hw ⊢
      by_cases h3 : i - 1 < x + n
      · rw [if_pos h3] at hw
        dsimp only at hw
        rw [Grd.wd32] at hw
        exact absurd hw (by decide)
      · rw [if_neg h3] at hw ⊢
        rw [show i - 1 - n = i - n - 1 by omega] at hw ⊢
        exact (hr _ hi2).2.2 h0 (by omega) hw
theorem plain_ins : Plain 136 := by
  intro args W
  kernel_rfl
set_option maxHeartbeats 4000000 in
set_option maxRecDepth 100000 in
theorem insert_any (X : World) (M N p : Nat) (s : Scr) (rows : List (List C)) (hS : ShAt 109 X M N p s rows) (hT : Txt.Tab X) (y x n : Nat) (hsy : s.y = y) (hsx : s.x = x) (hy : y < rows.length) (hn1 : 1 ≤ n) (hxn : x + n ≤ (rows.getD y []).length) (hl : (rows.getD y []).length ≤ 120) (hm : Grd.Meant (rows.getD y [])) (hst : Sty.isSt (0, s.sb, 0) = true) :
    Calls Tryd.prog 104 #[.pointer (some ⟨p, 0, none⟩), .int .i64 (n : Int)] X (Ran X M N p s (rows.set y (mendL (insR (rows.getD y []) x n s.sb)))) := by
  have kb : Below X.heap.size X ((X.alloc (.cells #[.pointer (some ⟨p, 0, none⟩)] 82)).alloc (.cells #[.int .i64 (n : Int)] 3)) := ((Below.refl _ _).alloc (Nat.le_refl _) _).alloc (by simp) _
  have h0 : (X.alloc (.cells #[.pointer (some ⟨p, 0, none⟩)] 82)).heap[X.heap.size]? = some (.cells #[.pointer (some ⟨p, 0, none⟩)] 82 (0, 0)) := heap_alloc_new X _
  have h0 := (Below.heap_alloc (X.alloc (.cells #[.pointer (some ⟨p, 0, none⟩)] 82)) (.cells #[.int .i64 (n : Int)] 3) _ (heap_lt h0)).trans h0
  have h1 : ((X.alloc (.cells #[.pointer (some ⟨p, 0, none⟩)] 82)).alloc (.cells #[.int .i64 (n : Int)] 3)).heap[X.heap.size + 1]? = some (.cells #[.int .i64 (n : Int)] 3 (0, 0)) := by
    have h := heap_alloc_new (X.alloc (.cells #[.pointer (some ⟨p, 0, none⟩)] 82)) (.cells #[.int .i64 (n : Int)] 3)
    have e : (X.alloc (.cells #[.pointer (some ⟨p, 0, none⟩)] 82)).heap.size = X.heap.size + 1 := by simp
    rw [e] at h
    exact h
  have q0 : ((X.alloc (.cells #[.pointer (some ⟨p, 0, none⟩)] 82)).alloc (.cells #[.int .i64 (n : Int)] 3)).cell? ⟨X.heap.size, 0, none⟩ = some (.pointer (some ⟨p, 0, none⟩)) := by
    unfold World.cell?
    rw [h0]
    rfl
  have q1 : ((X.alloc (.cells #[.pointer (some ⟨p, 0, none⟩)] 82)).alloc (.cells #[.int .i64 (n : Int)] 3)).cell? ⟨X.heap.size + 1, 0, none⟩ = some (.int .i64 (n : Int)) := by
    unfold World.cell?
    rw [h1]
    rfl
  obtain ⟨cv, tv, gv, rv, gvs, vs, hA⟩ := hS
  have hA2 := ShA.next hA kb
  have hlen := insR_len (rows.getD y []) x n s.sb hxn
  have HRL : Hid (∀ V, Below (((X.alloc (.cells #[.pointer (some ⟨p, 0, none⟩)] 82)).alloc (.cells #[.int .i64 (n : Int)] 3))).heap.size ((X.alloc (.cells #[.pointer (some ⟨p, 0, none⟩)] 82)).alloc (.cells #[.int .i64 (n : Int)] 3)) V → Calls Tryd.prog 135 #[.pointer (some ⟨p, 0, none⟩), .int .i64 (y : Int), .func (.func 136) #[] #[.pointer (some ⟨X.heap.size, 0, none⟩), .pointer (some ⟨X.heap.size + 1, 0, none⟩)]] V (Ran V M N p s (rows.set y (mendL (insR (rows.getD y []) x n s.sb))))) := fun V hV => relay_any V M N p s rows cv tv gv rv gvs vs (ShA.next hA2 hV) (Grd.Tab.next (Grd.Tab.next hT kb) hV) y hy 136 plain_ins #[.pointer (some ⟨X.heap.size, 0, none⟩), .pointer (some ⟨X.heap.size + 1, 0, none⟩)] (insR (rows.getD y []) x n s.sb) (fun W1 hW0 => by
    have hW1 := hV.trans (hW0.mono hV.size)
    have hri := (ShA.next hA2 hW1).rin.2 y hy
    obtain ⟨⟨-, -, -, c3, -, -, -, c7, -⟩, -, -⟩ := sh_cells (ShA.next hA2 hW1).blk
    rw [hsx] at c3
    rcases hri with ⟨he, -⟩ | ⟨hne, b, o, c, hv, hc1, hc2, hC, -⟩
    · have h5 := congrArg List.length he
      rw [List.length_nil] at h5
      omega
    · rw [hv]
      refine (ins1_any W1 p X.heap.size (X.heap.size + 1) b o c x n s.sb (rows.getD y []) (cell_stay hW1 q0) (cell_stay hW1 q1) c3 c7 hC hc1 hn1 hxn hl).mono ?_
      rintro e W2 ⟨v', rfl, hO, b2⟩
      have hO2 : W2.ownsRow W1.heap.size 63 4 v' (insR (rows.getD y []) x n s.sb).length (flat (insR (rows.getD y []) x n s.sb)) := by rw [hlen]; exact hO
      rcases OwnC.of hO2 with ⟨he, -⟩ | ⟨g, cap, rest, ⟨t, ht⟩, hv', hg1, hg2, hg3, hg4⟩
      · have h5 := congrArg List.length he
        rw [hlen, List.length_nil] at h5
        omega
      · subst ht
        rw [hv']
        exact ⟨g, cap, rest, rfl, hg1, hg2, hg3, hg4, b2⟩) (ins_meant hm x n s.sb hn1 hxn hst).alike (by rw [hlen]; omega)
  have HKB : Hid (Below X.heap.size X ((X.alloc (.cells #[.pointer (some ⟨p, 0, none⟩)] 82)).alloc (.cells #[.int .i64 (n : Int)] 3))) := kb
  have hNX : N ≤ X.heap.size := Nat.le_trans hA.lo (Nat.le_of_lt (heap_lt hA.blk))
  have c4 : ((X.alloc (.cells #[.pointer (some ⟨p, 0, none⟩)] 82)).alloc (.cells #[.int .i64 (n : Int)] 3)).cell? ⟨p, 4, none⟩ = some (.int .i64 (y : Int)) := by
    obtain ⟨⟨-, -, -, -, c4, -⟩, -, -⟩ := sh_cells hA2.blk
    rw [hsy] at c4
    exact c4
  clear hA hA2 h0 h1 kb hm hst hsy hsx hlen hT
  generalize mendL (insR (rows.getD y []) x n s.sb) = row2 at *
  go_enter Tryd.func104, Tryd.ntmps104
  go_upto_region 1 with fail
  generalize ((X.alloc (.cells #[.pointer (some ⟨p, 0, none⟩)] 82)).alloc (.cells #[.int .i64 (n : Int)] 3)) = Z at *
  have b0 : Below Z.heap.size Z Z.drew := (Below.refl _ _).drew
  clear q1
  go_region_with (first | (go_at_call 135; refine (HRL.out _ b0).mono ?_; rintro e V ⟨rfl, hV, bV, fV⟩))
  all_goals go_wp2_with fail
  all_goals go_end0
  all_goals exact ⟨rfl, hV, ((HKB.out.trans (b0.mono HKB.out.size)).mono hNX).trans bV, ((Framed.of_below HKB.out).trans (Framed.of_below b0)).trans fV⟩
end Put
end Go.Proofs.YtnkeahfcpbepjaaDoor

/- (*sheet.Sheet).keep, Up: a row goes behind all that is gone. -/
namespace Go.Proofs.YtnkeahfcpbepjaaDoor
open Go.ChangeShapes Go.WideShapes Go.ChangeAt Go.RowKit
namespace Put
open Grd (C SliceAt CellsAt gridErr z0 nilV flat rowsL OwnG RowB)
/-- What is gone, and one row more. -/
def keepG (g : List (List C)) (row : List C) : List (List C) := if g.length < 50 then g ++ [row] else (g ++ [row]).eraseIdx 0
theorem keepG_len (g : List (List C)) (row : List C) (h : g.length ≤ 50) : (keepG g row).length ≤ 50 := by
  unfold keepG
  split
  · rw [List.length_append, List.length_singleton]
    omega
  · rw [List.length_eraseIdx_of_lt (by simp), List.length_append, List.length_singleton]
    omega
theorem RowsIn.push {W : World} {N : Nat} {vs : List Value} {rows : List (List C)} (h : RowsIn W N vs rows) (v : Value) (row : List C) (hr : RowIn W N v row) : RowsIn W N (vs ++ [v]) (rows ++ [row]) := by
  have hl := h.1
  refine ⟨by simp [hl], fun i hi => ?_⟩
  rw [List.length_append, List.length_singleton] at hi
  simp only [List.getD]
  by_cases e : i < rows.length
  · rw [List.getElem?_append_left (by omega), List.getElem?_append_left e]
    exact h.2 i e
  · have e2 : i = rows.length := by omega
    subst e2
    rw [List.getElem?_append_right (by omega), List.getElem?_append_right (Nat.le_refl _), hl]
    simpa using hr
theorem cell_news (W : World) (v : Value) (t : TypeId) : ∀ j u, [v][j]? = some u → (W.alloc (.cells #[v] t)).cell? ((⟨W.heap.size, 0, none⟩ : Addr).add j) = some u := fun j u hj => by
  have h := heap_alloc_new W (.cells #[v] t)
  generalize W.alloc (.cells #[v] t) = X at *
  rw [Addr.add_lit]
  match j, hj with
  | 0, hj =>
    rw [← Option.some.inj hj]
    simp [World.cell?, h]
/-- Another list of what is gone. -/
theorem ShA.goneNew {W V : World} {M N p : Nat} {s s' : Scr} {rows : List (List C)} {cv tv gv gv' rv : Value} {gvs vs gvs' : List Value} (h : ShA 109 W M N p s rows cv tv gv rv gvs vs) (hs' : { s with gone := s'.gone } = s')
    (ho : ∀ k, k < W.heap.size → some k ≠ gv.ownBlock → V.heap[k]? = W.heap[k]?) (hw : V.ownsRow N 22 1 gv' s'.gone.length gvs') (hr : RowsIn V M gvs' s'.gone) (hat : gv'.ownBlock = gv.ownBlock ∨ ∃ k, gv'.ownBlock = some k ∧ W.heap.size ≤ k) :
    ShA 109 (V.setCell ⟨p, 21, none⟩ gv') M N p s' rows cv tv gv' rv gvs' vs := by
  have hgb : ∀ k A t, W.heap[k]? = some (.cells A t (0, 0)) → t ≠ 22 → some k ≠ gv.ownBlock := fun k A t hk ht e => by
    obtain ⟨-, B, f, hB⟩ := owns_block h.gone k e.symm
    rw [hk] at hB
    injection hB with hB
    injection hB with _ hB _
    exact ht hB
  have hp : V.heap[p]? = some (.cells (shA s cv tv gv rv) 109 (0, 0)) := (ho p (heap_lt h.blk) (hgb p _ _ h.blk (by decide))).trans h.blk
  have hk1 : Kept M W V := fun k hk hS => ho k hk fun e => by
    obtain ⟨hlo, B, f, hB⟩ := owns_block h.gone k e.symm
    rcases hS with hS | ⟨A, f', hS⟩
    · have := h.ml
      omega
    · rw [hB] at hS
      injection hS with hS
      injection hS with _ hS _
      exact absurd hS (by decide)
  have hk2 : Kept M V (V.setCell ⟨p, 21, none⟩ gv') := Kept.store hp (by decide) (Nat.le_trans h.ml h.lo)
  have hof : ∀ {e : TypeId} {v : Value} {n : Nat} {xs : List Value}, e ≠ 109 → (∀ k, v.ownBlock = some k → some k ≠ gv.ownBlock) → W.ownsRow N e 1 v n xs → (V.setCell ⟨p, 21, none⟩ gv').ownsRow N e 1 v n xs := fun hte hn hw => by
    refine own_off (owns_kept hw fun g hg => ?_) hp (Ne.symm hte)
    obtain ⟨-, B, f', hB⟩ := owns_block hw g hg
    exact ho g (heap_lt hB) (hn g hg)
  have htb : s'.tabs = s.tabs := by rw [← hs']
  refine ⟨store_at hp ?_, h.lo, h.ml, h.cvs, ?_, own_off hw hp (by decide), hr.keep hk2, hof (by decide) (fun k hk e => h.two k hk e.symm) h.rws, (h.rin.keep hk1).keep hk2, fun k hk e => ?_⟩
  · rw [← hs']
    rfl
  · rw [htb]
    refine hof (by decide) (fun k hk e => ?_) h.tabs
    obtain ⟨-, B, f, hB⟩ := owns_block h.tabs k hk
    obtain ⟨-, A, f', hA⟩ := owns_block h.gone k e.symm
    rw [hA] at hB
    injection hB with hB
    injection hB with _ hB _
    exact absurd hB (by decide)
  · rcases hat with hat | ⟨q, hq, hlt⟩
    · rw [hat] at e
      exact h.two k hk e
    · rw [hq] at e
      obtain ⟨-, B, f, hB⟩ := owns_block h.rws k hk
      have := heap_lt hB
      have := Option.some.inj e
      omega
theorem ShA.keptG {W V : World} {M N p : Nat} {s : Scr} {rows : List (List C)} {cv tv gv rv : Value} {gvs vs : List Value} (h : ShA 109 W M N p s rows cv tv gv rv gvs vs) (ho : ∀ k, k < W.heap.size → some k ≠ gv.ownBlock → V.heap[k]? = W.heap[k]?) : Kept M W V := fun k hk hS => ho k hk fun e => by
  obtain ⟨hlo, B, f, hB⟩ := owns_block h.gone k e.symm
  rcases hS with hS | ⟨A, f', hS⟩
  · have := h.ml
    omega
  · rw [hB] at hS
    injection hS with hS
    injection hS with _ hS _
    exact absurd hS (by decide)
theorem ShA.framedG {W V : World} {M N p : Nat} {s : Scr} {rows : List (List C)} {cv tv gv rv gv' : Value} {gvs vs : List Value} (h : ShA 109 W M N p s rows cv tv gv rv gvs vs) (ho : ∀ k, k < W.heap.size → some k ≠ gv.ownBlock → V.heap[k]? = W.heap[k]?) (hp : V.heap[p]? = some (.cells (shA s cv tv gv rv) 109 (0, 0))) : Framed W (V.setCell ⟨p, 21, none⟩ gv') := fun k o hk hO => by
  refine Framed.store hp not_other_sheet k o ((ho k (heap_lt hk) fun e => ?_).trans hk) hO
  obtain ⟨-, B, f, hB⟩ := owns_block h.gone k e.symm
  rw [hk] at hB
  injection hB with hB
  exact not_other_rows (hO B _ _ hB)
theorem grown_below {W V : World} {N : Nat} {row : Option Nat} (h : W.grownBy V row) (hr : ∀ k, row = some k → N ≤ k) (hN : N ≤ W.heap.size) : Below N W V :=
  ⟨h.os, h.tape, h.output, h.size, fun k hk => h.block k (by omega) fun e => by have := hr k e.symm; omega⟩
set_option maxHeartbeats 4000000 in
set_option maxRecDepth 100000 in
theorem keep_any (W : World) (M N p : Nat) (s : Scr) (rows : List (List C)) (hS : ShAt 109 W M N p s rows) (v : Value) (row : List C) (hv : RowIn W M v row) (hgl : s.gone.length ≤ 50) :
    Calls Tryd.prog 153 #[.pointer (some ⟨p, 0, none⟩), v] W (Ran W M N p { s with gone := keepG s.gone row } rows) := by
  obtain ⟨cv, tv, gv, rv, gvs, vs, hS⟩ := hS
  obtain ⟨va, vc, rfl⟩ := hv.shape
  obtain ⟨ga, gc, rfl⟩ := own_slice hS.gone
  obtain ⟨i0, hi, hzz⟩ := Option.map_eq_some_iff.1 info_rows
  simp only [Prod.mk.injEq] at hzz
  obtain ⟨hz0, hz1, hz2⟩ := hzz
  have hlo := hS.lo
  have hNW : N ≤ W.heap.size := Nat.le_trans hlo (Nat.le_of_lt (heap_lt hS.blk))
  have c21 := (sh_cells hS.blk).2.1.2.2.2.2.2.2.2.2.2.2.1
  have k0 : Below W.heap.size W (W.alloc (.cells #[.slice va row.length vc] 22)) := (Below.refl _ _).alloc (Nat.le_refl _) _
  have hown : (W.alloc (.cells #[.slice va row.length vc] 22)).ownsRow N 22 1 (.slice ga s.gone.length gc) s.gone.length gvs := hS.gone.alloc _
  have HNW : Hid (∀ j u, [Value.slice va row.length vc][j]? = some u → (W.alloc (.cells #[.slice va row.length vc] 22)).cell? ((⟨W.heap.size, 0, none⟩ : Addr).add j) = some u) := cell_news W _ _
  have hal := heap_alloc_new W (.cells #[.slice va row.length vc] 22)
  have HS0 : Hid (ShA 109 (W.alloc (.cells #[.slice va row.length vc] 22)) M N p s rows cv tv (.slice ga s.gone.length gc) rv gvs vs) := hS.next k0
  have HRI : Hid (RowIn (W.alloc (.cells #[.slice va row.length vc] 22)) M (.slice va row.length vc) row) := hv.keep (Kept.of_below k0)
  have HK0 : Hid _ := k0
  have c21a := cell_stay k0 c21
  have hszW : (W.alloc (.cells #[.slice va row.length vc] 22)).heap.size = W.heap.size + 1 := by simp
  clear hS hv k0 hal
  go_enter Tryd.func153, Tryd.ntmps153
  go_upto_region 1 with (at_builtin; refine wpList_append_own_at _ rfl _ _ 30 rfl N 22 i0 (.slice none 0 0) 1 24 und_rows hi hz0 hz1 hz2 rfl (by decide) (.slice ga s.gone.length gc) s.gone.length gvs rfl hown ⟨W.heap.size, 0, none⟩ 1 1 [.slice va row.length vc] rfl rfl HNW.out (by intro u hu; simp at hu; rw [hu]; rfl) (by unfold maxLen; omega) (by omega) (by omega) ?_; intro gv' W2 hown' hgr hnil hat; obtain ⟨ga', gc', rfl⟩ := own_slice hown'; have hp2 := (hgr.block p (heap_lt HS0.out.blk) (fun e => (by obtain ⟨-, B, f, hB⟩ := owns_block HS0.out.gone p e.symm; rw [HS0.out.blk] at hB; injection hB with hB; injection hB with _ hB _; exact absurd hB (by decide)))).trans HS0.out.blk; have z21 := (sh_cells hp2).2.1.2.2.2.2.2.2.2.2.2.2.1; have f21 := (sh_cells hp2).2.2 21; clear hnil)
  have hho : ∀ k, k < (W.alloc (.cells #[.slice va row.length vc] 22)).heap.size → some k ≠ (Value.slice ga s.gone.length gc).ownBlock → W2.heap[k]? = (W.alloc (.cells #[.slice va row.length vc] 22)).heap[k]? := fun k hk hne => hgr.block k hk hne
  have hS2 : ShA 109 (W2.setCell ⟨p, 21, none⟩ (.slice ga' (s.gone.length + 1) gc')) M N p { s with gone := s.gone ++ [row] } rows cv tv (.slice ga' (s.gone.length + 1) gc') rv (gvs ++ [.slice va row.length vc]) vs :=
    HS0.out.goneNew (s' := { s with gone := s.gone ++ [row] }) rfl hho (by simpa using hown') ((HS0.out.gin.push _ _ HRI.out).keep (HS0.out.keptG hho)) (hat.imp id fun h => ⟨_, h, Nat.le_refl _⟩)
  have hB2 : Below N W (W2.setCell ⟨p, 21, none⟩ (.slice ga' (s.gone.length + 1) gc')) := ((HK0.out.mono hNW).trans (grown_below hgr (fun k e => (owns_block HS0.out.gone k e).1) (by omega))).setCell hlo _
  have hF2 : Framed W (W2.setCell ⟨p, 21, none⟩ (.slice ga' (s.gone.length + 1) gc')) := (Framed.of_below HK0.out).trans (HS0.out.framedG hho hp2)
  have HS2 : Hid _ := hS2
  have HB2 : Hid _ := hB2
  have HF2 : Hid (Framed W (W2.setCell ⟨p, 21, none⟩ (.slice ga' (s.gone.length + 1) gc'))) := hF2
  have d21 := (sh_cells hS2.blk).2.1.2.2.2.2.2.2.2.2.2.2.1
  clear hS2 hB2 hF2 hho hat hown' hgr hp2 z21 f21 HS0 HK0 HRI HNW hown c21 c21a hszW hi hz0 hz1 hz2
  generalize W2.setCell ⟨p, 21, none⟩ (.slice ga' (s.gone.length + 1) gc') = X at *
  by_cases hlt : s.gone.length < 50
  · have HE : Hid (keepG s.gone row = s.gone ++ [row]) := by unfold Hid keepG; rw [if_pos hlt]
    have hl1 : ¬ ((50 : Int) < (s.gone.length : Int) + 1) := by omega
    go_wp2_with fail
    go_end0
    refine ⟨rfl, ?_, HB2.out, HF2.out⟩
    rw [HE.out]
    exact ⟨_, _, _, _, _, _, HS2.out⟩
  · have HE : Hid (keepG s.gone row = (s.gone ++ [row]).eraseIdx 0) := by unfold Hid keepG; rw [if_neg hlt]
    have hl1 : (50 : Int) < (s.gone.length : Int) + 1 := by omega
    have hX := HS2.out
    have hgo := hX.gone
    have hlen : (s.gone ++ [row]).length = s.gone.length + 1 := by simp
    rw [hlen] at hgo
    obtain ⟨g, cap, hgv, hgN, -, -, -, -, A, hA⟩ := own_cells hgo (by omega)
    injection hgv with e1 _ e3
    subst e1 e3
    have HDel := delete_own N g (s.gone.length + 1) gc' 0 _ X hgo hX.gin.sls (by omega)
    have hpg : p ≠ g := by
      intro e
      rw [← e, hX.blk] at hA
      injection hA with hA
      injection hA with _ hA _
      exact absurd hA (by decide)
    have HEND : Hid (∀ V3 : World, V3.ownsRow N 22 1 (.slice (some ⟨g, 0, none⟩) (s.gone.length + 1 - 1) gc') (s.gone.length + 1 - 1) ((gvs ++ [Value.slice va row.length vc]).eraseIdx 0) → (∀ k, k ≠ g → V3.heap[k]? = X.heap[k]?) → Below g X V3 → V3.cell? ⟨p, 21, none⟩ = some (.slice (some ⟨g, 0, none⟩) (s.gone.length + 1) gc') ∧ V3.frozen? ⟨p, 21, none⟩ = false ∧ Hid (Ran W M N p { s with gone := keepG s.gone row } rows (.returned (.tuple #[])) (V3.setCell ⟨p, 21, none⟩ (.slice (some ⟨g, 0, none⟩) (s.gone.length + 1 - 1) gc')))) := fun V3 hO3 hk3 hb3 => by
      have hho : ∀ k, k < X.heap.size → some k ≠ (Value.slice (some ⟨g, 0, none⟩) (s.gone.length + 1) gc').ownBlock → V3.heap[k]? = X.heap[k]? := fun k _ hne => hk3 k fun e => hne (by rw [e]; rfl)
      have hp3 := (hk3 p hpg).trans hX.blk
      have hl2 : (keepG s.gone row).length = s.gone.length + 1 - 1 := by rw [HE.out, List.length_eraseIdx_of_lt (by omega), hlen]
      have hS3 := hX.goneNew (V := V3) (s' := { s with gone := keepG s.gone row }) (gv' := .slice (some ⟨g, 0, none⟩) (s.gone.length + 1 - 1) gc') (gvs' := (gvs ++ [Value.slice va row.length vc]).eraseIdx 0) rfl hho (by show V3.ownsRow N _ 1 _ (keepG s.gone row).length _; rw [hl2]; exact hO3) (by show RowsIn V3 M _ (keepG s.gone row); rw [HE.out]; exact (hX.gin.keep (hX.keptG hho)).erase 0 (by simp)) (.inl rfl)
      exact ⟨(sh_cells hp3).2.1.2.2.2.2.2.2.2.2.2.2.1, (sh_cells hp3).2.2 21, rfl, ⟨_, _, _, _, _, _, hS3⟩, (HB2.out.trans (hb3.mono hgN)).setCell hlo _, HF2.out.trans (hX.framedG hho hp3)⟩
    clear hX hgo hlen hA HS2 HB2 HF2 HE
    go_wp2_with fail
    refine HDel.mono ?_
    rintro e V3 ⟨rfl, hO3, hk3, hb3⟩
    obtain ⟨z21, f21, HR⟩ := HEND.out V3 hO3 hk3 hb3
    clear HEND HDel hO3 hk3 hb3
    go_wp2_with fail
    go_end0
    exact HR.out
set_option maxHeartbeats 1000000 in
theorem drop_any (W : World) (M N p n : Nat) (s : Scr) (rows : List (List C)) (hS : ShAt 109 W M N p s rows) (top bot : Nat) (hb : s.bot = bot) (hw : s.w = n) (hn1 : 1 ≤ n) (hn2 : n ≤ 120) (hg : top < rows.length) (hf : bot < rows.length) (hrl : rows.length ≤ 60) :
    Calls Tryd.prog 154 #[.pointer (some ⟨p, 0, none⟩), .int .i64 (top : Int)] W (Ran W M N p s (replR rows n s.sb top bot)) := by
  have H := replace_any W M N p n s rows hS top bot hw hn1 hn2 hg hf hrl
  obtain ⟨c0, c1, c3, c4, c5, c9, c10, c11, c19, f⟩ := hS.words
  rw [hb] at c10
  clear hS c0 c1 c3 c4 c5 c9 c11 c19 f
  go_enter Tryd.func154, Tryd.ntmps154
  go_wp2_with fail
  refine H.mono ?_
  rintro e V ⟨rfl, hS1, hB1, hF1⟩
  go_wp2_with fail
  go_end0
  exact ⟨rfl, hS1, hB1, hF1⟩
/-- Rows move up, once. -/
def upS (s : Scr) (rows : List (List C)) (top : Nat) : Scr := if top = 0 then { s with gone := keepG s.gone (rows.getD 0 []) } else s
set_option maxHeartbeats 2000000 in
theorem up_any' (W : World) (M N p n : Nat) (s : Scr) (rows : List (List C)) (hS : ShAt 109 W M N p s rows) (top bot : Nat) (hb : s.bot = bot) (hw : s.w = n) (hn1 : 1 ≤ n) (hn2 : n ≤ 120) (hg : top < rows.length) (hf : bot < rows.length) (hrl : rows.length ≤ 60) (hgl : s.gone.length ≤ 50) :
    Calls Tryd.prog 134 #[.pointer (some ⟨p, 0, none⟩), .int .i64 (top : Int)] W (Ran W M N p (upS s rows top) (replR rows n s.sb top bot)) := by
  by_cases h0 : top = 0
  · subst h0
    have HU : Hid (upS s rows 0 = { s with gone := keepG s.gone (rows.getD 0 []) }) := rfl
    obtain ⟨cv, tv, gv, rv, gvs, vs, hA⟩ := hS
    obtain ⟨rb, rc, hrv, hrb, hrc1, hrc2, hvl, hrcell, A, hrA⟩ := own_cells hA.rws (by omega)
    subst hrv
    have c22 := (sh_cells hA.blk).2.1.2.2.2.2.2.2.2.2.2.2.2
    have d0 := hrcell 0 (by omega)
    have hri := hA.rin.2 0 (by omega)
    obtain ⟨va, vc, hsh⟩ := hri.shape
    rw [hsh] at d0 hri
    have HK := keep_any W M N p s rows ⟨_, _, _, _, _, _, hA⟩ _ _ hri hgl
    have HDR : Hid (∀ V, ShAt 109 V M N p { s with gone := keepG s.gone (rows.getD 0 []) } rows → Calls Tryd.prog 154 #[.pointer (some ⟨p, 0, none⟩), .int .i64 ((0 : Nat) : Int)] V (Ran V M N p { s with gone := keepG s.gone (rows.getD 0 []) } (replR rows n s.sb 0 bot))) := fun V h => drop_any V M N p n _ rows h 0 bot hb hw hn1 hn2 hg hf hrl
    have hl0 : (0 : Int) < (rows.length : Int) := by omega
    clear hA hrA hrcell hvl hsh hri
    generalize rows.getD 0 [] = row at *
    generalize replR rows n s.sb 0 bot = rows' at *
    go_enter Tryd.func134, Tryd.ntmps134
    go_wp2_with fail
    refine HK.mono ?_
    rintro e V ⟨rfl, hS1, hB1, hF1⟩
    have HD2 := HDR.out V hS1
    clear HK HDR c22 d0
    go_wp2_with fail
    refine HD2.mono ?_
    rintro e V2 ⟨rfl, hS2, hB2, hF2⟩
    go_wp2_with fail
    go_end0
    rw [HU.out]
    exact ⟨rfl, hS2, hB1.trans hB2, hF1.trans hF2⟩
  · have HU : Hid (upS s rows top = s) := by unfold Hid upS; rw [if_neg h0]
    have HD2 := drop_any W M N p n s rows hS top bot hb hw hn1 hn2 hg hf hrl
    have hz : ((top : Int) == 0) = false := by simp only [beq_eq_false_iff_ne, ne_eq]; omega
    clear hS
    go_enter Tryd.func134, Tryd.ntmps134
    go_wp2_with fail
    refine HD2.mono ?_
    rintro e V2 ⟨rfl, hS2, hB2, hF2⟩
    go_wp2_with fail
    go_end0
    rw [HU.out]
    exact ⟨rfl, hS2, hB2, hF2⟩
end Put
end Go.Proofs.YtnkeahfcpbepjaaDoor

/- shift.change: a screen is checked, and changed. -/
namespace Go.Proofs.YtnkeahfcpbepjaaDoor
set_option linter.unusedVariables false
open Go.ChangeShapes Go.WideShapes Go.ChangeAt Go.RowKit
namespace Put
open Grd (C SliceAt CellsAt gridErr z0 nilV flat rowsL)
end Put
end Go.Proofs.YtnkeahfcpbepjaaDoor

/- Package shift: the calls that hand a closure on. (Written by gen_call.py.) -/
namespace Go.Proofs.YtnkeahfcpbepjaaDoor
set_option linter.unusedVariables false
open Go.ChangeShapes Go.WideShapes Go.ChangeAt Go.RowKit
namespace Put
open Grd (C)
theorem cell_ones {W : World} {R : Nat} {v : Value} {t : TypeId} (h : W.heap[R]? = some (.cells #[v] t (0, 0))) : W.cell? ⟨R, 0, none⟩ = some v := by simp [World.cell?, h]
end Put
end Go.Proofs.YtnkeahfcpbepjaaDoor

/- A screen that came in, where it lies. -/
namespace Go.Proofs.YtnkeahfcpbepjaaDoor
open Go.ChangeShapes Go.WideShapes Go.ChangeAt Go.RowKit
namespace Put
/-- A screen that came in, where it lies. -/
structure Met (w0 w : World) (s : Scr) (cv tv gv : Value) : Prop where
  t : Txt.Tab w
  v : ScrV w0 s cv tv gv
  b : Below w0.heap.size w0 w
  f : Fits s
theorem Met.next {w0 w W : World} {s : Scr} {cv tv gv : Value} (h : Met w0 w s cv tv gv) (hb : Below w.heap.size w W) : Met w0 W s cv tv gv := ⟨Grd.Tab.next h.t hb, h.v, h.b.trans (hb.mono h.b.size), h.f⟩
end Put
end Go.Proofs.YtnkeahfcpbepjaaDoor

/- SameScreen of two screens that read alike. -/
namespace Go.Proofs.YtnkeahfcpbepjaaDoor
open Go.ChangeShapes Go.WideShapes Go.ChangeAt Go.RowKit
namespace Put
open Grd (C SliceAt CellsAt gridErr z0)
set_option maxHeartbeats 1000000 in
theorem equalB_empty (a1 a2 : Option Addr) (c1 c2 : Nat) (w : World) :
    Calls Tryd.prog 54 #[.slice a1 0 c1, .slice a2 0 c2] w fun e w' => e = .returned (.bool true) ∧ Below w.heap.size w w' := by
  go_enter Tryd.func54, Tryd.ntmps54
  go_wp2_with fail
  go_loopg [13] 0 (fun g i wr => i = .int .i64 0 ∧ Below w.heap.size w wr)
  case atStart => exact ⟨rfl, Below.refl _ _⟩
  case round =>
    obtain ⟨rfl, hb⟩ := hrel
    go_wp2_with fail
    go_ret
    exact ⟨rfl, hb⟩
set_option maxHeartbeats 1000000 in
theorem equalB_cells (b1 o1 c1 b2 o2 c2 : Nat) (l : List Bool) (w : World) (h1 : ∀ j, j < l.length → w.cell? ⟨b1, o1 + j, none⟩ = some (.bool (l.getD j false))) (h2 : ∀ j, j < l.length → w.cell? ⟨b2, o2 + j, none⟩ = some (.bool (l.getD j false))) (hn : l.length ≤ 4398046511104) :
    Calls Tryd.prog 54 #[.slice (some ⟨b1, o1, none⟩) l.length c1, .slice (some ⟨b2, o2, none⟩) l.length c2] w fun e w' => e = .returned (.bool true) ∧ Below w.heap.size w w' := by
  have H1 : Hid (∀ j, j < l.length → w.cell? ⟨b1, o1 + j, none⟩ = some (.bool (l.getD j false))) := h1
  have H2 : Hid (∀ j, j < l.length → w.cell? ⟨b2, o2 + j, none⟩ = some (.bool (l.getD j false))) := h2
  clear h1 h2
  generalize hl : l.length = L at *
  have HL : Hid (l.length = L) := hl
  clear hl
  have ne : ((L : Int) != (L : Int)) = false := by simp
  go_enter Tryd.func54, Tryd.ntmps54
  go_wp2_with fail
  go_loopg [13] L (fun g i wr => ∃ k : Nat, i = .int .i64 (k : Int) ∧ k ≤ L ∧ L - k ≤ g ∧ Below w.heap.size w wr)
  case atStart => exact ⟨0, rfl, by omega, by omega, Below.refl _ _⟩
  case round =>
    obtain ⟨k, rfl, hk, hg, hb⟩ := hrel
    by_cases hlt : k < L
    · have lt1 : ((k : Int) < (L : Int)) := by omega
      have p0 := Grd.cell_keep hb (H1.out k hlt)
      have q0 := Grd.cell_keep hb (H2.out k hlt)
      generalize l.getD k false = x at *
      have nq : (x != x) = false := by simp
      go_wp2_with fail
      go_region
      go_wp2_with fail
      go_roundg (L - (k + 1))
      case measure => omega
      case rel => exact ⟨k + 1, rfl, by omega, by omega, hb.drew⟩
    · have lt1 : ¬ ((k : Int) < (L : Int)) := by omega
      go_wp2_with fail
      go_ret
      exact ⟨rfl, hb⟩
theorem equalB_any (v1 v2 : Value) (l : List Bool) (w : World) (h1 : BoolsV w v1 l) (h2 : BoolsV w v2 l) (hn : l.length ≤ 4398046511104) :
    Calls Tryd.prog 54 #[v1, v2] w fun e w' => e = .returned (.bool true) ∧ Below w.heap.size w w' := by
  by_cases h0 : l = []
  · obtain ⟨a1, c1, rfl⟩ := h1.slice
    obtain ⟨a2, c2, rfl⟩ := h2.slice
    subst h0
    exact equalB_empty a1 a2 c1 c2 w
  · rcases h1 with ⟨h, -⟩ | ⟨b1, o1, c1, rfl, -, -, hc1⟩
    · exact absurd h h0
    · rcases h2 with ⟨h, -⟩ | ⟨b2, o2, c2, rfl, -, -, hc2⟩
      · exact absurd h h0
      · exact equalB_cells b1 o1 c1 b2 o2 c2 l w hc1 hc2 hn
set_option maxHeartbeats 1000000 in
theorem eqRows_empty (a1 a2 : Option Addr) (c1 c2 : Nat) (w : World) :
    Calls Tryd.prog 98 #[.slice a1 0 c1, .slice a2 0 c2, .func (.func 78) #[] #[]] w fun e w' => e = .returned (.bool true) ∧ Below w.heap.size w w' := by
  go_enter Tryd.func98, Tryd.ntmps98
  go_wp2_with fail
  go_loopg [17] 0 (fun g i wr => i = .int .i64 0 ∧ Below w.heap.size w wr)
  case atStart => exact ⟨rfl, Below.refl _ _⟩
  case round =>
    obtain ⟨rfl, hb⟩ := hrel
    go_wp2_with fail
    go_ret
    exact ⟨rfl, hb⟩
/-- The rows of two lists of rows that read alike. -/
def RowsA (w : World) (b o : Nat) (l : List (List C)) : Prop := ∀ j, j < l.length → ∃ rv, w.cell? ⟨b, o + j, none⟩ = some rv ∧ SliceAt w rv (l.getD j [])
set_option maxHeartbeats 2000000 in
theorem eqRows_cells (b1 o1 c1 b2 o2 c2 : Nat) (l : List (List C)) (w : World) (h1 : RowsA w b1 o1 l) (h2 : RowsA w b2 o2 l) (hn : l.length ≤ 4398046511104) (hr : ∀ row, row ∈ l → row.length ≤ 4398046511104) :
    Calls Tryd.prog 98 #[.slice (some ⟨b1, o1, none⟩) l.length c1, .slice (some ⟨b2, o2, none⟩) l.length c2, .func (.func 78) #[] #[]] w fun e w' => e = .returned (.bool true) ∧ Below w.heap.size w w' := by
  have H1 : Hid (RowsA w b1 o1 l) := h1
  have H2 : Hid (RowsA w b2 o2 l) := h2
  have HR : Hid (∀ k, k < l.length → (l.getD k []).length ≤ 4398046511104) := fun k hk => by
    rw [List.getD_eq_getElem?_getD, List.getElem?_eq_getElem hk]
    exact hr _ (List.getElem_mem hk)
  clear h1 h2 hr
  unfold RowsA at H1 H2
  generalize hl : l.length = L at *
  have HL : Hid (l.length = L) := hl
  clear hl
  have ne : ((L : Int) != (L : Int)) = false := by simp
  go_enter Tryd.func98, Tryd.ntmps98
  go_wp2_with fail
  go_loopg [17] L (fun g i wr => ∃ k : Nat, i = .int .i64 (k : Int) ∧ k ≤ L ∧ L - k ≤ g ∧ Below w.heap.size w wr)
  case atStart => exact ⟨0, rfl, by omega, by omega, Below.refl _ _⟩
  case round =>
    obtain ⟨k, rfl, hk, hg, hb⟩ := hrel
    by_cases hlt : k < L
    · have lt1 : ((k : Int) < (L : Int)) := by omega
      obtain ⟨r1, p0, s1⟩ := H1.out k hlt
      obtain ⟨r2, q0, s2⟩ := H2.out k hlt
      have p1 := Grd.cell_keep hb p0
      have q1 := Grd.cell_keep hb q0
      have HS1 : Hid (SliceAt wr r1 (l.getD k [])) := s1.below hb
      have HS2 : Hid (SliceAt wr r2 (l.getD k [])) := s2.below hb
      have HLN : Hid ((l.getD k []).length ≤ 4398046511104) := HR.out k hlt
      have HB : Hid (Below w.heap.size w wr) := hb
      obtain ⟨a1, d1, rfl⟩ := s1.shape
      obtain ⟨a2, d2, rfl⟩ := s2.shape
      clear p0 q0 s1 s2 hb
      generalize l.getD k [] = row at *
      go_wp2_with fail
      refine (Grd.equal_slices_big _ _ row _ HS1.out HS2.out HLN.out).mono ?_
      rintro e W1 ⟨rfl, b1⟩
      have HB1 : Hid (Below w.heap.size w W1) := HB.out.trans (b1.mono HB.out.size)
      clear b1 p1 q1
      go_wp2_with fail
      go_roundg (L - (k + 1))
      case measure => omega
      case rel => exact ⟨k + 1, rfl, by omega, by omega, HB1.out⟩
    · have lt1 : ¬ ((k : Int) < (L : Int)) := by omega
      go_wp2_with fail
      go_ret
      exact ⟨rfl, hb⟩
theorem eqRows_any (v1 v2 : Value) (l : List (List C)) (w : World) (h1 : RowsV w v1 l) (h2 : RowsV w v2 l) (hn : l.length ≤ 4398046511104) (hr : ∀ row, row ∈ l → row.length ≤ 4398046511104) :
    Calls Tryd.prog 98 #[v1, v2, .func (.func 78) #[] #[]] w fun e w' => e = .returned (.bool true) ∧ Below w.heap.size w w' := by
  by_cases h0 : l = []
  · obtain ⟨a1, c1, rfl⟩ := h1.slice
    obtain ⟨a2, c2, rfl⟩ := h2.slice
    subst h0
    exact eqRows_empty a1 a2 c1 c2 w
  · rcases h1 with ⟨h, -⟩ | ⟨b1, o1, c1, rfl, -, -, hc1⟩
    · exact absurd h h0
    · rcases h2 with ⟨h, -⟩ | ⟨b2, o2, c2, rfl, -, -, hc2⟩
      · exact absurd h h0
      · exact eqRows_cells b1 o1 c1 b2 o2 c2 l w hc1 hc2 hn hr
theorem sameRows_any (v1 v2 : Value) (l : List (List C)) (w : World) (h1 : RowsV w v1 l) (h2 : RowsV w v2 l) (hn : l.length ≤ 4398046511104) (hr : ∀ row, row ∈ l → row.length ≤ 4398046511104) :
    Calls Tryd.prog 55 #[v1, v2] w fun e w' => e = .returned (.bool true) ∧ Below w.heap.size w w' := by
  have HC := eqRows_any v1 v2 l w h1 h2 hn hr
  obtain ⟨a1, d1, rfl⟩ := h1.slice
  obtain ⟨a2, d2, rfl⟩ := h2.slice
  clear h1 h2
  go_enter Tryd.func55, Tryd.ntmps55
  go_wp2_with fail
  refine HC.mono ?_
  rintro e W1 ⟨rfl, b1⟩
  clear HC
  go_wp2_with fail
  go_ret
  exact ⟨rfl, b1⟩
theorem eql_style (f b x : Int) (w : World) : (binOp .eql 26 (.agg #[.int .i64 f, .int .i64 b, .int .i64 x]) (.agg #[.int .i64 f, .int .i64 b, .int .i64 x])).run Tryd.prog w = .ok (.bool true) w := by
  go_simp
theorem eql_kept (a b c d e f : Int) (w : World) : (binOp .eql 29 (.agg #[.int .i64 a, .int .i64 b, .int .i64 c, .int .i64 d, .int .i64 e, .int .i64 f]) (.agg #[.int .i64 a, .int .i64 b, .int .i64 c, .int .i64 d, .int .i64 e, .int .i64 f])).run Tryd.prog w = .ok (.bool true) w := by
  go_simp
/-- What SameScreen asks of the sizes. -/
structure Small (s : Scr) : Prop where
  c : s.cs.length ≤ 4398046511104
  t : s.tabs.length ≤ 4398046511104
  g : s.gone.length ≤ 4398046511104
  r : ∀ row, row ∈ s.gone → row.length ≤ 4398046511104
set_option maxHeartbeats 8000000 in
set_option maxRecDepth 100000 in
theorem sameScreen_any (s : Scr) (cv tv gv cv' tv' gv' : Value) (w : World) (h1 : ScrV w s cv tv gv) (h2 : ScrV w s cv' tv' gv') (hS : Small s) :
    Calls Tryd.prog 16 #[.agg (scrA s cv tv gv), .agg (scrA s cv' tv' gv')] w fun e w' => e = .returned (.bool true) ∧ Below w.heap.size w w' := by
  obtain ⟨ca, cc, rfl⟩ := h1.c.shape
  obtain ⟨ta, tc, rfl⟩ := h1.t.slice
  obtain ⟨ga, gc, rfl⟩ := h1.g.slice
  obtain ⟨ca', cc', rfl⟩ := h2.c.shape
  obtain ⟨ta', tc', rfl⟩ := h2.t.slice
  obtain ⟨ga', gc', rfl⟩ := h2.g.slice
  have x0 := heap_alloc_new w (.cells (scrA s (.slice ca s.cs.length cc) (.slice ta s.tabs.length tc) (.slice ga s.gone.length gc)) 32)
  have y0 := (Below.heap_alloc (w.alloc (.cells (scrA s (.slice ca s.cs.length cc) (.slice ta s.tabs.length tc) (.slice ga s.gone.length gc)) 32)) (.cells (scrA s (.slice ca' s.cs.length cc') (.slice ta' s.tabs.length tc') (.slice ga' s.gone.length gc')) 32) _ (heap_lt x0)).trans x0
  have y1 := heap_alloc_new (w.alloc (.cells (scrA s (.slice ca s.cs.length cc) (.slice ta s.tabs.length tc) (.slice ga s.gone.length gc)) 32)) (.cells (scrA s (.slice ca' s.cs.length cc') (.slice ta' s.tabs.length tc') (.slice ga' s.gone.length gc')) 32)
  have kb : Below w.heap.size w ((w.alloc (.cells (scrA s (.slice ca s.cs.length cc) (.slice ta s.tabs.length tc) (.slice ga s.gone.length gc)) 32)).alloc (.cells (scrA s (.slice ca' s.cs.length cc') (.slice ta' s.tabs.length tc') (.slice ga' s.gone.length gc')) 32)) := ((Below.refl _ _).alloc (Nat.le_refl _) _).alloc (by simp) _
  have es : (w.alloc (.cells (scrA s (.slice ca s.cs.length cc) (.slice ta s.tabs.length tc) (.slice ga s.gone.length gc)) 32)).heap.size = w.heap.size + 1 := by simp
  rw [es] at y1
  have HKB : Hid _ := kb
  have HV1 : Hid (ScrV w s _ _ _) := h1
  have HV2 : Hid (ScrV w s _ _ _) := h2
  have HS : Hid (Small s) := hS
  have HY0 : Hid _ := y0
  have HY1 : Hid _ := y1
  have aw : (s.w == s.w) = true := by simp
  obtain ⟨⟨c0, c1, c2, -⟩, -, -⟩ := scr_cells y0
  obtain ⟨⟨d0, d1, d2, -⟩, -, -⟩ := scr_cells y1
  have HG := Grd.same_any_big s.w s.h _ _ s.cs _ (h1.c.below kb) (h2.c.below kb) hS.c
  clear x0 y0 y1 kb h1 h2 hS es
  go_enter Tryd.func16, Tryd.ntmps16
  go_wp2_with fail
  refine HG.mono ?_
  rintro e W1 ⟨rfl, b1⟩
  clear HG c0 c1 c2 d0 d1 d2
  have HB1 : Hid (Below w.heap.size w W1) := HKB.out.trans (b1.mono HKB.out.size)
  have HZ0 : Hid (W1.heap[w.heap.size]? = _) := Grd.carry HY0.out b1
  have HZ1 : Hid (W1.heap[w.heap.size + 1]? = _) := Grd.carry HY1.out b1
  clear b1 HY0 HY1 HKB
  obtain ⟨⟨c0, c1, c2, c3, c4, c5, c6, c7, c8, c9, c10⟩, ⟨c11, c12, c13, c14, c15, c16, c17, c18, c19, c20, c21⟩, -⟩ := scr_cells HZ0.out
  obtain ⟨⟨d0, d1, d2, d3, d4, d5, d6, d7, d8, d9, d10⟩, ⟨d11, d12, d13, d14, d15, d16, d17, d18, d19, d20, d21⟩, -⟩ := scr_cells HZ1.out
  have HT := equalB_any _ _ s.tabs _ (HV1.out.t.next HB1.out) (HV2.out.t.next HB1.out) HS.out.t
  have q1 := eql_style s.sf s.sb s.sx
  have q2 := eql_kept s.kx s.ky s.kf s.kb s.kbits s.km
  go_wp2_with fail
  refine HT.mono ?_
  rintro e W2 ⟨rfl, b2⟩
  clear HT c0 c1 c2 c3 c4 c5 c6 c7 c8 c9 c10 c11 c12 c13 c14 c15 c16 c17 c18 c19 c20 c21 d0 d1 d2 d3 d4 d5 d6 d7 d8 d9 d10 d11 d12 d13 d14 d15 d16 d17 d18 d19 d20 d21
  have HB2 : Hid (Below w.heap.size w W2) := HB1.out.trans (b2.mono HB1.out.size)
  have HA0 : Hid (W2.heap[w.heap.size]? = _) := Grd.carry HZ0.out b2
  have HA1 : Hid (W2.heap[w.heap.size + 1]? = _) := Grd.carry HZ1.out b2
  clear b2 HZ0 HZ1 HB1
  obtain ⟨-, ⟨c11, c12, c13, c14, c15, c16, c17, c18, c19, c20, c21⟩, -⟩ := scr_cells HA0.out
  obtain ⟨-, ⟨d11, d12, d13, d14, d15, d16, d17, d18, d19, d20, d21⟩, -⟩ := scr_cells HA1.out
  have HR := sameRows_any _ _ s.gone _ (HV1.out.g.next HB2.out) (HV2.out.g.next HB2.out) HS.out.g HS.out.r
  go_wp2_with fail
  refine HR.mono ?_
  rintro e W3 ⟨rfl, b3⟩
  clear HR
  have HB3 : Hid (Below w.heap.size w W3) := HB2.out.trans (b3.mono HB2.out.size)
  clear b3 HA0 HA1 c11 c12 c13 c14 c15 c16 c17 c18 c19 c20 c21 d11 d12 d13 d14 d15 d16 d17 d18 d19 d20 d21
  go_wp2_with fail
  go_ret
  exact ⟨rfl, HB3.out⟩
end Put
end Go.Proofs.YtnkeahfcpbepjaaDoor

/- Package move: within, counted, moved; what stays of a sheet whose words change. -/
namespace Go.Proofs.YtnkeahfcpbepjaaDoor
open Go.ChangeShapes Go.WideShapes Go.ChangeAt Go.RowKit
namespace Put
open Grd (C SliceAt CellsAt gridErr z0 nilV flat rowsL)
def withinI (n a b : Int) : Int := min (max n a) b
def cnt (n : Int) : Int := withinI n 1 9999
theorem cnt_range (n : Int) : 1 ≤ cnt n ∧ cnt n ≤ 9999 := by unfold cnt withinI; omega
theorem within_calls (n a b : Int) (w : World) : Calls Tryd.prog 123 #[.int .i64 n, .int .i64 a, .int .i64 b] w fun e w' => e = .returned (.int .i64 (withinI n a b)) ∧ w = w' := by
  have h1 := Grd.max2 n a
  have h2 := Grd.min2 (max n a) b
  go_enter Tryd.func123, Tryd.ntmps123
  go_wp2_with fail
  go_ret
  exact ⟨rfl, rfl⟩
theorem counted_any (n : Int) (w : World) : Calls Tryd.prog 73 #[.int .i64 n] w fun e w' => e = .returned (.int .i64 (cnt n)) ∧ w = w' := by
  have h := within_calls n 1 9999 w
  go_enter Tryd.func73, Tryd.ntmps73
  go_wp2_with fail
  refine h.mono ?_
  rintro e W1 ⟨rfl, hw⟩
  subst hw
  go_wp2_with fail
  go_ret
  exact ⟨rfl, rfl⟩
end Put
end Go.Proofs.YtnkeahfcpbepjaaDoor

/- A right screen, and what stays small of it. -/
namespace Go.Proofs.YtnkeahfcpbepjaaDoor
open Go.ChangeShapes Go.WideShapes Go.ChangeAt Go.RowKit
namespace Put
open Grd (C SliceAt CellsAt gridErr z0 nilV flat rowsL RightRow)
theorem rightErr {s : Scr} {n hh : Nat} (h : RightS s n hh) : scrErr s = 0 := by
  have hz := h.gz
  rw [← h.w, ← h.h] at hz
  have hp : placeOk s = true := by
    have := h.w
    have := h.h
    have := h.x0
    have := h.x1
    have := h.y0
    have := h.y1
    have := h.kx0
    have := h.kx1
    have := h.ky0
    have := h.ky1
    have := h.t0
    have := h.t1
    have := h.t2
    have := h.t3
    simp only [placeOk, hasC, regionOk, Bool.and_eq_true, Bool.or_eq_true, decide_eq_true_eq]
    omega
  have hr : restOk s = true := by
    simp only [restOk, Bool.and_eq_true, Bool.or_eq_true, Bool.not_eq_true', decide_eq_true_eq, decide_eq_false_iff_not]
    exact ⟨by rw [h.w, h.tl], h.la, h.ti⟩
  have hg : goneErr s.gone = 0 := by
    unfold goneErr
    rw [if_neg (by have := h.gl; omega)]
    have hb : goneBad s.gone = false := by
      unfold goneBad
      rw [List.any_eq_false]
      intro row hrow
      simp [h.gr row hrow]
    rw [hb]
    rfl
  unfold scrErr
  rw [if_neg (by rw [hz]; simp), if_neg (by rw [hp]; simp), if_neg (by rw [h.late]; simp), if_neg (by rw [h.looks]; simp), if_neg (by rw [hr]; simp), hg]
theorem smallOf {s : Scr} {n hh : Nat} (h : RightS s n hh) : Small s := by
  refine ⟨?_, ?_, ?_, ?_⟩
  · have h1 := h.cl
    have h2 := Nat.mul_le_mul h.n2 h.h2
    omega
  · have := h.tl
    have := h.n2
    omega
  · have := h.gl
    omega
  · intro row hrow
    have := (grid_size (h.gr row hrow)).2.1
    omega
theorem rowsL_row {s : Scr} {n hh : Nat} (h : RightS s n hh) (i : Nat) (hi : i < (rowsL n s.cs hh).length) : ((rowsL n s.cs hh).getD i []).length = n := by
  rw [Grd.rowsL_len] at hi
  have e2 : (rowsL n s.cs hh).getD i [] = Grd.rowAt n s.cs i := by simp [rowsL, List.getD, hi]
  rw [e2]
  exact Grd.row_len n hh s.cs i h.cl hi
/-- Rows of that many cells, in the place of a right screen's. -/
theorem rowsOk {s : Scr} {n hh : Nat} (hR : RightS s n hh) (s' : Scr) (rows' : List (List C)) (hl : rows'.length = hh) (hn : ∀ i, i < rows'.length → (rows'.getD i []).length = n) (hg : s'.gone.length ≤ 51) (hg2 : ∀ i, i < s'.gone.length → (s'.gone.getD i []).length ≤ 1048576) : RowsOk s' rows' := by
  have n1 := hR.n1
  have n2 := hR.n2
  have h1 := hR.h1
  have h2 := hR.h2
  have hlen := Grd.flatten_len n rows' hn hh (by omega)
  rw [← hl, List.take_length] at hlen
  refine ⟨by omega, by omega, fun i hi e => ?_, ?_, by omega, hg2⟩
  · have := hn i hi
    rw [e] at this
    simp at this
    omega
  · rw [hlen]
    have := Nat.mul_le_mul (show rows'.length ≤ 60 by omega) n2
    omega
theorem rowsOk_same {s : Scr} {n hh : Nat} (hR : RightS s n hh) (s' : Scr) (hg : s'.gone = s.gone) : RowsOk s' (rowsL n s.cs hh) :=
  rowsOk hR s' _ (Grd.rowsL_len _ _ _) (rowsL_row hR) (by rw [hg]; have := hR.gl; omega) (fun i hi => by rw [hg] at hi ⊢; have := hR.gone_le i hi; omega)
end Put
end Go.Proofs.YtnkeahfcpbepjaaDoor

/- Package shift: a screen is changed, or its error told. -/
namespace Go.Proofs.YtnkeahfcpbepjaaDoor
set_option linter.unusedVariables false
open Go.ChangeShapes Go.WideShapes Go.ChangeAt Go.RowKit
namespace Put
open Grd (C SliceAt CellsAt gridErr z0 nilV flat rowsL RightRow)
end Put
end Go.Proofs.YtnkeahfcpbepjaaDoor

/- Rows that move, as values. -/
namespace Go.Proofs.YtnkeahfcpbepjaaDoor
open Go.ChangeShapes Go.WideShapes Go.ChangeAt Go.RowKit
namespace Put
open Grd (C)
def iterN {α : Type} (f : α → α) : Nat → α → α
  | 0, x => x
  | k + 1, x => f (iterN f k x)
/-- Rows move up, once; what leaves at the top may be kept. -/
def rUp (n top bot : Nat) (keep : Bool) (x : Scr × List (List C)) : Scr × List (List C) := (if top = 0 ∧ keep = true then { x.1 with gone := keepG x.1.gone (x.2.getD 0 []) } else x.1, replR x.2 n x.1.sb top bot)
/-- Rows move down, once. -/
def rDn (n top bot : Nat) (x : Scr × List (List C)) : Scr × List (List C) := (x.1, replR x.2 n x.1.sb bot top)
/-- What stays while rows move. -/
structure Rolls (n bot hh : Nat) (bk : Int) (x : Scr × List (List C)) : Prop where
  w : x.1.w = n
  b : x.1.bot = bot
  k : x.1.sb = bk
  r : x.2.length = hh
  g : x.1.gone.length ≤ 50
theorem Rolls.up {n bot hh : Nat} {bk : Int} {x : Scr × List (List C)} (h : Rolls n bot hh bk x) (top : Nat) (keep : Bool) (ht : top < hh) (hb : bot < hh) : Rolls n bot hh bk (rUp n top bot keep x) := by
  have hr : (replR x.2 n x.1.sb top bot).length = hh := by rw [replR_len _ _ _ _ _ (by rw [h.r]; exact ht) (by rw [h.r]; exact hb), h.r]
  unfold rUp
  split
  · exact ⟨h.w, h.b, h.k, hr, keepG_len _ _ h.g⟩
  · exact ⟨h.w, h.b, h.k, hr, h.g⟩
theorem Rolls.dn {n bot hh : Nat} {bk : Int} {x : Scr × List (List C)} (h : Rolls n bot hh bk x) (top : Nat) (ht : top < hh) (hb : bot < hh) : Rolls n bot hh bk (rDn n top bot x) :=
  ⟨h.w, h.b, h.k, by show (replR x.2 n x.1.sb bot top).length = hh; rw [replR_len _ _ _ _ _ (by rw [h.r]; exact hb) (by rw [h.r]; exact ht), h.r], h.g⟩
end Put
end Go.Proofs.YtnkeahfcpbepjaaDoor

/- (*sheet.Sheet).Feed at Bottom; shift's Back, moveRows. -/
namespace Go.Proofs.YtnkeahfcpbepjaaDoor
open Go.ChangeShapes Go.WideShapes Go.ChangeAt Go.RowKit
namespace Put
open Grd (C SliceAt CellsAt gridErr z0 nilV flat rowsL)
set_option maxHeartbeats 2000000 in
set_option maxRecDepth 100000 in
theorem feed_roll (W : World) (M N p n : Nat) (s : Scr) (rows : List (List C)) (hS : ShAt 109 W M N p s rows) (top bot : Nat) (ht : s.top = top) (hb : s.bot = bot) (hy : s.y = s.bot) (hw : s.w = n) (hn1 : 1 ≤ n) (hn2 : n ≤ 120) (hg : top < rows.length) (hf : bot < rows.length) (hrl : rows.length ≤ 60) (hgl : s.gone.length ≤ 50) :
    Calls Tryd.prog 103 #[.pointer (some ⟨p, 0, none⟩)] W (Ran W M N p (upS { s with late := false } rows top) (replR rows n s.sb top bot)) := by
  obtain ⟨c0, c1, c3, c4, c5, c9, c10, c11, c19, f⟩ := hS.words
  have f5 := f 5
  obtain ⟨hS1, hB1, hF1⟩ := hS.put 5 (.bool false) (s' := { s with late := false }) (fun _ _ _ _ => rfl) rfl rfl
  have HS1 : Hid (ShAt 109 (W.setCell ⟨p, 5, none⟩ (.bool false)) M N p { s with late := false } rows) := hS1
  have HB1 : Hid (Below N W (W.setCell ⟨p, 5, none⟩ (.bool false))) := hB1
  have HF1 : Hid (Framed W (W.setCell ⟨p, 5, none⟩ (.bool false))) := hF1
  have HU : Hid (∀ V, ShAt 109 V M N p { s with late := false } rows → Calls Tryd.prog 134 #[.pointer (some ⟨p, 0, none⟩), .int .i64 (top : Int)] V (Ran V M N p (upS { s with late := false } rows top) (replR rows n s.sb top bot))) := fun V h => up_any' V M N p n _ rows h top bot hb hw hn1 hn2 hg hf hrl hgl
  have HT : Hid (s.top = top) := ht
  have hq : (s.y == s.bot) = true := by rw [beq_iff_eq]; exact hy
  clear hS1 hB1 hF1 hS hy hb ht c0 c1 c3 c4 c9 c10 c11 c19 f
  generalize upS { s with late := false } rows top = s' at *
  generalize replR rows n s.sb top bot = rows' at *
  go_enter Tryd.func103, Tryd.ntmps103
  go_upto_region 1 with fail
  obtain ⟨-, -, -, d4, -, d9, d10, -, -, df⟩ := HS1.out.words
  clear c5 f5 df
  generalize (W.setCell ⟨p, 5, none⟩ (.bool false)) = X at *
  go_region
  have HSd : Hid (ShAt 109 X.drew M N p { s with late := false } rows) := HS1.out.drew
  have HB2 : Hid (Below N W X.drew) := HB1.out.drew
  have HF2 : Hid (Framed W X.drew) := HF1.out.trans (Framed.of_below ((Below.refl _ _).drew))
  clear d4 d9 d10 HS1 HB1 HF1
  generalize X.drew = Y at *
  obtain ⟨-, -, -, -, -, d9, -, -, -, df⟩ := HSd.out.words
  replace d9 : Y.cell? ⟨p, 9, none⟩ = some (.int .i64 s.top) := d9
  rw [HT.out] at d9
  have HU2 := HU.out Y HSd.out
  clear df HU HSd
  go_wp2_with fail
  refine HU2.mono ?_
  rintro e V ⟨rfl, hS2, hB3, hF3⟩
  go_wp2_with fail
  go_end0
  exact ⟨rfl, hS2, HB2.out.trans hB3, HF2.out.trans hF3⟩
def dfeedR (s : Scr) (rows : List (List C)) (n top bot : Nat) : List (List C) := if s.y = s.bot then replR rows n s.sb top bot else rows
/-- To the row above. -/
def backS (s : Scr) : Scr := if s.y = s.top then { s with late := false } else if 0 < s.y then { s with late := false, y := s.y - 1 } else { s with late := false }
end Put
end Go.Proofs.YtnkeahfcpbepjaaDoor

/- Plain mathematics of rows that move. -/
namespace Go.Proofs.YtnkeahfcpbepjaaDoor
namespace Put
open Grd (C)
theorem replR_up (rows : List (List C)) (n : Nat) (bk : Int) (top bot : Nat) (htb : top ≤ bot) (hb : bot < rows.length) (y : Nat) :
    (replR rows n bk top bot).getD y [] = if y < top then rows.getD y [] else if y < bot then rows.getD (y + 1) [] else if y = bot then List.replicate n (32, 0, bk, 0) else rows.getD y [] := by
  have hl : (rows.eraseIdx top).length = rows.length - 1 := List.length_eraseIdx_of_lt (by omega)
  unfold replR
  rw [getD_insert _ _ _ _ _ (by omega)]
  by_cases h1 : y < top
  · rw [if_pos h1, if_pos (by omega), getD_erase, if_pos h1]
  · rw [if_neg h1]
    by_cases h2 : y < bot
    · rw [if_pos h2, if_pos h2, getD_erase, if_neg h1]
    · rw [if_neg h2, if_neg h2]
      by_cases h3 : y = bot
      · rw [if_pos h3, if_pos h3]
      · rw [if_neg h3, if_neg h3, getD_erase, if_neg (by omega), show y - 1 + 1 = y by omega]
theorem replR_down (rows : List (List C)) (n : Nat) (bk : Int) (top bot : Nat) (htb : top ≤ bot) (hb : bot < rows.length) (y : Nat) :
    (replR rows n bk bot top).getD y [] = if y < top then rows.getD y [] else if y = top then List.replicate n (32, 0, bk, 0) else if y ≤ bot then rows.getD (y - 1) [] else rows.getD y [] := by
  have hl : (rows.eraseIdx bot).length = rows.length - 1 := List.length_eraseIdx_of_lt (by omega)
  unfold replR
  rw [getD_insert _ _ _ _ _ (by omega)]
  by_cases h1 : y < top
  · rw [if_pos h1, if_pos h1, getD_erase, if_pos (by omega)]
  · rw [if_neg h1, if_neg h1]
    by_cases h2 : y = top
    · rw [if_pos h2, if_pos h2]
    · rw [if_neg h2, if_neg h2, getD_erase]
      by_cases h3 : y ≤ bot
      · rw [if_pos h3, if_pos (by omega)]
      · rw [if_neg h3, if_neg (by omega), show y - 1 + 1 = y by omega]
theorem rUp_rows (n top bot : Nat) (keep : Bool) (x : Scr × List (List C)) : (rUp n top bot keep x).2 = replR x.2 n x.1.sb top bot := rfl
theorem rDn_rows (n top bot : Nat) (x : Scr × List (List C)) : (rDn n top bot x).2 = replR x.2 n x.1.sb bot top := rfl
theorem iterUp_len (n top bot : Nat) (keep : Bool) (htb : top ≤ bot) (x : Scr × List (List C)) (hb : bot < x.2.length) : ∀ k, (iterN (rUp n top bot keep) k x).2.length = x.2.length
  | 0 => rfl
  | k + 1 => by
    have ih := iterUp_len n top bot keep htb x hb k
    show (rUp n top bot keep (iterN (rUp n top bot keep) k x)).2.length = _
    rw [rUp_rows, replR_len _ _ _ _ _ (by omega) (by omega), ih]
theorem iterDn_len (n top bot : Nat) (htb : top ≤ bot) (x : Scr × List (List C)) (hb : bot < x.2.length) : ∀ k, (iterN (rDn n top bot) k x).2.length = x.2.length
  | 0 => rfl
  | k + 1 => by
    have ih := iterDn_len n top bot htb x hb k
    show (rDn n top bot (iterN (rDn n top bot) k x)).2.length = _
    rw [rDn_rows, replR_len _ _ _ _ _ (by omega) (by omega), ih]
/-- Rows outside those that scroll stay. -/
theorem iterUp_out (n top bot : Nat) (keep : Bool) (htb : top ≤ bot) (x : Scr × List (List C)) (hb : bot < x.2.length) (y : Nat) (hy : y < top ∨ bot < y) : ∀ k, (iterN (rUp n top bot keep) k x).2.getD y [] = x.2.getD y []
  | 0 => rfl
  | k + 1 => by
    have ih := iterUp_out n top bot keep htb x hb y hy k
    have hl := iterUp_len n top bot keep htb x hb k
    show (rUp n top bot keep (iterN (rUp n top bot keep) k x)).2.getD y [] = _
    rw [rUp_rows, replR_up _ _ _ _ _ htb (by omega), ih]
    by_cases h1 : y < top
    · rw [if_pos h1]
    · rw [if_neg h1, if_neg (by omega), if_neg (by omega)]
theorem iterDn_out (n top bot : Nat) (htb : top ≤ bot) (x : Scr × List (List C)) (hb : bot < x.2.length) (y : Nat) (hy : y < top ∨ bot < y) : ∀ k, (iterN (rDn n top bot) k x).2.getD y [] = x.2.getD y []
  | 0 => rfl
  | k + 1 => by
    have ih := iterDn_out n top bot htb x hb y hy k
    have hl := iterDn_len n top bot htb x hb k
    show (rDn n top bot (iterN (rDn n top bot) k x)).2.getD y [] = _
    rw [rDn_rows, replR_down _ _ _ _ _ htb (by omega), ih]
    by_cases h1 : y < top
    · rw [if_pos h1]
    · rw [if_neg h1, if_neg (by omega), if_neg (by omega)]
/-- What moved up k times. -/
theorem iterUp_in (n top bot : Nat) (keep : Bool) (htb : top ≤ bot) (x : Scr × List (List C)) (hb : bot < x.2.length) : ∀ k y, top ≤ y → y + k ≤ bot → (iterN (rUp n top bot keep) k x).2.getD y [] = x.2.getD (y + k) []
  | 0, y, _, _ => rfl
  | k + 1, y, h1, h2 => by
    have ih := iterUp_in n top bot keep htb x hb k (y + 1) (by omega) (by omega)
    have hl := iterUp_len n top bot keep htb x hb k
    show (rUp n top bot keep (iterN (rUp n top bot keep) k x)).2.getD y [] = _
    rw [rUp_rows, replR_up _ _ _ _ _ htb (by omega), if_neg (by omega), if_pos (by omega), ih]
    congr 1
    omega
/-- What moved down k times. -/
theorem iterDn_in (n top bot : Nat) (htb : top ≤ bot) (x : Scr × List (List C)) (hb : bot < x.2.length) : ∀ k y, top + k ≤ y → y ≤ bot → (iterN (rDn n top bot) k x).2.getD y [] = x.2.getD (y - k) []
  | 0, y, _, _ => rfl
  | k + 1, y, h1, h2 => by
    have ih := iterDn_in n top bot htb x hb k (y - 1) (by omega) (by omega)
    have hl := iterDn_len n top bot htb x hb k
    show (rDn n top bot (iterN (rDn n top bot) k x)).2.getD y [] = _
    rw [rDn_rows, replR_down _ _ _ _ _ htb (by omega), if_neg (by omega), if_neg (by omega), if_pos (by omega), ih]
    congr 1
    omega
/-- The last fifty. -/
def last50 (l : List (List C)) : List (List C) := l.drop (l.length - 50)
theorem last50_len (l : List (List C)) : (last50 l).length ≤ 50 := by
  unfold last50
  rw [List.length_drop]
  omega
theorem last50_short (l : List (List C)) (h : l.length ≤ 50) : last50 l = l := by
  unfold last50
  rw [show l.length - 50 = 0 by omega]
  rfl
theorem keepG_last (g : List (List C)) (row : List C) (h : g.length ≤ 50) : keepG g row = last50 (g ++ [row]) := by
  unfold keepG
  by_cases hl : g.length < 50
  · rw [if_pos hl, last50_short _ (by simp; omega)]
  · rw [if_neg hl]
    unfold last50
    rw [List.length_append, List.length_singleton, show g.length + 1 - 50 = 1 by omega, List.eraseIdx_zero, List.drop_one]
theorem last50_push (l : List (List C)) (row : List C) : last50 (last50 l ++ [row]) = last50 (l ++ [row]) := by
  by_cases h : l.length ≤ 50
  · rw [last50_short l h]
  · have e : (last50 l).length = 50 := by unfold last50; rw [List.length_drop]; omega
    have e1 : last50 (last50 l ++ [row]) = (last50 l ++ [row]).drop 1 := by
      show (last50 l ++ [row]).drop ((last50 l ++ [row]).length - 50) = _
      rw [List.length_append, List.length_singleton, e]
    rw [e1]
    unfold last50
    rw [List.drop_append_of_le_length (by rw [List.length_drop]; omega), List.drop_drop, List.length_append, List.length_singleton, List.drop_append_of_le_length (by omega)]
    congr 2
    omega
/-- What is gone behind k rows that moved up from the first one on. -/
theorem iterUp_gone (n bot : Nat) (x : Scr × List (List C)) (hb : bot < x.2.length) (hg : x.1.gone.length ≤ 50) : ∀ k, k ≤ bot + 1 → (iterN (rUp n 0 bot true) k x).1.gone = last50 (x.1.gone ++ x.2.take k)
  | 0, _ => by
    show x.1.gone = _
    rw [List.take_zero, List.append_nil, last50_short _ hg]
  | k + 1, hk => by
    have ih := iterUp_gone n bot x hb hg k (by omega)
    have hl := iterUp_len n 0 bot true (by omega) x hb k
    have hr : (iterN (rUp n 0 bot true) k x).2.getD 0 [] = x.2.getD k [] := by
      have := iterUp_in n 0 bot true (by omega) x hb k 0 (Nat.le_refl _) (by omega)
      rwa [Nat.zero_add] at this
    show (rUp n 0 bot true (iterN (rUp n 0 bot true) k x)).1.gone = _
    have e : (rUp n 0 bot true (iterN (rUp n 0 bot true) k x)).1.gone = keepG (iterN (rUp n 0 bot true) k x).1.gone ((iterN (rUp n 0 bot true) k x).2.getD 0 []) := by
      unfold rUp
      rw [if_pos ⟨rfl, rfl⟩]
    have e2 : x.2.take (k + 1) = x.2.take k ++ [x.2.getD k []] := by
      have hk' : k < x.2.length := by omega
      rw [List.take_succ_eq_append_getElem hk']
      simp [List.getD, hk']
    rw [e, hr, keepG_last _ _ (by rw [ih]; exact last50_len _), ih, last50_push, e2, List.append_assoc]
end Put
end Go.Proofs.YtnkeahfcpbepjaaDoor

/- What is kept of rows that went. -/
namespace Go.Proofs.YtnkeahfcpbepjaaDoor
open Go.ChangeShapes Go.WideShapes Go.ChangeAt Go.RowKit
namespace Put
open Grd (C)
theorem keepG_mem {g : List (List C)} {row r : List C} (h : r ∈ keepG g row) : r ∈ g ∨ r = row := by
  unfold keepG at h
  split at h
  · simpa using h
  · simpa using List.mem_of_mem_eraseIdx h
theorem keepG_rows {s : Scr} {n hh : Nat} (hR : RightS s n hh) (row : List C) (hr : row.length = n) : ∀ r, r ∈ keepG s.gone row → r.length ≤ 120 := by
  intro r hm
  rcases keepG_mem hm with h | h
  · have := (grid_size (hR.gr r h)).2.1
    omega
  · have := hR.n2
    rw [h, hr]
    omega
theorem rows_le {l : List (List C)} (h : ∀ r, r ∈ l → r.length ≤ 120) (i : Nat) (hi : i < l.length) : (l.getD i []).length ≤ 1048576 := by
  have e : l.getD i [] = l[i] := by simp [List.getD, hi]
  rw [e]
  have := h _ (List.getElem_mem hi)
  omega
theorem gone_le120 {s : Scr} {n hh : Nat} (hR : RightS s n hh) : ∀ r, r ∈ s.gone → r.length ≤ 120 := fun r hr => by
  have := (grid_size (hR.gr r hr)).2.1
  omega
end Put
end Go.Proofs.YtnkeahfcpbepjaaDoor

/- Rows that move leave a right screen right. -/
namespace Go.Proofs.YtnkeahfcpbepjaaDoor
open Go.ChangeShapes Go.WideShapes Go.ChangeAt Go.RowKit
namespace Put
open Grd (C SliceAt CellsAt gridErr z0 nilV flat rowsL RightRow wd32)
open Sty (isSt)
/-- Rows that are right ones, so wide. -/
def RowsRt (n : Nat) (rows : List (List C)) : Prop := ∀ i, i < rows.length → (rows.getD i []).length = n ∧ RightRow (rows.getD i [])
theorem rowsRt_of {s : Scr} {n hh : Nat} (h : RightS s n hh) : RowsRt n (rowsL n s.cs hh) := fun i hi => by
  rw [Grd.rowsL_len] at hi
  have e2 : (rowsL n s.cs hh).getD i [] = Grd.rowAt n s.cs i := by simp [rowsL, List.getD, hi]
  rw [e2]
  exact ⟨Grd.row_len n hh s.cs i h.cl hi, ((Grd.gridErr_zero n hh s.cs).1 h.gz).2.2 i hi⟩
theorem roll_style {s : Scr} {n hh : Nat} (h : RightS s n hh) : isSt (0, s.sb, 0) = true := by
  have h1 := h.looks
  simp only [looksOk, Bool.and_eq_true] at h1
  have h2 := h1.1
  simp only [isSt, decide_eq_true_eq] at h2 ⊢
  omega
theorem roll_ext {a b : List (List C)} (hl : a.length = b.length) (h : ∀ i, i < a.length → a.getD i [] = b.getD i []) : a = b := by
  apply List.ext_getElem hl
  intro i h1 h2
  have := h i h1
  simpa [List.getD, h1, h2] using this
theorem roll_one (n : Nat) (row : List C) (hn1 : 1 ≤ n) (hn2 : n ≤ 120) (hl : row.length = n) (hr : RightRow row) : gridErr n 1 row = 0 := by
  refine (Grd.gridErr_zero n 1 row).2 ⟨?_, by omega, fun y hy => ?_⟩
  · simp [Grd.isSize]
    omega
  · have e : y = 0 := by omega
    subst e
    have e2 : Grd.rowAt n row 0 = row := by
      unfold Grd.rowAt
      rw [Nat.zero_mul, List.drop_zero, List.take_of_length_le (by omega)]
    rw [e2]
    exact hr
theorem roll_rowAt (n : Nat) (rows : List (List C)) (hr : ∀ i, i < rows.length → (rows.getD i []).length = n) (i : Nat) (hi : i < rows.length) : Grd.rowAt n rows.flatten i = rows.getD i [] := by
  have h1 := Grd.flatten_len n rows hr i (by omega)
  have h2 : rows.flatten = (rows.take i).flatten ++ (rows.drop i).flatten := by rw [← List.flatten_append, List.take_append_drop]
  have h3 : rows.getD i [] = rows[i] := by simp [List.getD, hi]
  have h4 := hr i hi
  rw [h3] at h4
  unfold Grd.rowAt
  rw [h2, List.drop_left' h1, List.drop_eq_getElem_cons hi, List.flatten_cons, List.take_left' h4, h3]
theorem roll_blank (n : Nat) (bk : Int) (hs : isSt (0, bk, 0) = true) : RightRow (List.replicate n ((32, 0, bk, 0) : C)) := by
  have hg : ∀ x, x < n → (List.replicate n ((32, 0, bk, 0) : C)).getD x z0 = (32, 0, bk, 0) := fun x hx => by simp [List.getD, hx]
  refine ⟨fun x hx => ?_, fun x hx => ?_⟩
  · rw [List.length_replicate] at hx
    rw [hg x hx]
    exact ⟨fun _ => by dsimp only; rw [wd32]; decide, hs, fun h => absurd h (by simp)⟩
  · rw [List.length_replicate] at hx
    unfold Grd.loose
    rw [hg x hx, if_neg (by simp)]
    dsimp only
    rw [wd32]
    rfl
theorem RowsRt.up {n : Nat} {rows : List (List C)} (h : RowsRt n rows) (bk : Int) (hs : isSt (0, bk, 0) = true) (top bot : Nat) (htb : top ≤ bot) (hb : bot < rows.length) : RowsRt n (replR rows n bk top bot) := fun i hi => by
  rw [replR_len _ _ _ _ _ (by omega) hb] at hi
  rw [replR_up _ _ _ _ _ htb hb]
  split
  · exact h i hi
  · split
    · exact h (i + 1) (by omega)
    · split
      · exact ⟨List.length_replicate, roll_blank n bk hs⟩
      · exact h i hi
theorem RowsRt.down {n : Nat} {rows : List (List C)} (h : RowsRt n rows) (bk : Int) (hs : isSt (0, bk, 0) = true) (top bot : Nat) (htb : top ≤ bot) (hb : bot < rows.length) : RowsRt n (replR rows n bk bot top) := fun i hi => by
  rw [replR_len _ _ _ _ _ hb (by omega)] at hi
  rw [replR_down _ _ _ _ _ htb hb]
  split
  · exact h i hi
  · split
    · exact ⟨List.length_replicate, roll_blank n bk hs⟩
    · split
      · exact h (i - 1) (by omega)
      · exact h i hi
/-- A screen of other rows, and of what else is gone. -/
theorem right_new {s : Scr} {n hh : Nat} (h : RightS s n hh) (g : List (List C)) (rows' : List (List C)) (hl : rows'.length = hh) (hRR : RowsRt n rows') (hg1 : g.length ≤ 50) (hg2 : ∀ row, row ∈ g → gridErr row.length 1 row = 0) : RightS { s with gone := g, cs := rows'.flatten } n hh ∧ rowsL n rows'.flatten hh = rows' := by
  have hlen := Grd.flatten_len n rows' (fun i hi => (hRR i hi).1) hh (by omega)
  rw [← hl, List.take_length, hl, Nat.mul_comm] at hlen
  have hgz : gridErr n hh rows'.flatten = 0 := (Grd.gridErr_zero n hh _).2 ⟨((Grd.gridErr_zero n hh _).1 h.gz).1, hlen, fun y hy => by
    rw [roll_rowAt n rows' (fun i hi => (hRR i hi).1) y (by omega)]
    exact (hRR y (by omega)).2⟩
  refine ⟨⟨h.w, h.h, h.n1, h.n2, h.h1, h.h2, hlen, hgz, h.x0, h.x1, h.y0, h.y1, h.kx0, h.kx1, h.ky0, h.ky1, h.t0, h.t1, h.t2, h.t3, h.late, h.looks, h.tl, h.la, h.ti, hg1, hg2⟩, ?_⟩
  refine roll_ext (by rw [Grd.rowsL_len, hl]) fun i hi => ?_
  rw [Grd.rowsL_len] at hi
  have e2 : (rowsL n rows'.flatten hh).getD i [] = Grd.rowAt n rows'.flatten i := by simp [rowsL, List.getD, hi]
  rw [e2, roll_rowAt n rows' (fun i hi => (hRR i hi).1) i (by omega)]
/-- What stays right while rows move. -/
structure RollsR (s : Scr) (n hh : Nat) (x : Scr × List (List C)) : Prop where
  e : x.1 = { s with gone := x.1.gone }
  l : x.2.length = hh
  r : RowsRt n x.2
  g1 : x.1.gone.length ≤ 50
  g2 : ∀ row, row ∈ x.1.gone → gridErr row.length 1 row = 0
theorem RollsR.start {s : Scr} {n hh : Nat} (h : RightS s n hh) : RollsR s n hh (s, rowsL n s.cs hh) := ⟨rfl, Grd.rowsL_len _ _ _, rowsRt_of h, h.gl, h.gr⟩
theorem RollsR.sb {s : Scr} {n hh : Nat} {x : Scr × List (List C)} (h : RollsR s n hh x) : x.1.sb = s.sb := by rw [h.e]
theorem RollsR.up {s : Scr} {n hh : Nat} {x : Scr × List (List C)} (hR : RightS s n hh) (h : RollsR s n hh x) (top bot : Nat) (keep : Bool) (htb : top ≤ bot) (hb : bot < hh) : RollsR s n hh (rUp n top bot keep x) := by
  have hl := h.l
  have hs : isSt (0, x.1.sb, 0) = true := by rw [h.sb]; exact roll_style hR
  have e1 : (replR x.2 n x.1.sb top bot).length = hh := by rw [replR_len _ _ _ _ _ (by omega) (by omega), hl]
  have e2 := h.r.up x.1.sb hs top bot htb (by omega)
  unfold rUp
  split
  · refine ⟨?_, e1, e2, keepG_len _ _ h.g1, fun r hm => ?_⟩
    · show ({ x.1 with gone := keepG x.1.gone (x.2.getD 0 []) } : Scr) = { s with gone := keepG x.1.gone (x.2.getD 0 []) }
      generalize keepG x.1.gone (x.2.getD 0 []) = gg
      rw [h.e]
    rcases keepG_mem hm with q | q
    · exact h.g2 r q
    · have h0 := h.r 0 (by omega)
      rw [q, h0.1]
      exact roll_one n _ hR.n1 hR.n2 h0.1 h0.2
  · exact ⟨h.e, e1, e2, h.g1, h.g2⟩
theorem RollsR.dn {s : Scr} {n hh : Nat} {x : Scr × List (List C)} (hR : RightS s n hh) (h : RollsR s n hh x) (top bot : Nat) (htb : top ≤ bot) (hb : bot < hh) : RollsR s n hh (rDn n top bot x) := by
  have hl := h.l
  have hs : isSt (0, x.1.sb, 0) = true := by rw [h.sb]; exact roll_style hR
  exact ⟨h.e, by show (replR x.2 n x.1.sb bot top).length = hh; rw [replR_len _ _ _ _ _ (by omega) (by omega), hl], h.r.down x.1.sb hs top bot htb (by omega), h.g1, h.g2⟩
theorem RollsR.iter {s : Scr} {n hh : Nat} {f : Scr × List (List C) → Scr × List (List C)} (hf : ∀ x, RollsR s n hh x → RollsR s n hh (f x)) (x : Scr × List (List C)) (h : RollsR s n hh x) : ∀ j, RollsR s n hh (iterN f j x)
  | 0 => h
  | j + 1 => hf _ (RollsR.iter hf x h j)
theorem RollsR.right {s : Scr} {n hh : Nat} {x : Scr × List (List C)} (hR : RightS s n hh) (h : RollsR s n hh x) : RightS { x.1 with cs := x.2.flatten } n hh ∧ rowsL n x.2.flatten hh = x.2 := by
  have k := right_new hR x.1.gone x.2 h.l h.r h.g1 h.g2
  refine ⟨?_, k.2⟩
  have e : ({ x.1 with cs := x.2.flatten } : Scr) = { s with gone := x.1.gone, cs := x.2.flatten } := by
    have he := h.e
    generalize x.1 = a at he ⊢
    rw [he]
  rw [e]
  exact k.1
end Put
end Go.Proofs.YtnkeahfcpbepjaaDoor

/- put.printRune: a rune that has no room is left out. -/
namespace Go.Proofs.YtnkeahfcpbepjaaDoor
open Go.ChangeShapes Go.WideShapes Go.ChangeAt Go.RowKit
namespace Put
open Grd (C SliceAt CellsAt gridErr z0 nilV flat rowsL)
open Sty (isSt)
open Txt (wd)
set_option maxHeartbeats 8000000 in
set_option maxRecDepth 100000 in
theorem print_stay (W : World) (M N p : Nat) (s s1 : Scr) (rows rows1 : List (List C)) (r : Int) (hT : Txt.Tab W) (hS : ShAt 109 W M N p s rows) (hk0 : wd r ≠ 0) (hkw : wd r ≤ s.w) (h0 : 0 ≤ s.x) (h1 : s.x ≤ 120) (w1 : 1 ≤ s.w) (w2 : s.w ≤ 120)
    (hF : Fed W M N p (wd r) s s1 rows rows1) (hft : fitsB s1 (wd r) = false) :
    Calls Tryd.prog 59 #[.pointer (some ⟨p, 0, none⟩), .int .i32 r] W (Ran W M N p s1 rows1) := by
  have kb : Below W.heap.size W (W.alloc (.cells #[.pointer (some ⟨p, 0, none⟩)] 82)) := (Below.refl _ _).alloc (Nat.le_refl _) _
  have hx0 := heap_alloc_new W (.cells #[.pointer (some ⟨p, 0, none⟩)] 82)
  have HW := Txt.width_any r (W.alloc (.cells #[.pointer (some ⟨p, 0, none⟩)] 82)) (Grd.Tab.next hT kb)
  have HX0 : Hid _ := hx0
  have HKB : Hid _ := kb
  have HS : Hid (ShAt 109 W M N p s rows) := hS
  have hkr := Txt.wd_range r
  have HF : Hid (Fed W M N p (wd r) s s1 rows rows1) := hF
  have HFT : Hid (fitsB s1 (wd r) = false) := hft
  clear hx0 kb hS hT hF hft
  generalize wd r = k at *
  have q0 : (k == 0) = false := by rw [beq_eq_false_iff_ne]; exact hk0
  have q1 : ¬ s.w < k := by omega
  have hpf := plain_fits
  unfold Plain at hpf
  go_enter Tryd.func59, Tryd.ntmps59
  go_wp2_with fail
  refine HW.mono ?_
  rintro e W1 ⟨rfl, b1⟩
  have hw := way_start HS.out HKB.out HX0.out b1 (k := k)
  clear HW b1 HX0 HKB
  go_upto_region 2 with fail
  generalize hB : W1.heap.size = Bw at *
  clear hB
  generalize (W1.alloc (.cells #[.int .i64 k] 3)) = X at *
  have HWY : Hid (Way W X M N p W.heap.size Bw k s rows) := hw
  obtain ⟨cp, cw⟩ := hw.cells
  obtain ⟨c0, -⟩ := hw.s.words
  clear hw HS
  go_region
  have HW2 : Hid (Way W X.drew M N p W.heap.size Bw k s rows) := HWY.out.drew
  clear cp cw c0 HWY
  generalize X.drew = Y at *
  go_upto_region 4 with fail
  go_cut [34] from 6 to 34 (fun c wx => c = .bool (brkB s k) ∧ Way W wx M N p W.heap.size Bw k s rows)
  case first =>
    have hw := HW2.out
    obtain ⟨cp, cw⟩ := hw.cells
    obtain ⟨c0, -, c3, -, c5, -⟩ := hw.s.words
    have HH := has_any 4 Y hw.s
    have HFI := fits_any Y M N p Bw W.heap.size s rows k hw.s cw cp h0 h1 w1 w2
    clear hw
    cases hl : s.late with
    | true =>
      have HB : Hid (brkB s k = true) := by unfold Hid brkB; rw [hl]; rfl
      rw [hl] at c5
      go_wp2_with fail
      go_meet
      exact ⟨by rw [HB.out], HW2.out⟩
    | false =>
      rw [hl] at c5
      cases hb : hasB s.modes 4 with
      | false =>
        have HB : Hid (brkB s k = false) := by unfold Hid brkB; rw [hl, hb]; rfl
        rw [hb] at HH
        go_wp2_with fail
        refine HH.mono ?_
        rintro e V ⟨rfl, hv⟩
        subst hv
        go_wp2_with fail
        go_meet
        exact ⟨by rw [HB.out], HW2.out⟩
      | true =>
        have HB : Hid (brkB s k = !fitsB s k) := by unfold Hid brkB; rw [hl, hb]; rfl
        rw [hb] at HH
        generalize fitsB s k = fb at *
        go_wp2_with fail
        refine HH.mono ?_
        rintro e V ⟨rfl, hv⟩
        subst hv
        go_wp2_with fail
        refine HFI.mono ?_
        rintro e V ⟨rfl, hv⟩
        subst hv
        go_wp2_with fail
        go_meet
        exact ⟨by rw [HB.out], HW2.out.drew⟩
  case rest =>
    obtain ⟨rfl, hw3⟩ := hcut
    have HW3 : Hid (Way W wc M N p W.heap.size Bw k s rows) := hw3
    clear hw3 HW2
    go_upto_if 34 with fail
    go_cut [] from 6 to 40 (fun wx => Way W wx M N p W.heap.size Bw k s1 rows1)
    case first =>
      cases hb : brkB s k with
      | true =>
        obtain ⟨cp, cw⟩ := HW3.out.cells
        obtain ⟨-, -, c3, -, -, -, -, -, -, f⟩ := HW3.out.s.words
        have f3 := f 3
        obtain ⟨hS4, hB4, hF4⟩ := HW3.out.s.put 3 (.int .i64 0) (s' := { s with x := 0 }) (fun _ _ _ _ => rfl) rfl rfl
        have HW4 : Hid (Way W (wc.setCell ⟨p, 3, none⟩ (.int .i64 0)) M N p W.heap.size Bw k { s with x := 0 } rows) := HW3.out.ran (e := .returned (.tuple #[])) ⟨rfl, hS4, hB4, hF4⟩
        have HFE := HF.out.go hb _ HW4.out.b HW4.out.s
        have d1 := HW4.out.cells.1
        clear hS4 hB4 hF4 f cw
        go_wp2_with fail
        refine HFE.mono ?_
        rintro e V hran
        have hrn := hran
        obtain ⟨rfl, -⟩ := hrn
        have HW5 : Hid (Way W V M N p W.heap.size Bw k s1 rows1) := HW4.out.ran hran
        clear hran cp c3 f3 d1
        go_wp2_with fail
        go_meet
        exact HW5.out
      | false =>
        obtain ⟨e1, e2⟩ := HF.out.no hb
        go_wp2_with fail
        go_meet
        rw [e1, e2]
        exact HW3.out
    case rest =>
      have HW5 : Hid (Way W wc M N p W.heap.size Bw k s1 rows1) := hcut
      clear hcut HW3
      have hw5 := HW5.out
      obtain ⟨cp, cw⟩ := hw5.cells
      have x0 := HF.out.x0
      have x1 := HF.out.x1
      have ew := HF.out.w
      have HEW : Hid (s1.w = s.w) := ew
      have HFI := fits_any wc M N p Bw W.heap.size s1 rows1 k hw5.s cw cp x0 x1 (by omega) (by omega)
      rw [HFT.out] at HFI
      clear hw5 cp cw ew
      go_wp2_with fail
      refine HFI.mono ?_
      rintro e V ⟨rfl, hv⟩
      subst hv
      have HW6 : Hid (Way W wc.drew M N p W.heap.size Bw k s1 rows1) := HW5.out.drew
      clear HFI HW5
      go_wp2_with fail
      (try simp only [Exit.inBlock, Exit.then])
      exact bodyPost_ret (v := .tuple #[]) (results_none rfl _ _ _) rfl ⟨rfl, HW6.out.s, HW6.out.b, HW6.out.f⟩
end Put
end Go.Proofs.YtnkeahfcpbepjaaDoor

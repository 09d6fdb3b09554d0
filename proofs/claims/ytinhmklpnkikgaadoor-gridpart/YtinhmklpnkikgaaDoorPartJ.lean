/- The closed fact 'gridded'. -/
import Derived.Test.YtinhmklpnkikgaaDoorPartI
import Derived.Test.YtinhmklpnkikgaaDoorPartG
import Derived.Test.YtinhmklpnkikgaaDoorPartH
import Derived.Deep.RegionHeld3
import Derived.Deep.CutRange
namespace Go.Proofs.YtinhmklpnkikgaaDoor
open Go.ChangeShapes Go.WideShapes Go.ChangeAt Go.RowKit
namespace Grd
theorem var_new (W : World) (T : TypeId) (z cs : Array Value) : ((W.alloc (.cells z T)).setRow W.heap.size cs).heap[W.heap.size]? = some (.cells cs T (0, 0)) ∧ Below W.heap.size W ((W.alloc (.cells z T)).setRow W.heap.size cs) :=
  ⟨setRow_heap _ _ _ _ _ _ (heap_alloc_new _ _), below_setRow ((Below.refl _ _).alloc (Nat.le_refl _) _) (Nat.le_refl _) _⟩
def gA : List C := [blank, blank, blank]
def gB : List C := [(26085, 0, 0, 0), (0, 0, 0, 0), (120, 0, 0, 0)]
def gC : List C := [(32, 0, 0, 0), (122, 0, 0, 0), (120, 0, 0, 0)]
def sunx : ByteArray := ⟨#[230, 151, 165, 120]⟩
theorem gA_ok : gridErr (3 : Nat) (1 : Nat) gA = 0 := by decide +kernel
theorem gB_ok : gridErr (3 : Nat) (1 : Nat) gB = 0 := by decide +kernel
theorem gC_ok : gridErr (3 : Nat) (1 : Nat) gC = 0 := by decide +kernel
theorem gB_is : writeG 3 1 gA 0 0 (Txt.runes sunx) (0, 0, 0) = gB := by decide +kernel
theorem gC_is : fillG 3 1 gB 1 0 1 1 (122, 0, 0, 0) = gC := by decide +kernel
theorem gL_is : linesL 3 1 gC = [⟨#[32, 122, 120]⟩] := by decide +kernel
theorem gNew (w : World) : Calls Tryd.prog 9 #[.int .i64 3, .int .i64 1] w fun e w' => ∃ (g cap : Nat) (rest : List Value) (t : TypeId), e = .returned (.tuple #[.agg #[.int .i64 3, .int .i64 1, .slice (some ⟨g, 0, none⟩) 3 cap], .int .i64 0]) ∧ 3 ≤ cap ∧ cap ≤ 9223372036854775807 ∧ w'.heap[g]? = some (.cells (flat gA ++ rest).toArray t (0, 0)) ∧ Below w.heap.size w w' :=
  (new_good 3 1 w (by decide)).mono fun e w' ⟨v, he, ⟨g, cap, rest, t, hv, _, hc, hm, hh⟩, hb⟩ => ⟨g, cap, rest, t, by rw [he, hv]; rfl, hc, hm, hh, hb⟩
theorem gWrite (g cap : Nat) (rest : List Value) (t : TypeId) (w : World) (hT : Txt.Tab w) (hc : 3 ≤ cap) (hm : cap ≤ 9223372036854775807) (hh : w.heap[g]? = some (.cells (flat gA ++ rest).toArray t (0, 0))) :
    Calls Tryd.prog 22 #[.agg #[.int .i64 3, .int .i64 1, .slice (some ⟨g, 0, none⟩) 3 cap], .int .i64 0, .int .i64 0, .string sunx, .agg #[.int .i64 0, .int .i64 0, .int .i64 0]] w fun e w' => ∃ (g cap : Nat) (rest : List Value) (t : TypeId), e = .returned (.tuple #[.agg #[.int .i64 3, .int .i64 1, .slice (some ⟨g, 0, none⟩) 3 cap], .int .i64 0]) ∧ 3 ≤ cap ∧ cap ≤ 9223372036854775807 ∧ w'.heap[g]? = some (.cells (flat gB ++ rest).toArray t (0, 0)) ∧ Below w.heap.size w w' := by
  have := write_good 3 1 g 0 cap 0 0 gA 0 0 0 sunx w hT (cellsAt_flat hh) gA_ok hc hm (by decide) (by decide) (by decide)
  rw [gB_is] at this
  exact this.mono fun e w' ⟨v, he, ⟨g, cap, rest, t, hv, _, hc, hm, hh⟩, hb⟩ => ⟨g, cap, rest, t, by rw [he, hv]; rfl, hc, hm, hh, hb⟩
theorem gFill (g cap : Nat) (rest : List Value) (t : TypeId) (w : World) (hT : Txt.Tab w) (hc : 3 ≤ cap) (hm : cap ≤ 9223372036854775807) (hh : w.heap[g]? = some (.cells (flat gB ++ rest).toArray t (0, 0))) :
    Calls Tryd.prog 18 #[.agg #[.int .i64 3, .int .i64 1, .slice (some ⟨g, 0, none⟩) 3 cap], .agg #[.int .i64 1, .int .i64 0, .int .i64 1, .int .i64 1], .agg #[.int .i32 122, .int .i64 0, .int .i64 0, .int .i64 0]] w fun e w' => ∃ (g cap : Nat) (rest : List Value) (t : TypeId), e = .returned (.tuple #[.agg #[.int .i64 3, .int .i64 1, .slice (some ⟨g, 0, none⟩) 3 cap], .int .i64 0]) ∧ 3 ≤ cap ∧ cap ≤ 9223372036854775807 ∧ w'.heap[g]? = some (.cells (flat gC ++ rest).toArray t (0, 0)) ∧ Below w.heap.size w w' := by
  have := fill_good 3 1 g 0 cap gB 1 0 1 1 122 0 0 0 w hT (cellsAt_flat hh) gB_ok hc hm (by decide +kernel) (by decide)
  rw [gC_is] at this
  exact this.mono fun e w' ⟨v, he, ⟨g, cap, rest, t, hv, _, hc, hm, hh⟩, hb⟩ => ⟨g, cap, rest, t, by rw [he, hv]; rfl, hc, hm, hh, hb⟩
theorem gLines (g cap : Nat) (rest : List Value) (t : TypeId) (w : World) (hT : Txt.Tab w) (hc : 3 ≤ cap) (hm : cap ≤ 9223372036854775807) (hh : w.heap[g]? = some (.cells (flat gC ++ rest).toArray t (0, 0))) :
    Calls Tryd.prog 31 #[.agg #[.int .i64 3, .int .i64 1, .slice (some ⟨g, 0, none⟩) 3 cap]] w fun e w' => ∃ (g : Nat), e = .returned (.tuple #[.slice (some ⟨g, 0, none⟩) 1 1, .int .i64 0]) ∧ w'.cell? ⟨g, 0, none⟩ = some (.string ⟨#[32, 122, 120]⟩) ∧ Below w.heap.size w w' := by
  have := lines_good 3 1 g 0 cap gC w hT (cellsAt_flat hh) gC_ok hc hm
  rw [gL_is] at this
  exact this.mono fun e w' ⟨v, he, ⟨g, t, hv, _, hh⟩, hb⟩ => ⟨g, by rw [he, hv]; rfl, by simp [World.cell?, hh], hb⟩
theorem gEqual (b1 b2 : Nat) (w : World) (h1 : w.cell? ⟨b1, 0, none⟩ = some (.string ⟨#[32, 122, 120]⟩)) (h2 : w.cell? ⟨b2, 0, none⟩ = some (.string ⟨#[32, 122, 120]⟩)) :
    Calls Tryd.prog 32 #[.slice (some ⟨b1, 0, none⟩) 1 1, .slice (some ⟨b2, 0, none⟩) 1 1] w fun e w' => e = .returned (.bool true) ∧ Below w.heap.size w w' := by
  have h := Tryd.slices_Equal_string b1 0 1 1 b2 0 1 1 [⟨#[32, 122, 120]⟩] [⟨#[32, 122, 120]⟩] w (by decide) (by decide) (by decide) (by decide)
    (fun j hj => by obtain rfl : j = 0 := by simp at hj; omega
                    exact h1) (fun j hj => by obtain rfl : j = 0 := by simp at hj; omega
                                              exact h2)
  exact h.mono fun e w' ⟨he, q, hw⟩ => ⟨he, by rw [hw]; exact ⟨rfl, rfl, rfl, Nat.le_refl _, fun _ _ => rfl⟩⟩
end Grd
end Go.Proofs.YtinhmklpnkikgaaDoor

/- The walk of 'gridded'. -/
namespace Go.Proofs.YtinhmklpnkikgaaDoor
open Go.ChangeShapes Go.WideShapes Go.ChangeAt Go.RowKit
namespace Grd
set_option maxHeartbeats 4000000 in
theorem gridded_any (w : World) (hT : Txt.Tab w) : Calls Tryd.prog 10 #[] w fun e w' => e = .returned (.bool true) ∧ Below w.heap.size w w' := by
  have HT : Hid (∀ W, Below w.heap.size w W → Txt.Tab W) := fun W k => Tab.next hT k
  clear hT
  go_enter Tryd.func10, Tryd.ntmps10
  go_wp2_with (first
    | (go_at_call 9; refine (gNew _).mono ?_; rintro e W1 ⟨g1, c1, r1, t1, rfl, hc1, hm1, h1, b1⟩)
    | (refine wpList_store_row rfl 24 (.tmp 1) _ rfl W1.heap.size #[.int .i64 3, .int .i64 1, .slice (some ⟨g1, 0, none⟩) 3 c1] rfl rfl _ _ (heap_alloc_new W1 _) (by kernel_rfl) rfl (one3v _ _ _ _ _) ?_
       obtain ⟨m1, a1⟩ := var_new W1 24 #[.int .i64 0, .int .i64 0, .slice none 0 0] #[.int .i64 3, .int .i64 1, .slice (some ⟨g1, 0, none⟩) 3 c1]
       generalize ((W1.alloc (.cells #[.int .i64 0, .int .i64 0, .slice none 0 0] 24)).setRow W1.heap.size #[.int .i64 3, .int .i64 1, .slice (some ⟨g1, 0, none⟩) 3 c1]) = X1 at *
       have k1 := b1.trans (a1.mono b1.size)
       have h1' := carry h1 a1)
    | (refine wpList_load_row rfl 24 _ rfl W1.heap.size rfl _ _ _ _ m1 Tryd.underlying24 rfl (by kernel_rfl) ?_)
    | (go_at_call 22; refine (gWrite g1 c1 r1 t1 _ (HT.out _ k1) hc1 hm1 h1').mono ?_; rintro e W2 ⟨g2, c2, r2, t2, rfl, hc2, hm2, h2, b2⟩)
    | (refine wpList_store_row rfl 24 (.tmp 3) _ rfl W2.heap.size #[.int .i64 3, .int .i64 1, .slice (some ⟨g2, 0, none⟩) 3 c2] rfl rfl _ _ (heap_alloc_new W2 _) (by kernel_rfl) rfl (one3v _ _ _ _ _) ?_
       obtain ⟨m2, a2⟩ := var_new W2 24 #[.int .i64 0, .int .i64 0, .slice none 0 0] #[.int .i64 3, .int .i64 1, .slice (some ⟨g2, 0, none⟩) 3 c2]
       generalize ((W2.alloc (.cells #[.int .i64 0, .int .i64 0, .slice none 0 0] 24)).setRow W2.heap.size #[.int .i64 3, .int .i64 1, .slice (some ⟨g2, 0, none⟩) 3 c2]) = X2 at *
       have k2 := (k1.trans (b2.mono k1.size)).trans (a2.mono (k1.trans (b2.mono k1.size)).size)
       have h2' := carry h2 a2)
    | (refine wpList_load_row rfl 24 _ rfl W2.heap.size rfl _ _ _ _ m2 Tryd.underlying24 rfl (by kernel_rfl) ?_)
    | (go_at_call 18; refine (gFill g2 c2 r2 t2 _ (HT.out _ k2) hc2 hm2 h2').mono ?_; rintro e W3 ⟨g3, c3, r3, t3, rfl, hc3, hm3, h3, b3⟩)
    | (refine wpList_store_row rfl 24 (.tmp 5) _ rfl W3.heap.size #[.int .i64 3, .int .i64 1, .slice (some ⟨g3, 0, none⟩) 3 c3] rfl rfl _ _ (heap_alloc_new W3 _) (by kernel_rfl) rfl (one3v _ _ _ _ _) ?_
       obtain ⟨m3, a3⟩ := var_new W3 24 #[.int .i64 0, .int .i64 0, .slice none 0 0] #[.int .i64 3, .int .i64 1, .slice (some ⟨g3, 0, none⟩) 3 c3]
       generalize ((W3.alloc (.cells #[.int .i64 0, .int .i64 0, .slice none 0 0] 24)).setRow W3.heap.size #[.int .i64 3, .int .i64 1, .slice (some ⟨g3, 0, none⟩) 3 c3]) = X3 at *
       have k3 := (k2.trans (b3.mono k2.size)).trans (a3.mono (k2.trans (b3.mono k2.size)).size)
       have h3' := carry h3 a3)
    | (refine wpList_load_row rfl 24 _ rfl W3.heap.size rfl _ _ _ _ m3 Tryd.underlying24 rfl (by kernel_rfl) ?_)
    | (go_at_call 31; refine (gLines g3 c3 r3 t3 _ (HT.out _ k3) hc3 hm3 h3').mono ?_; rintro e W4 ⟨g4, rfl, h4, b4⟩; have k4 := k3.trans (b4.mono k3.size))
    | (go_at_call 32; refine (gEqual g4 W4.heap.size _ (cell_keep ((Below.refl _ _).alloc (Nat.le_refl _) _) h4) (by simp)).mono ?_; rintro e W5 ⟨rfl, b5⟩))
  go_ret
  have ka := k4.alloc k4.size (.cells #[.string ⟨#[32, 122, 120]⟩] 9)
  exact ⟨rfl, ka.trans (b5.mono ka.size)⟩
end Grd
end Go.Proofs.YtinhmklpnkikgaaDoor

/- The walk of the law GridPart. -/
namespace Go.Proofs.YtinhmklpnkikgaaDoor
open Go.ChangeShapes Go.WideShapes Go.ChangeAt Go.RowKit Go.Maps
namespace Grd
set_option maxHeartbeats 4000000 in
set_option maxRecDepth 100000 in
theorem gridPart_bad (a h : Int) (v : Value) (cs : List C) (rx ry rw rh pw ph : Int) (w : World) (hT : Txt.Tab w) (hS : SliceAt w v cs) (hok : gridErr a h cs ≠ 0) :
    Calls Tryd.prog 7 #[.agg #[.int .i64 a, .int .i64 h, v], .agg #[.int .i64 rx, .int .i64 ry, .int .i64 rw, .int .i64 rh], .int .i64 pw, .int .i64 ph] w fun e w' => e = .returned (.bool true) ∧ Below w.heap.size w w' := by
  have HT : Hid (∀ W, Below w.heap.size w W → Txt.Tab W) := fun W k => Tab.next hT k
  have HS : Hid (∀ W, Below w.heap.size w W → SliceAt W v cs) := fun W k => hS.below k
  obtain ⟨x0, x1, kk, hsz⟩ := alloc2' w (.cells #[.int .i64 a, .int .i64 h, v] 24) (.cells #[.int .i64 rx, .int .i64 ry, .int .i64 rw, .int .i64 rh] 36)
  obtain ⟨er, her⟩ : ∃ q, gridErr a h cs = q := ⟨_, rfl⟩
  have HER : Hid (gridErr a h cs = er) := her
  have HPT : Hid (∀ W, Below w.heap.size w W → Calls Tryd.prog 26 #[.agg #[.int .i64 a, .int .i64 h, v], .agg #[.int .i64 rx, .int .i64 ry, .int .i64 rw, .int .i64 rh]] W fun e w' => e = .returned (.tuple #[.agg #[.int .i64 0, .int .i64 0, .slice none 0 0], .int .i64 er]) ∧ Below W.heap.size W w') := fun W k => by
    have := part_bad1 a h v cs rx ry rw rh W (Tab.next hT k) (hS.below k) hok
    rwa [her] at this
  have HRZ : Hid (∀ W, Below w.heap.size w W → Calls Tryd.prog 27 #[.agg #[.int .i64 a, .int .i64 h, v], .int .i64 pw, .int .i64 ph] W fun e w' => e = .returned (.tuple #[.agg #[.int .i64 0, .int .i64 0, .slice none 0 0], .int .i64 er]) ∧ Below W.heap.size W w') := fun W k => by
    have := resize_bad1 a h v cs pw ph W (Tab.next hT k) (hS.below k) hok
    rwa [her] at this
  have ne : (er != 0) = true := by rw [← her]; simpa using hok
  have nee : (er == er) = true := by simp
  clear hok her hT hS
  generalize hW0 : ((w.alloc (.cells #[.int .i64 a, .int .i64 h, v] 24)).alloc (.cells #[.int .i64 rx, .int .i64 ry, .int .i64 rw, .int .i64 rh] 36)) = W0 at x0 x1 kk hsz
  have HW0 : Hid (_ = W0) := hW0
  clear hW0
  go_enter Tryd.func7, Tryd.ntmps7
  go_wp2_with fail
  rw [HW0.out]
  refine (HPT.out _ kk).mono ?_
  rintro e W1 ⟨rfl, b1⟩
  have gs1 := carry x0 b1
  have ks1 := kk.trans (b1.mono kk.size)
  go_wp2_with (refine wpList_store_row rfl 24 (.tmp 9) _ rfl W1.heap.size #[.int .i64 0, .int .i64 0, .slice none 0 0] rfl rfl _ _ (heap_alloc_new W1 _) (by kernel_rfl) rfl (one3v _ _ _ _ _) ?_
               obtain ⟨mX1, aX1⟩ := var_new W1 24 #[.int .i64 0, .int .i64 0, .slice none 0 0] #[.int .i64 0, .int .i64 0, .slice none 0 0]
               generalize ((W1.alloc (.cells #[.int .i64 0, .int .i64 0, .slice none 0 0] 24)).setRow W1.heap.size #[.int .i64 0, .int .i64 0, .slice none 0 0]) = X1 at *
               have gs2 := carry gs1 aX1
               have ks2 := ks1.trans (aX1.mono ks1.size)
               obtain ⟨cgX10, cgX11, cgX12, _⟩ := cells3 gs2)
  refine (HRZ.out _ ks2).mono ?_
  rintro e W2 ⟨rfl, b2⟩
  have gs3 := carry gs2 b2
  have os3 := carry mX1 b2
  have ks3 := ks2.trans (b2.mono ks2.size)
  clear cgX10 cgX11 cgX12
  go_wp2_with (refine wpList_store_row rfl 24 (.tmp 11) _ rfl W2.heap.size #[.int .i64 0, .int .i64 0, .slice none 0 0] rfl rfl _ _ (heap_alloc_new W2 _) (by kernel_rfl) rfl (one3v _ _ _ _ _) ?_
               obtain ⟨mX2, aX2⟩ := var_new W2 24 #[.int .i64 0, .int .i64 0, .slice none 0 0] #[.int .i64 0, .int .i64 0, .slice none 0 0]
               generalize ((W2.alloc (.cells #[.int .i64 0, .int .i64 0, .slice none 0 0] 24)).setRow W2.heap.size #[.int .i64 0, .int .i64 0, .slice none 0 0]) = X2 at *
               have gs4 := carry gs3 aX2
               have os4 := carry os3 aX2
               have ks4 := ks3.trans (aX2.mono ks3.size)
               obtain ⟨cgX20, cgX21, cgX22, _⟩ := cells3 gs4)
  refine (ref_to a h v cs _ HER.out _ (HS.out _ ks4)).mono ?_
  rintro e W3 ⟨rfl, b3⟩
  have os5 := carry os4 b3
  have zs5 := carry mX2 b3
  have ks5 := ks4.trans (b3.mono ks4.size)
  clear cgX20 cgX21 cgX22
  go_wp2_with fail
  refine (gridded_any _ (HT.out _ ks5)).mono ?_
  rintro e W4 ⟨rfl, b4⟩
  have os6 := carry os5 b4
  have zs6 := carry zs5 b4
  have ks6 := ks5.trans (b4.mono ks5.size)
  go_wp2_with fail
  refine (gridded_any _ (HT.out _ ks6)).mono ?_
  rintro e W5 ⟨rfl, b5⟩
  have os7 := carry os6 b5
  have zs7 := carry zs6 b5
  have ks7 := ks6.trans (b5.mono ks6.size)
  obtain ⟨cos70, cos71, cos72, _⟩ := cells3 os7
  obtain ⟨czs70, czs71, czs72, _⟩ := cells3 zs7
  go_wp2_with fail
  refine (noGrid_none _).mono ?_
  rintro e W6 ⟨rfl, b6⟩
  have zs8 := carry zs7 b6
  have ks8 := ks7.trans (b6.mono ks7.size)
  clear cos70 cos71 cos72 czs70 czs71 czs72
  obtain ⟨czs80, czs81, czs82, _⟩ := cells3 zs8
  go_wp2_with fail
  refine (noGrid_none _).mono ?_
  rintro e W7 ⟨rfl, b7⟩
  have ks9 := ks8.trans (b7.mono ks8.size)
  clear czs80 czs81 czs82
  go_wp2_with fail
  go_ret
  exact ⟨rfl, ks9⟩
theorem rows_out (m p b o cx : Nat) (fs : List C) (w : World) (hC : CellsAt w b o fs) (hs : isSize m p = true) (hL : fs.length = m * p) (hc : fs.length ≤ cx) (hp : 1 ≤ p) :
    Calls Tryd.prog 28 #[.agg #[.int .i64 (m : Int), .int .i64 (p : Int), .slice (some ⟨b, o, none⟩) fs.length cx]] w fun e w' => ∃ (G cap : Nat) (rest vs : List Value) (gs : List Nat), e = .returned (.slice (some ⟨G, 0, none⟩) p cap) ∧ w'.heap[G]? = some (.cells (vs ++ rest).toArray 22 (0, 0)) ∧ p ≤ cap ∧ cap ≤ 9223372036854775807 ∧ vs.length = p ∧ RowsAt w' w.heap.size vs gs (rowsL m fs p) ∧ Below w.heap.size w w' := by
  refine (rows_any m p b o cx fs w hC hs hL hc).mono ?_
  rintro e w' ⟨v, vs, gs, rfl, ho, hr, hb⟩
  have hvl : vs.length = p := by rw [hr.1, rowsL_len]
  rw [← hvl] at ho
  obtain ⟨G, cap, rest, rfl, hGb, hlc, hcm, hGh⟩ := out_of_own ho (by omega)
  rw [hvl] at hlc
  exact ⟨G, cap, rest, vs, gs, by rw [hvl], hGh, hlc, hcm, hvl, hr, hb⟩
theorem below_same {w w' : World} (h : w = w') : Below w.heap.size w w' := h ▸ Below.refl _ _
set_option maxHeartbeats 8000000 in
set_option maxRecDepth 100000 in
theorem gridPart_ff (m p b o cx : Nat) (fs : List C) (rx ry rw rh : Int) (pw ph : Int) (w : World) (hT : Txt.Tab w) (hC : CellsAt w b o fs) (hc : fs.length ≤ cx) (hm : cx ≤ 9223372036854775807) (hok : gridErr m p fs = 0) (hx0 : -9223372036854775808 ≤ rx) (hx1 : rx ≤ 9223372036854775807) (hy0 : -9223372036854775808 ≤ ry) (hy1 : ry ≤ 9223372036854775807) (hold : holdsI m p rx ry rw rh = false) (hs : isSize pw ph = false) :
    Calls Tryd.prog 7 #[.agg #[.int .i64 (m : Int), .int .i64 (p : Int), .slice (some ⟨b, o, none⟩) fs.length cx], .agg #[.int .i64 rx, .int .i64 ry, .int .i64 rw, .int .i64 rh], .int .i64 pw, .int .i64 ph] w fun e w' => e = .returned (.bool true) ∧ Below w.heap.size w w' := by
  obtain ⟨hL, q1, q2, q3, q4, hl7, hne⟩ := okRange m p fs hok
  obtain ⟨hsize, -, -⟩ := (gridErr_zero m p fs).1 hok
  have hS : SliceAt w (.slice (some ⟨b, o, none⟩) fs.length cx) fs := .inr ⟨hne, b, o, cx, rfl, hc, hm, hC⟩
  have HT : Hid (∀ W, Below w.heap.size w W → Txt.Tab W) := fun W k => Tab.next hT k
  have HS : Hid (∀ W, Below w.heap.size w W → SliceAt W (.slice (some ⟨b, o, none⟩) fs.length cx) fs) := fun W k => hS.below k
  obtain ⟨x0, x1, kk, hsz⟩ := alloc2' w (.cells #[.int .i64 (m : Int), .int .i64 (p : Int), .slice (some ⟨b, o, none⟩) fs.length cx] 24) (.cells #[.int .i64 rx, .int .i64 ry, .int .i64 rw, .int .i64 rh] 36)
  have HER : Hid (gridErr m p fs = 0) := hok
  have HPT : Hid (∀ W, Below w.heap.size w W → Calls Tryd.prog 26 #[.agg #[.int .i64 (m : Int), .int .i64 (p : Int), .slice (some ⟨b, o, none⟩) fs.length cx], .agg #[.int .i64 rx, .int .i64 ry, .int .i64 rw, .int .i64 rh]] W fun e w' => e = .returned (.tuple #[.agg #[.int .i64 0, .int .i64 0, .slice none 0 0], .int .i64 4]) ∧ Below W.heap.size W w') := fun W k => part_bad2 m p _ fs rx ry rw rh W (Tab.next hT k) (hS.below k) hok hx0 hx1 hy0 hy1 hold
  have HRZ : Hid (∀ W, Below w.heap.size w W → Calls Tryd.prog 27 #[.agg #[.int .i64 (m : Int), .int .i64 (p : Int), .slice (some ⟨b, o, none⟩) fs.length cx], .int .i64 pw, .int .i64 ph] W fun e w' => e = .returned (.tuple #[.agg #[.int .i64 0, .int .i64 0, .slice none 0 0], .int .i64 3]) ∧ Below W.heap.size W w') := fun W k => resize_bad2 m p _ fs pw ph W (Tab.next hT k) (hS.below k) hok hs
  have HSZ : Hid (∀ W, Calls Tryd.prog 13 #[.int .i64 pw, .int .i64 ph] W fun e w' => e = .returned (.bool false) ∧ W = w') := fun W => by
    have := size_any pw ph W
    rwa [hs] at this
  clear hok hT hS hC hL hsize hs hm hne
  generalize hW0 : ((w.alloc (.cells #[.int .i64 (m : Int), .int .i64 (p : Int), .slice (some ⟨b, o, none⟩) fs.length cx] 24)).alloc (.cells #[.int .i64 rx, .int .i64 ry, .int .i64 rw, .int .i64 rh] 36)) = W0 at x0 x1 kk hsz
  have HW0 : Hid (_ = W0) := hW0
  clear hW0
  go_enter Tryd.func7, Tryd.ntmps7
  go_wp2_with fail
  rw [HW0.out]
  refine (HPT.out _ kk).mono ?_
  rintro e W1 ⟨rfl, b1⟩
  have gs1 := carry x0 b1
  have rs1 := carry x1 b1
  have ks1 := kk.trans (b1.mono kk.size)
  go_wp2_with (refine wpList_store_row rfl 24 (.tmp 9) _ rfl W1.heap.size #[.int .i64 0, .int .i64 0, .slice none 0 0] rfl rfl _ _ (heap_alloc_new W1 _) (by kernel_rfl) rfl (one3v _ _ _ _ _) ?_
               obtain ⟨mX1, aX1⟩ := var_new W1 24 #[.int .i64 0, .int .i64 0, .slice none 0 0] #[.int .i64 0, .int .i64 0, .slice none 0 0]
               generalize ((W1.alloc (.cells #[.int .i64 0, .int .i64 0, .slice none 0 0] 24)).setRow W1.heap.size #[.int .i64 0, .int .i64 0, .slice none 0 0]) = X1 at *
               have gs2 := carry gs1 aX1
               have rs2 := carry rs1 aX1
               have ks2 := ks1.trans (aX1.mono ks1.size)
               obtain ⟨cgX10, cgX11, cgX12, _⟩ := cells3 gs2)
  refine (HRZ.out _ ks2).mono ?_
  rintro e W2 ⟨rfl, b2⟩
  have gs3 := carry gs2 b2
  have rs3 := carry rs2 b2
  have os3 := carry mX1 b2
  have ks3 := ks2.trans (b2.mono ks2.size)
  clear cgX10 cgX11 cgX12
  go_wp2_with (refine wpList_store_row rfl 24 (.tmp 11) _ rfl W2.heap.size #[.int .i64 0, .int .i64 0, .slice none 0 0] rfl rfl _ _ (heap_alloc_new W2 _) (by kernel_rfl) rfl (one3v _ _ _ _ _) ?_
               obtain ⟨mX2, aX2⟩ := var_new W2 24 #[.int .i64 0, .int .i64 0, .slice none 0 0] #[.int .i64 0, .int .i64 0, .slice none 0 0]
               generalize ((W2.alloc (.cells #[.int .i64 0, .int .i64 0, .slice none 0 0] 24)).setRow W2.heap.size #[.int .i64 0, .int .i64 0, .slice none 0 0]) = X2 at *
               have gs4 := carry gs3 aX2
               have rs4 := carry rs3 aX2
               have os4 := carry os3 aX2
               have ks4 := ks3.trans (aX2.mono ks3.size)
               obtain ⟨cgX20, cgX21, cgX22, _⟩ := cells3 gs4)
  refine (ref_to m p _ fs _ HER.out _ (HS.out _ ks4)).mono ?_
  rintro e W3 ⟨rfl, b3⟩
  have gs5 := carry gs4 b3
  have rs5 := carry rs4 b3
  have os5 := carry os4 b3
  have zs5 := carry mX2 b3
  have ks5 := ks4.trans (b3.mono ks4.size)
  clear cgX20 cgX21 cgX22
  go_wp2_with fail
  refine (gridded_any _ (HT.out _ ks5)).mono ?_
  rintro e W4 ⟨rfl, b4⟩
  have gs6 := carry gs5 b4
  have rs6 := carry rs5 b4
  have os6 := carry os5 b4
  have zs6 := carry zs5 b4
  have ks6 := ks5.trans (b4.mono ks5.size)
  obtain ⟨cgs60, cgs61, cgs62, _⟩ := cells3 gs6
  obtain ⟨crs60, crs61, crs62, crs63⟩ := cells4 rs6
  have hbad : rx < 0 ∨ ry < 0 ∨ rw < 1 ∨ rh < 1 ∨ (m : Int) - rx < rw ∨ (p : Int) - ry < rh := by
    unfold holdsI at hold; rw [decide_eq_false_iff_not] at hold; omega
  clear hold
  go_upto_region 6 with fail
  go_cut [108] from 57 to 108 (fun c wx => c = .bool true ∧ wx = W4)
  case first =>
    by_cases i0 : rx < 0
    · go_wp2_with fail
      go_meet
      case rel => exact ⟨rfl, rfl⟩
    have j0 : decide (rx < 0) = false := by rw [decide_eq_false_iff_not]; exact i0
    by_cases i1 : ry < 0
    · go_wp2_with fail
      go_meet
      case rel => exact ⟨rfl, rfl⟩
    have j1 : decide (ry < 0) = false := by rw [decide_eq_false_iff_not]; exact i1
    by_cases i2 : rw < 1
    · go_wp2_with fail
      go_meet
      case rel => exact ⟨rfl, rfl⟩
    have j2 : decide (rw < 1) = false := by rw [decide_eq_false_iff_not]; exact i2
    by_cases i3 : rh < 1
    · go_wp2_with fail
      go_meet
      case rel => exact ⟨rfl, rfl⟩
    have j3 : decide (rh < 1) = false := by rw [decide_eq_false_iff_not]; exact i3
    by_cases i4 : (m : Int) ≤ rx
    · go_wp2_with fail
      go_meet
      case rel => exact ⟨rfl, rfl⟩
    have j4 : decide ((m : Int) ≤ rx) = false := by rw [decide_eq_false_iff_not]; exact i4
    by_cases i5 : (p : Int) ≤ ry
    · go_wp2_with fail
      go_meet
      case rel => exact ⟨rfl, rfl⟩
    have j5 : decide ((p : Int) ≤ ry) = false := by rw [decide_eq_false_iff_not]; exact i5
    by_cases i6 : (m : Int) - rx < rw
    · go_wp2_with fail
      go_meet
      case rel => exact ⟨rfl, rfl⟩
    have j6 : decide ((m : Int) - rx < rw) = false := by rw [decide_eq_false_iff_not]; exact i6
    have i7 : (p : Int) - ry < rh := by omega
    have j7 : decide ((p : Int) - ry < rh) = true := by rw [decide_eq_true_eq]; exact i7
    go_wp2_with fail
    go_meet
    case rel => exact ⟨rfl, rfl⟩
  case rest =>
    obtain ⟨rfl, hwc⟩ := hcut
    rw [hwc]
    clear hwc
    obtain ⟨coy0, coy1, coy2, _⟩ := cells3 os6
    go_wp2_with fail
    refine (noGrid_none _).mono ?_
    rintro e W5 ⟨rfl, b5⟩
    have gs7 := carry gs6 b5
    have zs7 := carry zs6 b5
    have ks7 := ks6.trans (b5.mono ks6.size)
    clear cgs60 cgs61 cgs62 crs60 crs61 crs62 crs63 coy0 coy1 coy2
    go_wp2_with fail
    refine (HSZ.out _).mono ?_
    rintro e W6 ⟨rfl, h6⟩
    have gs8 := carry gs7 (below_same h6)
    have zs8 := carry zs7 (below_same h6)
    have ks8 := ks7.trans ((below_same h6).mono ks7.size)
    obtain ⟨cgs80, cgs81, cgs82, _⟩ := cells3 gs8
    obtain ⟨czs80, czs81, czs82, _⟩ := cells3 zs8
    go_wp2_with fail
    refine (noGrid_none _).mono ?_
    rintro e W7 ⟨rfl, b7⟩
    have ks9 := ks8.trans (b7.mono ks8.size)
    clear cgs80 cgs81 cgs82 czs80 czs81 czs82
    go_wp2_with fail
    go_ret
    exact ⟨rfl, ks9⟩
set_option maxHeartbeats 8000000 in
set_option maxRecDepth 100000 in
theorem gridPart_ft (m p b o cx : Nat) (fs : List C) (rx ry rw rh : Int) (q s : Nat) (w : World) (hT : Txt.Tab w) (hC : CellsAt w b o fs) (hc : fs.length ≤ cx) (hm : cx ≤ 9223372036854775807) (hok : gridErr m p fs = 0) (hx0 : -9223372036854775808 ≤ rx) (hx1 : rx ≤ 9223372036854775807) (hy0 : -9223372036854775808 ≤ ry) (hy1 : ry ≤ 9223372036854775807) (hold : holdsI m p rx ry rw rh = false) (hs : isSize q s = true) :
    Calls Tryd.prog 7 #[.agg #[.int .i64 (m : Int), .int .i64 (p : Int), .slice (some ⟨b, o, none⟩) fs.length cx], .agg #[.int .i64 rx, .int .i64 ry, .int .i64 rw, .int .i64 rh], .int .i64 (q : Int), .int .i64 (s : Int)] w fun e w' => e = .returned (.bool true) ∧ Below w.heap.size w w' := by
  obtain ⟨hL, q1, q2, q3, q4, hl7, hne⟩ := okRange m p fs hok
  obtain ⟨hsize, -, -⟩ := (gridErr_zero m p fs).1 hok
  have hS : SliceAt w (.slice (some ⟨b, o, none⟩) fs.length cx) fs := .inr ⟨hne, b, o, cx, rfl, hc, hm, hC⟩
  have HT : Hid (∀ W, Below w.heap.size w W → Txt.Tab W) := fun W k => Tab.next hT k
  have HS : Hid (∀ W, Below w.heap.size w W → SliceAt W (.slice (some ⟨b, o, none⟩) fs.length cx) fs) := fun W k => hS.below k
  obtain ⟨x0, x1, kk, hsz⟩ := alloc2' w (.cells #[.int .i64 (m : Int), .int .i64 (p : Int), .slice (some ⟨b, o, none⟩) fs.length cx] 24) (.cells #[.int .i64 rx, .int .i64 ry, .int .i64 rw, .int .i64 rh] 36)
  have HER : Hid (gridErr m p fs = 0) := hok
  have HPT : Hid (∀ W, Below w.heap.size w W → Calls Tryd.prog 26 #[.agg #[.int .i64 (m : Int), .int .i64 (p : Int), .slice (some ⟨b, o, none⟩) fs.length cx], .agg #[.int .i64 rx, .int .i64 ry, .int .i64 rw, .int .i64 rh]] W fun e w' => e = .returned (.tuple #[.agg #[.int .i64 0, .int .i64 0, .slice none 0 0], .int .i64 4]) ∧ Below W.heap.size W w') := fun W k => part_bad2 m p _ fs rx ry rw rh W (Tab.next hT k) (hS.below k) hok hx0 hx1 hy0 hy1 hold
  have HRZ : Hid (∀ W, Below w.heap.size w W → Calls Tryd.prog 27 #[.agg #[.int .i64 (m : Int), .int .i64 (p : Int), .slice (some ⟨b, o, none⟩) fs.length cx], .int .i64 (q : Int), .int .i64 (s : Int)] W fun e w' => ∃ v, e = .returned (.tuple #[.agg #[.int .i64 (q : Int), .int .i64 (s : Int), v], .int .i64 0]) ∧ OwnG w' W.heap.size v (layG q s (newL q s) m p fs 0 0) ∧ Below W.heap.size W w') := fun W k => resize_good m p b o cx q s fs W (Tab.next hT k) (hC.below k) hc hm hok hs
  have HNG : Hid (∀ W, Calls Tryd.prog 16 #[.int .i64 (q : Int), .int .i64 (s : Int)] W fun e w' => ∃ v, e = .returned (.agg #[.int .i64 (q : Int), .int .i64 (s : Int), v]) ∧ OwnG w' W.heap.size v (newL q s) ∧ Below W.heap.size W w') := fun W => by
    have := newGrid_any q s W hs
    rwa [show ((q : Int) * (s : Int)).toNat = q * s by rw [← Int.natCast_mul, Int.toNat_natCast]] at this
  have HLG : Hid (∀ W u, Below w.heap.size w W → SliceAt W u (newL q s) → Calls Tryd.prog 25 #[.agg #[.int .i64 (m : Int), .int .i64 (p : Int), .slice (some ⟨b, o, none⟩) fs.length cx], .agg #[.int .i64 (q : Int), .int .i64 (s : Int), u], .int .i64 0, .int .i64 0] W fun e w' => ∃ v, e = .returned (.agg #[.int .i64 (q : Int), .int .i64 (s : Int), v]) ∧ OwnG w' W.heap.size v (layG q s (newL q s) m p fs 0 0) ∧ Below W.heap.size W w') := fun W u k su => by
    have hnew := right_new q s hs
    obtain ⟨b2, o2, c2, rfl, h1, h2, h3⟩ := su.open (okRange q s _ hnew).2.2.2.2.2.2
    have := layGrid_any m p b o cx q s b2 o2 c2 0 0 fs (newL q s) W (hC.below k) h3 hok hnew hc h1
    rwa [show nearI 0 = 0 from rfl] at this
  have HZL : Hid ((layG q s (newL q s) m p fs 0 0).length ≤ 1000000) := by unfold Hid; rw [layG_len q s m p _ fs _ _ (newL_len q s)]; have := (okRange q s _ (right_new q s hs)).2.2.2.2.2.1; rw [newL_len] at this; omega
  have hsT : isSize q s = true := hs
  generalize layG q s (newL q s) m p fs 0 0 = rez at HRZ HLG HZL
  generalize newL q s = nl at HNG HLG
  have HSZ : Hid (∀ W, Calls Tryd.prog 13 #[.int .i64 (q : Int), .int .i64 (s : Int)] W fun e w' => e = .returned (.bool true) ∧ W = w') := fun W => by
    have := size_any q s W
    rwa [hs] at this
  clear hsT
  clear hok hT hS hC hL hsize hs hm hne
  generalize hW0 : ((w.alloc (.cells #[.int .i64 (m : Int), .int .i64 (p : Int), .slice (some ⟨b, o, none⟩) fs.length cx] 24)).alloc (.cells #[.int .i64 rx, .int .i64 ry, .int .i64 rw, .int .i64 rh] 36)) = W0 at x0 x1 kk hsz
  have HW0 : Hid (_ = W0) := hW0
  clear hW0
  go_enter Tryd.func7, Tryd.ntmps7
  go_wp2_with fail
  rw [HW0.out]
  refine (HPT.out _ kk).mono ?_
  rintro e W1 ⟨rfl, b1⟩
  have gs1 := carry x0 b1
  have rs1 := carry x1 b1
  have ks1 := kk.trans (b1.mono kk.size)
  go_wp2_with (refine wpList_store_row rfl 24 (.tmp 9) _ rfl W1.heap.size #[.int .i64 0, .int .i64 0, .slice none 0 0] rfl rfl _ _ (heap_alloc_new W1 _) (by kernel_rfl) rfl (one3v _ _ _ _ _) ?_
               obtain ⟨mX1, aX1⟩ := var_new W1 24 #[.int .i64 0, .int .i64 0, .slice none 0 0] #[.int .i64 0, .int .i64 0, .slice none 0 0]
               generalize ((W1.alloc (.cells #[.int .i64 0, .int .i64 0, .slice none 0 0] 24)).setRow W1.heap.size #[.int .i64 0, .int .i64 0, .slice none 0 0]) = X1 at *
               have gs2 := carry gs1 aX1
               have rs2 := carry rs1 aX1
               have ks2 := ks1.trans (aX1.mono ks1.size)
               obtain ⟨cgX10, cgX11, cgX12, _⟩ := cells3 gs2)
  refine (HRZ.out _ ks2).mono ?_
  rintro e W2 ⟨_, rfl, ⟨gz, cz, rz, tz, rfl, hgz, hcz, hmz, hhz⟩, b2⟩
  have gs3 := carry gs2 b2
  have rs3 := carry rs2 b2
  have os3 := carry mX1 b2
  have ks3 := ks2.trans (b2.mono ks2.size)
  clear cgX10 cgX11 cgX12
  have soz : SliceAt W2 (.slice (some ⟨gz, 0, none⟩) rez.length cz) rez := OwnG.slice (base := 0) ⟨gz, cz, rz, tz, rfl, by omega, hcz, hmz, hhz⟩
  clear hhz
  go_wp2_with (refine wpList_store_row rfl 24 (.tmp 11) _ rfl W2.heap.size #[.int .i64 (q : Int), .int .i64 (s : Int), .slice (some ⟨gz, 0, none⟩) rez.length cz] rfl rfl _ _ (heap_alloc_new W2 _) (by kernel_rfl) rfl (one3v _ _ _ _ _) ?_
               obtain ⟨mX2, aX2⟩ := var_new W2 24 #[.int .i64 0, .int .i64 0, .slice none 0 0] #[.int .i64 (q : Int), .int .i64 (s : Int), .slice (some ⟨gz, 0, none⟩) rez.length cz]
               generalize ((W2.alloc (.cells #[.int .i64 0, .int .i64 0, .slice none 0 0] 24)).setRow W2.heap.size #[.int .i64 (q : Int), .int .i64 (s : Int), .slice (some ⟨gz, 0, none⟩) rez.length cz]) = X2 at *
               have gs4 := carry gs3 aX2
               have rs4 := carry rs3 aX2
               have os4 := carry os3 aX2
               have sozs4 := soz.below aX2
               have ks4 := ks3.trans (aX2.mono ks3.size)
               obtain ⟨cgX20, cgX21, cgX22, _⟩ := cells3 gs4)
  refine (ref_to m p _ fs _ HER.out _ (HS.out _ ks4)).mono ?_
  rintro e W3 ⟨rfl, b3⟩
  have gs5 := carry gs4 b3
  have rs5 := carry rs4 b3
  have os5 := carry os4 b3
  have zs5 := carry mX2 b3
  have sozs5 := sozs4.below b3
  have ks5 := ks4.trans (b3.mono ks4.size)
  clear cgX20 cgX21 cgX22
  go_wp2_with fail
  refine (gridded_any _ (HT.out _ ks5)).mono ?_
  rintro e W4 ⟨rfl, b4⟩
  have gs6 := carry gs5 b4
  have rs6 := carry rs5 b4
  have os6 := carry os5 b4
  have zs6 := carry zs5 b4
  have sozs6 := sozs5.below b4
  have ks6 := ks5.trans (b4.mono ks5.size)
  obtain ⟨cgs60, cgs61, cgs62, _⟩ := cells3 gs6
  obtain ⟨crs60, crs61, crs62, crs63⟩ := cells4 rs6
  have hbad : rx < 0 ∨ ry < 0 ∨ rw < 1 ∨ rh < 1 ∨ (m : Int) - rx < rw ∨ (p : Int) - ry < rh := by
    unfold holdsI at hold; rw [decide_eq_false_iff_not] at hold; omega
  clear hold
  go_upto_region 6 with fail
  go_cut [108] from 57 to 108 (fun c wx => c = .bool true ∧ wx = W4)
  case first =>
    by_cases i0 : rx < 0
    · go_wp2_with fail
      go_meet
      case rel => exact ⟨rfl, rfl⟩
    have j0 : decide (rx < 0) = false := by rw [decide_eq_false_iff_not]; exact i0
    by_cases i1 : ry < 0
    · go_wp2_with fail
      go_meet
      case rel => exact ⟨rfl, rfl⟩
    have j1 : decide (ry < 0) = false := by rw [decide_eq_false_iff_not]; exact i1
    by_cases i2 : rw < 1
    · go_wp2_with fail
      go_meet
      case rel => exact ⟨rfl, rfl⟩
    have j2 : decide (rw < 1) = false := by rw [decide_eq_false_iff_not]; exact i2
    by_cases i3 : rh < 1
    · go_wp2_with fail
      go_meet
      case rel => exact ⟨rfl, rfl⟩
    have j3 : decide (rh < 1) = false := by rw [decide_eq_false_iff_not]; exact i3
    by_cases i4 : (m : Int) ≤ rx
    · go_wp2_with fail
      go_meet
      case rel => exact ⟨rfl, rfl⟩
    have j4 : decide ((m : Int) ≤ rx) = false := by rw [decide_eq_false_iff_not]; exact i4
    by_cases i5 : (p : Int) ≤ ry
    · go_wp2_with fail
      go_meet
      case rel => exact ⟨rfl, rfl⟩
    have j5 : decide ((p : Int) ≤ ry) = false := by rw [decide_eq_false_iff_not]; exact i5
    by_cases i6 : (m : Int) - rx < rw
    · go_wp2_with fail
      go_meet
      case rel => exact ⟨rfl, rfl⟩
    have j6 : decide ((m : Int) - rx < rw) = false := by rw [decide_eq_false_iff_not]; exact i6
    have i7 : (p : Int) - ry < rh := by omega
    have j7 : decide ((p : Int) - ry < rh) = true := by rw [decide_eq_true_eq]; exact i7
    go_wp2_with fail
    go_meet
    case rel => exact ⟨rfl, rfl⟩
  case rest =>
    obtain ⟨rfl, hwc⟩ := hcut
    rw [hwc]
    clear hwc
    obtain ⟨coy0, coy1, coy2, _⟩ := cells3 os6
    go_wp2_with fail
    refine (noGrid_none _).mono ?_
    rintro e W5 ⟨rfl, b5⟩
    have gs7 := carry gs6 b5
    have zs7 := carry zs6 b5
    have sozs7 := sozs6.below b5
    have ks7 := ks6.trans (b5.mono ks6.size)
    clear cgs60 cgs61 cgs62 crs60 crs61 crs62 crs63 coy0 coy1 coy2
    go_wp2_with fail
    refine (HSZ.out _).mono ?_
    rintro e W6 ⟨rfl, h6⟩
    have gs8 := carry gs7 (below_same h6)
    have zs8 := carry zs7 (below_same h6)
    have sozs8 := sozs7.below (below_same h6)
    have ks8 := ks7.trans ((below_same h6).mono ks7.size)
    obtain ⟨cgs80, cgs81, cgs82, _⟩ := cells3 gs8
    obtain ⟨czs80, czs81, czs82, _⟩ := cells3 zs8
    have HZZ : Hid (SliceAt W6 (.slice (some ⟨gz, 0, none⟩) rez.length cz) rez) := sozs8
    go_wp2_with fail
    have kd6 : Below W6.heap.size W6 W6.drew := (Below.refl _ _).drew
    have HKN6 : Hid (Below w.heap.size w W6) := ks8
    have HNX6 : Hid (∀ W W', Below W.heap.size W W' → (fun W => Below W6.heap.size W6 W ∧ (W.cell? ⟨w.heap.size, 0, none⟩ = some (.int .i64 (m : Int)) ∧ W.cell? ⟨w.heap.size, 1, none⟩ = some (.int .i64 (p : Int)) ∧ W.cell? ⟨w.heap.size, 2, none⟩ = some (.slice (some ⟨b, o, none⟩) fs.length cx)) ∧ (W.cell? ⟨W2.heap.size, 0, none⟩ = some (.int .i64 (q : Int)) ∧ W.cell? ⟨W2.heap.size, 1, none⟩ = some (.int .i64 (s : Int)) ∧ W.cell? ⟨W2.heap.size, 2, none⟩ = some (.slice (some ⟨gz, 0, none⟩) rez.length cz))) W → (fun W => Below W6.heap.size W6 W ∧ (W.cell? ⟨w.heap.size, 0, none⟩ = some (.int .i64 (m : Int)) ∧ W.cell? ⟨w.heap.size, 1, none⟩ = some (.int .i64 (p : Int)) ∧ W.cell? ⟨w.heap.size, 2, none⟩ = some (.slice (some ⟨b, o, none⟩) fs.length cx)) ∧ (W.cell? ⟨W2.heap.size, 0, none⟩ = some (.int .i64 (q : Int)) ∧ W.cell? ⟨W2.heap.size, 1, none⟩ = some (.int .i64 (s : Int)) ∧ W.cell? ⟨W2.heap.size, 2, none⟩ = some (.slice (some ⟨gz, 0, none⟩) rez.length cz))) W') := by
      rintro W W' hb ⟨k0, ⟨gq0, gq1, gq2⟩, ⟨zq0, zq1, zq2⟩⟩
      exact ⟨k0.trans (hb.mono k0.size), ⟨cell_keep hb gq0, cell_keep hb gq1, cell_keep hb gq2⟩, ⟨cell_keep hb zq0, cell_keep hb zq1, cell_keep hb zq2⟩⟩
    have HST06 : Hid ((fun W => Below W6.heap.size W6 W ∧ (W.cell? ⟨w.heap.size, 0, none⟩ = some (.int .i64 (m : Int)) ∧ W.cell? ⟨w.heap.size, 1, none⟩ = some (.int .i64 (p : Int)) ∧ W.cell? ⟨w.heap.size, 2, none⟩ = some (.slice (some ⟨b, o, none⟩) fs.length cx)) ∧ (W.cell? ⟨W2.heap.size, 0, none⟩ = some (.int .i64 (q : Int)) ∧ W.cell? ⟨W2.heap.size, 1, none⟩ = some (.int .i64 (s : Int)) ∧ W.cell? ⟨W2.heap.size, 2, none⟩ = some (.slice (some ⟨gz, 0, none⟩) rez.length cz))) W6.drew) := ⟨kd6, ⟨cgs80, cgs81, cgs82⟩, ⟨czs80, czs81, czs82⟩⟩
    go_region_held3 (fun W => Below W6.heap.size W6 W ∧ (W.cell? ⟨w.heap.size, 0, none⟩ = some (.int .i64 (m : Int)) ∧ W.cell? ⟨w.heap.size, 1, none⟩ = some (.int .i64 (p : Int)) ∧ W.cell? ⟨w.heap.size, 2, none⟩ = some (.slice (some ⟨b, o, none⟩) fs.length cx)) ∧ (W.cell? ⟨W2.heap.size, 0, none⟩ = some (.int .i64 (q : Int)) ∧ W.cell? ⟨W2.heap.size, 1, none⟩ = some (.int .i64 (s : Int)) ∧ W.cell? ⟨W2.heap.size, 2, none⟩ = some (.slice (some ⟨gz, 0, none⟩) rez.length cz)))
      (first
        | (exact HNX6.out _ _ b10 (by assumption))
        | (exact HNX6.out _ _ b9 (by assumption))
        | (exact HNX6.out _ _ b8 (by assumption))
        | (exact HST06.out))
      (first
        | (go_at_call 16; refine (HNG.out _).mono ?_; rintro e W8 ⟨v8, rfl, o8, b8⟩; have k8 := kd6.trans (b8.mono kd6.size))
        | (go_at_call 25; refine (HLG.out _ v8 (HKN6.out.trans (k8.mono HKN6.out.size)) o8.slice).mono ?_; rintro e W9 ⟨v9, rfl, o9, b9⟩; have k9 := k8.trans (b9.mono k8.size))
        | (go_at_call 15; refine (same_any q s _ v9 rez _ (HZZ.out.below k9) o9.slice HZL.out).mono ?_; rintro e W10 ⟨rfl, b10⟩; have k10 := k9.trans (b10.mono k9.size)))
    go_wp2_with fail
    go_ret
    exact ⟨rfl, HKN6.out.trans (k10.mono HKN6.out.size)⟩
end Grd
end Go.Proofs.YtinhmklpnkikgaaDoor

/- The walk of the law GridPart: a part that lies within; and all of it. -/
namespace Go.Proofs.YtinhmklpnkikgaaDoor
open Go.ChangeShapes Go.WideShapes Go.ChangeAt Go.RowKit Go.Maps
namespace Grd
set_option maxHeartbeats 8000000 in
set_option maxRecDepth 100000 in
theorem gridPart_tf (m p b o cx : Nat) (fs : List C) (rx ry n hh : Nat) (pw ph : Int) (w : World) (hT : Txt.Tab w) (hC : CellsAt w b o fs) (hc : fs.length ≤ cx) (hm : cx ≤ 9223372036854775807) (hok : gridErr m p fs = 0) (hn : 1 ≤ n) (hh1 : 1 ≤ hh) (hxn : rx + n ≤ m) (hyh : ry + hh ≤ p) (hs : isSize pw ph = false) :
    Calls Tryd.prog 7 #[.agg #[.int .i64 (m : Int), .int .i64 (p : Int), .slice (some ⟨b, o, none⟩) fs.length cx], .agg #[.int .i64 (rx : Int), .int .i64 (ry : Int), .int .i64 (n : Int), .int .i64 (hh : Int)], .int .i64 pw, .int .i64 ph] w fun e w' => e = .returned (.bool true) ∧ Below w.heap.size w w' := by
  obtain ⟨hL, q1, q2, q3, q4, hl7, hne⟩ := okRange m p fs hok
  obtain ⟨hsize, -, -⟩ := (gridErr_zero m p fs).1 hok
  have hS : SliceAt w (.slice (some ⟨b, o, none⟩) fs.length cx) fs := .inr ⟨hne, b, o, cx, rfl, hc, hm, hC⟩
  have HT : Hid (∀ W, Below w.heap.size w W → Txt.Tab W) := fun W k => Tab.next hT k
  have HS : Hid (∀ W, Below w.heap.size w W → SliceAt W (.slice (some ⟨b, o, none⟩) fs.length cx) fs) := fun W k => hS.below k
  obtain ⟨x0, x1, kk, hsz⟩ := alloc2' w (.cells #[.int .i64 (m : Int), .int .i64 (p : Int), .slice (some ⟨b, o, none⟩) fs.length cx] 24) (.cells #[.int .i64 (rx : Int), .int .i64 (ry : Int), .int .i64 (n : Int), .int .i64 (hh : Int)] 36)
  have HER : Hid (gridErr m p fs = 0) := hok
  have HPT : Hid (∀ W, Below w.heap.size w W → Calls Tryd.prog 26 #[.agg #[.int .i64 (m : Int), .int .i64 (p : Int), .slice (some ⟨b, o, none⟩) fs.length cx], .agg #[.int .i64 (rx : Int), .int .i64 (ry : Int), .int .i64 (n : Int), .int .i64 (hh : Int)]] W fun e w' => ∃ v, e = .returned (.tuple #[.agg #[.int .i64 (n : Int), .int .i64 (hh : Int), v], .int .i64 0]) ∧ OwnG w' W.heap.size v (layG n hh (newL n hh) m p fs (-(rx : Int)) (-(ry : Int))) ∧ Below W.heap.size W w') := fun W k => part_good m p b o cx rx ry n hh fs W (Tab.next hT k) (hC.below k) hc hm hok hn hh1 hxn hyh
  have HRW : Hid (∀ W, Below w.heap.size w W → Calls Tryd.prog 28 #[.agg #[.int .i64 (m : Int), .int .i64 (p : Int), .slice (some ⟨b, o, none⟩) fs.length cx]] W fun e w' => ∃ (G cap : Nat) (rest vs : List Value) (gs : List Nat), e = .returned (.slice (some ⟨G, 0, none⟩) p cap) ∧ w'.heap[G]? = some (.cells (vs ++ rest).toArray 22 (0, 0)) ∧ p ≤ cap ∧ cap ≤ 9223372036854775807 ∧ vs.length = p ∧ RowsAt w' W.heap.size vs gs (rowsL m fs p) ∧ Below W.heap.size W w') := fun W k => rows_out m p b o cx fs W (hC.below k) hsize hL hc (by omega)
  have HRL : Hid (layG n hh (newL n hh) m p fs (-(rx : Int)) (-(ry : Int)) = (partRows m rx ry n fs hh).flatten) := part_rows m p rx ry n hh fs hL hxn hyh
  have HXL : Hid ((layG n hh (newL n hh) m p fs (-(rx : Int)) (-(ry : Int))).length ≤ 1000000) := by unfold Hid; rw [layG_len n hh m p _ fs _ _ (newL_len n hh)]; have := Nat.mul_le_mul (show n ≤ 120 by omega) (show hh ≤ 60 by omega); omega
  have HLL : Hid (fs.length = m * p) := hL
  generalize layG n hh (newL n hh) m p fs (-(rx : Int)) (-(ry : Int)) = res at HPT HRL HXL
  have HRZ : Hid (∀ W, Below w.heap.size w W → Calls Tryd.prog 27 #[.agg #[.int .i64 (m : Int), .int .i64 (p : Int), .slice (some ⟨b, o, none⟩) fs.length cx], .int .i64 pw, .int .i64 ph] W fun e w' => e = .returned (.tuple #[.agg #[.int .i64 0, .int .i64 0, .slice none 0 0], .int .i64 3]) ∧ Below W.heap.size W w') := fun W k => resize_bad2 m p _ fs pw ph W (Tab.next hT k) (hS.below k) hok hs
  have HSZ : Hid (∀ W, Calls Tryd.prog 13 #[.int .i64 pw, .int .i64 ph] W fun e w' => e = .returned (.bool false) ∧ W = w') := fun W => by
    have := size_any pw ph W
    rwa [hs] at this
  clear hok hT hS hC hL hsize hs hm hne
  generalize hW0 : ((w.alloc (.cells #[.int .i64 (m : Int), .int .i64 (p : Int), .slice (some ⟨b, o, none⟩) fs.length cx] 24)).alloc (.cells #[.int .i64 (rx : Int), .int .i64 (ry : Int), .int .i64 (n : Int), .int .i64 (hh : Int)] 36)) = W0 at x0 x1 kk hsz
  have HW0 : Hid (_ = W0) := hW0
  clear hW0
  go_enter Tryd.func7, Tryd.ntmps7
  go_wp2_with fail
  rw [HW0.out]
  refine (HPT.out _ kk).mono ?_
  rintro e W1 ⟨_, rfl, ⟨gf, cf, rf, tf, rfl, hgf, hcf, hmf, hhf⟩, b1⟩
  have gs1 := carry x0 b1
  have rs1 := carry x1 b1
  have ks1 := kk.trans (b1.mono kk.size)
  have sox : SliceAt W1 (.slice (some ⟨gf, 0, none⟩) res.length cf) res := OwnG.slice (base := 0) ⟨gf, cf, rf, tf, rfl, by omega, hcf, hmf, hhf⟩
  clear hhf
  go_wp2_with (refine wpList_store_row rfl 24 (.tmp 9) _ rfl W1.heap.size #[.int .i64 (n : Int), .int .i64 (hh : Int), .slice (some ⟨gf, 0, none⟩) res.length cf] rfl rfl _ _ (heap_alloc_new W1 _) (by kernel_rfl) rfl (one3v _ _ _ _ _) ?_
               obtain ⟨mX1, aX1⟩ := var_new W1 24 #[.int .i64 0, .int .i64 0, .slice none 0 0] #[.int .i64 (n : Int), .int .i64 (hh : Int), .slice (some ⟨gf, 0, none⟩) res.length cf]
               generalize ((W1.alloc (.cells #[.int .i64 0, .int .i64 0, .slice none 0 0] 24)).setRow W1.heap.size #[.int .i64 (n : Int), .int .i64 (hh : Int), .slice (some ⟨gf, 0, none⟩) res.length cf]) = X1 at *
               have gs2 := carry gs1 aX1
               have rs2 := carry rs1 aX1
               have soxs2 := sox.below aX1
               have ks2 := ks1.trans (aX1.mono ks1.size)
               obtain ⟨cgX10, cgX11, cgX12, _⟩ := cells3 gs2)
  refine (HRZ.out _ ks2).mono ?_
  rintro e W2 ⟨rfl, b2⟩
  have gs3 := carry gs2 b2
  have rs3 := carry rs2 b2
  have os3 := carry mX1 b2
  have soxs3 := soxs2.below b2
  have ks3 := ks2.trans (b2.mono ks2.size)
  clear cgX10 cgX11 cgX12
  go_wp2_with (refine wpList_store_row rfl 24 (.tmp 11) _ rfl W2.heap.size #[.int .i64 0, .int .i64 0, .slice none 0 0] rfl rfl _ _ (heap_alloc_new W2 _) (by kernel_rfl) rfl (one3v _ _ _ _ _) ?_
               obtain ⟨mX2, aX2⟩ := var_new W2 24 #[.int .i64 0, .int .i64 0, .slice none 0 0] #[.int .i64 0, .int .i64 0, .slice none 0 0]
               generalize ((W2.alloc (.cells #[.int .i64 0, .int .i64 0, .slice none 0 0] 24)).setRow W2.heap.size #[.int .i64 0, .int .i64 0, .slice none 0 0]) = X2 at *
               have gs4 := carry gs3 aX2
               have rs4 := carry rs3 aX2
               have os4 := carry os3 aX2
               have soxs4 := soxs3.below aX2
               have ks4 := ks3.trans (aX2.mono ks3.size)
               obtain ⟨cgX20, cgX21, cgX22, _⟩ := cells3 gs4)
  refine (ref_to m p _ fs _ HER.out _ (HS.out _ ks4)).mono ?_
  rintro e W3 ⟨rfl, b3⟩
  have gs5 := carry gs4 b3
  have rs5 := carry rs4 b3
  have os5 := carry os4 b3
  have zs5 := carry mX2 b3
  have soxs5 := soxs4.below b3
  have ks5 := ks4.trans (b3.mono ks4.size)
  clear cgX20 cgX21 cgX22
  go_wp2_with fail
  refine (gridded_any _ (HT.out _ ks5)).mono ?_
  rintro e W4 ⟨rfl, b4⟩
  have gs6 := carry gs5 b4
  have rs6 := carry rs5 b4
  have os6 := carry os5 b4
  have zs6 := carry zs5 b4
  have soxs6 := soxs5.below b4
  have ks6 := ks5.trans (b4.mono ks5.size)
  obtain ⟨cgs60, cgs61, cgs62, _⟩ := cells3 gs6
  obtain ⟨crs60, crs61, crs62, crs63⟩ := cells4 rs6
  have n1 : ¬ ((rx : Int) < 0) := by omega
  have n2 : ¬ ((ry : Int) < 0) := by omega
  have n3 : ¬ ((n : Int) < 1) := by omega
  have n4 : ¬ ((hh : Int) < 1) := by omega
  have n5 : ¬ ((m : Int) ≤ (rx : Int)) := by omega
  have n6 : ¬ ((p : Int) ≤ (ry : Int)) := by omega
  have n7 : decide ((m : Int) - (rx : Int) < (n : Int)) = false := by rw [decide_eq_false_iff_not]; omega
  have n8 : decide ((p : Int) - (ry : Int) < (hh : Int)) = false := by rw [decide_eq_false_iff_not]; omega
  have e9 : IntKind.i64.wrap ((ry : Int) + (hh : Int)) = (ry : Int) + (hh : Int) := IntWalk.i64_in _ ⟨by omega, by omega⟩
  have e8 : IntKind.i64.wrap ((rx : Int) + (n : Int)) = ((rx + n : Nat) : Int) := by rw [← Int.natCast_add]; exact IntWalk.i64_in _ ⟨by omega, by omega⟩
  have f1 : (0 : Int) ≤ (ry : Int) := by omega
  have f2 : (ry : Int) ≤ (ry : Int) + (hh : Int) := by omega
  have f0 : (0 : Int) ≤ (ry : Int) + (hh : Int) := by omega
  have f3 : (0 : Int) ≤ (rx : Int) := by omega
  have f4 : (rx : Int) ≤ ((rx + n : Nat) : Int) := by omega
  go_wp2_with fail
  have kd4 : Below W4.heap.size W4 W4.drew := (Below.refl _ _).drew
  have HKN4 : Hid (Below w.heap.size w W4) := ks6
  have HNX4 : Hid (∀ W W', Below W.heap.size W W' → (fun W => Below W4.heap.size W4 W ∧ (W.cell? ⟨w.heap.size, 0, none⟩ = some (.int .i64 (m : Int)) ∧ W.cell? ⟨w.heap.size, 1, none⟩ = some (.int .i64 (p : Int)) ∧ W.cell? ⟨w.heap.size, 2, none⟩ = some (.slice (some ⟨b, o, none⟩) fs.length cx)) ∧ (W.cell? ⟨w.heap.size + 1, 0, none⟩ = some (.int .i64 (rx : Int)) ∧ W.cell? ⟨w.heap.size + 1, 1, none⟩ = some (.int .i64 (ry : Int)) ∧ W.cell? ⟨w.heap.size + 1, 2, none⟩ = some (.int .i64 (n : Int)) ∧ W.cell? ⟨w.heap.size + 1, 3, none⟩ = some (.int .i64 (hh : Int)))) W → (fun W => Below W4.heap.size W4 W ∧ (W.cell? ⟨w.heap.size, 0, none⟩ = some (.int .i64 (m : Int)) ∧ W.cell? ⟨w.heap.size, 1, none⟩ = some (.int .i64 (p : Int)) ∧ W.cell? ⟨w.heap.size, 2, none⟩ = some (.slice (some ⟨b, o, none⟩) fs.length cx)) ∧ (W.cell? ⟨w.heap.size + 1, 0, none⟩ = some (.int .i64 (rx : Int)) ∧ W.cell? ⟨w.heap.size + 1, 1, none⟩ = some (.int .i64 (ry : Int)) ∧ W.cell? ⟨w.heap.size + 1, 2, none⟩ = some (.int .i64 (n : Int)) ∧ W.cell? ⟨w.heap.size + 1, 3, none⟩ = some (.int .i64 (hh : Int)))) W') := by
    rintro W W' hb ⟨k0, ⟨gq0, gq1, gq2⟩, ⟨rq0, rq1, rq2, rq3⟩⟩
    exact ⟨k0.trans (hb.mono k0.size), ⟨cell_keep hb gq0, cell_keep hb gq1, cell_keep hb gq2⟩, ⟨cell_keep hb rq0, cell_keep hb rq1, cell_keep hb rq2, cell_keep hb rq3⟩⟩
  have HST04 : Hid ((fun W => Below W4.heap.size W4 W ∧ (W.cell? ⟨w.heap.size, 0, none⟩ = some (.int .i64 (m : Int)) ∧ W.cell? ⟨w.heap.size, 1, none⟩ = some (.int .i64 (p : Int)) ∧ W.cell? ⟨w.heap.size, 2, none⟩ = some (.slice (some ⟨b, o, none⟩) fs.length cx)) ∧ (W.cell? ⟨w.heap.size + 1, 0, none⟩ = some (.int .i64 (rx : Int)) ∧ W.cell? ⟨w.heap.size + 1, 1, none⟩ = some (.int .i64 (ry : Int)) ∧ W.cell? ⟨w.heap.size + 1, 2, none⟩ = some (.int .i64 (n : Int)) ∧ W.cell? ⟨w.heap.size + 1, 3, none⟩ = some (.int .i64 (hh : Int)))) W4.drew) := ⟨kd4, ⟨cgs60, cgs61, cgs62⟩, ⟨crs60, crs61, crs62, crs63⟩⟩
  go_region_held3 (fun W => Below W4.heap.size W4 W ∧ (W.cell? ⟨w.heap.size, 0, none⟩ = some (.int .i64 (m : Int)) ∧ W.cell? ⟨w.heap.size, 1, none⟩ = some (.int .i64 (p : Int)) ∧ W.cell? ⟨w.heap.size, 2, none⟩ = some (.slice (some ⟨b, o, none⟩) fs.length cx)) ∧ (W.cell? ⟨w.heap.size + 1, 0, none⟩ = some (.int .i64 (rx : Int)) ∧ W.cell? ⟨w.heap.size + 1, 1, none⟩ = some (.int .i64 (ry : Int)) ∧ W.cell? ⟨w.heap.size + 1, 2, none⟩ = some (.int .i64 (n : Int)) ∧ W.cell? ⟨w.heap.size + 1, 3, none⟩ = some (.int .i64 (hh : Int))))
    (first
      | (exact HNX4.out _ _ b5 (by assumption))
      | (exact HST04.out))
    (first
      | (go_at_call 28; refine (HRW.out _ (HKN4.out.trans (kd4.mono HKN4.out.size))).mono ?_; rintro e W5 ⟨G, cap, rest, vs0, gs0, rfl, hGh, hlc, hcm, hvl, hrw, b5⟩; have k5 := kd4.trans (b5.mono kd4.size); have f5 : (ry : Int) + (hh : Int) ≤ (cap : Int) := (by omega); have f7 : ¬ cap = ry := (by omega)))
  have gs7 := carry gs6 k5
  have rs7 := carry rs6 k5
  have os7 := carry os6 k5
  have zs7 := carry zs6 k5
  have soxs7 := soxs6.below k5
  have ks7 := ks6.trans (k5.mono ks6.size)
  clear cgs60 cgs61 cgs62 crs60 crs61 crs62 crs63
  have HRW5 : Hid (RowsAt W5 W4.drew.heap.size vs0 gs0 (rowsL m fs p)) := hrw
  have sG : G < W5.heap.size := blk_lt hGh
  obtain ⟨i0, hi, hzz⟩ := Option.map_eq_some_iff.1 info_cells
  simp only [Prod.mk.injEq] at hzz
  obtain ⟨hz0, hz1, hz2⟩ := hzz
  clear hrw HRW HPT HRZ HNX4 HST04
  have HK5 : Hid (Below w.heap.size w W5) := ks7
  have HR5 : Hid (W5.heap[w.heap.size + 1]? = _) := rs7
  have HG5 : Hid (W5.heap[G]? = _) := hGh
  go_wp2_with fail
  go_loopg [14, 127] hh (fun qq v i wr => ∃ (k : Nat) (vs : List Value) (gs : List Nat), i = .int .i64 (k : Int) ∧ k ≤ hh ∧ hh - k ≤ qq ∧ wr.ownsRow W5.heap.size 22 1 v k vs ∧ RowsAt wr W5.heap.size vs gs (partRows m rx ry n fs k) ∧ Below W5.heap.size W5 wr)
  case atStart => exact ⟨0, [], [], rfl, by omega, by omega, World.ownsRow_nil _ _ _ _, ⟨rfl, rfl, List.nodup_nil, fun i hi => absurd hi (by simp [partRows])⟩, Below.refl _ _⟩
  case round =>
    obtain ⟨k, vs, gs, rfl, hk, hq, hown, hrows, hb⟩ := hrel
    have HO : Hid (wr.ownsRow W5.heap.size 22 1 _ k vs) := hown
    have HRS : Hid (RowsAt wr W5.heap.size vs gs (partRows m rx ry n fs k)) := hrows
    clear hown hrows
    by_cases hlt : k < hh
    · have lt1 : ((k : Int) < (hh : Int)) := by omega
      have hrow := HRW5.out.2.2.2 (ry + k) (by rw [rowsL_len]; omega)
      have hrl := row_len m p fs (ry + k) HLL.out (by omega)
      have hcl := cutRow_len m p rx n fs (ry + k) HLL.out (by omega) hxn
      rw [show (rowsL m fs p).getD (ry + k) [] = rowAt m fs (ry + k) by simp [rowsL, List.getD, show ry + k < p by omega]] at hrow
      obtain ⟨-, hrB⟩ := hrow
      obtain ⟨capk, restk, hvk, hlk, hck, hgk⟩ := hrB
      rw [hrl] at hvk hlk
      have hcell := out_cell (carry HG5.out hb) (ry + k) (by omega)
      rw [hvk] at hcell
      generalize hgk0 : gs0.getD (ry + k) 0 = gk0 at *
      have HMD : Hid (∀ c, Calls Tryd.prog 29 #[.slice (some ⟨gk0, rx * 4, none⟩) n c] wr fun e w' => ∃ v' g, e = .returned v' ∧ wr.heap.size ≤ g ∧ RowB w' g v' (mendL (cutRow m rx n fs (ry + k))) ∧ Below wr.heap.size wr w') := fun c => by
        have hpt := (cellsAt_flat (carry hgk hb)).part rx n (by rw [hrl]; omega)
        have := mendRow_any gk0 (0 + rx * 4) c (cutRow m rx n fs (ry + k)) wr hpt (by rw [hcl]; omega)
        rwa [hcl, Nat.zero_add] at this
      clear hgk hvk hgk0 hcl hrl
      obtain ⟨d0, d1, d2, d3⟩ := cells4 (carry HR5.out hb)
      have f6 : ((rx + n : Nat) : Int) ≤ (capk : Int) := by omega
      have hrr : rx + n - rx = n := by omega
      go_wp2_with (first
        | (go_at_call 29; refine (HMD.out _).mono ?_; rintro e Y2 ⟨v2, g2, rfl, hg2, hr2, b2⟩
           have HR2 : Hid (RowB Y2 g2 v2 (mendL (cutRow m rx n fs (ry + k)))) := hr2
           obtain ⟨capr, _, rfl, _⟩ := hr2
           have hown2 : Y2.ownsRow W5.heap.size 22 1 _ k vs := ownsRow_below HO.out b2)
        | (at_builtin; refine wpList_append_own _ rfl _ _ 55 rfl W5.heap.size 22 i0 (.slice none 0 0) 1 24 und_rows hi hz0 hz1 hz2 rfl (by decide) _ _ _ rfl (hown2.alloc _) ⟨Y2.heap.size, 0, none⟩ 1 1 [.slice (some ⟨g2, 0, none⟩) (mendL (cutRow m rx n fs (ry + k))).length capr] rfl rfl (cell_one_new _ _ _) (by intro u hu; simp at hu; rw [hu]; rfl) (by unfold maxLen; omega) (by omega) (by have := hb.size; have := b2.size; simp; omega) ?_
           intro v3 Y3 hown3 hgrow hnil))
      have kZ : Below Y2.heap.size Y2 (Y2.alloc (.cells #[.slice (some ⟨g2, 0, none⟩) (mendL (cutRow m rx n fs (ry + k))).length capr] 22)) := (Below.refl _ _).alloc (Nat.le_refl _) _
      have hfrom := own_from HO.out
      have kb2 := hb.trans (b2.mono hb.size)
      have hN2 := b2.size
      go_roundg (hh - (k + 1))
      case measure => omega
      case rel =>
        refine ⟨k + 1, vs ++ [.slice (some ⟨g2, 0, none⟩) (mendL (cutRow m rx n fs (ry + k))).length capr], gs ++ [g2], rfl, by omega, by omega, hown3, ?_, ?_⟩
        · rw [partRows_succ]
          refine ((((HRS.out.below b2).below kZ).grown (hown2.alloc _) hgrow)).snoc g2 _ _ (by have := hb.size; omega) ((HR2.out.below kZ).grown (hown2.alloc _) hgrow) (fun i hi => ?_)
          have := HRS.out.lt i hi
          omega
        · exact (kb2.alloc kb2.size _).grown hgrow (by have := hb.size; simp; omega) (fun q hq => hfrom q hq)
    · have lt1 : ¬ ((k : Int) < (hh : Int)) := by omega
      have hkh : k = hh := by omega
      subst hkh
      have hvl2 : vs.length = k := by rw [HRS.out.1, partRows_len]
      have ho2 := HO.out
      rw [← hvl2] at ho2
      obtain ⟨G2, cap2, rest2, rfl, hGb2, hlc2, hcm2, hGh2⟩ := out_of_own ho2 (by omega)
      rw [hvl2] at hlc2
      have e2v : vs.length = k := hvl2
      simp only [e2v]
      clear e2v ho2
      have HKR : Hid (Below w.heap.size w wr) := HK5.out.trans (hb.mono HK5.out.size)
      have HGO : Hid (∀ W, Below wr.heap.size wr W → Calls Tryd.prog 30 #[.slice (some ⟨G2, 0, none⟩) k cap2] W fun e w' => ∃ v, e = .returned (.agg #[.int .i64 (n : Int), .int .i64 (k : Int), v]) ∧ OwnG w' W.heap.size v res ∧ Below W.heap.size W w') := fun W kw => by
        have := gridOf_any n k G2 cap2 W5.heap.size vs rest2 gs (partRows m rx ry n fs k) W hn (by omega) hh1 (by omega) (carry hGh2 kw) (HRS.out.below kw) (partRows_len m rx ry n fs k) (partRows_at m p rx ry n k fs HLL.out hxn hyh)
        rwa [← HRL.out] at this
      have gs8 := carry gs7 hb
      have os8 := carry os7 hb
      have zs8 := carry zs7 hb
      have soxs8 := soxs7.below hb
      have ks8 := ks7.trans (hb.mono ks7.size)
      obtain ⟨cow0, cow1, cow2, _⟩ := cells3 os8
      have HXX : Hid (SliceAt wr (.slice (some ⟨gf, 0, none⟩) res.length cf) res) := soxs8
      clear HO HRS hGh2
      go_wp2_with fail
      have kdr : Below wr.heap.size wr wr.drew := (Below.refl _ _).drew
      have HKNr : Hid (Below w.heap.size w wr) := ks8
      have HNXr : Hid (∀ W W', Below W.heap.size W W' → (fun W => Below wr.heap.size wr W ∧ (W.cell? ⟨W1.heap.size, 0, none⟩ = some (.int .i64 (n : Int)) ∧ W.cell? ⟨W1.heap.size, 1, none⟩ = some (.int .i64 (k : Int)) ∧ W.cell? ⟨W1.heap.size, 2, none⟩ = some (.slice (some ⟨gf, 0, none⟩) res.length cf))) W → (fun W => Below wr.heap.size wr W ∧ (W.cell? ⟨W1.heap.size, 0, none⟩ = some (.int .i64 (n : Int)) ∧ W.cell? ⟨W1.heap.size, 1, none⟩ = some (.int .i64 (k : Int)) ∧ W.cell? ⟨W1.heap.size, 2, none⟩ = some (.slice (some ⟨gf, 0, none⟩) res.length cf))) W') := by
        rintro W W' hb ⟨k0, ⟨oq0, oq1, oq2⟩⟩
        exact ⟨k0.trans (hb.mono k0.size), ⟨cell_keep hb oq0, cell_keep hb oq1, cell_keep hb oq2⟩⟩
      have HST0r : Hid ((fun W => Below wr.heap.size wr W ∧ (W.cell? ⟨W1.heap.size, 0, none⟩ = some (.int .i64 (n : Int)) ∧ W.cell? ⟨W1.heap.size, 1, none⟩ = some (.int .i64 (k : Int)) ∧ W.cell? ⟨W1.heap.size, 2, none⟩ = some (.slice (some ⟨gf, 0, none⟩) res.length cf))) wr.drew) := ⟨kdr, ⟨cow0, cow1, cow2⟩⟩
      go_region_held3 (fun W => Below wr.heap.size wr W ∧ (W.cell? ⟨W1.heap.size, 0, none⟩ = some (.int .i64 (n : Int)) ∧ W.cell? ⟨W1.heap.size, 1, none⟩ = some (.int .i64 (k : Int)) ∧ W.cell? ⟨W1.heap.size, 2, none⟩ = some (.slice (some ⟨gf, 0, none⟩) res.length cf)))
        (first
          | (exact HNXr.out _ _ d2 (by assumption))
          | (exact HNXr.out _ _ d1 (by assumption))
          | (exact HST0r.out))
        (first
          | (go_at_call 30; refine (HGO.out _ kdr).mono ?_; rintro e Y1 ⟨v1, rfl, o1, d1⟩; have k1 := kdr.trans (d1.mono kdr.size))
          | (go_at_call 15; refine (same_any n k _ v1 res _ (HXX.out.below k1) o1.slice HXL.out).mono ?_; rintro e Y2 ⟨rfl, d2⟩; have k2 := k1.trans (d2.mono k1.size)))
      have gs9 := carry gs8 k2
      have zs9 := carry zs8 k2
      have soxs9 := soxs8.below k2
      have ks9 := ks8.trans (k2.mono ks8.size)
      clear cow0 cow1 cow2
      go_wp2_with fail
      refine (HSZ.out _).mono ?_
      rintro e W6 ⟨rfl, h6⟩
      have gs10 := carry gs9 (below_same h6)
      have zs10 := carry zs9 (below_same h6)
      have soxs10 := soxs9.below (below_same h6)
      have ks10 := ks9.trans ((below_same h6).mono ks9.size)
      obtain ⟨cgs100, cgs101, cgs102, _⟩ := cells3 gs10
      obtain ⟨czs100, czs101, czs102, _⟩ := cells3 zs10
      go_wp2_with fail
      refine (noGrid_none _).mono ?_
      rintro e W7 ⟨rfl, b7⟩
      have soxs11 := soxs10.below b7
      have ks11 := ks10.trans (b7.mono ks10.size)
      clear cgs100 cgs101 cgs102 czs100 czs101 czs102
      go_wp2_with fail
      go_ret
      exact ⟨rfl, ks11⟩
set_option maxHeartbeats 8000000 in
set_option maxRecDepth 100000 in
theorem gridPart_tt (m p b o cx : Nat) (fs : List C) (rx ry n hh : Nat) (q s : Nat) (w : World) (hT : Txt.Tab w) (hC : CellsAt w b o fs) (hc : fs.length ≤ cx) (hm : cx ≤ 9223372036854775807) (hok : gridErr m p fs = 0) (hn : 1 ≤ n) (hh1 : 1 ≤ hh) (hxn : rx + n ≤ m) (hyh : ry + hh ≤ p) (hs : isSize q s = true) :
    Calls Tryd.prog 7 #[.agg #[.int .i64 (m : Int), .int .i64 (p : Int), .slice (some ⟨b, o, none⟩) fs.length cx], .agg #[.int .i64 (rx : Int), .int .i64 (ry : Int), .int .i64 (n : Int), .int .i64 (hh : Int)], .int .i64 (q : Int), .int .i64 (s : Int)] w fun e w' => e = .returned (.bool true) ∧ Below w.heap.size w w' := by
  obtain ⟨hL, q1, q2, q3, q4, hl7, hne⟩ := okRange m p fs hok
  obtain ⟨hsize, -, -⟩ := (gridErr_zero m p fs).1 hok
  have hS : SliceAt w (.slice (some ⟨b, o, none⟩) fs.length cx) fs := .inr ⟨hne, b, o, cx, rfl, hc, hm, hC⟩
  have HT : Hid (∀ W, Below w.heap.size w W → Txt.Tab W) := fun W k => Tab.next hT k
  have HS : Hid (∀ W, Below w.heap.size w W → SliceAt W (.slice (some ⟨b, o, none⟩) fs.length cx) fs) := fun W k => hS.below k
  obtain ⟨x0, x1, kk, hsz⟩ := alloc2' w (.cells #[.int .i64 (m : Int), .int .i64 (p : Int), .slice (some ⟨b, o, none⟩) fs.length cx] 24) (.cells #[.int .i64 (rx : Int), .int .i64 (ry : Int), .int .i64 (n : Int), .int .i64 (hh : Int)] 36)
  have HER : Hid (gridErr m p fs = 0) := hok
  have HPT : Hid (∀ W, Below w.heap.size w W → Calls Tryd.prog 26 #[.agg #[.int .i64 (m : Int), .int .i64 (p : Int), .slice (some ⟨b, o, none⟩) fs.length cx], .agg #[.int .i64 (rx : Int), .int .i64 (ry : Int), .int .i64 (n : Int), .int .i64 (hh : Int)]] W fun e w' => ∃ v, e = .returned (.tuple #[.agg #[.int .i64 (n : Int), .int .i64 (hh : Int), v], .int .i64 0]) ∧ OwnG w' W.heap.size v (layG n hh (newL n hh) m p fs (-(rx : Int)) (-(ry : Int))) ∧ Below W.heap.size W w') := fun W k => part_good m p b o cx rx ry n hh fs W (Tab.next hT k) (hC.below k) hc hm hok hn hh1 hxn hyh
  have HRW : Hid (∀ W, Below w.heap.size w W → Calls Tryd.prog 28 #[.agg #[.int .i64 (m : Int), .int .i64 (p : Int), .slice (some ⟨b, o, none⟩) fs.length cx]] W fun e w' => ∃ (G cap : Nat) (rest vs : List Value) (gs : List Nat), e = .returned (.slice (some ⟨G, 0, none⟩) p cap) ∧ w'.heap[G]? = some (.cells (vs ++ rest).toArray 22 (0, 0)) ∧ p ≤ cap ∧ cap ≤ 9223372036854775807 ∧ vs.length = p ∧ RowsAt w' W.heap.size vs gs (rowsL m fs p) ∧ Below W.heap.size W w') := fun W k => rows_out m p b o cx fs W (hC.below k) hsize hL hc (by omega)
  have HRL : Hid (layG n hh (newL n hh) m p fs (-(rx : Int)) (-(ry : Int)) = (partRows m rx ry n fs hh).flatten) := part_rows m p rx ry n hh fs hL hxn hyh
  have HXL : Hid ((layG n hh (newL n hh) m p fs (-(rx : Int)) (-(ry : Int))).length ≤ 1000000) := by unfold Hid; rw [layG_len n hh m p _ fs _ _ (newL_len n hh)]; have := Nat.mul_le_mul (show n ≤ 120 by omega) (show hh ≤ 60 by omega); omega
  have HLL : Hid (fs.length = m * p) := hL
  generalize layG n hh (newL n hh) m p fs (-(rx : Int)) (-(ry : Int)) = res at HPT HRL HXL
  have HRZ : Hid (∀ W, Below w.heap.size w W → Calls Tryd.prog 27 #[.agg #[.int .i64 (m : Int), .int .i64 (p : Int), .slice (some ⟨b, o, none⟩) fs.length cx], .int .i64 (q : Int), .int .i64 (s : Int)] W fun e w' => ∃ v, e = .returned (.tuple #[.agg #[.int .i64 (q : Int), .int .i64 (s : Int), v], .int .i64 0]) ∧ OwnG w' W.heap.size v (layG q s (newL q s) m p fs 0 0) ∧ Below W.heap.size W w') := fun W k => resize_good m p b o cx q s fs W (Tab.next hT k) (hC.below k) hc hm hok hs
  have HNG : Hid (∀ W, Calls Tryd.prog 16 #[.int .i64 (q : Int), .int .i64 (s : Int)] W fun e w' => ∃ v, e = .returned (.agg #[.int .i64 (q : Int), .int .i64 (s : Int), v]) ∧ OwnG w' W.heap.size v (newL q s) ∧ Below W.heap.size W w') := fun W => by
    have := newGrid_any q s W hs
    rwa [show ((q : Int) * (s : Int)).toNat = q * s by rw [← Int.natCast_mul, Int.toNat_natCast]] at this
  have HLG : Hid (∀ W u, Below w.heap.size w W → SliceAt W u (newL q s) → Calls Tryd.prog 25 #[.agg #[.int .i64 (m : Int), .int .i64 (p : Int), .slice (some ⟨b, o, none⟩) fs.length cx], .agg #[.int .i64 (q : Int), .int .i64 (s : Int), u], .int .i64 0, .int .i64 0] W fun e w' => ∃ v, e = .returned (.agg #[.int .i64 (q : Int), .int .i64 (s : Int), v]) ∧ OwnG w' W.heap.size v (layG q s (newL q s) m p fs 0 0) ∧ Below W.heap.size W w') := fun W u k su => by
    have hnew := right_new q s hs
    obtain ⟨b2, o2, c2, rfl, h1, h2, h3⟩ := su.open (okRange q s _ hnew).2.2.2.2.2.2
    have := layGrid_any m p b o cx q s b2 o2 c2 0 0 fs (newL q s) W (hC.below k) h3 hok hnew hc h1
    rwa [show nearI 0 = 0 from rfl] at this
  have HZL : Hid ((layG q s (newL q s) m p fs 0 0).length ≤ 1000000) := by unfold Hid; rw [layG_len q s m p _ fs _ _ (newL_len q s)]; have := (okRange q s _ (right_new q s hs)).2.2.2.2.2.1; rw [newL_len] at this; omega
  have hsT : isSize q s = true := hs
  generalize layG q s (newL q s) m p fs 0 0 = rez at HRZ HLG HZL
  generalize newL q s = nl at HNG HLG
  have HSZ : Hid (∀ W, Calls Tryd.prog 13 #[.int .i64 (q : Int), .int .i64 (s : Int)] W fun e w' => e = .returned (.bool true) ∧ W = w') := fun W => by
    have := size_any q s W
    rwa [hs] at this
  clear hsT
  clear hok hT hS hC hL hsize hs hm hne
  generalize hW0 : ((w.alloc (.cells #[.int .i64 (m : Int), .int .i64 (p : Int), .slice (some ⟨b, o, none⟩) fs.length cx] 24)).alloc (.cells #[.int .i64 (rx : Int), .int .i64 (ry : Int), .int .i64 (n : Int), .int .i64 (hh : Int)] 36)) = W0 at x0 x1 kk hsz
  have HW0 : Hid (_ = W0) := hW0
  clear hW0
  go_enter Tryd.func7, Tryd.ntmps7
  go_wp2_with fail
  rw [HW0.out]
  refine (HPT.out _ kk).mono ?_
  rintro e W1 ⟨_, rfl, ⟨gf, cf, rf, tf, rfl, hgf, hcf, hmf, hhf⟩, b1⟩
  have gs1 := carry x0 b1
  have rs1 := carry x1 b1
  have ks1 := kk.trans (b1.mono kk.size)
  have sox : SliceAt W1 (.slice (some ⟨gf, 0, none⟩) res.length cf) res := OwnG.slice (base := 0) ⟨gf, cf, rf, tf, rfl, by omega, hcf, hmf, hhf⟩
  clear hhf
  go_wp2_with (refine wpList_store_row rfl 24 (.tmp 9) _ rfl W1.heap.size #[.int .i64 (n : Int), .int .i64 (hh : Int), .slice (some ⟨gf, 0, none⟩) res.length cf] rfl rfl _ _ (heap_alloc_new W1 _) (by kernel_rfl) rfl (one3v _ _ _ _ _) ?_
               obtain ⟨mX1, aX1⟩ := var_new W1 24 #[.int .i64 0, .int .i64 0, .slice none 0 0] #[.int .i64 (n : Int), .int .i64 (hh : Int), .slice (some ⟨gf, 0, none⟩) res.length cf]
               generalize ((W1.alloc (.cells #[.int .i64 0, .int .i64 0, .slice none 0 0] 24)).setRow W1.heap.size #[.int .i64 (n : Int), .int .i64 (hh : Int), .slice (some ⟨gf, 0, none⟩) res.length cf]) = X1 at *
               have gs2 := carry gs1 aX1
               have rs2 := carry rs1 aX1
               have soxs2 := sox.below aX1
               have ks2 := ks1.trans (aX1.mono ks1.size)
               obtain ⟨cgX10, cgX11, cgX12, _⟩ := cells3 gs2)
  refine (HRZ.out _ ks2).mono ?_
  rintro e W2 ⟨_, rfl, ⟨gz, cz, rz, tz, rfl, hgz, hcz, hmz, hhz⟩, b2⟩
  have gs3 := carry gs2 b2
  have rs3 := carry rs2 b2
  have os3 := carry mX1 b2
  have soxs3 := soxs2.below b2
  have ks3 := ks2.trans (b2.mono ks2.size)
  clear cgX10 cgX11 cgX12
  have soz : SliceAt W2 (.slice (some ⟨gz, 0, none⟩) rez.length cz) rez := OwnG.slice (base := 0) ⟨gz, cz, rz, tz, rfl, by omega, hcz, hmz, hhz⟩
  clear hhz
  go_wp2_with (refine wpList_store_row rfl 24 (.tmp 11) _ rfl W2.heap.size #[.int .i64 (q : Int), .int .i64 (s : Int), .slice (some ⟨gz, 0, none⟩) rez.length cz] rfl rfl _ _ (heap_alloc_new W2 _) (by kernel_rfl) rfl (one3v _ _ _ _ _) ?_
               obtain ⟨mX2, aX2⟩ := var_new W2 24 #[.int .i64 0, .int .i64 0, .slice none 0 0] #[.int .i64 (q : Int), .int .i64 (s : Int), .slice (some ⟨gz, 0, none⟩) rez.length cz]
               generalize ((W2.alloc (.cells #[.int .i64 0, .int .i64 0, .slice none 0 0] 24)).setRow W2.heap.size #[.int .i64 (q : Int), .int .i64 (s : Int), .slice (some ⟨gz, 0, none⟩) rez.length cz]) = X2 at *
               have gs4 := carry gs3 aX2
               have rs4 := carry rs3 aX2
               have os4 := carry os3 aX2
               have soxs4 := soxs3.below aX2
               have sozs4 := soz.below aX2
               have ks4 := ks3.trans (aX2.mono ks3.size)
               obtain ⟨cgX20, cgX21, cgX22, _⟩ := cells3 gs4)
  refine (ref_to m p _ fs _ HER.out _ (HS.out _ ks4)).mono ?_
  rintro e W3 ⟨rfl, b3⟩
  have gs5 := carry gs4 b3
  have rs5 := carry rs4 b3
  have os5 := carry os4 b3
  have zs5 := carry mX2 b3
  have soxs5 := soxs4.below b3
  have sozs5 := sozs4.below b3
  have ks5 := ks4.trans (b3.mono ks4.size)
  clear cgX20 cgX21 cgX22
  go_wp2_with fail
  refine (gridded_any _ (HT.out _ ks5)).mono ?_
  rintro e W4 ⟨rfl, b4⟩
  have gs6 := carry gs5 b4
  have rs6 := carry rs5 b4
  have os6 := carry os5 b4
  have zs6 := carry zs5 b4
  have soxs6 := soxs5.below b4
  have sozs6 := sozs5.below b4
  have ks6 := ks5.trans (b4.mono ks5.size)
  obtain ⟨cgs60, cgs61, cgs62, _⟩ := cells3 gs6
  obtain ⟨crs60, crs61, crs62, crs63⟩ := cells4 rs6
  have n1 : ¬ ((rx : Int) < 0) := by omega
  have n2 : ¬ ((ry : Int) < 0) := by omega
  have n3 : ¬ ((n : Int) < 1) := by omega
  have n4 : ¬ ((hh : Int) < 1) := by omega
  have n5 : ¬ ((m : Int) ≤ (rx : Int)) := by omega
  have n6 : ¬ ((p : Int) ≤ (ry : Int)) := by omega
  have n7 : decide ((m : Int) - (rx : Int) < (n : Int)) = false := by rw [decide_eq_false_iff_not]; omega
  have n8 : decide ((p : Int) - (ry : Int) < (hh : Int)) = false := by rw [decide_eq_false_iff_not]; omega
  have e9 : IntKind.i64.wrap ((ry : Int) + (hh : Int)) = (ry : Int) + (hh : Int) := IntWalk.i64_in _ ⟨by omega, by omega⟩
  have e8 : IntKind.i64.wrap ((rx : Int) + (n : Int)) = ((rx + n : Nat) : Int) := by rw [← Int.natCast_add]; exact IntWalk.i64_in _ ⟨by omega, by omega⟩
  have f1 : (0 : Int) ≤ (ry : Int) := by omega
  have f2 : (ry : Int) ≤ (ry : Int) + (hh : Int) := by omega
  have f0 : (0 : Int) ≤ (ry : Int) + (hh : Int) := by omega
  have f3 : (0 : Int) ≤ (rx : Int) := by omega
  have f4 : (rx : Int) ≤ ((rx + n : Nat) : Int) := by omega
  go_wp2_with fail
  have kd4 : Below W4.heap.size W4 W4.drew := (Below.refl _ _).drew
  have HKN4 : Hid (Below w.heap.size w W4) := ks6
  have HNX4 : Hid (∀ W W', Below W.heap.size W W' → (fun W => Below W4.heap.size W4 W ∧ (W.cell? ⟨w.heap.size, 0, none⟩ = some (.int .i64 (m : Int)) ∧ W.cell? ⟨w.heap.size, 1, none⟩ = some (.int .i64 (p : Int)) ∧ W.cell? ⟨w.heap.size, 2, none⟩ = some (.slice (some ⟨b, o, none⟩) fs.length cx)) ∧ (W.cell? ⟨w.heap.size + 1, 0, none⟩ = some (.int .i64 (rx : Int)) ∧ W.cell? ⟨w.heap.size + 1, 1, none⟩ = some (.int .i64 (ry : Int)) ∧ W.cell? ⟨w.heap.size + 1, 2, none⟩ = some (.int .i64 (n : Int)) ∧ W.cell? ⟨w.heap.size + 1, 3, none⟩ = some (.int .i64 (hh : Int)))) W → (fun W => Below W4.heap.size W4 W ∧ (W.cell? ⟨w.heap.size, 0, none⟩ = some (.int .i64 (m : Int)) ∧ W.cell? ⟨w.heap.size, 1, none⟩ = some (.int .i64 (p : Int)) ∧ W.cell? ⟨w.heap.size, 2, none⟩ = some (.slice (some ⟨b, o, none⟩) fs.length cx)) ∧ (W.cell? ⟨w.heap.size + 1, 0, none⟩ = some (.int .i64 (rx : Int)) ∧ W.cell? ⟨w.heap.size + 1, 1, none⟩ = some (.int .i64 (ry : Int)) ∧ W.cell? ⟨w.heap.size + 1, 2, none⟩ = some (.int .i64 (n : Int)) ∧ W.cell? ⟨w.heap.size + 1, 3, none⟩ = some (.int .i64 (hh : Int)))) W') := by
    rintro W W' hb ⟨k0, ⟨gq0, gq1, gq2⟩, ⟨rq0, rq1, rq2, rq3⟩⟩
    exact ⟨k0.trans (hb.mono k0.size), ⟨cell_keep hb gq0, cell_keep hb gq1, cell_keep hb gq2⟩, ⟨cell_keep hb rq0, cell_keep hb rq1, cell_keep hb rq2, cell_keep hb rq3⟩⟩
  have HST04 : Hid ((fun W => Below W4.heap.size W4 W ∧ (W.cell? ⟨w.heap.size, 0, none⟩ = some (.int .i64 (m : Int)) ∧ W.cell? ⟨w.heap.size, 1, none⟩ = some (.int .i64 (p : Int)) ∧ W.cell? ⟨w.heap.size, 2, none⟩ = some (.slice (some ⟨b, o, none⟩) fs.length cx)) ∧ (W.cell? ⟨w.heap.size + 1, 0, none⟩ = some (.int .i64 (rx : Int)) ∧ W.cell? ⟨w.heap.size + 1, 1, none⟩ = some (.int .i64 (ry : Int)) ∧ W.cell? ⟨w.heap.size + 1, 2, none⟩ = some (.int .i64 (n : Int)) ∧ W.cell? ⟨w.heap.size + 1, 3, none⟩ = some (.int .i64 (hh : Int)))) W4.drew) := ⟨kd4, ⟨cgs60, cgs61, cgs62⟩, ⟨crs60, crs61, crs62, crs63⟩⟩
  go_region_held3 (fun W => Below W4.heap.size W4 W ∧ (W.cell? ⟨w.heap.size, 0, none⟩ = some (.int .i64 (m : Int)) ∧ W.cell? ⟨w.heap.size, 1, none⟩ = some (.int .i64 (p : Int)) ∧ W.cell? ⟨w.heap.size, 2, none⟩ = some (.slice (some ⟨b, o, none⟩) fs.length cx)) ∧ (W.cell? ⟨w.heap.size + 1, 0, none⟩ = some (.int .i64 (rx : Int)) ∧ W.cell? ⟨w.heap.size + 1, 1, none⟩ = some (.int .i64 (ry : Int)) ∧ W.cell? ⟨w.heap.size + 1, 2, none⟩ = some (.int .i64 (n : Int)) ∧ W.cell? ⟨w.heap.size + 1, 3, none⟩ = some (.int .i64 (hh : Int))))
    (first
      | (exact HNX4.out _ _ b5 (by assumption))
      | (exact HST04.out))
    (first
      | (go_at_call 28; refine (HRW.out _ (HKN4.out.trans (kd4.mono HKN4.out.size))).mono ?_; rintro e W5 ⟨G, cap, rest, vs0, gs0, rfl, hGh, hlc, hcm, hvl, hrw, b5⟩; have k5 := kd4.trans (b5.mono kd4.size); have f5 : (ry : Int) + (hh : Int) ≤ (cap : Int) := (by omega); have f7 : ¬ cap = ry := (by omega)))
  have gs7 := carry gs6 k5
  have rs7 := carry rs6 k5
  have os7 := carry os6 k5
  have zs7 := carry zs6 k5
  have soxs7 := soxs6.below k5
  have sozs7 := sozs6.below k5
  have ks7 := ks6.trans (k5.mono ks6.size)
  clear cgs60 cgs61 cgs62 crs60 crs61 crs62 crs63
  have HRW5 : Hid (RowsAt W5 W4.drew.heap.size vs0 gs0 (rowsL m fs p)) := hrw
  have sG : G < W5.heap.size := blk_lt hGh
  obtain ⟨i0, hi, hzz⟩ := Option.map_eq_some_iff.1 info_cells
  simp only [Prod.mk.injEq] at hzz
  obtain ⟨hz0, hz1, hz2⟩ := hzz
  clear hrw HRW HPT HRZ HNX4 HST04
  have HK5 : Hid (Below w.heap.size w W5) := ks7
  have HR5 : Hid (W5.heap[w.heap.size + 1]? = _) := rs7
  have HG5 : Hid (W5.heap[G]? = _) := hGh
  go_wp2_with fail
  go_loopg [14, 127] hh (fun qq v i wr => ∃ (k : Nat) (vs : List Value) (gs : List Nat), i = .int .i64 (k : Int) ∧ k ≤ hh ∧ hh - k ≤ qq ∧ wr.ownsRow W5.heap.size 22 1 v k vs ∧ RowsAt wr W5.heap.size vs gs (partRows m rx ry n fs k) ∧ Below W5.heap.size W5 wr)
  case atStart => exact ⟨0, [], [], rfl, by omega, by omega, World.ownsRow_nil _ _ _ _, ⟨rfl, rfl, List.nodup_nil, fun i hi => absurd hi (by simp [partRows])⟩, Below.refl _ _⟩
  case round =>
    obtain ⟨k, vs, gs, rfl, hk, hq, hown, hrows, hb⟩ := hrel
    have HO : Hid (wr.ownsRow W5.heap.size 22 1 _ k vs) := hown
    have HRS : Hid (RowsAt wr W5.heap.size vs gs (partRows m rx ry n fs k)) := hrows
    clear hown hrows
    by_cases hlt : k < hh
    · have lt1 : ((k : Int) < (hh : Int)) := by omega
      have hrow := HRW5.out.2.2.2 (ry + k) (by rw [rowsL_len]; omega)
      have hrl := row_len m p fs (ry + k) HLL.out (by omega)
      have hcl := cutRow_len m p rx n fs (ry + k) HLL.out (by omega) hxn
      rw [show (rowsL m fs p).getD (ry + k) [] = rowAt m fs (ry + k) by simp [rowsL, List.getD, show ry + k < p by omega]] at hrow
      obtain ⟨-, hrB⟩ := hrow
      obtain ⟨capk, restk, hvk, hlk, hck, hgk⟩ := hrB
      rw [hrl] at hvk hlk
      have hcell := out_cell (carry HG5.out hb) (ry + k) (by omega)
      rw [hvk] at hcell
      generalize hgk0 : gs0.getD (ry + k) 0 = gk0 at *
      have HMD : Hid (∀ c, Calls Tryd.prog 29 #[.slice (some ⟨gk0, rx * 4, none⟩) n c] wr fun e w' => ∃ v' g, e = .returned v' ∧ wr.heap.size ≤ g ∧ RowB w' g v' (mendL (cutRow m rx n fs (ry + k))) ∧ Below wr.heap.size wr w') := fun c => by
        have hpt := (cellsAt_flat (carry hgk hb)).part rx n (by rw [hrl]; omega)
        have := mendRow_any gk0 (0 + rx * 4) c (cutRow m rx n fs (ry + k)) wr hpt (by rw [hcl]; omega)
        rwa [hcl, Nat.zero_add] at this
      clear hgk hvk hgk0 hcl hrl
      obtain ⟨d0, d1, d2, d3⟩ := cells4 (carry HR5.out hb)
      have f6 : ((rx + n : Nat) : Int) ≤ (capk : Int) := by omega
      have hrr : rx + n - rx = n := by omega
      go_wp2_with (first
        | (go_at_call 29; refine (HMD.out _).mono ?_; rintro e Y2 ⟨v2, g2, rfl, hg2, hr2, b2⟩
           have HR2 : Hid (RowB Y2 g2 v2 (mendL (cutRow m rx n fs (ry + k)))) := hr2
           obtain ⟨capr, _, rfl, _⟩ := hr2
           have hown2 : Y2.ownsRow W5.heap.size 22 1 _ k vs := ownsRow_below HO.out b2)
        | (at_builtin; refine wpList_append_own _ rfl _ _ 55 rfl W5.heap.size 22 i0 (.slice none 0 0) 1 24 und_rows hi hz0 hz1 hz2 rfl (by decide) _ _ _ rfl (hown2.alloc _) ⟨Y2.heap.size, 0, none⟩ 1 1 [.slice (some ⟨g2, 0, none⟩) (mendL (cutRow m rx n fs (ry + k))).length capr] rfl rfl (cell_one_new _ _ _) (by intro u hu; simp at hu; rw [hu]; rfl) (by unfold maxLen; omega) (by omega) (by have := hb.size; have := b2.size; simp; omega) ?_
           intro v3 Y3 hown3 hgrow hnil))
      have kZ : Below Y2.heap.size Y2 (Y2.alloc (.cells #[.slice (some ⟨g2, 0, none⟩) (mendL (cutRow m rx n fs (ry + k))).length capr] 22)) := (Below.refl _ _).alloc (Nat.le_refl _) _
      have hfrom := own_from HO.out
      have kb2 := hb.trans (b2.mono hb.size)
      have hN2 := b2.size
      go_roundg (hh - (k + 1))
      case measure => omega
      case rel =>
        refine ⟨k + 1, vs ++ [.slice (some ⟨g2, 0, none⟩) (mendL (cutRow m rx n fs (ry + k))).length capr], gs ++ [g2], rfl, by omega, by omega, hown3, ?_, ?_⟩
        · rw [partRows_succ]
          refine ((((HRS.out.below b2).below kZ).grown (hown2.alloc _) hgrow)).snoc g2 _ _ (by have := hb.size; omega) ((HR2.out.below kZ).grown (hown2.alloc _) hgrow) (fun i hi => ?_)
          have := HRS.out.lt i hi
          omega
        · exact (kb2.alloc kb2.size _).grown hgrow (by have := hb.size; simp; omega) (fun q hq => hfrom q hq)
    · have lt1 : ¬ ((k : Int) < (hh : Int)) := by omega
      have hkh : k = hh := by omega
      subst hkh
      have hvl2 : vs.length = k := by rw [HRS.out.1, partRows_len]
      have ho2 := HO.out
      rw [← hvl2] at ho2
      obtain ⟨G2, cap2, rest2, rfl, hGb2, hlc2, hcm2, hGh2⟩ := out_of_own ho2 (by omega)
      rw [hvl2] at hlc2
      have e2v : vs.length = k := hvl2
      simp only [e2v]
      clear e2v ho2
      have HKR : Hid (Below w.heap.size w wr) := HK5.out.trans (hb.mono HK5.out.size)
      have HGO : Hid (∀ W, Below wr.heap.size wr W → Calls Tryd.prog 30 #[.slice (some ⟨G2, 0, none⟩) k cap2] W fun e w' => ∃ v, e = .returned (.agg #[.int .i64 (n : Int), .int .i64 (k : Int), v]) ∧ OwnG w' W.heap.size v res ∧ Below W.heap.size W w') := fun W kw => by
        have := gridOf_any n k G2 cap2 W5.heap.size vs rest2 gs (partRows m rx ry n fs k) W hn (by omega) hh1 (by omega) (carry hGh2 kw) (HRS.out.below kw) (partRows_len m rx ry n fs k) (partRows_at m p rx ry n k fs HLL.out hxn hyh)
        rwa [← HRL.out] at this
      have gs8 := carry gs7 hb
      have os8 := carry os7 hb
      have zs8 := carry zs7 hb
      have soxs8 := soxs7.below hb
      have sozs8 := sozs7.below hb
      have ks8 := ks7.trans (hb.mono ks7.size)
      obtain ⟨cow0, cow1, cow2, _⟩ := cells3 os8
      have HXX : Hid (SliceAt wr (.slice (some ⟨gf, 0, none⟩) res.length cf) res) := soxs8
      clear HO HRS hGh2
      go_wp2_with fail
      have kdr : Below wr.heap.size wr wr.drew := (Below.refl _ _).drew
      have HKNr : Hid (Below w.heap.size w wr) := ks8
      have HNXr : Hid (∀ W W', Below W.heap.size W W' → (fun W => Below wr.heap.size wr W ∧ (W.cell? ⟨W1.heap.size, 0, none⟩ = some (.int .i64 (n : Int)) ∧ W.cell? ⟨W1.heap.size, 1, none⟩ = some (.int .i64 (k : Int)) ∧ W.cell? ⟨W1.heap.size, 2, none⟩ = some (.slice (some ⟨gf, 0, none⟩) res.length cf))) W → (fun W => Below wr.heap.size wr W ∧ (W.cell? ⟨W1.heap.size, 0, none⟩ = some (.int .i64 (n : Int)) ∧ W.cell? ⟨W1.heap.size, 1, none⟩ = some (.int .i64 (k : Int)) ∧ W.cell? ⟨W1.heap.size, 2, none⟩ = some (.slice (some ⟨gf, 0, none⟩) res.length cf))) W') := by
        rintro W W' hb ⟨k0, ⟨oq0, oq1, oq2⟩⟩
        exact ⟨k0.trans (hb.mono k0.size), ⟨cell_keep hb oq0, cell_keep hb oq1, cell_keep hb oq2⟩⟩
      have HST0r : Hid ((fun W => Below wr.heap.size wr W ∧ (W.cell? ⟨W1.heap.size, 0, none⟩ = some (.int .i64 (n : Int)) ∧ W.cell? ⟨W1.heap.size, 1, none⟩ = some (.int .i64 (k : Int)) ∧ W.cell? ⟨W1.heap.size, 2, none⟩ = some (.slice (some ⟨gf, 0, none⟩) res.length cf))) wr.drew) := ⟨kdr, ⟨cow0, cow1, cow2⟩⟩
      go_region_held3 (fun W => Below wr.heap.size wr W ∧ (W.cell? ⟨W1.heap.size, 0, none⟩ = some (.int .i64 (n : Int)) ∧ W.cell? ⟨W1.heap.size, 1, none⟩ = some (.int .i64 (k : Int)) ∧ W.cell? ⟨W1.heap.size, 2, none⟩ = some (.slice (some ⟨gf, 0, none⟩) res.length cf)))
        (first
          | (exact HNXr.out _ _ d2 (by assumption))
          | (exact HNXr.out _ _ d1 (by assumption))
          | (exact HST0r.out))
        (first
          | (go_at_call 30; refine (HGO.out _ kdr).mono ?_; rintro e Y1 ⟨v1, rfl, o1, d1⟩; have k1 := kdr.trans (d1.mono kdr.size))
          | (go_at_call 15; refine (same_any n k _ v1 res _ (HXX.out.below k1) o1.slice HXL.out).mono ?_; rintro e Y2 ⟨rfl, d2⟩; have k2 := k1.trans (d2.mono k1.size)))
      have gs9 := carry gs8 k2
      have zs9 := carry zs8 k2
      have soxs9 := soxs8.below k2
      have sozs9 := sozs8.below k2
      have ks9 := ks8.trans (k2.mono ks8.size)
      clear cow0 cow1 cow2
      go_wp2_with fail
      refine (HSZ.out _).mono ?_
      rintro e W6 ⟨rfl, h6⟩
      have gs10 := carry gs9 (below_same h6)
      have zs10 := carry zs9 (below_same h6)
      have soxs10 := soxs9.below (below_same h6)
      have sozs10 := sozs9.below (below_same h6)
      have ks10 := ks9.trans ((below_same h6).mono ks9.size)
      obtain ⟨cgs100, cgs101, cgs102, _⟩ := cells3 gs10
      obtain ⟨czs100, czs101, czs102, _⟩ := cells3 zs10
      have HZZ : Hid (SliceAt W6 (.slice (some ⟨gz, 0, none⟩) rez.length cz) rez) := sozs10
      go_wp2_with fail
      have kd6 : Below W6.heap.size W6 W6.drew := (Below.refl _ _).drew
      have HKN6 : Hid (Below w.heap.size w W6) := ks10
      have HNX6 : Hid (∀ W W', Below W.heap.size W W' → (fun W => Below W6.heap.size W6 W ∧ (W.cell? ⟨w.heap.size, 0, none⟩ = some (.int .i64 (m : Int)) ∧ W.cell? ⟨w.heap.size, 1, none⟩ = some (.int .i64 (p : Int)) ∧ W.cell? ⟨w.heap.size, 2, none⟩ = some (.slice (some ⟨b, o, none⟩) fs.length cx)) ∧ (W.cell? ⟨W2.heap.size, 0, none⟩ = some (.int .i64 (q : Int)) ∧ W.cell? ⟨W2.heap.size, 1, none⟩ = some (.int .i64 (s : Int)) ∧ W.cell? ⟨W2.heap.size, 2, none⟩ = some (.slice (some ⟨gz, 0, none⟩) rez.length cz))) W → (fun W => Below W6.heap.size W6 W ∧ (W.cell? ⟨w.heap.size, 0, none⟩ = some (.int .i64 (m : Int)) ∧ W.cell? ⟨w.heap.size, 1, none⟩ = some (.int .i64 (p : Int)) ∧ W.cell? ⟨w.heap.size, 2, none⟩ = some (.slice (some ⟨b, o, none⟩) fs.length cx)) ∧ (W.cell? ⟨W2.heap.size, 0, none⟩ = some (.int .i64 (q : Int)) ∧ W.cell? ⟨W2.heap.size, 1, none⟩ = some (.int .i64 (s : Int)) ∧ W.cell? ⟨W2.heap.size, 2, none⟩ = some (.slice (some ⟨gz, 0, none⟩) rez.length cz))) W') := by
        rintro W W' hb ⟨k0, ⟨gq0, gq1, gq2⟩, ⟨zq0, zq1, zq2⟩⟩
        exact ⟨k0.trans (hb.mono k0.size), ⟨cell_keep hb gq0, cell_keep hb gq1, cell_keep hb gq2⟩, ⟨cell_keep hb zq0, cell_keep hb zq1, cell_keep hb zq2⟩⟩
      have HST06 : Hid ((fun W => Below W6.heap.size W6 W ∧ (W.cell? ⟨w.heap.size, 0, none⟩ = some (.int .i64 (m : Int)) ∧ W.cell? ⟨w.heap.size, 1, none⟩ = some (.int .i64 (p : Int)) ∧ W.cell? ⟨w.heap.size, 2, none⟩ = some (.slice (some ⟨b, o, none⟩) fs.length cx)) ∧ (W.cell? ⟨W2.heap.size, 0, none⟩ = some (.int .i64 (q : Int)) ∧ W.cell? ⟨W2.heap.size, 1, none⟩ = some (.int .i64 (s : Int)) ∧ W.cell? ⟨W2.heap.size, 2, none⟩ = some (.slice (some ⟨gz, 0, none⟩) rez.length cz))) W6.drew) := ⟨kd6, ⟨cgs100, cgs101, cgs102⟩, ⟨czs100, czs101, czs102⟩⟩
      go_region_held3 (fun W => Below W6.heap.size W6 W ∧ (W.cell? ⟨w.heap.size, 0, none⟩ = some (.int .i64 (m : Int)) ∧ W.cell? ⟨w.heap.size, 1, none⟩ = some (.int .i64 (p : Int)) ∧ W.cell? ⟨w.heap.size, 2, none⟩ = some (.slice (some ⟨b, o, none⟩) fs.length cx)) ∧ (W.cell? ⟨W2.heap.size, 0, none⟩ = some (.int .i64 (q : Int)) ∧ W.cell? ⟨W2.heap.size, 1, none⟩ = some (.int .i64 (s : Int)) ∧ W.cell? ⟨W2.heap.size, 2, none⟩ = some (.slice (some ⟨gz, 0, none⟩) rez.length cz)))
        (first
          | (exact HNX6.out _ _ b10 (by assumption))
          | (exact HNX6.out _ _ b9 (by assumption))
          | (exact HNX6.out _ _ b8 (by assumption))
          | (exact HST06.out))
        (first
          | (go_at_call 16; refine (HNG.out _).mono ?_; rintro e W8 ⟨v8, rfl, o8, b8⟩; have k8 := kd6.trans (b8.mono kd6.size))
          | (go_at_call 25; refine (HLG.out _ v8 (HKN6.out.trans (k8.mono HKN6.out.size)) o8.slice).mono ?_; rintro e W9 ⟨v9, rfl, o9, b9⟩; have k9 := k8.trans (b9.mono k8.size))
          | (go_at_call 15; refine (same_any q s _ v9 rez _ (HZZ.out.below k9) o9.slice HZL.out).mono ?_; rintro e W10 ⟨rfl, b10⟩; have k10 := k9.trans (b10.mono k9.size)))
      go_wp2_with fail
      go_ret
      exact ⟨rfl, HKN6.out.trans (k10.mono HKN6.out.size)⟩
theorem gridPart_walk (a h : Int) (v : Value) (cs : List C) (rx ry rw rh pw ph : Int) (w : World) (hT : Txt.Tab w) (hS : SliceAt w v cs) (hx0 : -9223372036854775808 ≤ rx) (hx1 : rx ≤ 9223372036854775807) (hy0 : -9223372036854775808 ≤ ry) (hy1 : ry ≤ 9223372036854775807) :
    Calls Tryd.prog 7 #[.agg #[.int .i64 a, .int .i64 h, v], .agg #[.int .i64 rx, .int .i64 ry, .int .i64 rw, .int .i64 rh], .int .i64 pw, .int .i64 ph] w fun e w' => e = .returned (.bool true) ∧ Below w.heap.size w w' := by
  by_cases hok : gridErr a h cs = 0
  · obtain ⟨m, p, rfl, rfl⟩ := size_of_ok a h cs hok
    obtain ⟨b, o, c, rfl, h1, h2, h3⟩ := hS.open (pos_of_ok m p cs hok).1
    cases hold : holdsI m p rx ry rw rh with
    | false =>
      cases hs : isSize pw ph with
      | false => exact gridPart_ff m p b o c cs rx ry rw rh pw ph w hT h3 h1 h2 hok hx0 hx1 hy0 hy1 hold hs
      | true =>
        have ⟨_, _, p2, _, p4, _⟩ := prod_in pw ph hs
        obtain ⟨q, rfl⟩ := Int.eq_ofNat_of_zero_le (show 0 ≤ pw by omega)
        obtain ⟨s, rfl⟩ := Int.eq_ofNat_of_zero_le (show 0 ≤ ph by omega)
        exact gridPart_ft m p b o c cs rx ry rw rh q s w hT h3 h1 h2 hok hx0 hx1 hy0 hy1 hold hs
    | true =>
      unfold holdsI at hold
      rw [decide_eq_true_eq] at hold
      obtain ⟨rx, rfl⟩ := Int.eq_ofNat_of_zero_le (show 0 ≤ rx by omega)
      obtain ⟨ry, rfl⟩ := Int.eq_ofNat_of_zero_le (show 0 ≤ ry by omega)
      obtain ⟨n, rfl⟩ := Int.eq_ofNat_of_zero_le (show 0 ≤ rw by omega)
      obtain ⟨hh, rfl⟩ := Int.eq_ofNat_of_zero_le (show 0 ≤ rh by omega)
      cases hs : isSize pw ph with
      | false => exact gridPart_tf m p b o c cs rx ry n hh pw ph w hT h3 h1 h2 hok (by omega) (by omega) (by omega) (by omega) hs
      | true =>
        have ⟨_, _, p2, _, p4, _⟩ := prod_in pw ph hs
        obtain ⟨q, rfl⟩ := Int.eq_ofNat_of_zero_le (show 0 ≤ pw by omega)
        obtain ⟨s, rfl⟩ := Int.eq_ofNat_of_zero_le (show 0 ≤ ph by omega)
        exact gridPart_tt m p b o c cs rx ry n hh q s w hT h3 h1 h2 hok (by omega) (by omega) (by omega) (by omega) hs
  · exact gridPart_bad a h v cs rx ry rw rh pw ph w hT hS hok
end Grd
end Go.Proofs.YtinhmklpnkikgaaDoor

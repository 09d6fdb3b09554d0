/- The walk of the law GridPart. -/
import Derived.Test.YtknpolbnoppofaaDoorGridPartM
import Derived.Test.YtknpolbnoppofaaDoorGridSame
import Derived.Test.YtknpolbnoppofaaDoorGridRefTo
import Derived.Test.YtknpolbnoppofaaDoorGridRefLay
import Derived.Test.YtknpolbnoppofaaDoorGridded2
import Derived.Deep.RegionHeld3
import Derived.Deep.CutRange
namespace Go.Proofs.YtknpolbnoppofaaDoor
open Go.ChangeShapes Go.WideShapes Go.ChangeAt Go.RowKit Go.Maps
namespace Grd
set_option maxHeartbeats 4000000 in
set_option maxRecDepth 100000 in
theorem gridPart_bad (a h : Int) (v : Value) (cs : List C) (rx ry rw rh pw ph : Int) (w : World) (hT : Txt.Tab w) (hS : SliceAt w v cs) (hok : gridErr a h cs ≠ 0) :
    Calls Tryd.prog 4 #[.agg #[.int .i64 a, .int .i64 h, v], .agg #[.int .i64 rx, .int .i64 ry, .int .i64 rw, .int .i64 rh], .int .i64 pw, .int .i64 ph] w fun e w' => e = .returned (.bool true) ∧ Below w.heap.size w w' := by
  have HT : Hid (∀ W, Below w.heap.size w W → Txt.Tab W) := fun W k => Tab.next hT k
  have HS : Hid (∀ W, Below w.heap.size w W → SliceAt W v cs) := fun W k => hS.below k
  obtain ⟨x0, x1, kk, hsz⟩ := alloc2' w (.cells #[.int .i64 a, .int .i64 h, v] 24) (.cells #[.int .i64 rx, .int .i64 ry, .int .i64 rw, .int .i64 rh] 36)
  obtain ⟨er, her⟩ : ∃ q, gridErr a h cs = q := ⟨_, rfl⟩
  have HER : Hid (gridErr a h cs = er) := her
  have HPT : Hid (∀ W, Below w.heap.size w W → Calls Tryd.prog 12 #[.agg #[.int .i64 a, .int .i64 h, v], .agg #[.int .i64 rx, .int .i64 ry, .int .i64 rw, .int .i64 rh]] W fun e w' => e = .returned (.tuple #[.agg #[.int .i64 0, .int .i64 0, .slice none 0 0], .int .i64 er]) ∧ Below W.heap.size W w') := fun W k => by
    have := part_bad1 a h v cs rx ry rw rh W (Tab.next hT k) (hS.below k) hok
    rwa [her] at this
  have HRZ : Hid (∀ W, Below w.heap.size w W → Calls Tryd.prog 13 #[.agg #[.int .i64 a, .int .i64 h, v], .int .i64 pw, .int .i64 ph] W fun e w' => e = .returned (.tuple #[.agg #[.int .i64 0, .int .i64 0, .slice none 0 0], .int .i64 er]) ∧ Below W.heap.size W w') := fun W k => by
    have := resize_bad1 a h v cs pw ph W (Tab.next hT k) (hS.below k) hok
    rwa [her] at this
  have ne : (er != 0) = true := by rw [← her]; simpa using hok
  have nee : (er == er) = true := by simp
  clear hok her hT hS
  generalize hW0 : ((w.alloc (.cells #[.int .i64 a, .int .i64 h, v] 24)).alloc (.cells #[.int .i64 rx, .int .i64 ry, .int .i64 rw, .int .i64 rh] 36)) = W0 at x0 x1 kk hsz
  have HW0 : Hid (_ = W0) := hW0
  clear hW0
  go_enter Tryd.func4, Tryd.ntmps4
  go_wp2_with fail
  rw [HW0.out]
  refine (HPT.out _ kk).mono ?_
  rintro e W1 ⟨rfl, b1⟩
  have gs1 := carry x0 b1
  have ks1 := kk.trans (b1.mono kk.size)
  go_wp2_with (refine wpList_store_row rfl 24 (.tmp 9) _ rfl W1.heap.size #[.int .i64 0, .int .i64 0, .slice none 0 0] rfl rfl _ _ (heap_alloc_new W1 _) (by kernel_rfl) rfl (one3v _ _ _ _ _) ?_
               obtain ⟨mX1, aX1⟩ := var_new W1 24 #[.int .i64 0, .int .i64 0, .slice none 0 0] #[.int .i64 0, .int .i64 0, .slice none 0 0]
               generalize ((W1.alloc (.cells #[.int .i64 0, .int .i64 0, .slice none 0 0] 24)).setRow W1.heap.size #[.int .i64 0, .int .i64 0, .slice none 0 0]) = X1 at *
               have gs2 := carry gs1 aX1
               have ks2 := ks1.trans (aX1.mono ks1.size)
               obtain ⟨cgX10, cgX11, cgX12, _⟩ := cells3 gs2)
  refine (HRZ.out _ ks2).mono ?_
  rintro e W2 ⟨rfl, b2⟩
  have gs3 := carry gs2 b2
  have os3 := carry mX1 b2
  have ks3 := ks2.trans (b2.mono ks2.size)
  clear cgX10 cgX11 cgX12
  go_wp2_with (refine wpList_store_row rfl 24 (.tmp 11) _ rfl W2.heap.size #[.int .i64 0, .int .i64 0, .slice none 0 0] rfl rfl _ _ (heap_alloc_new W2 _) (by kernel_rfl) rfl (one3v _ _ _ _ _) ?_
               obtain ⟨mX2, aX2⟩ := var_new W2 24 #[.int .i64 0, .int .i64 0, .slice none 0 0] #[.int .i64 0, .int .i64 0, .slice none 0 0]
               generalize ((W2.alloc (.cells #[.int .i64 0, .int .i64 0, .slice none 0 0] 24)).setRow W2.heap.size #[.int .i64 0, .int .i64 0, .slice none 0 0]) = X2 at *
               have gs4 := carry gs3 aX2
               have os4 := carry os3 aX2
               have ks4 := ks3.trans (aX2.mono ks3.size)
               obtain ⟨cgX20, cgX21, cgX22, _⟩ := cells3 gs4)
  refine (ref_to a h v cs _ HER.out _ (HS.out _ ks4)).mono ?_
  rintro e W3 ⟨rfl, b3⟩
  have os5 := carry os4 b3
  have zs5 := carry mX2 b3
  have ks5 := ks4.trans (b3.mono ks4.size)
  clear cgX20 cgX21 cgX22
  go_wp2_with fail
  refine (gridded_any _ (HT.out _ ks5)).mono ?_
  rintro e W4 ⟨rfl, b4⟩
  have os6 := carry os5 b4
  have zs6 := carry zs5 b4
  have ks6 := ks5.trans (b4.mono ks5.size)
  go_wp2_with fail
  refine (gridded_any _ (HT.out _ ks6)).mono ?_
  rintro e W5 ⟨rfl, b5⟩
  have os7 := carry os6 b5
  have zs7 := carry zs6 b5
  have ks7 := ks6.trans (b5.mono ks6.size)
  obtain ⟨cos70, cos71, cos72, _⟩ := cells3 os7
  obtain ⟨czs70, czs71, czs72, _⟩ := cells3 zs7
  go_wp2_with fail
  refine (noGrid_none _).mono ?_
  rintro e W6 ⟨rfl, b6⟩
  have zs8 := carry zs7 b6
  have ks8 := ks7.trans (b6.mono ks7.size)
  clear cos70 cos71 cos72 czs70 czs71 czs72
  obtain ⟨czs80, czs81, czs82, _⟩ := cells3 zs8
  go_wp2_with fail
  refine (noGrid_none _).mono ?_
  rintro e W7 ⟨rfl, b7⟩
  have ks9 := ks8.trans (b7.mono ks8.size)
  clear czs80 czs81 czs82
  go_wp2_with fail
  go_ret
  exact ⟨rfl, ks9⟩
theorem rows_out (m p b o cx : Nat) (fs : List C) (w : World) (hC : CellsAt w b o fs) (hs : isSize m p = true) (hL : fs.length = m * p) (hc : fs.length ≤ cx) (hp : 1 ≤ p) :
    Calls Tryd.prog 14 #[.agg #[.int .i64 (m : Int), .int .i64 (p : Int), .slice (some ⟨b, o, none⟩) fs.length cx]] w fun e w' => ∃ (G cap : Nat) (rest vs : List Value) (gs : List Nat), e = .returned (.slice (some ⟨G, 0, none⟩) p cap) ∧ w'.heap[G]? = some (.cells (vs ++ rest).toArray 22 (0, 0)) ∧ p ≤ cap ∧ cap ≤ 9223372036854775807 ∧ vs.length = p ∧ RowsAt w' w.heap.size vs gs (rowsL m fs p) ∧ Below w.heap.size w w' := by
  refine (rows_any m p b o cx fs w hC hs hL hc).mono ?_
  rintro e w' ⟨v, vs, gs, rfl, ho, hr, hb⟩
  have hvl : vs.length = p := by rw [hr.1, rowsL_len]
  rw [← hvl] at ho
  obtain ⟨G, cap, rest, rfl, hGb, hlc, hcm, hGh⟩ := out_of_own ho (by omega)
  rw [hvl] at hlc
  exact ⟨G, cap, rest, vs, gs, by rw [hvl], hGh, hlc, hcm, hvl, hr, hb⟩
theorem below_same {w w' : World} (h : w = w') : Below w.heap.size w w' := h ▸ Below.refl _ _
set_option maxHeartbeats 8000000 in
set_option maxRecDepth 100000 in
theorem gridPart_ff (m p b o cx : Nat) (fs : List C) (rx ry rw rh : Int) (pw ph : Int) (w : World) (hT : Txt.Tab w) (hC : CellsAt w b o fs) (hc : fs.length ≤ cx) (hm : cx ≤ 9223372036854775807) (hok : gridErr m p fs = 0) (hx0 : -9223372036854775808 ≤ rx) (hx1 : rx ≤ 9223372036854775807) (hy0 : -9223372036854775808 ≤ ry) (hy1 : ry ≤ 9223372036854775807) (hold : holdsI m p rx ry rw rh = false) (hs : isSize pw ph = false) :
    Calls Tryd.prog 4 #[.agg #[.int .i64 (m : Int), .int .i64 (p : Int), .slice (some ⟨b, o, none⟩) fs.length cx], .agg #[.int .i64 rx, .int .i64 ry, .int .i64 rw, .int .i64 rh], .int .i64 pw, .int .i64 ph] w fun e w' => e = .returned (.bool true) ∧ Below w.heap.size w w' := by
  obtain ⟨hL, q1, q2, q3, q4, hl7, hne⟩ := okRange m p fs hok
  obtain ⟨hsize, -, -⟩ := (gridErr_zero m p fs).1 hok
  have hS : SliceAt w (.slice (some ⟨b, o, none⟩) fs.length cx) fs := .inr ⟨hne, b, o, cx, rfl, hc, hm, hC⟩
  have HT : Hid (∀ W, Below w.heap.size w W → Txt.Tab W) := fun W k => Tab.next hT k
  have HS : Hid (∀ W, Below w.heap.size w W → SliceAt W (.slice (some ⟨b, o, none⟩) fs.length cx) fs) := fun W k => hS.below k
  obtain ⟨x0, x1, kk, hsz⟩ := alloc2' w (.cells #[.int .i64 (m : Int), .int .i64 (p : Int), .slice (some ⟨b, o, none⟩) fs.length cx] 24) (.cells #[.int .i64 rx, .int .i64 ry, .int .i64 rw, .int .i64 rh] 36)
  have HER : Hid (gridErr m p fs = 0) := hok
  have HPT : Hid (∀ W, Below w.heap.size w W → Calls Tryd.prog 12 #[.agg #[.int .i64 (m : Int), .int .i64 (p : Int), .slice (some ⟨b, o, none⟩) fs.length cx], .agg #[.int .i64 rx, .int .i64 ry, .int .i64 rw, .int .i64 rh]] W fun e w' => e = .returned (.tuple #[.agg #[.int .i64 0, .int .i64 0, .slice none 0 0], .int .i64 4]) ∧ Below W.heap.size W w') := fun W k => part_bad2 m p _ fs rx ry rw rh W (Tab.next hT k) (hS.below k) hok hx0 hx1 hy0 hy1 hold
  have HRZ : Hid (∀ W, Below w.heap.size w W → Calls Tryd.prog 13 #[.agg #[.int .i64 (m : Int), .int .i64 (p : Int), .slice (some ⟨b, o, none⟩) fs.length cx], .int .i64 pw, .int .i64 ph] W fun e w' => e = .returned (.tuple #[.agg #[.int .i64 0, .int .i64 0, .slice none 0 0], .int .i64 3]) ∧ Below W.heap.size W w') := fun W k => resize_bad2 m p _ fs pw ph W (Tab.next hT k) (hS.below k) hok hs
  have HSZ : Hid (∀ W, Calls Tryd.prog 17 #[.int .i64 pw, .int .i64 ph] W fun e w' => e = .returned (.bool false) ∧ W = w') := fun W => by
    have := size_any pw ph W
    rwa [hs] at this
  clear hok hT hS hC hL hsize hs hm hne
  generalize hW0 : ((w.alloc (.cells #[.int .i64 (m : Int), .int .i64 (p : Int), .slice (some ⟨b, o, none⟩) fs.length cx] 24)).alloc (.cells #[.int .i64 rx, .int .i64 ry, .int .i64 rw, .int .i64 rh] 36)) = W0 at x0 x1 kk hsz
  have HW0 : Hid (_ = W0) := hW0
  clear hW0
  go_enter Tryd.func4, Tryd.ntmps4
  go_wp2_with fail
  rw [HW0.out]
  refine (HPT.out _ kk).mono ?_
  rintro e W1 ⟨rfl, b1⟩
  have gs1 := carry x0 b1
  have rs1 := carry x1 b1
  have ks1 := kk.trans (b1.mono kk.size)
  go_wp2_with (refine wpList_store_row rfl 24 (.tmp 9) _ rfl W1.heap.size #[.int .i64 0, .int .i64 0, .slice none 0 0] rfl rfl _ _ (heap_alloc_new W1 _) (by kernel_rfl) rfl (one3v _ _ _ _ _) ?_
               obtain ⟨mX1, aX1⟩ := var_new W1 24 #[.int .i64 0, .int .i64 0, .slice none 0 0] #[.int .i64 0, .int .i64 0, .slice none 0 0]
               generalize ((W1.alloc (.cells #[.int .i64 0, .int .i64 0, .slice none 0 0] 24)).setRow W1.heap.size #[.int .i64 0, .int .i64 0, .slice none 0 0]) = X1 at *
               have gs2 := carry gs1 aX1
               have rs2 := carry rs1 aX1
               have ks2 := ks1.trans (aX1.mono ks1.size)
               obtain ⟨cgX10, cgX11, cgX12, _⟩ := cells3 gs2)
  refine (HRZ.out _ ks2).mono ?_
  rintro e W2 ⟨rfl, b2⟩
  have gs3 := carry gs2 b2
  have rs3 := carry rs2 b2
  have os3 := carry mX1 b2
  have ks3 := ks2.trans (b2.mono ks2.size)
  clear cgX10 cgX11 cgX12
  go_wp2_with (refine wpList_store_row rfl 24 (.tmp 11) _ rfl W2.heap.size #[.int .i64 0, .int .i64 0, .slice none 0 0] rfl rfl _ _ (heap_alloc_new W2 _) (by kernel_rfl) rfl (one3v _ _ _ _ _) ?_
               obtain ⟨mX2, aX2⟩ := var_new W2 24 #[.int .i64 0, .int .i64 0, .slice none 0 0] #[.int .i64 0, .int .i64 0, .slice none 0 0]
               generalize ((W2.alloc (.cells #[.int .i64 0, .int .i64 0, .slice none 0 0] 24)).setRow W2.heap.size #[.int .i64 0, .int .i64 0, .slice none 0 0]) = X2 at *
               have gs4 := carry gs3 aX2
               have rs4 := carry rs3 aX2
               have os4 := carry os3 aX2
               have ks4 := ks3.trans (aX2.mono ks3.size)
               obtain ⟨cgX20, cgX21, cgX22, _⟩ := cells3 gs4)
  refine (ref_to m p _ fs _ HER.out _ (HS.out _ ks4)).mono ?_
  rintro e W3 ⟨rfl, b3⟩
  have gs5 := carry gs4 b3
  have rs5 := carry rs4 b3
  have os5 := carry os4 b3
  have zs5 := carry mX2 b3
  have ks5 := ks4.trans (b3.mono ks4.size)
  clear cgX20 cgX21 cgX22
  go_wp2_with fail
  refine (gridded_any _ (HT.out _ ks5)).mono ?_
  rintro e W4 ⟨rfl, b4⟩
  have gs6 := carry gs5 b4
  have rs6 := carry rs5 b4
  have os6 := carry os5 b4
  have zs6 := carry zs5 b4
  have ks6 := ks5.trans (b4.mono ks5.size)
  obtain ⟨cgs60, cgs61, cgs62, _⟩ := cells3 gs6
  obtain ⟨crs60, crs61, crs62, crs63⟩ := cells4 rs6
  have hbad : rx < 0 ∨ ry < 0 ∨ rw < 1 ∨ rh < 1 ∨ (m : Int) - rx < rw ∨ (p : Int) - ry < rh := by
    unfold holdsI at hold; rw [decide_eq_false_iff_not] at hold; omega
  clear hold
  go_upto_region 6 with fail
  go_cut [108] from 57 to 108 (fun c wx => c = .bool true ∧ wx = W4)
  case first =>
    by_cases i0 : rx < 0
    · go_wp2_with fail
      go_meet
      case rel => exact ⟨rfl, rfl⟩
    have j0 : decide (rx < 0) = false := by rw [decide_eq_false_iff_not]; exact i0
    by_cases i1 : ry < 0
    · go_wp2_with fail
      go_meet
      case rel => exact ⟨rfl, rfl⟩
    have j1 : decide (ry < 0) = false := by rw [decide_eq_false_iff_not]; exact i1
    by_cases i2 : rw < 1
    · go_wp2_with fail
      go_meet
      case rel => exact ⟨rfl, rfl⟩
    have j2 : decide (rw < 1) = false := by rw [decide_eq_false_iff_not]; exact i2
    by_cases i3 : rh < 1
    · go_wp2_with fail
      go_meet
      case rel => exact ⟨rfl, rfl⟩
    have j3 : decide (rh < 1) = false := by rw [decide_eq_false_iff_not]; exact i3
    by_cases i4 : (m : Int) ≤ rx
    · go_wp2_with fail
      go_meet
      case rel => exact ⟨rfl, rfl⟩
    have j4 : decide ((m : Int) ≤ rx) = false := by rw [decide_eq_false_iff_not]; exact i4
    by_cases i5 : (p : Int) ≤ ry
    · go_wp2_with fail
      go_meet
      case rel => exact ⟨rfl, rfl⟩
    have j5 : decide ((p : Int) ≤ ry) = false := by rw [decide_eq_false_iff_not]; exact i5
    by_cases i6 : (m : Int) - rx < rw
    · go_wp2_with fail
      go_meet
      case rel => exact ⟨rfl, rfl⟩
    have j6 : decide ((m : Int) - rx < rw) = false := by rw [decide_eq_false_iff_not]; exact i6
    have i7 : (p : Int) - ry < rh := by omega
    have j7 : decide ((p : Int) - ry < rh) = true := by rw [decide_eq_true_eq]; exact i7
    go_wp2_with fail
    go_meet
    case rel => exact ⟨rfl, rfl⟩
  case rest =>
    obtain ⟨rfl, hwc⟩ := hcut
    rw [hwc]
    clear hwc
    obtain ⟨coy0, coy1, coy2, _⟩ := cells3 os6
    go_wp2_with fail
    refine (noGrid_none _).mono ?_
    rintro e W5 ⟨rfl, b5⟩
    have gs7 := carry gs6 b5
    have zs7 := carry zs6 b5
    have ks7 := ks6.trans (b5.mono ks6.size)
    clear cgs60 cgs61 cgs62 crs60 crs61 crs62 crs63 coy0 coy1 coy2
    go_wp2_with fail
    refine (HSZ.out _).mono ?_
    rintro e W6 ⟨rfl, h6⟩
    have gs8 := carry gs7 (below_same h6)
    have zs8 := carry zs7 (below_same h6)
    have ks8 := ks7.trans ((below_same h6).mono ks7.size)
    obtain ⟨cgs80, cgs81, cgs82, _⟩ := cells3 gs8
    obtain ⟨czs80, czs81, czs82, _⟩ := cells3 zs8
    go_wp2_with fail
    refine (noGrid_none _).mono ?_
    rintro e W7 ⟨rfl, b7⟩
    have ks9 := ks8.trans (b7.mono ks8.size)
    clear cgs80 cgs81 cgs82 czs80 czs81 czs82
    go_wp2_with fail
    go_ret
    exact ⟨rfl, ks9⟩
set_option maxHeartbeats 8000000 in
set_option maxRecDepth 100000 in
theorem gridPart_ft (m p b o cx : Nat) (fs : List C) (rx ry rw rh : Int) (q s : Nat) (w : World) (hT : Txt.Tab w) (hC : CellsAt w b o fs) (hc : fs.length ≤ cx) (hm : cx ≤ 9223372036854775807) (hok : gridErr m p fs = 0) (hx0 : -9223372036854775808 ≤ rx) (hx1 : rx ≤ 9223372036854775807) (hy0 : -9223372036854775808 ≤ ry) (hy1 : ry ≤ 9223372036854775807) (hold : holdsI m p rx ry rw rh = false) (hs : isSize q s = true) :
    Calls Tryd.prog 4 #[.agg #[.int .i64 (m : Int), .int .i64 (p : Int), .slice (some ⟨b, o, none⟩) fs.length cx], .agg #[.int .i64 rx, .int .i64 ry, .int .i64 rw, .int .i64 rh], .int .i64 (q : Int), .int .i64 (s : Int)] w fun e w' => e = .returned (.bool true) ∧ Below w.heap.size w w' := by
  obtain ⟨hL, q1, q2, q3, q4, hl7, hne⟩ := okRange m p fs hok
  obtain ⟨hsize, -, -⟩ := (gridErr_zero m p fs).1 hok
  have hS : SliceAt w (.slice (some ⟨b, o, none⟩) fs.length cx) fs := .inr ⟨hne, b, o, cx, rfl, hc, hm, hC⟩
  have HT : Hid (∀ W, Below w.heap.size w W → Txt.Tab W) := fun W k => Tab.next hT k
  have HS : Hid (∀ W, Below w.heap.size w W → SliceAt W (.slice (some ⟨b, o, none⟩) fs.length cx) fs) := fun W k => hS.below k
  obtain ⟨x0, x1, kk, hsz⟩ := alloc2' w (.cells #[.int .i64 (m : Int), .int .i64 (p : Int), .slice (some ⟨b, o, none⟩) fs.length cx] 24) (.cells #[.int .i64 rx, .int .i64 ry, .int .i64 rw, .int .i64 rh] 36)
  have HER : Hid (gridErr m p fs = 0) := hok
  have HPT : Hid (∀ W, Below w.heap.size w W → Calls Tryd.prog 12 #[.agg #[.int .i64 (m : Int), .int .i64 (p : Int), .slice (some ⟨b, o, none⟩) fs.length cx], .agg #[.int .i64 rx, .int .i64 ry, .int .i64 rw, .int .i64 rh]] W fun e w' => e = .returned (.tuple #[.agg #[.int .i64 0, .int .i64 0, .slice none 0 0], .int .i64 4]) ∧ Below W.heap.size W w') := fun W k => part_bad2 m p _ fs rx ry rw rh W (Tab.next hT k) (hS.below k) hok hx0 hx1 hy0 hy1 hold
  have HRZ : Hid (∀ W, Below w.heap.size w W → Calls Tryd.prog 13 #[.agg #[.int .i64 (m : Int), .int .i64 (p : Int), .slice (some ⟨b, o, none⟩) fs.length cx], .int .i64 (q : Int), .int .i64 (s : Int)] W fun e w' => ∃ v, e = .returned (.tuple #[.agg #[.int .i64 (q : Int), .int .i64 (s : Int), v], .int .i64 0]) ∧ OwnG w' W.heap.size v (layG q s (newL q s) m p fs 0 0) ∧ Below W.heap.size W w') := fun W k => resize_good m p b o cx q s fs W (Tab.next hT k) (hC.below k) hc hm hok hs
  have HNG : Hid (∀ W, Calls Tryd.prog 18 #[.int .i64 (q : Int), .int .i64 (s : Int)] W fun e w' => ∃ v, e = .returned (.agg #[.int .i64 (q : Int), .int .i64 (s : Int), v]) ∧ OwnG w' W.heap.size v (newL q s) ∧ Below W.heap.size W w') := fun W => by
    have := newGrid_any q s W hs
    rwa [show ((q : Int) * (s : Int)).toNat = q * s by rw [← Int.natCast_mul, Int.toNat_natCast]] at this
  have HLG : Hid (∀ W u, Below w.heap.size w W → SliceAt W u (newL q s) → Calls Tryd.prog 11 #[.agg #[.int .i64 (m : Int), .int .i64 (p : Int), .slice (some ⟨b, o, none⟩) fs.length cx], .agg #[.int .i64 (q : Int), .int .i64 (s : Int), u], .int .i64 0, .int .i64 0] W fun e w' => ∃ v, e = .returned (.agg #[.int .i64 (q : Int), .int .i64 (s : Int), v]) ∧ OwnG w' W.heap.size v (layG q s (newL q s) m p fs 0 0) ∧ Below W.heap.size W w') := fun W u k su => by
    have hnew := right_new q s hs
    obtain ⟨b2, o2, c2, rfl, h1, h2, h3⟩ := su.open (okRange q s _ hnew).2.2.2.2.2.2
    have := layGrid_any m p b o cx q s b2 o2 c2 0 0 fs (newL q s) W (hC.below k) h3 hok hnew hc h1
    rwa [show nearI 0 = 0 from rfl] at this
  have HZL : Hid ((layG q s (newL q s) m p fs 0 0).length ≤ 1000000) := by unfold Hid; rw [layG_len q s m p _ fs _ _ (newL_len q s)]; have := (okRange q s _ (right_new q s hs)).2.2.2.2.2.1; rw [newL_len] at this; omega
  have hsT : isSize q s = true := hs
  generalize layG q s (newL q s) m p fs 0 0 = rez at HRZ HLG HZL
  generalize newL q s = nl at HNG HLG
  have HSZ : Hid (∀ W, Calls Tryd.prog 17 #[.int .i64 (q : Int), .int .i64 (s : Int)] W fun e w' => e = .returned (.bool true) ∧ W = w') := fun W => by
    have := size_any q s W
    rwa [hs] at this
  clear hsT
  clear hok hT hS hC hL hsize hs hm hne
  generalize hW0 : ((w.alloc (.cells #[.int .i64 (m : Int), .int .i64 (p : Int), .slice (some ⟨b, o, none⟩) fs.length cx] 24)).alloc (.cells #[.int .i64 rx, .int .i64 ry, .int .i64 rw, .int .i64 rh] 36)) = W0 at x0 x1 kk hsz
  have HW0 : Hid (_ = W0) := hW0
  clear hW0
  go_enter Tryd.func4, Tryd.ntmps4
  go_wp2_with fail
  rw [HW0.out]
  refine (HPT.out _ kk).mono ?_
  rintro e W1 ⟨rfl, b1⟩
  have gs1 := carry x0 b1
  have rs1 := carry x1 b1
  have ks1 := kk.trans (b1.mono kk.size)
  go_wp2_with (refine wpList_store_row rfl 24 (.tmp 9) _ rfl W1.heap.size #[.int .i64 0, .int .i64 0, .slice none 0 0] rfl rfl _ _ (heap_alloc_new W1 _) (by kernel_rfl) rfl (one3v _ _ _ _ _) ?_
               obtain ⟨mX1, aX1⟩ := var_new W1 24 #[.int .i64 0, .int .i64 0, .slice none 0 0] #[.int .i64 0, .int .i64 0, .slice none 0 0]
               generalize ((W1.alloc (.cells #[.int .i64 0, .int .i64 0, .slice none 0 0] 24)).setRow W1.heap.size #[.int .i64 0, .int .i64 0, .slice none 0 0]) = X1 at *
               have gs2 := carry gs1 aX1
               have rs2 := carry rs1 aX1
               have ks2 := ks1.trans (aX1.mono ks1.size)
               obtain ⟨cgX10, cgX11, cgX12, _⟩ := cells3 gs2)
  refine (HRZ.out _ ks2).mono ?_
  rintro e W2 ⟨_, rfl, ⟨gz, cz, rz, tz, rfl, hgz, hcz, hmz, hhz⟩, b2⟩
  have gs3 := carry gs2 b2
  have rs3 := carry rs2 b2
  have os3 := carry mX1 b2
  have ks3 := ks2.trans (b2.mono ks2.size)
  clear cgX10 cgX11 cgX12
  have soz : SliceAt W2 (.slice (some ⟨gz, 0, none⟩) rez.length cz) rez := OwnG.slice (base := 0) ⟨gz, cz, rz, tz, rfl, by omega, hcz, hmz, hhz⟩
  clear hhz
  go_wp2_with (refine wpList_store_row rfl 24 (.tmp 11) _ rfl W2.heap.size #[.int .i64 (q : Int), .int .i64 (s : Int), .slice (some ⟨gz, 0, none⟩) rez.length cz] rfl rfl _ _ (heap_alloc_new W2 _) (by kernel_rfl) rfl (one3v _ _ _ _ _) ?_
               obtain ⟨mX2, aX2⟩ := var_new W2 24 #[.int .i64 0, .int .i64 0, .slice none 0 0] #[.int .i64 (q : Int), .int .i64 (s : Int), .slice (some ⟨gz, 0, none⟩) rez.length cz]
               generalize ((W2.alloc (.cells #[.int .i64 0, .int .i64 0, .slice none 0 0] 24)).setRow W2.heap.size #[.int .i64 (q : Int), .int .i64 (s : Int), .slice (some ⟨gz, 0, none⟩) rez.length cz]) = X2 at *
               have gs4 := carry gs3 aX2
               have rs4 := carry rs3 aX2
               have os4 := carry os3 aX2
               have sozs4 := soz.below aX2
               have ks4 := ks3.trans (aX2.mono ks3.size)
               obtain ⟨cgX20, cgX21, cgX22, _⟩ := cells3 gs4)
  refine (ref_to m p _ fs _ HER.out _ (HS.out _ ks4)).mono ?_
  rintro e W3 ⟨rfl, b3⟩
  have gs5 := carry gs4 b3
  have rs5 := carry rs4 b3
  have os5 := carry os4 b3
  have zs5 := carry mX2 b3
  have sozs5 := sozs4.below b3
  have ks5 := ks4.trans (b3.mono ks4.size)
  clear cgX20 cgX21 cgX22
  go_wp2_with fail
  refine (gridded_any _ (HT.out _ ks5)).mono ?_
  rintro e W4 ⟨rfl, b4⟩
  have gs6 := carry gs5 b4
  have rs6 := carry rs5 b4
  have os6 := carry os5 b4
  have zs6 := carry zs5 b4
  have sozs6 := sozs5.below b4
  have ks6 := ks5.trans (b4.mono ks5.size)
  obtain ⟨cgs60, cgs61, cgs62, _⟩ := cells3 gs6
  obtain ⟨crs60, crs61, crs62, crs63⟩ := cells4 rs6
  have hbad : rx < 0 ∨ ry < 0 ∨ rw < 1 ∨ rh < 1 ∨ (m : Int) - rx < rw ∨ (p : Int) - ry < rh := by
    unfold holdsI at hold; rw [decide_eq_false_iff_not] at hold; omega
  clear hold
  go_upto_region 6 with fail
  go_cut [108] from 57 to 108 (fun c wx => c = .bool true ∧ wx = W4)
  case first =>
    by_cases i0 : rx < 0
    · go_wp2_with fail
      go_meet
      case rel => exact ⟨rfl, rfl⟩
    have j0 : decide (rx < 0) = false := by rw [decide_eq_false_iff_not]; exact i0
    by_cases i1 : ry < 0
    · go_wp2_with fail
      go_meet
      case rel => exact ⟨rfl, rfl⟩
    have j1 : decide (ry < 0) = false := by rw [decide_eq_false_iff_not]; exact i1
    by_cases i2 : rw < 1
    · go_wp2_with fail
      go_meet
      case rel => exact ⟨rfl, rfl⟩
    have j2 : decide (rw < 1) = false := by rw [decide_eq_false_iff_not]; exact i2
    by_cases i3 : rh < 1
    · go_wp2_with fail
      go_meet
      case rel => exact ⟨rfl, rfl⟩
    have j3 : decide (rh < 1) = false := by rw [decide_eq_false_iff_not]; exact i3
    by_cases i4 : (m : Int) ≤ rx
    · go_wp2_with fail
      go_meet
      case rel => exact ⟨rfl, rfl⟩
    have j4 : decide ((m : Int) ≤ rx) = false := by rw [decide_eq_false_iff_not]; exact i4
    by_cases i5 : (p : Int) ≤ ry
    · go_wp2_with fail
      go_meet
      case rel => exact ⟨rfl, rfl⟩
    have j5 : decide ((p : Int) ≤ ry) = false := by rw [decide_eq_false_iff_not]; exact i5
    by_cases i6 : (m : Int) - rx < rw
    · go_wp2_with fail
      go_meet
      case rel => exact ⟨rfl, rfl⟩
    have j6 : decide ((m : Int) - rx < rw) = false := by rw [decide_eq_false_iff_not]; exact i6
    have i7 : (p : Int) - ry < rh := by omega
    have j7 : decide ((p : Int) - ry < rh) = true := by rw [decide_eq_true_eq]; exact i7
    go_wp2_with fail
    go_meet
    case rel => exact ⟨rfl, rfl⟩
  case rest =>
    obtain ⟨rfl, hwc⟩ := hcut
    rw [hwc]
    clear hwc
    obtain ⟨coy0, coy1, coy2, _⟩ := cells3 os6
    go_wp2_with fail
    refine (noGrid_none _).mono ?_
    rintro e W5 ⟨rfl, b5⟩
    have gs7 := carry gs6 b5
    have zs7 := carry zs6 b5
    have sozs7 := sozs6.below b5
    have ks7 := ks6.trans (b5.mono ks6.size)
    clear cgs60 cgs61 cgs62 crs60 crs61 crs62 crs63 coy0 coy1 coy2
    go_wp2_with fail
    refine (HSZ.out _).mono ?_
    rintro e W6 ⟨rfl, h6⟩
    have gs8 := carry gs7 (below_same h6)
    have zs8 := carry zs7 (below_same h6)
    have sozs8 := sozs7.below (below_same h6)
    have ks8 := ks7.trans ((below_same h6).mono ks7.size)
    obtain ⟨cgs80, cgs81, cgs82, _⟩ := cells3 gs8
    obtain ⟨czs80, czs81, czs82, _⟩ := cells3 zs8
    have HZZ : Hid (SliceAt W6 (.slice (some ⟨gz, 0, none⟩) rez.length cz) rez) := sozs8
    go_wp2_with fail
    have kd6 : Below W6.heap.size W6 W6.drew := (Below.refl _ _).drew
    have HKN6 : Hid (Below w.heap.size w W6) := ks8
    have HNX6 : Hid (∀ W W', Below W.heap.size W W' → (fun W => Below W6.heap.size W6 W ∧ (W.cell? ⟨w.heap.size, 0, none⟩ = some (.int .i64 (m : Int)) ∧ W.cell? ⟨w.heap.size, 1, none⟩ = some (.int .i64 (p : Int)) ∧ W.cell? ⟨w.heap.size, 2, none⟩ = some (.slice (some ⟨b, o, none⟩) fs.length cx)) ∧ (W.cell? ⟨W2.heap.size, 0, none⟩ = some (.int .i64 (q : Int)) ∧ W.cell? ⟨W2.heap.size, 1, none⟩ = some (.int .i64 (s : Int)) ∧ W.cell? ⟨W2.heap.size, 2, none⟩ = some (.slice (some ⟨gz, 0, none⟩) rez.length cz))) W → (fun W => Below W6.heap.size W6 W ∧ (W.cell? ⟨w.heap.size, 0, none⟩ = some (.int .i64 (m : Int)) ∧ W.cell? ⟨w.heap.size, 1, none⟩ = some (.int .i64 (p : Int)) ∧ W.cell? ⟨w.heap.size, 2, none⟩ = some (.slice (some ⟨b, o, none⟩) fs.length cx)) ∧ (W.cell? ⟨W2.heap.size, 0, none⟩ = some (.int .i64 (q : Int)) ∧ W.cell? ⟨W2.heap.size, 1, none⟩ = some (.int .i64 (s : Int)) ∧ W.cell? ⟨W2.heap.size, 2, none⟩ = some (.slice (some ⟨gz, 0, none⟩) rez.length cz))) W') := by
      rintro W W' hb ⟨k0, ⟨gq0, gq1, gq2⟩, ⟨zq0, zq1, zq2⟩⟩
      exact ⟨k0.trans (hb.mono k0.size), ⟨cell_keep hb gq0, cell_keep hb gq1, cell_keep hb gq2⟩, ⟨cell_keep hb zq0, cell_keep hb zq1, cell_keep hb zq2⟩⟩
    have HST06 : Hid ((fun W => Below W6.heap.size W6 W ∧ (W.cell? ⟨w.heap.size, 0, none⟩ = some (.int .i64 (m : Int)) ∧ W.cell? ⟨w.heap.size, 1, none⟩ = some (.int .i64 (p : Int)) ∧ W.cell? ⟨w.heap.size, 2, none⟩ = some (.slice (some ⟨b, o, none⟩) fs.length cx)) ∧ (W.cell? ⟨W2.heap.size, 0, none⟩ = some (.int .i64 (q : Int)) ∧ W.cell? ⟨W2.heap.size, 1, none⟩ = some (.int .i64 (s : Int)) ∧ W.cell? ⟨W2.heap.size, 2, none⟩ = some (.slice (some ⟨gz, 0, none⟩) rez.length cz))) W6.drew) := ⟨kd6, ⟨cgs80, cgs81, cgs82⟩, ⟨czs80, czs81, czs82⟩⟩
    go_region_held3 (fun W => Below W6.heap.size W6 W ∧ (W.cell? ⟨w.heap.size, 0, none⟩ = some (.int .i64 (m : Int)) ∧ W.cell? ⟨w.heap.size, 1, none⟩ = some (.int .i64 (p : Int)) ∧ W.cell? ⟨w.heap.size, 2, none⟩ = some (.slice (some ⟨b, o, none⟩) fs.length cx)) ∧ (W.cell? ⟨W2.heap.size, 0, none⟩ = some (.int .i64 (q : Int)) ∧ W.cell? ⟨W2.heap.size, 1, none⟩ = some (.int .i64 (s : Int)) ∧ W.cell? ⟨W2.heap.size, 2, none⟩ = some (.slice (some ⟨gz, 0, none⟩) rez.length cz)))
      (first
        | (exact HNX6.out _ _ b10 (by assumption))
        | (exact HNX6.out _ _ b9 (by assumption))
        | (exact HNX6.out _ _ b8 (by assumption))
        | (exact HST06.out))
      (first
        | (go_at_call 18; refine (HNG.out _).mono ?_; rintro e W8 ⟨v8, rfl, o8, b8⟩; have k8 := kd6.trans (b8.mono kd6.size))
        | (go_at_call 11; refine (HLG.out _ v8 (HKN6.out.trans (k8.mono HKN6.out.size)) o8.slice).mono ?_; rintro e W9 ⟨v9, rfl, o9, b9⟩; have k9 := k8.trans (b9.mono k8.size))
        | (go_at_call 9; refine (same_any q s _ v9 rez _ (HZZ.out.below k9) o9.slice HZL.out).mono ?_; rintro e W10 ⟨rfl, b10⟩; have k10 := k9.trans (b10.mono k9.size)))
    go_wp2_with fail
    go_ret
    exact ⟨rfl, HKN6.out.trans (k10.mono HKN6.out.size)⟩
end Grd
end Go.Proofs.YtknpolbnoppofaaDoor

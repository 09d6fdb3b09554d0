/- The walk of the law GridFill: a right cell; and all of it. -/
import Derived.Test.YtinhmklpnkikgaaDoorPartI
namespace Go.Proofs.YtinhmklpnkikgaaDoor
open Go.ChangeShapes Go.WideShapes Go.ChangeAt Go.RowKit Go.Maps
namespace Grd
open Txt (wd)
open Sty (isSt)
theorem fillG_len (n hh : Nat) (cs : List C) (rx ry rw rh : Int) (c : C) (hL : cs.length = n * hh) : (fillG n hh cs rx ry rw rh c).length = cs.length := by
  unfold fillG
  rw [preF_len n hh cs _ hL (fillF_len n hh rx ry rw rh c) hh (Nat.le_refl _), hL, Nat.mul_comm]
set_option maxHeartbeats 8000000 in
theorem gridFill_good (n hh b o cx : Nat) (cs : List C) (rx ry rw rh r f bk x : Int) (w : World) (hT : Txt.Tab w) (hC : CellsAt w b o cs) (hc : cs.length ≤ cx) (hm : cx ≤ 9223372036854775807) (hok : gridErr n hh cs = 0) (hr : wd r = 1) (hs : isSt (f, bk, x) = true) :
    Calls Tryd.prog 4 #[.agg #[.int .i64 (n : Int), .int .i64 (hh : Int), .slice (some ⟨b, o, none⟩) cs.length cx], .agg #[.int .i64 rx, .int .i64 ry, .int .i64 rw, .int .i64 rh], .agg #[.int .i32 r, .int .i64 f, .int .i64 bk, .int .i64 x]] w fun e w' => e = .returned (.bool true) ∧ Below w.heap.size w w' := by
  obtain ⟨hne, hl2⟩ := pos_of_ok n hh cs hok
  obtain ⟨hsize, hL, _⟩ := (gridErr_zero n hh cs).1 hok
  have hS : SliceAt w (.slice (some ⟨b, o, none⟩) cs.length cx) cs := .inr ⟨hne, b, o, cx, rfl, hc, hm, hC⟩
  have HT : Hid (∀ W, Below w.heap.size w W → Txt.Tab W) := fun W k => Tab.next hT k
  have HS : Hid (∀ W, Below w.heap.size w W → SliceAt W (.slice (some ⟨b, o, none⟩) cs.length cx) cs) := fun W k => hS.below k
  obtain ⟨x0, x1, x2, kk, hsz⟩ := alloc3 w (.cells #[.int .i64 (n : Int), .int .i64 (hh : Int), .slice (some ⟨b, o, none⟩) cs.length cx] 24) (.cells #[.int .i64 rx, .int .i64 ry, .int .i64 rw, .int .i64 rh] 36) (.cells #[.int .i32 r, .int .i64 f, .int .i64 bk, .int .i64 x] 40)
  have HO := own_any n hh _ cs _ (hS.below kk) (by omega)
  have HER : Hid (gridErr n hh cs = 0) := hok
  have HFL : Hid (∀ W u, Below w.heap.size w W → SliceAt W u cs → Calls Tryd.prog 18 #[.agg #[.int .i64 (n : Int), .int .i64 (hh : Int), u], .agg #[.int .i64 rx, .int .i64 ry, .int .i64 rw, .int .i64 rh], .agg #[.int .i32 r, .int .i64 f, .int .i64 bk, .int .i64 x]] W fun e w' => ∃ v, e = .returned (.tuple #[.agg #[.int .i64 (n : Int), .int .i64 (hh : Int), v], .int .i64 0]) ∧ OwnG w' W.heap.size v (fillG n hh cs rx ry rw rh (r, f, bk, x)) ∧ Below W.heap.size W w') := fun W u k su => by
    obtain ⟨b', o', c', rfl, h1, h2, h3⟩ := su.open hne
    exact fill_good n hh b' o' c' cs rx ry rw rh r f bk x W (Tab.next hT k) h3 hok h1 h2 hr hs
  have HFG : Hid (∀ W, Below w.heap.size w W → Calls Tryd.prog 21 #[.agg #[.int .i64 (n : Int), .int .i64 (hh : Int), .slice (some ⟨b, o, none⟩) cs.length cx], .agg #[.int .i64 rx, .int .i64 ry, .int .i64 rw, .int .i64 rh], .agg #[.int .i32 r, .int .i64 f, .int .i64 bk, .int .i64 x]] W fun e w' => ∃ v, e = .returned (.agg #[.int .i64 (n : Int), .int .i64 (hh : Int), v]) ∧ OwnG w' W.heap.size v (fillG n hh cs rx ry rw rh (r, f, bk, x)) ∧ Below W.heap.size W w') := fun W k => fillGrid_any n hh b o cx cs rx ry rw rh r f bk x W (hC.below k) hsize hL hc
  have HWD : Hid (wd r = 1) := hr
  have HST : Hid (isSt (f, bk, x) = true) := hs
  have hfl : (fillG n hh cs rx ry rw rh (r, f, bk, x)).length ≤ 1000000 := by rw [fillG_len n hh cs rx ry rw rh _ hL]; omega
  have HFLN : Hid ((fillG n hh cs rx ry rw rh (r, f, bk, x)).length ≤ 1000000) := hfl
  clear hok hr hs hT hS hC hL hsize hfl hc hm hne
  generalize fillG n hh cs rx ry rw rh (r, f, bk, x) = fg at HFL HFG HFLN
  generalize hW0 : (((w.alloc (.cells #[.int .i64 (n : Int), .int .i64 (hh : Int), .slice (some ⟨b, o, none⟩) cs.length cx] 24)).alloc (.cells #[.int .i64 rx, .int .i64 ry, .int .i64 rw, .int .i64 rh] 36)).alloc (.cells #[.int .i32 r, .int .i64 f, .int .i64 bk, .int .i64 x] 40)) = W0 at x0 x1 x2 kk hsz HO
  have HW0 : Hid (_ = W0) := hW0
  have HO' : Hid (Calls Tryd.prog 17 #[.agg #[.int .i64 (n : Int), .int .i64 (hh : Int), .slice (some ⟨b, o, none⟩) cs.length cx]] W0 fun e w' => ∃ a' c', e = .returned (.agg #[.int .i64 (n : Int), .int .i64 (hh : Int), .slice a' cs.length c']) ∧ SliceAt w' (.slice a' cs.length c') cs ∧ Below W0.heap.size W0 w') := HO
  have HBIG : Hid (cs.length ≤ 4398046511104) := by unfold Hid; omega
  clear HO hW0
  go_enter Tryd.func4, Tryd.ntmps4
  go_wp2_with fail
  rw [HW0.out]
  refine (HO'.out).mono ?_
  rintro e W1 ⟨oa, oc, rfl, so1, b1⟩
  have gs1 := carry x0 b1
  have rs1 := carry x1 b1
  have cs1 := carry x2 b1
  have ks1 := kk.trans (b1.mono kk.size)
  clear x0 x1 x2 kk HW0 HO'
  go_wp2_with (refine wpList_store_row rfl 24 (.tmp 7) _ rfl W1.heap.size #[.int .i64 (n : Int), .int .i64 (hh : Int), .slice oa cs.length oc] rfl rfl _ _ (heap_alloc_new W1 _) (by kernel_rfl) rfl (one3v _ _ _ _ _) ?_
               obtain ⟨mX1, aX1⟩ := var_new W1 24 #[.int .i64 0, .int .i64 0, .slice none 0 0] #[.int .i64 (n : Int), .int .i64 (hh : Int), .slice oa cs.length oc]
               generalize ((W1.alloc (.cells #[.int .i64 0, .int .i64 0, .slice none 0 0] 24)).setRow W1.heap.size #[.int .i64 (n : Int), .int .i64 (hh : Int), .slice oa cs.length oc]) = X1 at *
               have gs2 := carry gs1 aX1
               have rs2 := carry rs1 aX1
               have cs2 := carry cs1 aX1
               have soos2 := so1.below aX1
               have ks2 := ks1.trans (aX1.mono ks1.size)
               obtain ⟨cgX10, cgX11, cgX12, _⟩ := cells3 gs2
               obtain ⟨crX10, crX11, crX12, crX13⟩ := cells4 rs2
               obtain ⟨ccX10, ccX11, ccX12, ccX13⟩ := cells4 cs2
               obtain ⟨coX10, coX11, coX12, _⟩ := cells3 mX1)
  refine (HFL.out _ _ ks2 soos2).mono ?_
  rintro e W2 ⟨_, rfl, ⟨gf, cf, rf, tf, rfl, hgf, hcf, hmf, hhf⟩, b2⟩
  have gs3 := carry gs2 b2
  have rs3 := carry rs2 b2
  have cs3 := carry cs2 b2
  have os3 := carry mX1 b2
  have soos3 := soos2.below b2
  have ks3 := ks2.trans (b2.mono ks2.size)
  clear cgX10 cgX11 cgX12 crX10 crX11 crX12 crX13 ccX10 ccX11 ccX12 ccX13 coX10 coX11 coX12
  have soz : SliceAt W2 (.slice (some ⟨gf, 0, none⟩) fg.length cf) fg := OwnG.slice (base := 0) ⟨gf, cf, rf, tf, rfl, by omega, hcf, hmf, hhf⟩
  clear hhf
  go_wp2_with (refine wpList_store_row rfl 24 (.tmp 8) _ rfl W2.heap.size #[.int .i64 (n : Int), .int .i64 (hh : Int), .slice (some ⟨gf, 0, none⟩) fg.length cf] rfl rfl _ _ (heap_alloc_new W2 _) (by kernel_rfl) rfl (one3v _ _ _ _ _) ?_
               obtain ⟨mX2, aX2⟩ := var_new W2 24 #[.int .i64 0, .int .i64 0, .slice none 0 0] #[.int .i64 (n : Int), .int .i64 (hh : Int), .slice (some ⟨gf, 0, none⟩) fg.length cf]
               generalize ((W2.alloc (.cells #[.int .i64 0, .int .i64 0, .slice none 0 0] 24)).setRow W2.heap.size #[.int .i64 (n : Int), .int .i64 (hh : Int), .slice (some ⟨gf, 0, none⟩) fg.length cf]) = X2 at *
               have gs4 := carry gs3 aX2
               have rs4 := carry rs3 aX2
               have cs4 := carry cs3 aX2
               have os4 := carry os3 aX2
               have soos4 := soos3.below aX2
               have sozs4 := soz.below aX2
               have ks4 := ks3.trans (aX2.mono ks3.size)
               obtain ⟨cgX20, cgX21, cgX22, _⟩ := cells3 gs4
               obtain ⟨ccX20, ccX21, ccX22, ccX23⟩ := cells4 cs4
               obtain ⟨coX20, coX21, coX22, _⟩ := cells3 os4
               obtain ⟨czX20, czX21, czX22, _⟩ := cells3 mX2)
  refine (ref_to n hh _ cs _ HER.out _ (HS.out _ ks4)).mono ?_
  rintro e W3 ⟨rfl, b3⟩
  have gs5 := carry gs4 b3
  have rs5 := carry rs4 b3
  have cs5 := carry cs4 b3
  have os5 := carry os4 b3
  have zs5 := carry mX2 b3
  have soos5 := soos4.below b3
  have sozs5 := sozs4.below b3
  have ks5 := ks4.trans (b3.mono ks4.size)
  clear cgX20 cgX21 cgX22 ccX20 ccX21 ccX22 ccX23 coX20 coX21 coX22 czX20 czX21 czX22
  obtain ⟨cgs50, cgs51, cgs52, _⟩ := cells3 gs5
  obtain ⟨ccs50, ccs51, ccs52, ccs53⟩ := cells4 cs5
  obtain ⟨cos50, cos51, cos52, _⟩ := cells3 os5
  obtain ⟨czs50, czs51, czs52, _⟩ := cells3 zs5
  go_wp2_with fail
  refine (widthOf_to r _ _ HWD.out).mono ?_
  rintro e W4 ⟨rfl, b4⟩
  have gs6 := carry gs5 b4
  have rs6 := carry rs5 b4
  have cs6 := carry cs5 b4
  have os6 := carry os5 b4
  have zs6 := carry zs5 b4
  have soos6 := soos5.below b4
  have sozs6 := sozs5.below b4
  have ks6 := ks5.trans (b4.mono ks5.size)
  clear cgs50 cgs51 cgs52 ccs50 ccs51 ccs52 ccs53 cos50 cos51 cos52 czs50 czs51 czs52
  obtain ⟨cgs60, cgs61, cgs62, _⟩ := cells3 gs6
  obtain ⟨ccs60, ccs61, ccs62, ccs63⟩ := cells4 cs6
  obtain ⟨cos60, cos61, cos62, _⟩ := cells3 os6
  obtain ⟨czs60, czs61, czs62, _⟩ := cells3 zs6
  go_wp2_with fail
  refine (isStyle_to f bk x _ HST.out _).mono ?_
  rintro e W5 ⟨rfl, b5⟩
  have gs7 := carry gs6 b5
  have rs7 := carry rs6 b5
  have cs7 := carry cs6 b5
  have os7 := carry os6 b5
  have zs7 := carry zs6 b5
  have soos7 := soos6.below b5
  have sozs7 := sozs6.below b5
  have ks7 := ks6.trans (b5.mono ks6.size)
  clear cgs60 cgs61 cgs62 ccs60 ccs61 ccs62 ccs63 cos60 cos61 cos62 czs60 czs61 czs62
  obtain ⟨cgs70, cgs71, cgs72, _⟩ := cells3 gs7
  obtain ⟨cos70, cos71, cos72, _⟩ := cells3 os7
  obtain ⟨czs70, czs71, czs72, _⟩ := cells3 zs7
  go_wp2_with fail
  refine (gridded_any _ (HT.out _ ks7)).mono ?_
  rintro e W6 ⟨rfl, b6⟩
  have gs8 := carry gs7 b6
  have rs8 := carry rs7 b6
  have cs8 := carry cs7 b6
  have os8 := carry os7 b6
  have zs8 := carry zs7 b6
  have soos8 := soos7.below b6
  have sozs8 := sozs7.below b6
  have ks8 := ks7.trans (b6.mono ks7.size)
  clear cgs70 cgs71 cgs72 cos70 cos71 cos72 czs70 czs71 czs72
  obtain ⟨cgs80, cgs81, cgs82, _⟩ := cells3 gs8
  obtain ⟨cos80, cos81, cos82, _⟩ := cells3 os8
  obtain ⟨czs80, czs81, czs82, _⟩ := cells3 zs8
  go_wp2_with fail
  refine (same_any_big n hh _ _ cs _ soos8 (HS.out _ ks8) HBIG.out).mono ?_
  rintro e W7 ⟨rfl, b7⟩
  have gs9 := carry gs8 b7
  have rs9 := carry rs8 b7
  have cs9 := carry cs8 b7
  have zs9 := carry zs8 b7
  have soos9 := soos8.below b7
  have sozs9 := sozs8.below b7
  have ks9 := ks8.trans (b7.mono ks8.size)
  clear cgs80 cgs81 cgs82 cos80 cos81 cos82 czs80 czs81 czs82
  obtain ⟨cgs90, cgs91, cgs92, _⟩ := cells3 gs9
  obtain ⟨crs90, crs91, crs92, crs93⟩ := cells4 rs9
  obtain ⟨ccs90, ccs91, ccs92, ccs93⟩ := cells4 cs9
  obtain ⟨czs90, czs91, czs92, _⟩ := cells3 zs9
  go_wp2_with fail
  have kd : Below W7.heap.size W7 W7.drew := (Below.refl _ _).drew
  have HSZ : Hid (SliceAt W7 (.slice (some ⟨gf, 0, none⟩) fg.length cf) fg) := sozs9
  have HKN : Hid (Below w.heap.size w W7) := ks9
  have HNX : Hid (∀ W W', Below W.heap.size W W' → (fun W => Below W7.heap.size W7 W ∧ (W.cell? ⟨w.heap.size, 0, none⟩ = some (.int .i64 (n : Int)) ∧ W.cell? ⟨w.heap.size, 1, none⟩ = some (.int .i64 (hh : Int)) ∧ W.cell? ⟨w.heap.size, 2, none⟩ = some (.slice (some ⟨b, o, none⟩) cs.length cx)) ∧ (W.cell? ⟨w.heap.size + 1, 0, none⟩ = some (.int .i64 rx) ∧ W.cell? ⟨w.heap.size + 1, 1, none⟩ = some (.int .i64 ry) ∧ W.cell? ⟨w.heap.size + 1, 2, none⟩ = some (.int .i64 rw) ∧ W.cell? ⟨w.heap.size + 1, 3, none⟩ = some (.int .i64 rh)) ∧ (W.cell? ⟨w.heap.size + 1 + 1, 0, none⟩ = some (.int .i32 r) ∧ W.cell? ⟨w.heap.size + 1 + 1, 1, none⟩ = some (.int .i64 f) ∧ W.cell? ⟨w.heap.size + 1 + 1, 2, none⟩ = some (.int .i64 bk) ∧ W.cell? ⟨w.heap.size + 1 + 1, 3, none⟩ = some (.int .i64 x)) ∧ (W.cell? ⟨W2.heap.size, 0, none⟩ = some (.int .i64 (n : Int)) ∧ W.cell? ⟨W2.heap.size, 1, none⟩ = some (.int .i64 (hh : Int)) ∧ W.cell? ⟨W2.heap.size, 2, none⟩ = some (.slice (some ⟨gf, 0, none⟩) fg.length cf))) W → (fun W => Below W7.heap.size W7 W ∧ (W.cell? ⟨w.heap.size, 0, none⟩ = some (.int .i64 (n : Int)) ∧ W.cell? ⟨w.heap.size, 1, none⟩ = some (.int .i64 (hh : Int)) ∧ W.cell? ⟨w.heap.size, 2, none⟩ = some (.slice (some ⟨b, o, none⟩) cs.length cx)) ∧ (W.cell? ⟨w.heap.size + 1, 0, none⟩ = some (.int .i64 rx) ∧ W.cell? ⟨w.heap.size + 1, 1, none⟩ = some (.int .i64 ry) ∧ W.cell? ⟨w.heap.size + 1, 2, none⟩ = some (.int .i64 rw) ∧ W.cell? ⟨w.heap.size + 1, 3, none⟩ = some (.int .i64 rh)) ∧ (W.cell? ⟨w.heap.size + 1 + 1, 0, none⟩ = some (.int .i32 r) ∧ W.cell? ⟨w.heap.size + 1 + 1, 1, none⟩ = some (.int .i64 f) ∧ W.cell? ⟨w.heap.size + 1 + 1, 2, none⟩ = some (.int .i64 bk) ∧ W.cell? ⟨w.heap.size + 1 + 1, 3, none⟩ = some (.int .i64 x)) ∧ (W.cell? ⟨W2.heap.size, 0, none⟩ = some (.int .i64 (n : Int)) ∧ W.cell? ⟨W2.heap.size, 1, none⟩ = some (.int .i64 (hh : Int)) ∧ W.cell? ⟨W2.heap.size, 2, none⟩ = some (.slice (some ⟨gf, 0, none⟩) fg.length cf))) W') := by
    rintro W W' hb ⟨k0, ⟨g0, g1, g2⟩, ⟨r0, r1, r2, r3⟩, ⟨c0, c1, c2, c3⟩, z0, z1, z2⟩
    exact ⟨k0.trans (hb.mono k0.size), ⟨cell_keep hb g0, cell_keep hb g1, cell_keep hb g2⟩, ⟨cell_keep hb r0, cell_keep hb r1, cell_keep hb r2, cell_keep hb r3⟩, ⟨cell_keep hb c0, cell_keep hb c1, cell_keep hb c2, cell_keep hb c3⟩, cell_keep hb z0, cell_keep hb z1, cell_keep hb z2⟩
  have HST0 : Hid ((fun W => Below W7.heap.size W7 W ∧ (W.cell? ⟨w.heap.size, 0, none⟩ = some (.int .i64 (n : Int)) ∧ W.cell? ⟨w.heap.size, 1, none⟩ = some (.int .i64 (hh : Int)) ∧ W.cell? ⟨w.heap.size, 2, none⟩ = some (.slice (some ⟨b, o, none⟩) cs.length cx)) ∧ (W.cell? ⟨w.heap.size + 1, 0, none⟩ = some (.int .i64 rx) ∧ W.cell? ⟨w.heap.size + 1, 1, none⟩ = some (.int .i64 ry) ∧ W.cell? ⟨w.heap.size + 1, 2, none⟩ = some (.int .i64 rw) ∧ W.cell? ⟨w.heap.size + 1, 3, none⟩ = some (.int .i64 rh)) ∧ (W.cell? ⟨w.heap.size + 1 + 1, 0, none⟩ = some (.int .i32 r) ∧ W.cell? ⟨w.heap.size + 1 + 1, 1, none⟩ = some (.int .i64 f) ∧ W.cell? ⟨w.heap.size + 1 + 1, 2, none⟩ = some (.int .i64 bk) ∧ W.cell? ⟨w.heap.size + 1 + 1, 3, none⟩ = some (.int .i64 x)) ∧ (W.cell? ⟨W2.heap.size, 0, none⟩ = some (.int .i64 (n : Int)) ∧ W.cell? ⟨W2.heap.size, 1, none⟩ = some (.int .i64 (hh : Int)) ∧ W.cell? ⟨W2.heap.size, 2, none⟩ = some (.slice (some ⟨gf, 0, none⟩) fg.length cf))) W7.drew) := ⟨kd, ⟨cgs90, cgs91, cgs92⟩, ⟨crs90, crs91, crs92, crs93⟩, ⟨ccs90, ccs91, ccs92, ccs93⟩, ⟨czs90, czs91, czs92⟩⟩
  go_region_held3 (fun W => Below W7.heap.size W7 W ∧ (W.cell? ⟨w.heap.size, 0, none⟩ = some (.int .i64 (n : Int)) ∧ W.cell? ⟨w.heap.size, 1, none⟩ = some (.int .i64 (hh : Int)) ∧ W.cell? ⟨w.heap.size, 2, none⟩ = some (.slice (some ⟨b, o, none⟩) cs.length cx)) ∧ (W.cell? ⟨w.heap.size + 1, 0, none⟩ = some (.int .i64 rx) ∧ W.cell? ⟨w.heap.size + 1, 1, none⟩ = some (.int .i64 ry) ∧ W.cell? ⟨w.heap.size + 1, 2, none⟩ = some (.int .i64 rw) ∧ W.cell? ⟨w.heap.size + 1, 3, none⟩ = some (.int .i64 rh)) ∧ (W.cell? ⟨w.heap.size + 1 + 1, 0, none⟩ = some (.int .i32 r) ∧ W.cell? ⟨w.heap.size + 1 + 1, 1, none⟩ = some (.int .i64 f) ∧ W.cell? ⟨w.heap.size + 1 + 1, 2, none⟩ = some (.int .i64 bk) ∧ W.cell? ⟨w.heap.size + 1 + 1, 3, none⟩ = some (.int .i64 x)) ∧ (W.cell? ⟨W2.heap.size, 0, none⟩ = some (.int .i64 (n : Int)) ∧ W.cell? ⟨W2.heap.size, 1, none⟩ = some (.int .i64 (hh : Int)) ∧ W.cell? ⟨W2.heap.size, 2, none⟩ = some (.slice (some ⟨gf, 0, none⟩) fg.length cf)))
    (first
      | (exact HNX.out _ _ b10 (by assumption))
      | (exact HNX.out _ _ b9 (by assumption))
      | (exact HST0.out))
    (first
      | (go_at_call 21; refine (HFG.out _ (HKN.out.trans (kd.mono HKN.out.size))).mono ?_; rintro e W9 ⟨v9, rfl, o9, b9⟩; have k9 := kd.trans (b9.mono kd.size))
      | (go_at_call 15; refine (same_any n hh _ v9 fg _ (HSZ.out.below k9) o9.slice HFLN.out).mono ?_; rintro e W10 ⟨rfl, b10⟩; have k10 := k9.trans (b10.mono k9.size)))
  go_wp2_with fail
  go_ret
  exact ⟨rfl, HKN.out.trans (k10.mono HKN.out.size)⟩
theorem gridFill_walk (a h : Int) (v : Value) (cs : List C) (rx ry rw rh r f bk x : Int) (w : World) (hT : Txt.Tab w) (hS : SliceAt w v cs) (hbig : cs.length * 32 ≤ 140737488351232) :
    Calls Tryd.prog 4 #[.agg #[.int .i64 a, .int .i64 h, v], .agg #[.int .i64 rx, .int .i64 ry, .int .i64 rw, .int .i64 rh], .agg #[.int .i32 r, .int .i64 f, .int .i64 bk, .int .i64 x]] w fun e w' => e = .returned (.bool true) ∧ Below w.heap.size w w' := by
  by_cases hok : gridErr a h cs = 0
  · by_cases hr : wd r = 1
    · cases hs : isSt (f, bk, x) with
      | false => exact gridFill_bad3 a h v cs rx ry rw rh r f bk x w hT hS hbig hok hr hs
      | true =>
        obtain ⟨n, hh, rfl, rfl⟩ := size_of_ok a h cs hok
        obtain ⟨b, o, c, rfl, h1, h2, h3⟩ := hS.open (pos_of_ok n hh cs hok).1
        exact gridFill_good n hh b o c cs rx ry rw rh r f bk x w hT h3 h1 h2 hok hr hs
    · exact gridFill_bad2 a h v cs rx ry rw rh r f bk x w hT hS hbig hok hr
  · exact gridFill_bad1 a h v cs rx ry rw rh r f bk x w hT hS hbig hok
end Grd
end Go.Proofs.YtinhmklpnkikgaaDoor

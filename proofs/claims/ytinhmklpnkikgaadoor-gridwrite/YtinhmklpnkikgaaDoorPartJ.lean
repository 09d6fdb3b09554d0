/- The walk of the law GridFill: a right cell; and all of it. -/
import Derived.Test.YtinhmklpnkikgaaDoorPartI
import Derived.Test.YtinhmklpnkikgaaDoorPartG
import Derived.Test.YtinhmklpnkikgaaDoorPartH
namespace Go.Proofs.YtinhmklpnkikgaaDoor
open Go.ChangeShapes Go.WideShapes Go.ChangeAt Go.RowKit Go.Maps
namespace Grd
open Txt (wd)
open Sty (isSt)
theorem fillG_len (n hh : Nat) (cs : List C) (rx ry rw rh : Int) (c : C) (hL : cs.length = n * hh) : (fillG n hh cs rx ry rw rh c).length = cs.length := by
  unfold fillG
  rw [preF_len n hh cs _ hL (fillF_len n hh rx ry rw rh c) hh (Nat.le_refl _), hL, Nat.mul_comm]
set_option maxHeartbeats 8000000 in
theorem gridFill_good (n hh b o cx : Nat) (cs : List C) (rx ry rw rh r f bk x : Int) (w : World) (hT : Txt.Tab w) (hC : CellsAt w b o cs) (hc : cs.length ≤ cx) (hm : cx ≤ 9223372036854775807) (hok : gridErr n hh cs = 0) (hr : wd r = 1) (hs : isSt (f, bk, x) = true) :
    Calls Tryd.prog 4 #[.agg #[.int .i64 (n : Int), .int .i64 (hh : Int), .slice (some ⟨b, o, none⟩) cs.length cx], .agg #[.int .i64 rx, .int .i64 ry, .int .i64 rw, .int .i64 rh], .agg #[.int .i32 r, .int .i64 f, .int .i64 bk, .int .i64 x]] w fun e w' => e = .returned (.bool true) ∧ Below w.heap.size w w' := by
  obtain ⟨hne, hl2⟩ := pos_of_ok n hh cs hok
  obtain ⟨hsize, hL, _⟩ := (gridErr_zero n hh cs).1 hok
  have hS : SliceAt w (.slice (some ⟨b, o, none⟩) cs.length cx) cs := .inr ⟨hne, b, o, cx, rfl, hc, hm, hC⟩
  have HT : Hid (∀ W, Below w.heap.size w W → Txt.Tab W) := fun W k => Tab.next hT k
  have HS : Hid (∀ W, Below w.heap.size w W → SliceAt W (.slice (some ⟨b, o, none⟩) cs.length cx) cs) := fun W k => hS.below k
  obtain ⟨x0, x1, x2, kk, hsz⟩ := alloc3 w (.cells #[.int .i64 (n : Int), .int .i64 (hh : Int), .slice (some ⟨b, o, none⟩) cs.length cx] 24) (.cells #[.int .i64 rx, .int .i64 ry, .int .i64 rw, .int .i64 rh] 36) (.cells #[.int .i32 r, .int .i64 f, .int .i64 bk, .int .i64 x] 40)
  have HO := own_any n hh _ cs _ (hS.below kk) (by omega)
  have HER : Hid (gridErr n hh cs = 0) := hok
  have HFL : Hid (∀ W u, Below w.heap.size w W → SliceAt W u cs → Calls Tryd.prog 18 #[.agg #[.int .i64 (n : Int), .int .i64 (hh : Int), u], .agg #[.int .i64 rx, .int .i64 ry, .int .i64 rw, .int .i64 rh], .agg #[.int .i32 r, .int .i64 f, .int .i64 bk, .int .i64 x]] W fun e w' => ∃ v, e = .returned (.tuple #[.agg #[.int .i64 (n : Int), .int .i64 (hh : Int), v], .int .i64 0]) ∧ OwnG w' W.heap.size v (fillG n hh cs rx ry rw rh (r, f, bk, x)) ∧ Below W.heap.size W w') := fun W u k su => by
    obtain ⟨b', o', c', rfl, h1, h2, h3⟩ := su.open hne
    exact fill_good n hh b' o' c' cs rx ry rw rh r f bk x W (Tab.next hT k) h3 hok h1 h2 hr hs
  have HFG : Hid (∀ W, Below w.heap.size w W → Calls Tryd.prog 21 #[.agg #[.int .i64 (n : Int), .int .i64 (hh : Int), .slice (some ⟨b, o, none⟩) cs.length cx], .agg #[.int .i64 rx, .int .i64 ry, .int .i64 rw, .int .i64 rh], .agg #[.int .i32 r, .int .i64 f, .int .i64 bk, .int .i64 x]] W fun e w' => ∃ v, e = .returned (.agg #[.int .i64 (n : Int), .int .i64 (hh : Int), v]) ∧ OwnG w' W.heap.size v (fillG n hh cs rx ry rw rh (r, f, bk, x)) ∧ Below W.heap.size W w') := fun W k => fillGrid_any n hh b o cx cs rx ry rw rh r f bk x W (hC.below k) hsize hL hc
  have HWD : Hid (wd r = 1) := hr
  have HST : Hid (isSt (f, bk, x) = true) := hs
  have hfl : (fillG n hh cs rx ry rw rh (r, f, bk, x)).length ≤ 1000000 := by rw [fillG_len n hh cs rx ry rw rh _ hL]; omega
  have HFLN : Hid ((fillG n hh cs rx ry rw rh (r, f, bk, x)).length ≤ 1000000) := hfl
  clear hok hr hs hT hS hC hL hsize hfl hc hm hne
  generalize fillG n hh cs rx ry rw rh (r, f, bk, x) = fg at HFL HFG HFLN
  generalize hW0 : (((w.alloc (.cells #[.int .i64 (n : Int), .int .i64 (hh : Int), .slice (some ⟨b, o, none⟩) cs.length cx] 24)).alloc (.cells #[.int .i64 rx, .int .i64 ry, .int .i64 rw, .int .i64 rh] 36)).alloc (.cells #[.int .i32 r, .int .i64 f, .int .i64 bk, .int .i64 x] 40)) = W0 at x0 x1 x2 kk hsz HO
  have HW0 : Hid (_ = W0) := hW0
  have HO' : Hid (Calls Tryd.prog 17 #[.agg #[.int .i64 (n : Int), .int .i64 (hh : Int), .slice (some ⟨b, o, none⟩) cs.length cx]] W0 fun e w' => ∃ a' c', e = .returned (.agg #[.int .i64 (n : Int), .int .i64 (hh : Int), .slice a' cs.length c']) ∧ SliceAt w' (.slice a' cs.length c') cs ∧ Below W0.heap.size W0 w') := HO
  have HBIG : Hid (cs.length ≤ 4398046511104) := by unfold Hid; omega
  clear HO hW0
  go_enter Tryd.func4, Tryd.ntmps4
  go_wp2_with fail
  rw [HW0.out]
  refine (HO'.out).mono ?_
  rintro e W1 ⟨oa, oc, rfl, so1, b1⟩
  have gs1 := carry x0 b1
  have rs1 := carry x1 b1
  have cs1 := carry x2 b1
  have ks1 := kk.trans (b1.mono kk.size)
  clear x0 x1 x2 kk HW0 HO'
  go_wp2_with (refine wpList_store_row rfl 24 (.tmp 7) _ rfl W1.heap.size #[.int .i64 (n : Int), .int .i64 (hh : Int), .slice oa cs.length oc] rfl rfl _ _ (heap_alloc_new W1 _) (by kernel_rfl) rfl (one3v _ _ _ _ _) ?_
               obtain ⟨mX1, aX1⟩ := var_new W1 24 #[.int .i64 0, .int .i64 0, .slice none 0 0] #[.int .i64 (n : Int), .int .i64 (hh : Int), .slice oa cs.length oc]
               generalize ((W1.alloc (.cells #[.int .i64 0, .int .i64 0, .slice none 0 0] 24)).setRow W1.heap.size #[.int .i64 (n : Int), .int .i64 (hh : Int), .slice oa cs.length oc]) = X1 at *
               have gs2 := carry gs1 aX1
               have rs2 := carry rs1 aX1
               have cs2 := carry cs1 aX1
               have soos2 := so1.below aX1
               have ks2 := ks1.trans (aX1.mono ks1.size)
               obtain ⟨cgX10, cgX11, cgX12, _⟩ := cells3 gs2
               obtain ⟨crX10, crX11, crX12, crX13⟩ := cells4 rs2
               obtain ⟨ccX10, ccX11, ccX12, ccX13⟩ := cells4 cs2
               obtain ⟨coX10, coX11, coX12, _⟩ := cells3 mX1)
  refine (HFL.out _ _ ks2 soos2).mono ?_
  rintro e W2 ⟨_, rfl, ⟨gf, cf, rf, tf, rfl, hgf, hcf, hmf, hhf⟩, b2⟩
  have gs3 := carry gs2 b2
  have rs3 := carry rs2 b2
  have cs3 := carry cs2 b2
  have os3 := carry mX1 b2
  have soos3 := soos2.below b2
  have ks3 := ks2.trans (b2.mono ks2.size)
  clear cgX10 cgX11 cgX12 crX10 crX11 crX12 crX13 ccX10 ccX11 ccX12 ccX13 coX10 coX11 coX12
  have soz : SliceAt W2 (.slice (some ⟨gf, 0, none⟩) fg.length cf) fg := OwnG.slice (base := 0) ⟨gf, cf, rf, tf, rfl, by omega, hcf, hmf, hhf⟩
  clear hhf
  go_wp2_with (refine wpList_store_row rfl 24 (.tmp 8) _ rfl W2.heap.size #[.int .i64 (n : Int), .int .i64 (hh : Int), .slice (some ⟨gf, 0, none⟩) fg.length cf] rfl rfl _ _ (heap_alloc_new W2 _) (by kernel_rfl) rfl (one3v _ _ _ _ _) ?_
               obtain ⟨mX2, aX2⟩ := var_new W2 24 #[.int .i64 0, .int .i64 0, .slice none 0 0] #[.int .i64 (n : Int), .int .i64 (hh : Int), .slice (some ⟨gf, 0, none⟩) fg.length cf]
               generalize ((W2.alloc (.cells #[.int .i64 0, .int .i64 0, .slice none 0 0] 24)).setRow W2.heap.size #[.int .i64 (n : Int), .int .i64 (hh : Int), .slice (some ⟨gf, 0, none⟩) fg.length cf]) = X2 at *
               have gs4 := carry gs3 aX2
               have rs4 := carry rs3 aX2
               have cs4 := carry cs3 aX2
               have os4 := carry os3 aX2
               have soos4 := soos3.below aX2
               have sozs4 := soz.below aX2
               have ks4 := ks3.trans (aX2.mono ks3.size)
               obtain ⟨cgX20, cgX21, cgX22, _⟩ := cells3 gs4
               obtain ⟨ccX20, ccX21, ccX22, ccX23⟩ := cells4 cs4
               obtain ⟨coX20, coX21, coX22, _⟩ := cells3 os4
               obtain ⟨czX20, czX21, czX22, _⟩ := cells3 mX2)
  refine (ref_to n hh _ cs _ HER.out _ (HS.out _ ks4)).mono ?_
  rintro e W3 ⟨rfl, b3⟩
  have gs5 := carry gs4 b3
  have rs5 := carry rs4 b3
  have cs5 := carry cs4 b3
  have os5 := carry os4 b3
  have zs5 := carry mX2 b3
  have soos5 := soos4.below b3
  have sozs5 := sozs4.below b3
  have ks5 := ks4.trans (b3.mono ks4.size)
  clear cgX20 cgX21 cgX22 ccX20 ccX21 ccX22 ccX23 coX20 coX21 coX22 czX20 czX21 czX22
  obtain ⟨cgs50, cgs51, cgs52, _⟩ := cells3 gs5
  obtain ⟨ccs50, ccs51, ccs52, ccs53⟩ := cells4 cs5
  obtain ⟨cos50, cos51, cos52, _⟩ := cells3 os5
  obtain ⟨czs50, czs51, czs52, _⟩ := cells3 zs5
  go_wp2_with fail
  refine (widthOf_to r _ _ HWD.out).mono ?_
  rintro e W4 ⟨rfl, b4⟩
  have gs6 := carry gs5 b4
  have rs6 := carry rs5 b4
  have cs6 := carry cs5 b4
  have os6 := carry os5 b4
  have zs6 := carry zs5 b4
  have soos6 := soos5.below b4
  have sozs6 := sozs5.below b4
  have ks6 := ks5.trans (b4.mono ks5.size)
  clear cgs50 cgs51 cgs52 ccs50 ccs51 ccs52 ccs53 cos50 cos51 cos52 czs50 czs51 czs52
  obtain ⟨cgs60, cgs61, cgs62, _⟩ := cells3 gs6
  obtain ⟨ccs60, ccs61, ccs62, ccs63⟩ := cells4 cs6
  obtain ⟨cos60, cos61, cos62, _⟩ := cells3 os6
  obtain ⟨czs60, czs61, czs62, _⟩ := cells3 zs6
  go_wp2_with fail
  refine (isStyle_to f bk x _ HST.out _).mono ?_
  rintro e W5 ⟨rfl, b5⟩
  have gs7 := carry gs6 b5
  have rs7 := carry rs6 b5
  have cs7 := carry cs6 b5
  have os7 := carry os6 b5
  have zs7 := carry zs6 b5
  have soos7 := soos6.below b5
  have sozs7 := sozs6.below b5
  have ks7 := ks6.trans (b5.mono ks6.size)
  clear cgs60 cgs61 cgs62 ccs60 ccs61 ccs62 ccs63 cos60 cos61 cos62 czs60 czs61 czs62
  obtain ⟨cgs70, cgs71, cgs72, _⟩ := cells3 gs7
  obtain ⟨cos70, cos71, cos72, _⟩ := cells3 os7
  obtain ⟨czs70, czs71, czs72, _⟩ := cells3 zs7
  go_wp2_with fail
  refine (gridded_any _ (HT.out _ ks7)).mono ?_
  rintro e W6 ⟨rfl, b6⟩
  have gs8 := carry gs7 b6
  have rs8 := carry rs7 b6
  have cs8 := carry cs7 b6
  have os8 := carry os7 b6
  have zs8 := carry zs7 b6
  have soos8 := soos7.below b6
  have sozs8 := sozs7.below b6
  have ks8 := ks7.trans (b6.mono ks7.size)
  clear cgs70 cgs71 cgs72 cos70 cos71 cos72 czs70 czs71 czs72
  obtain ⟨cgs80, cgs81, cgs82, _⟩ := cells3 gs8
  obtain ⟨cos80, cos81, cos82, _⟩ := cells3 os8
  obtain ⟨czs80, czs81, czs82, _⟩ := cells3 zs8
  go_wp2_with fail
  refine (same_any_big n hh _ _ cs _ soos8 (HS.out _ ks8) HBIG.out).mono ?_
  rintro e W7 ⟨rfl, b7⟩
  have gs9 := carry gs8 b7
  have rs9 := carry rs8 b7
  have cs9 := carry cs8 b7
  have zs9 := carry zs8 b7
  have soos9 := soos8.below b7
  have sozs9 := sozs8.below b7
  have ks9 := ks8.trans (b7.mono ks8.size)
  clear cgs80 cgs81 cgs82 cos80 cos81 cos82 czs80 czs81 czs82
  obtain ⟨cgs90, cgs91, cgs92, _⟩ := cells3 gs9
  obtain ⟨crs90, crs91, crs92, crs93⟩ := cells4 rs9
  obtain ⟨ccs90, ccs91, ccs92, ccs93⟩ := cells4 cs9
  obtain ⟨czs90, czs91, czs92, _⟩ := cells3 zs9
  go_wp2_with fail
  have kd : Below W7.heap.size W7 W7.drew := (Below.refl _ _).drew
  have HSZ : Hid (SliceAt W7 (.slice (some ⟨gf, 0, none⟩) fg.length cf) fg) := sozs9
  have HKN : Hid (Below w.heap.size w W7) := ks9
  have HNX : Hid (∀ W W', Below W.heap.size W W' → (fun W => Below W7.heap.size W7 W ∧ (W.cell? ⟨w.heap.size, 0, none⟩ = some (.int .i64 (n : Int)) ∧ W.cell? ⟨w.heap.size, 1, none⟩ = some (.int .i64 (hh : Int)) ∧ W.cell? ⟨w.heap.size, 2, none⟩ = some (.slice (some ⟨b, o, none⟩) cs.length cx)) ∧ (W.cell? ⟨w.heap.size + 1, 0, none⟩ = some (.int .i64 rx) ∧ W.cell? ⟨w.heap.size + 1, 1, none⟩ = some (.int .i64 ry) ∧ W.cell? ⟨w.heap.size + 1, 2, none⟩ = some (.int .i64 rw) ∧ W.cell? ⟨w.heap.size + 1, 3, none⟩ = some (.int .i64 rh)) ∧ (W.cell? ⟨w.heap.size + 1 + 1, 0, none⟩ = some (.int .i32 r) ∧ W.cell? ⟨w.heap.size + 1 + 1, 1, none⟩ = some (.int .i64 f) ∧ W.cell? ⟨w.heap.size + 1 + 1, 2, none⟩ = some (.int .i64 bk) ∧ W.cell? ⟨w.heap.size + 1 + 1, 3, none⟩ = some (.int .i64 x)) ∧ (W.cell? ⟨W2.heap.size, 0, none⟩ = some (.int .i64 (n : Int)) ∧ W.cell? ⟨W2.heap.size, 1, none⟩ = some (.int .i64 (hh : Int)) ∧ W.cell? ⟨W2.heap.size, 2, none⟩ = some (.slice (some ⟨gf, 0, none⟩) fg.length cf))) W → (fun W => Below W7.heap.size W7 W ∧ (W.cell? ⟨w.heap.size, 0, none⟩ = some (.int .i64 (n : Int)) ∧ W.cell? ⟨w.heap.size, 1, none⟩ = some (.int .i64 (hh : Int)) ∧ W.cell? ⟨w.heap.size, 2, none⟩ = some (.slice (some ⟨b, o, none⟩) cs.length cx)) ∧ (W.cell? ⟨w.heap.size + 1, 0, none⟩ = some (.int .i64 rx) ∧ W.cell? ⟨w.heap.size + 1, 1, none⟩ = some (.int .i64 ry) ∧ W.cell? ⟨w.heap.size + 1, 2, none⟩ = some (.int .i64 rw) ∧ W.cell? ⟨w.heap.size + 1, 3, none⟩ = some (.int .i64 rh)) ∧ (W.cell? ⟨w.heap.size + 1 + 1, 0, none⟩ = some (.int .i32 r) ∧ W.cell? ⟨w.heap.size + 1 + 1, 1, none⟩ = some (.int .i64 f) ∧ W.cell? ⟨w.heap.size + 1 + 1, 2, none⟩ = some (.int .i64 bk) ∧ W.cell? ⟨w.heap.size + 1 + 1, 3, none⟩ = some (.int .i64 x)) ∧ (W.cell? ⟨W2.heap.size, 0, none⟩ = some (.int .i64 (n : Int)) ∧ W.cell? ⟨W2.heap.size, 1, none⟩ = some (.int .i64 (hh : Int)) ∧ W.cell? ⟨W2.heap.size, 2, none⟩ = some (.slice (some ⟨gf, 0, none⟩) fg.length cf))) W') := by
    rintro W W' hb ⟨k0, ⟨g0, g1, g2⟩, ⟨r0, r1, r2, r3⟩, ⟨c0, c1, c2, c3⟩, z0, z1, z2⟩
    exact ⟨k0.trans (hb.mono k0.size), ⟨cell_keep hb g0, cell_keep hb g1, cell_keep hb g2⟩, ⟨cell_keep hb r0, cell_keep hb r1, cell_keep hb r2, cell_keep hb r3⟩, ⟨cell_keep hb c0, cell_keep hb c1, cell_keep hb c2, cell_keep hb c3⟩, cell_keep hb z0, cell_keep hb z1, cell_keep hb z2⟩
  have HST0 : Hid ((fun W => Below W7.heap.size W7 W ∧ (W.cell? ⟨w.heap.size, 0, none⟩ = some (.int .i64 (n : Int)) ∧ W.cell? ⟨w.heap.size, 1, none⟩ = some (.int .i64 (hh : Int)) ∧ W.cell? ⟨w.heap.size, 2, none⟩ = some (.slice (some ⟨b, o, none⟩) cs.length cx)) ∧ (W.cell? ⟨w.heap.size + 1, 0, none⟩ = some (.int .i64 rx) ∧ W.cell? ⟨w.heap.size + 1, 1, none⟩ = some (.int .i64 ry) ∧ W.cell? ⟨w.heap.size + 1, 2, none⟩ = some (.int .i64 rw) ∧ W.cell? ⟨w.heap.size + 1, 3, none⟩ = some (.int .i64 rh)) ∧ (W.cell? ⟨w.heap.size + 1 + 1, 0, none⟩ = some (.int .i32 r) ∧ W.cell? ⟨w.heap.size + 1 + 1, 1, none⟩ = some (.int .i64 f) ∧ W.cell? ⟨w.heap.size + 1 + 1, 2, none⟩ = some (.int .i64 bk) ∧ W.cell? ⟨w.heap.size + 1 + 1, 3, none⟩ = some (.int .i64 x)) ∧ (W.cell? ⟨W2.heap.size, 0, none⟩ = some (.int .i64 (n : Int)) ∧ W.cell? ⟨W2.heap.size, 1, none⟩ = some (.int .i64 (hh : Int)) ∧ W.cell? ⟨W2.heap.size, 2, none⟩ = some (.slice (some ⟨gf, 0, none⟩) fg.length cf))) W7.drew) := ⟨kd, ⟨cgs90, cgs91, cgs92⟩, ⟨crs90, crs91, crs92, crs93⟩, ⟨ccs90, ccs91, ccs92, ccs93⟩, ⟨czs90, czs91, czs92⟩⟩
  go_region_held3 (fun W => Below W7.heap.size W7 W ∧ (W.cell? ⟨w.heap.size, 0, none⟩ = some (.int .i64 (n : Int)) ∧ W.cell? ⟨w.heap.size, 1, none⟩ = some (.int .i64 (hh : Int)) ∧ W.cell? ⟨w.heap.size, 2, none⟩ = some (.slice (some ⟨b, o, none⟩) cs.length cx)) ∧ (W.cell? ⟨w.heap.size + 1, 0, none⟩ = some (.int .i64 rx) ∧ W.cell? ⟨w.heap.size + 1, 1, none⟩ = some (.int .i64 ry) ∧ W.cell? ⟨w.heap.size + 1, 2, none⟩ = some (.int .i64 rw) ∧ W.cell? ⟨w.heap.size + 1, 3, none⟩ = some (.int .i64 rh)) ∧ (W.cell? ⟨w.heap.size + 1 + 1, 0, none⟩ = some (.int .i32 r) ∧ W.cell? ⟨w.heap.size + 1 + 1, 1, none⟩ = some (.int .i64 f) ∧ W.cell? ⟨w.heap.size + 1 + 1, 2, none⟩ = some (.int .i64 bk) ∧ W.cell? ⟨w.heap.size + 1 + 1, 3, none⟩ = some (.int .i64 x)) ∧ (W.cell? ⟨W2.heap.size, 0, none⟩ = some (.int .i64 (n : Int)) ∧ W.cell? ⟨W2.heap.size, 1, none⟩ = some (.int .i64 (hh : Int)) ∧ W.cell? ⟨W2.heap.size, 2, none⟩ = some (.slice (some ⟨gf, 0, none⟩) fg.length cf)))
    (first
      | (exact HNX.out _ _ b10 (by assumption))
      | (exact HNX.out _ _ b9 (by assumption))
      | (exact HST0.out))
    (first
      | (go_at_call 21; refine (HFG.out _ (HKN.out.trans (kd.mono HKN.out.size))).mono ?_; rintro e W9 ⟨v9, rfl, o9, b9⟩; have k9 := kd.trans (b9.mono kd.size))
      | (go_at_call 15; refine (same_any n hh _ v9 fg _ (HSZ.out.below k9) o9.slice HFLN.out).mono ?_; rintro e W10 ⟨rfl, b10⟩; have k10 := k9.trans (b10.mono k9.size)))
  go_wp2_with fail
  go_ret
  exact ⟨rfl, HKN.out.trans (k10.mono HKN.out.size)⟩
theorem gridFill_walk (a h : Int) (v : Value) (cs : List C) (rx ry rw rh r f bk x : Int) (w : World) (hT : Txt.Tab w) (hS : SliceAt w v cs) (hbig : cs.length * 32 ≤ 140737488351232) :
    Calls Tryd.prog 4 #[.agg #[.int .i64 a, .int .i64 h, v], .agg #[.int .i64 rx, .int .i64 ry, .int .i64 rw, .int .i64 rh], .agg #[.int .i32 r, .int .i64 f, .int .i64 bk, .int .i64 x]] w fun e w' => e = .returned (.bool true) ∧ Below w.heap.size w w' := by
  by_cases hok : gridErr a h cs = 0
  · by_cases hr : wd r = 1
    · cases hs : isSt (f, bk, x) with
      | false => exact gridFill_bad3 a h v cs rx ry rw rh r f bk x w hT hS hbig hok hr hs
      | true =>
        obtain ⟨n, hh, rfl, rfl⟩ := size_of_ok a h cs hok
        obtain ⟨b, o, c, rfl, h1, h2, h3⟩ := hS.open (pos_of_ok n hh cs hok).1
        exact gridFill_good n hh b o c cs rx ry rw rh r f bk x w hT h3 h1 h2 hok hr hs
    · exact gridFill_bad2 a h v cs rx ry rw rh r f bk x w hT hS hbig hok hr
  · exact gridFill_bad1 a h v cs rx ry rw rh r f bk x w hT hS hbig hok
end Grd
end Go.Proofs.YtinhmklpnkikgaaDoor

/- The walk of the reference's WriteGrid. -/
namespace Go.Proofs.YtinhmklpnkikgaaDoor
open Go.ChangeShapes Go.WideShapes Go.ChangeAt Go.RowKit Go.Maps
namespace Grd
open Txt (wd)
theorem rowsL_write (n hh : Nat) (cs : List C) (X Y : Nat) (l : List (Int × Nat)) (look : Int × Int × Int) : ((rowsL n cs hh).set Y (mendL (writeR look l (rowAt n cs Y) X))).flatten = writeG n hh cs X Y l look := by
  unfold writeG
  rw [← rowsF_flat]
  congr 1
  refine List.ext_getElem (by simp [rowsL, rowsF]) fun i h1 h2 => ?_
  rw [List.getElem_set]
  simp only [rowsL, rowsF, List.getElem_map, List.getElem_range, writeF]
  have hi : i < hh := by simpa [rowsL] using h1
  rw [if_pos hi]
  by_cases h : Y = i
  · rw [if_pos h, if_pos h.symm, h]
  · rw [if_neg h, if_neg (fun e => h e.symm)]
set_option maxHeartbeats 8000000 in
set_option maxRecDepth 100000 in
theorem writeGrid_any (n hh b o cx X Y : Nat) (cs : List C) (f bk x : Int) (s : ByteArray) (w : World) (hC : CellsAt w b o cs) (hs : isSize n hh = true) (hL : cs.length = n * hh) (hc : cs.length ≤ cx) (hX : X < n) (hY : Y < hh) :
    Calls Tryd.prog 23 #[.agg #[.int .i64 (n : Int), .int .i64 (hh : Int), .slice (some ⟨b, o, none⟩) cs.length cx], .int .i64 (X : Int), .int .i64 (Y : Int), .string s, .agg #[.int .i64 f, .int .i64 bk, .int .i64 x]] w fun e w' => ∃ v, e = .returned (.agg #[.int .i64 (n : Int), .int .i64 (hh : Int), v]) ∧ OwnG w' w.heap.size v (writeG n hh cs X Y (Txt.runes s) (f, bk, x)) ∧ Below w.heap.size w w' := by
  have ⟨p0, p1, p2, p3, p4, p5⟩ := prod_in n hh hs
  obtain ⟨x0, x1, x2, kk, hsz⟩ := alloc3 w (.cells #[.int .i64 (n : Int), .int .i64 (hh : Int), .slice (some ⟨b, o, none⟩) cs.length cx] 24) (.cells #[.int .i64 f, .int .i64 bk, .int .i64 x] 38) (.cells #[.int .i64 0, .int .i64 0, .slice none 0 0] 24)
  have HK := rows_any n hh b o cx cs _ (hC.below kk) hs hL hc
  have HL : Hid (cs.length = n * hh) := hL
  clear hC hs hL p0 p1
  generalize hW0 : (((w.alloc (.cells #[.int .i64 (n : Int), .int .i64 (hh : Int), .slice (some ⟨b, o, none⟩) cs.length cx] 24)).alloc (.cells #[.int .i64 f, .int .i64 bk, .int .i64 x] 38)).alloc (.cells #[.int .i64 0, .int .i64 0, .slice none 0 0] 24)) = W0 at x0 x1 x2 kk hsz HK
  have HW0 : Hid (_ = W0) := hW0
  have HK' : Hid (Calls Tryd.prog 28 #[.agg #[.int .i64 (n : Int), .int .i64 (hh : Int), .slice (some ⟨b, o, none⟩) cs.length cx]] W0 fun e w' => ∃ v vs gs, e = .returned v ∧ w'.ownsRow W0.heap.size 22 1 v hh vs ∧ RowsAt w' W0.heap.size vs gs (rowsL n cs hh) ∧ Below W0.heap.size W0 w') := HK
  clear HK hW0
  go_enter Tryd.func23, Tryd.ntmps23
  go_wp2_with fail
  rw [HW0.out]
  refine HK'.out.mono ?_
  rintro e Y1 ⟨v1, vs1, gs1, rfl, ho1, hr1, b1⟩
  have hvl1 : vs1.length = hh := by rw [hr1.1, rowsL_len]
  rw [← hvl1] at ho1
  obtain ⟨G, cap, rest, rfl, hGb, hlc, hcm, hG⟩ := out_of_own ho1 (by omega)
  rw [hvl1] at hlc
  have e1v : vs1.length = hh := hvl1
  simp only [e1v]
  have hYv : Y < vs1.length := by omega
  have y0 := carry x0 b1
  have y1 := carry x1 b1
  have y3 := carry x2 b1
  have kN : Below w.heap.size w Y1 := kk.trans (b1.mono kk.size)
  rw [hsz] at hr1 hGb
  have HR1 : Hid (RowsAt Y1 (w.heap.size + 3) vs1 gs1 (rowsL n cs hh)) := hr1
  have hrow := (hr1.2.2.2 Y (by rw [rowsL_len]; exact hY))
  have hrw : (rowsL n cs hh).getD Y [] = rowAt n cs Y := by simp [rowsL, List.getD, hY]
  rw [hrw] at hrow
  obtain ⟨hgb, capk, restk, hvk, hlk, hck, hgk⟩ := hrow
  have hrl := row_len n hh cs Y HL.out hY
  rw [hrl] at hvk hlk
  generalize hgk0 : gs1.getD Y 0 = gk0 at *
  have HGK : Hid (gs1.getD Y 0 = gk0) := hgk0
  have HVK : Hid (vs1.getD Y nilV = .slice (some ⟨gk0, 0, none⟩) n capk) := hvk
  have HRL : Hid ((rowAt n cs Y).length = n) := hrl
  have HGG : Hid (G ≠ gk0) := by
    intro e
    rw [e] at hG
    rw [hgk] at hG
    simp at hG
  have HEND0 : ∀ (W : World) (vs : List Value) (gs : List Nat), W.heap[G]? = some (.cells (vs ++ rest).toArray 22 (0, 0)) → RowsAt W (w.heap.size + 3) vs gs ((rowsL n cs hh).set Y (mendL (writeR (f, bk, x) (Txt.runes s) (rowAt n cs Y) X))) → Below (w.heap.size + 3) Y1 W → Calls Tryd.prog 30 #[.slice (some ⟨G, 0, none⟩) hh cap] W fun e w' => ∃ v, e = .returned (.agg #[.int .i64 (n : Int), .int .i64 (hh : Int), v]) ∧ OwnG w' W.heap.size v (writeG n hh cs X Y (Txt.runes s) (f, bk, x)) ∧ Below W.heap.size W w' := fun W vs gs h1 h2 _ => by
    have := gridOf_any n hh G cap (w.heap.size + 3) vs rest gs _ W (by omega) (by omega) (by omega) (by omega) h1 h2 (by rw [List.length_set, rowsL_len]) (fun i hi => by
      rw [List.length_set, rowsL_len] at hi
      have hi2 : i < (rowsL n cs hh).length := by rw [rowsL_len]; exact hi
      simp only [List.getD, List.getElem?_set]
      by_cases hiY : Y = i
      · subst hiY
        simp [hi2, mendL_len, writeR_len, HRL.out]
      · simp only [hiY, if_false]
        simp [rowsL, hi, row_len n hh cs i HL.out hi])
    rwa [rowsL_write n hh cs X Y _ _] at this
  obtain ⟨res, hres⟩ : ∃ q, writeG n hh cs X Y (Txt.runes s) (f, bk, x) = q := ⟨_, rfl⟩
  have HRES : Hid (writeG n hh cs X Y (Txt.runes s) (f, bk, x) = res) := hres
  rw [hres] at HEND0
  have HEND : Hid _ := HEND0
  clear e1v ho1 hr1 hrw hgk0 hvk hrl HEND0 hres HK' HW0 x0 x1 x2 b1 kk hvl1
  go_wp2_with fail
  go_loopw [1] (fun a wr => ∃ (pos fu xx : Nat) (row : List C), wr.heap[Y1.heap.size]? = some (.stringIter s pos) ∧ Apart (w.heap.size + 3) [gk0] Y1 wr ∧ a = .int .i64 (xx : Int) ∧ xx ≤ n ∧ row.length = n ∧ wr.heap[gk0]? = some (.cells (flat row ++ restk).toArray 40 (0, 0)) ∧ writeR (f, bk, x) (Txt.rs s fu pos) row xx = writeR (f, bk, x) (Txt.runes s) (rowAt n cs Y) X ∧ s.size ≤ pos + fu ∧ pos ≤ s.size) (fun _ wr => s.size - wr.iterPos Y1.heap.size)
  case atStart =>
    have hgl := blk_lt hgk
    refine ⟨0, s.size, X, rowAt n cs Y, World.iter_heap Y1 s 0, ⟨(Below.refl _ Y1).alloc (by omega) _, fun k _ hk => Below.heap_alloc _ _ _ hk⟩, rfl, by omega, HRL.out, ?_, rfl, by omega, by omega⟩
    exact (Below.heap_alloc _ _ _ hgl).trans hgk
  case round =>
    obtain ⟨pos, fu, xx, row, hit, hap, rfl, hxn, hrn, hv, heq, hfu, hps⟩ := hrel
    have hgl0 := blk_lt hgk
    have HEQ : Hid (writeR (f, bk, x) (Txt.rs s fu pos) row xx = writeR (f, bk, x) (Txt.runes s) (rowAt n cs Y) X) := heq
    have HRN : Hid (row.length = n) := hrn
    clear heq hrn
    by_cases hp : pos < s.size
    · have hnx : ∀ ty, (Instr.next (.pointer (some ⟨Y1.heap.size, 0, none⟩)) true ty).run Tryd.prog wr = _ := fun ty => Lib.run_next_any_at wr Y1.heap.size s pos ty hit hp
      have hwd := Txt.width_pos s pos hp
      have hfit := Txt.decode_fits s pos hp
      obtain ⟨fu, rfl⟩ : ∃ q, fu = q + 1 := ⟨fu - 1, by omega⟩
      have HR : Hid (Txt.rs s (fu + 1) pos = (((Utf8.decode s pos).1 : Int), (Utf8.decode s pos).2) :: Txt.rs s fu (pos + (Utf8.decode s pos).2)) := Txt.rs_step s fu pos hp
      have hwr := Txt.wd_range (Utf8.decode s pos).1
      have hit2 := Lib.iterAt_heap wr Y1.heap.size s pos (pos + (Utf8.decode s pos).2) hit
      have ap2 := hap.iterNew Y1.heap.size s (pos + (Utf8.decode s pos).2) (Nat.le_refl _) (by omega)
      have hv2 := (Lib.iterAt_other wr Y1.heap.size gk0 s (pos + (Utf8.decode s pos).2) (by omega)).trans hv
      have HI : Hid (wr.iterPos Y1.heap.size = pos) := by simp only [Hid, World.iterPos, hit]
      clear hit hap hv
      generalize Utf8.decode s pos = d at *
      obtain ⟨wv, hwv⟩ : ∃ q, wd d.1 = q := ⟨_, rfl⟩
      have HW : Hid (wd d.1 = wv) := hwv
      by_cases hbr : (n : Int) - xx < wd d.1
      · have HST : Hid (row = writeR (f, bk, x) (Txt.runes s) (rowAt n cs Y) X) := by
          unfold Hid
          rw [← HEQ.out, HR.out, writeR_stop (f, bk, x) _ _ row xx n HRN.out hbr]
        rw [hwv] at hbr hwr
        have nz : (wv == 0) = false := by simp; omega
        have gt1 : (n : Int) < (xx : Int) + wv := by omega
        clear hwv HEQ HR hbr
        go_wp2_with fail
        refine (widthOf_to d.1 _ _ HW.out).mono ?_
        rintro e W1 ⟨rfl, b1⟩
        have apW := ap2.step b1 (by have := blk_lt hv2; omega)
        have hvW := carry hv2 b1
        obtain ⟨g0, g1, g2, _⟩ := cells3 (apW.carry y0 (by simp; omega))
        have KM := mendRow_any gk0 0 capk row W1 (cellsAt_flat hvW) (by rw [HRN.out]; omega)
        rw [HRN.out] at KM
        have HKM : Hid (Calls Tryd.prog 29 #[.slice (some ⟨gk0, 0, none⟩) n capk] W1 fun e w' => ∃ v' g, e = .returned v' ∧ W1.heap.size ≤ g ∧ RowB w' g v' (mendL row) ∧ Below W1.heap.size W1 w') := KM
        have wG := apW.carry hG (by simpa using HGG.out)
        have hcj := out_cell wG Y hYv
        rw [HVK.out] at hcj
        clear KM
        go_wp2_with fail
        refine HKM.out.mono ?_
        rintro e W6 ⟨v6, g6, rfl, hg6, hr6, b6⟩
        have wG6 := carry wG b6
        have hce : W6.cell? ⟨G, Y, none⟩ = some (vs1.getD Y nilV) := out_cell wG6 Y hYv
        have hfz : W6.frozen? ⟨G, Y, none⟩ = false := frozen_of wG6 _
        have HR6 : Hid (RowB W6 g6 v6 (mendL row)) := hr6
        have ap6 := apW.step b6 (by have := apW.1.size; omega)
        have hVs := apW.1.size
        have hWs := b6.size
        obtain ⟨cap6, _, rfl, _⟩ := hr6
        clear hcj
        have hGl : G < Y1.heap.size := blk_lt hG
        have hgl : gk0 < Y1.heap.size := blk_lt hgk
        have HFIN : Hid (mendL row = mendL (writeR (f, bk, x) (Txt.runes s) (rowAt n cs Y) X)) := by unfold Hid; rw [HST.out]
        have vG7 := heap_setCell_same W6 G Y _ _ (.slice (some ⟨g6, 0, none⟩) (mendL row).length cap6) wG6
        have hR7 : RowsAt (W6.setCell ⟨G, Y, none⟩ (.slice (some ⟨g6, 0, none⟩) (mendL row).length cap6)) (w.heap.size + 3) (vs1.set Y (.slice (some ⟨g6, 0, none⟩) (mendL row).length cap6)) (gs1.set Y g6) ((rowsL n cs hh).set Y (mendL row)) := by
          refine HR1.out.set Y (by rw [rowsL_len]; exact hY) g6 _ _ (by omega) ?_ (fun i hi hik => ?_) (fun i hi hik => ?_)
          · obtain ⟨cp, rs, e1, e2, e3, e4⟩ := HR6.out
            exact ⟨cp, rs, e1, e2, e3, by rw [heap_setCell_other _ _ _ _ (by dsimp only; omega)]; exact e4⟩
          · have := HR1.out.lt i hi
            omega
          · have h1 := HR1.out.lt i hi
            have h2 := HR1.out.ne i Y hi (by rw [rowsL_len]; exact hY) hik
            rw [HGK.out] at h2
            have h3 : gs1.getD i 0 ≠ G := by
              intro e
              obtain ⟨_, _, _, _, _, _, h5⟩ := HR1.out.2.2.2 i hi
              rw [e, hG] at h5
              simp at h5
            rw [heap_setCell_other _ _ _ _ (by dsimp only; exact h3), b6.block _ (by omega), apW.2 _ (by simpa using h2) h1]
        have hk7 : Below (w.heap.size + 3) Y1 (W6.setCell ⟨G, Y, none⟩ (.slice (some ⟨g6, 0, none⟩) (mendL row).length cap6)) := ap6.1.setCell (by dsimp only; omega) _
        rw [HFIN.out] at vG7 hR7 hk7
        have e7 : (mendL row).length = (mendL (writeR (f, bk, x) (Txt.runes s) (rowAt n cs Y) X)).length := by rw [HFIN.out]
        have vG8 : (W6.setCell ⟨G, Y, none⟩ (.slice (some ⟨g6, 0, none⟩) (mendL (writeR (f, bk, x) (Txt.runes s) (rowAt n cs Y) X)).length cap6)).heap[G]? = some (.cells ((vs1.set Y (.slice (some ⟨g6, 0, none⟩) (mendL (writeR (f, bk, x) (Txt.runes s) (rowAt n cs Y) X)).length cap6)) ++ rest).toArray 22 (0, 0)) := by
          rw [vG7]
          simp [List.set_append_left _ _ hYv]
        rw [e7]
        have HE := HEND.out _ _ _ vG8 hR7 hk7
        have v3 : (W6.setCell ⟨G, Y, none⟩ (.slice (some ⟨g6, 0, none⟩) (mendL (writeR (f, bk, x) (Txt.runes s) (rowAt n cs Y) X)).length cap6)).heap[w.heap.size + 2]? = _ := (hk7.block _ (by omega)).trans y3
        have kW : Below w.heap.size w (W6.setCell ⟨G, Y, none⟩ (.slice (some ⟨g6, 0, none⟩) (mendL (writeR (f, bk, x) (Txt.runes s) (rowAt n cs Y) X)).length cap6)) := kN.trans (hk7.mono (by omega))
        have HE' : Hid (Calls Tryd.prog 30 #[.slice (some ⟨G, 0, none⟩) hh cap] (W6.setCell ⟨G, Y, none⟩ (.slice (some ⟨g6, 0, none⟩) (mendL (writeR (f, bk, x) (Txt.runes s) (rowAt n cs Y) X)).length cap6)) fun e w' => ∃ v, e = .returned (.agg #[.int .i64 (n : Int), .int .i64 (hh : Int), v]) ∧ OwnG w' (W6.setCell ⟨G, Y, none⟩ (.slice (some ⟨g6, 0, none⟩) (mendL (writeR (f, bk, x) (Txt.runes s) (rowAt n cs Y) X)).length cap6)).heap.size v res ∧ Below (W6.setCell ⟨G, Y, none⟩ (.slice (some ⟨g6, 0, none⟩) (mendL (writeR (f, bk, x) (Txt.runes s) (rowAt n cs Y) X)).length cap6)).heap.size (W6.setCell ⟨G, Y, none⟩ (.slice (some ⟨g6, 0, none⟩) (mendL (writeR (f, bk, x) (Txt.runes s) (rowAt n cs Y) X)).length cap6)) w') := HE
        have hNw : w.heap.size + 2 < (W6.setCell ⟨G, Y, none⟩ (.slice (some ⟨g6, 0, none⟩) (mendL (writeR (f, bk, x) (Txt.runes s) (rowAt n cs Y) X)).length cap6)).heap.size := blk_lt v3
        clear HE vG7 vG8 hR7
        go_wp2_with fail
        refine HE'.out.mono ?_
        rintro e W8 ⟨_, rfl, ⟨g7, c7, r7, t7, rfl, hg7, hc7, hm7, h7⟩, b8⟩
        have u3 := carry v3 b8
        have kW8 := kW.trans (b8.mono kW.size)
        have hg8 : w.heap.size + 2 < g7 := Nat.lt_of_lt_of_le hNw hg7
        clear hNw hg7 v3 kW hk7
        go_wp2_with (refine wpList_store_row rfl 24 (.tmp 10) _ rfl (w.heap.size + 2) #[.int .i64 (n : Int), .int .i64 (hh : Int), .slice (some ⟨g7, 0, none⟩) res.length c7] rfl rfl _ _ u3 (by kernel_rfl) rfl (one3v _ _ _ _ _) ?_)
        (try simp only [Exit.inBlock, Exit.then])
        refine bodyPost_ret (v := .agg #[.int .i64 (n : Int), .int .i64 (hh : Int), .slice (some ⟨g7, 0, none⟩) res.length c7]) ?_ rfl ⟨_, rfl, ⟨g7, c7, r7, t7, by rw [HRES.out], by omega, by rw [HRES.out]; exact hc7, hm7, ?_⟩, below_setRow kW8 (by omega) _⟩
        · exact results_cell_row rfl _ _ (w.heap.size + 2) _ _ _ _ rfl (setRow_heap _ _ _ _ _ _ u3) Tryd.underlying24 rfl (by kernel_rfl)
        · rw [setRow_other _ _ _ _ (by omega), HRES.out]
          exact h7
      · have HGO : Hid (writeR (f, bk, x) (Txt.rs s fu (pos + d.2)) (writeOne (f, bk, x) row xx d.1) (xx + (wd d.1).toNat) = writeR (f, bk, x) (Txt.runes s) (rowAt n cs Y) X) := by
          unfold Hid
          rw [← HEQ.out, HR.out, writeR_go (f, bk, x) _ _ row xx n HRN.out hbr]
        clear HEQ HR HW hwv
        rcases (show wd d.1 = 0 ∨ wd d.1 = 1 ∨ wd d.1 = 2 by omega) with h0 | h0 | h0
        · have HG2 : Hid (writeR (f, bk, x) (Txt.rs s fu (pos + d.2)) row xx = writeR (f, bk, x) (Txt.runes s) (rowAt n cs Y) X) := by
            have := HGO.out
            unfold writeOne at this
            rw [if_pos h0, h0] at this
            exact this
          have HW : Hid (wd d.1 = 0) := h0
          clear h0 hwr hbr HGO
          go_wp2_with fail
          refine (widthOf_to d.1 _ _ HW.out).mono ?_
          rintro e W1 ⟨rfl, b1⟩
          have apW := ap2.step b1 (by have := blk_lt hv2; omega)
          have hvW := carry hv2 b1
          have hitW := carry hit2 b1
          go_wp2_with fail
          go_roundw
          case rel => exact ⟨pos + d.2, fu, xx, row, hitW, apW, rfl, hxn, HRN.out, hvW, HG2.out, by omega, by omega⟩
          case measure =>
            rw [HI.out]
            simp only [World.iterPos, hitW]
            omega
        · have HG2 : Hid (writeR (f, bk, x) (Txt.rs s fu (pos + d.2)) (row.set xx (d.1, f, bk, x)) (xx + 1) = writeR (f, bk, x) (Txt.runes s) (rowAt n cs Y) X) := by
            have := HGO.out
            unfold writeOne at this
            rw [if_neg (by omega), if_neg (by omega), h0] at this
            exact this
          have HW : Hid (wd d.1 = 1) := h0
          have nb : ¬ (n : Int) < (xx : Int) + 1 := by omega
          have hxl : xx + 0 < n := by omega
          clear h0 hwr hbr HGO
          go_wp2_with fail
          refine (widthOf_to d.1 _ _ HW.out).mono ?_
          rintro e W1 ⟨rfl, b1⟩
          have apW := ap2.step b1 (by have := blk_lt hv2; omega)
          have hvW := carry hv2 b1
          have hitW := carry hit2 b1
          obtain ⟨g0, g1, g2, _⟩ := cells3 (apW.carry y0 (by simp; omega))
          have hjla : xx < row.length := by rw [HRN.out]; omega
          have hsva := store_cell (w := W1.drew) (pre := []) (by rw [List.nil_append]; exact hvW) xx hjla (d.1, f, bk, x)
          rw [List.length_nil, Nat.zero_add, List.nil_append] at hsva
          have haza := apW.drew.setCells gk0 (xx * 4) (words (d.1, f, bk, x)) (by simp) (by omega)
          have hita := (heap_setCells_ne gk0 Y1.heap.size (by omega) (words (d.1, f, bk, x)) (xx * 4) W1.drew).trans hitW
          have ⟨o0a, o1a, o2a, o3a⟩ := (cellsAt_flat hvW) xx hjla
          rw [Nat.zero_add] at o0a o1a o2a o3a
          generalize row.getD xx Grd.z0 = oca at o0a o1a o2a o3a
          have q0a : W1.frozen? ⟨gk0, xx * 4, none⟩ = false := frozen_of hvW _
          have q1a : W1.frozen? ⟨gk0, xx * 4 + 1, none⟩ = false := frozen_of hvW _
          have q2a : W1.frozen? ⟨gk0, xx * 4 + 2, none⟩ = false := frozen_of hvW _
          have q3a : W1.frozen? ⟨gk0, xx * 4 + 3, none⟩ = false := frozen_of hvW _
          obtain ⟨s0a, s1a, s2a, _⟩ := cells3 (apW.carry y1 (by simp; omega))
          have hcja := out_cell (apW.carry hG (by simpa using HGG.out)) Y hYv
          rw [HVK.out] at hcja
          have HSVa : Hid ((W1.drew.setCells gk0 (xx * 4) (words (d.1, f, bk, x))).heap[gk0]? = some (.cells (flat (row.set xx (d.1, f, bk, x)) ++ restk).toArray 40 (0, 0))) := hsva
          have HAZa : Hid (Apart (w.heap.size + 3) [gk0] Y1 (W1.drew.setCells gk0 (xx * 4) (words (d.1, f, bk, x)))) := haza
          have HITa : Hid ((W1.drew.setCells gk0 (xx * 4) (words (d.1, f, bk, x))).heap[Y1.heap.size]? = some (.stringIter s (pos + d.2))) := hita
          clear hsva haza hita hjla
          go_wp2_with fail
          go_region
          go_wp2_with fail
          go_roundw
          case rel => exact ⟨pos + d.2, fu, xx + 1, row.set xx (d.1, f, bk, x), HITa.out, HAZa.out, by first | rfl | simp, by omega, by rw [List.length_set, HRN.out], HSVa.out, HG2.out, by omega, by omega⟩
          case measure =>
            rw [HI.out]
            have := HITa.out
            show s.size - (W1.drew.setCells gk0 (xx * 4) (words (d.1, f, bk, x))).iterPos Y1.heap.size < _
            simp only [World.iterPos, this]
            omega
        · have HG2 : Hid (writeR (f, bk, x) (Txt.rs s fu (pos + d.2)) ((row.set xx (d.1, f, bk, x)).set (xx + 1) (0, f, bk, x)) (xx + 2) = writeR (f, bk, x) (Txt.runes s) (rowAt n cs Y) X) := by
            have := HGO.out
            unfold writeOne at this
            rw [if_neg (by omega), if_pos h0, h0] at this
            exact this
          have HW : Hid (wd d.1 = 2) := h0
          have nb : ¬ (n : Int) < (xx : Int) + 2 := by omega
          have hxl : xx + 1 < n := by omega
          clear h0 hwr hbr HGO
          go_wp2_with fail
          refine (widthOf_to d.1 _ _ HW.out).mono ?_
          rintro e W1 ⟨rfl, b1⟩
          have apW := ap2.step b1 (by have := blk_lt hv2; omega)
          have hvW := carry hv2 b1
          have hitW := carry hit2 b1
          obtain ⟨g0, g1, g2, _⟩ := cells3 (apW.carry y0 (by simp; omega))
          have hjla : xx < row.length := by rw [HRN.out]; omega
          have hsva := store_cell (w := W1.drew) (pre := []) (by rw [List.nil_append]; exact hvW) xx hjla (d.1, f, bk, x)
          rw [List.length_nil, Nat.zero_add, List.nil_append] at hsva
          have haza := apW.drew.setCells gk0 (xx * 4) (words (d.1, f, bk, x)) (by simp) (by omega)
          have hita := (heap_setCells_ne gk0 Y1.heap.size (by omega) (words (d.1, f, bk, x)) (xx * 4) W1.drew).trans hitW
          have ⟨o0a, o1a, o2a, o3a⟩ := (cellsAt_flat hvW) xx hjla
          rw [Nat.zero_add] at o0a o1a o2a o3a
          generalize row.getD xx Grd.z0 = oca at o0a o1a o2a o3a
          have q0a : W1.frozen? ⟨gk0, xx * 4, none⟩ = false := frozen_of hvW _
          have q1a : W1.frozen? ⟨gk0, xx * 4 + 1, none⟩ = false := frozen_of hvW _
          have q2a : W1.frozen? ⟨gk0, xx * 4 + 2, none⟩ = false := frozen_of hvW _
          have q3a : W1.frozen? ⟨gk0, xx * 4 + 3, none⟩ = false := frozen_of hvW _
          obtain ⟨s0a, s1a, s2a, _⟩ := cells3 (apW.carry y1 (by simp; omega))
          have hcja := out_cell (apW.carry hG (by simpa using HGG.out)) Y hYv
          rw [HVK.out] at hcja
          have HSVa : Hid ((W1.drew.setCells gk0 (xx * 4) (words (d.1, f, bk, x))).heap[gk0]? = some (.cells (flat (row.set xx (d.1, f, bk, x)) ++ restk).toArray 40 (0, 0))) := hsva
          have HAZa : Hid (Apart (w.heap.size + 3) [gk0] Y1 (W1.drew.setCells gk0 (xx * 4) (words (d.1, f, bk, x)))) := haza
          have HITa : Hid ((W1.drew.setCells gk0 (xx * 4) (words (d.1, f, bk, x))).heap[Y1.heap.size]? = some (.stringIter s (pos + d.2))) := hita
          clear hsva haza hita hjla
          go_wp2_with fail
          go_region
          go_wp2_with fail
          change Code.wp _ _ _ _ (W1.drew.setCells gk0 (xx * 4) (words (d.1, f, bk, x)))
          have hvZ := HSVa.out
          have apZ := HAZa.out
          have hitZ := HITa.out
          clear HSVa HAZa HITa o0a o1a o2a o3a q0a q1a q2a q3a s0a s1a s2a hcja
          generalize W1.drew.setCells gk0 (xx * 4) (words (d.1, f, bk, x)) = Z at *
          have hjlb : (xx + 1) < (row.set xx (d.1, f, bk, x)).length := by rw [List.length_set, HRN.out]; omega
          have hsvb := store_cell (w := Z.drew) (pre := []) (by rw [List.nil_append]; exact hvZ) (xx + 1) hjlb (0, f, bk, x)
          rw [List.length_nil, Nat.zero_add, List.nil_append] at hsvb
          have hazb := apZ.drew.setCells gk0 ((xx + 1) * 4) (words (0, f, bk, x)) (by simp) (by omega)
          have hitb := (heap_setCells_ne gk0 Y1.heap.size (by omega) (words (0, f, bk, x)) ((xx + 1) * 4) Z.drew).trans hitZ
          have ⟨o0b, o1b, o2b, o3b⟩ := (cellsAt_flat hvZ) (xx + 1) hjlb
          rw [Nat.zero_add] at o0b o1b o2b o3b
          generalize (row.set xx (d.1, f, bk, x)).getD (xx + 1) Grd.z0 = ocb at o0b o1b o2b o3b
          have q0b : Z.frozen? ⟨gk0, (xx + 1) * 4, none⟩ = false := frozen_of hvZ _
          have q1b : Z.frozen? ⟨gk0, (xx + 1) * 4 + 1, none⟩ = false := frozen_of hvZ _
          have q2b : Z.frozen? ⟨gk0, (xx + 1) * 4 + 2, none⟩ = false := frozen_of hvZ _
          have q3b : Z.frozen? ⟨gk0, (xx + 1) * 4 + 3, none⟩ = false := frozen_of hvZ _
          obtain ⟨s0b, s1b, s2b, _⟩ := cells3 (apZ.carry y1 (by simp; omega))
          have hcjb := out_cell (apZ.carry hG (by simpa using HGG.out)) Y hYv
          rw [HVK.out] at hcjb
          have HSVb : Hid ((Z.drew.setCells gk0 ((xx + 1) * 4) (words (0, f, bk, x))).heap[gk0]? = some (.cells (flat ((row.set xx (d.1, f, bk, x)).set (xx + 1) (0, f, bk, x)) ++ restk).toArray 40 (0, 0))) := hsvb
          have HAZb : Hid (Apart (w.heap.size + 3) [gk0] Y1 (Z.drew.setCells gk0 ((xx + 1) * 4) (words (0, f, bk, x)))) := hazb
          have HITb : Hid ((Z.drew.setCells gk0 ((xx + 1) * 4) (words (0, f, bk, x))).heap[Y1.heap.size]? = some (.stringIter s (pos + d.2))) := hitb
          clear hsvb hazb hitb hjlb
          go_wp2_with fail
          go_region
          go_wp2_with fail
          go_roundw
          case rel => exact ⟨pos + d.2, fu, xx + 2, (row.set xx (d.1, f, bk, x)).set (xx + 1) (0, f, bk, x), HITb.out, HAZb.out, by first | rfl | simp, by omega, by rw [List.length_set, List.length_set, HRN.out], HSVb.out, HG2.out, by omega, by omega⟩
          case measure =>
            rw [HI.out]
            have := HITb.out
            show s.size - (Z.drew.setCells gk0 ((xx + 1) * 4) (words (0, f, bk, x))).iterPos Y1.heap.size < _
            simp only [World.iterPos, this]
            omega
    · have hnx : ∀ ty, (Instr.next (.pointer (some ⟨Y1.heap.size, 0, none⟩)) true ty).run Tryd.prog wr = _ := fun ty => Lib.run_next_end_at wr Y1.heap.size s pos ty hit hp
      have HST : Hid (row = writeR (f, bk, x) (Txt.runes s) (rowAt n cs Y) X) := by
        have := HEQ.out
        rw [Txt.rs_end s fu pos hp] at this
        exact this
      have KM := mendRow_any gk0 0 capk row wr (cellsAt_flat hv) (by rw [HRN.out]; omega)
      rw [HRN.out] at KM
      have HKM : Hid (Calls Tryd.prog 29 #[.slice (some ⟨gk0, 0, none⟩) n capk] wr fun e w' => ∃ v' g, e = .returned v' ∧ wr.heap.size ≤ g ∧ RowB w' g v' (mendL row) ∧ Below wr.heap.size wr w') := KM
      have wG := hap.carry hG (by simpa using HGG.out)
      have hcj := out_cell wG Y hYv
      rw [HVK.out] at hcj
      clear KM
      go_wp2_with fail
      refine HKM.out.mono ?_
      rintro e W6 ⟨v6, g6, rfl, hg6, hr6, b6⟩
      have wG6 := carry wG b6
      have hce : W6.cell? ⟨G, Y, none⟩ = some (vs1.getD Y nilV) := out_cell wG6 Y hYv
      have hfz : W6.frozen? ⟨G, Y, none⟩ = false := frozen_of wG6 _
      have HR6 : Hid (RowB W6 g6 v6 (mendL row)) := hr6
      have ap6 := hap.step b6 (by have := hap.1.size; omega)
      have hVs := hap.1.size
      have hWs := b6.size
      obtain ⟨cap6, _, rfl, _⟩ := hr6
      clear hcj
      have hGl : G < Y1.heap.size := blk_lt hG
      have hgl : gk0 < Y1.heap.size := blk_lt hgk
      have HFIN : Hid (mendL row = mendL (writeR (f, bk, x) (Txt.runes s) (rowAt n cs Y) X)) := by unfold Hid; rw [HST.out]
      have vG7 := heap_setCell_same W6 G Y _ _ (.slice (some ⟨g6, 0, none⟩) (mendL row).length cap6) wG6
      have hR7 : RowsAt (W6.setCell ⟨G, Y, none⟩ (.slice (some ⟨g6, 0, none⟩) (mendL row).length cap6)) (w.heap.size + 3) (vs1.set Y (.slice (some ⟨g6, 0, none⟩) (mendL row).length cap6)) (gs1.set Y g6) ((rowsL n cs hh).set Y (mendL row)) := by
        refine HR1.out.set Y (by rw [rowsL_len]; exact hY) g6 _ _ (by omega) ?_ (fun i hi hik => ?_) (fun i hi hik => ?_)
        · obtain ⟨cp, rs, e1, e2, e3, e4⟩ := HR6.out
          exact ⟨cp, rs, e1, e2, e3, by rw [heap_setCell_other _ _ _ _ (by dsimp only; omega)]; exact e4⟩
        · have := HR1.out.lt i hi
          omega
        · have h1 := HR1.out.lt i hi
          have h2 := HR1.out.ne i Y hi (by rw [rowsL_len]; exact hY) hik
          rw [HGK.out] at h2
          have h3 : gs1.getD i 0 ≠ G := by
            intro e
            obtain ⟨_, _, _, _, _, _, h5⟩ := HR1.out.2.2.2 i hi
            rw [e, hG] at h5
            simp at h5
          rw [heap_setCell_other _ _ _ _ (by dsimp only; exact h3), b6.block _ (by omega), hap.2 _ (by simpa using h2) h1]
      have hk7 : Below (w.heap.size + 3) Y1 (W6.setCell ⟨G, Y, none⟩ (.slice (some ⟨g6, 0, none⟩) (mendL row).length cap6)) := ap6.1.setCell (by dsimp only; omega) _
      rw [HFIN.out] at vG7 hR7 hk7
      have e7 : (mendL row).length = (mendL (writeR (f, bk, x) (Txt.runes s) (rowAt n cs Y) X)).length := by rw [HFIN.out]
      have vG8 : (W6.setCell ⟨G, Y, none⟩ (.slice (some ⟨g6, 0, none⟩) (mendL (writeR (f, bk, x) (Txt.runes s) (rowAt n cs Y) X)).length cap6)).heap[G]? = some (.cells ((vs1.set Y (.slice (some ⟨g6, 0, none⟩) (mendL (writeR (f, bk, x) (Txt.runes s) (rowAt n cs Y) X)).length cap6)) ++ rest).toArray 22 (0, 0)) := by
        rw [vG7]
        simp [List.set_append_left _ _ hYv]
      rw [e7]
      have HE := HEND.out _ _ _ vG8 hR7 hk7
      have v3 : (W6.setCell ⟨G, Y, none⟩ (.slice (some ⟨g6, 0, none⟩) (mendL (writeR (f, bk, x) (Txt.runes s) (rowAt n cs Y) X)).length cap6)).heap[w.heap.size + 2]? = _ := (hk7.block _ (by omega)).trans y3
      have kW : Below w.heap.size w (W6.setCell ⟨G, Y, none⟩ (.slice (some ⟨g6, 0, none⟩) (mendL (writeR (f, bk, x) (Txt.runes s) (rowAt n cs Y) X)).length cap6)) := kN.trans (hk7.mono (by omega))
      have HE' : Hid (Calls Tryd.prog 30 #[.slice (some ⟨G, 0, none⟩) hh cap] (W6.setCell ⟨G, Y, none⟩ (.slice (some ⟨g6, 0, none⟩) (mendL (writeR (f, bk, x) (Txt.runes s) (rowAt n cs Y) X)).length cap6)) fun e w' => ∃ v, e = .returned (.agg #[.int .i64 (n : Int), .int .i64 (hh : Int), v]) ∧ OwnG w' (W6.setCell ⟨G, Y, none⟩ (.slice (some ⟨g6, 0, none⟩) (mendL (writeR (f, bk, x) (Txt.runes s) (rowAt n cs Y) X)).length cap6)).heap.size v res ∧ Below (W6.setCell ⟨G, Y, none⟩ (.slice (some ⟨g6, 0, none⟩) (mendL (writeR (f, bk, x) (Txt.runes s) (rowAt n cs Y) X)).length cap6)).heap.size (W6.setCell ⟨G, Y, none⟩ (.slice (some ⟨g6, 0, none⟩) (mendL (writeR (f, bk, x) (Txt.runes s) (rowAt n cs Y) X)).length cap6)) w') := HE
      have hNw : w.heap.size + 2 < (W6.setCell ⟨G, Y, none⟩ (.slice (some ⟨g6, 0, none⟩) (mendL (writeR (f, bk, x) (Txt.runes s) (rowAt n cs Y) X)).length cap6)).heap.size := blk_lt v3
      clear HE vG7 vG8 hR7
      go_wp2_with fail
      refine HE'.out.mono ?_
      rintro e W8 ⟨_, rfl, ⟨g7, c7, r7, t7, rfl, hg7, hc7, hm7, h7⟩, b8⟩
      have u3 := carry v3 b8
      have kW8 := kW.trans (b8.mono kW.size)
      have hg8 : w.heap.size + 2 < g7 := Nat.lt_of_lt_of_le hNw hg7
      clear hNw hg7 v3 kW hk7
      go_wp2_with (refine wpList_store_row rfl 24 (.tmp 10) _ rfl (w.heap.size + 2) #[.int .i64 (n : Int), .int .i64 (hh : Int), .slice (some ⟨g7, 0, none⟩) res.length c7] rfl rfl _ _ u3 (by kernel_rfl) rfl (one3v _ _ _ _ _) ?_)
      (try simp only [Exit.inBlock, Exit.then])
      refine bodyPost_ret (v := .agg #[.int .i64 (n : Int), .int .i64 (hh : Int), .slice (some ⟨g7, 0, none⟩) res.length c7]) ?_ rfl ⟨_, rfl, ⟨g7, c7, r7, t7, by rw [HRES.out], by omega, by rw [HRES.out]; exact hc7, hm7, ?_⟩, below_setRow kW8 (by omega) _⟩
      · exact results_cell_row rfl _ _ (w.heap.size + 2) _ _ _ _ rfl (setRow_heap _ _ _ _ _ _ u3) Tryd.underlying24 rfl (by kernel_rfl)
      · rw [setRow_other _ _ _ _ (by omega), HRES.out]
        exact h7
end Grd
end Go.Proofs.YtinhmklpnkikgaaDoor

/- The walk of the law GridFill: what is refused. -/
import Derived.Test.YtlpoahhlggnmfaaDoorGridSame
import Derived.Test.YtlpoahhlggnmfaaDoorGridRefFill2
import Derived.Test.YtlpoahhlggnmfaaDoorGridRef
import Derived.Test.YtlpoahhlggnmfaaDoorGridded2
namespace Go.Proofs.YtlpoahhlggnmfaaDoor
open Go.ChangeShapes Go.WideShapes Go.ChangeAt Go.RowKit Go.Maps
namespace Grd
open Txt (wd)
open Sty (isSt)
theorem ref_to (a h : Int) (v : Value) (cs : List C) (q : Int) (hq : gridErr a h cs = q) (w : World) (hS : SliceAt w v cs) :
    Calls Tryd.prog 12 #[.agg #[.int .i64 a, .int .i64 h, v]] w fun e w' => e = .returned (.int .i64 q) ∧ Below w.heap.size w w' := by
  have := ref_any a h v cs w hS
  rwa [hq] at this
set_option maxHeartbeats 4000000 in
theorem gridFill_bad1 (a h : Int) (v : Value) (cs : List C) (rx ry rw rh r f bk x : Int) (w : World) (hT : Txt.Tab w) (hS : SliceAt w v cs) (hbig : cs.length * 32 ≤ 140737488351232) (hok : gridErr a h cs ≠ 0) :
    Calls Tryd.prog 4 #[.agg #[.int .i64 a, .int .i64 h, v], .agg #[.int .i64 rx, .int .i64 ry, .int .i64 rw, .int .i64 rh], .agg #[.int .i32 r, .int .i64 f, .int .i64 bk, .int .i64 x]] w fun e w' => e = .returned (.bool true) ∧ Below w.heap.size w w' := by
  have HT : Hid (∀ W, Below w.heap.size w W → Txt.Tab W) := fun W k => Tab.next hT k
  have HS : Hid (∀ W, Below w.heap.size w W → SliceAt W v cs) := fun W k => hS.below k
  obtain ⟨x0, x1, x2, kk, hsz⟩ := alloc3 w (.cells #[.int .i64 a, .int .i64 h, v] 24) (.cells #[.int .i64 rx, .int .i64 ry, .int .i64 rw, .int .i64 rh] 36) (.cells #[.int .i32 r, .int .i64 f, .int .i64 bk, .int .i64 x] 40)
  have HO := own_any a h v cs _ (hS.below kk) (by omega)
  obtain ⟨er, her⟩ : ∃ q, gridErr a h cs = q := ⟨_, rfl⟩
  have HER : Hid (gridErr a h cs = er) := her
  have HFL : Hid (∀ W u, Below w.heap.size w W → SliceAt W u cs → Calls Tryd.prog 18 #[.agg #[.int .i64 a, .int .i64 h, u], .agg #[.int .i64 rx, .int .i64 ry, .int .i64 rw, .int .i64 rh], .agg #[.int .i32 r, .int .i64 f, .int .i64 bk, .int .i64 x]] W fun e w' => e = .returned (.tuple #[.agg #[.int .i64 0, .int .i64 0, .slice none 0 0], .int .i64 er]) ∧ Below W.heap.size W w') := fun W u k su => by
    have := fill_bad1 a h u cs rx ry rw rh r f bk x W (Tab.next hT k) su hok
    rwa [her] at this
  have ne : (er != 0) = true := by rw [← her]; simpa using hok
  have ne2 : (er == 0) = false := by rw [← her]; simpa using hok
  have nee : (er == er) = true := by simp
  clear hok her
  clear hT hS
  generalize hW0 : (((w.alloc (.cells #[.int .i64 a, .int .i64 h, v] 24)).alloc (.cells #[.int .i64 rx, .int .i64 ry, .int .i64 rw, .int .i64 rh] 36)).alloc (.cells #[.int .i32 r, .int .i64 f, .int .i64 bk, .int .i64 x] 40)) = W0 at x0 x1 x2 kk hsz HO
  have HW0 : Hid (_ = W0) := hW0
  have HO' : Hid (Calls Tryd.prog 17 #[.agg #[.int .i64 a, .int .i64 h, v]] W0 fun e w' => ∃ a' c', e = .returned (.agg #[.int .i64 a, .int .i64 h, .slice a' cs.length c']) ∧ SliceAt w' (.slice a' cs.length c') cs ∧ Below W0.heap.size W0 w') := HO
  have HBIG : Hid (cs.length ≤ 4398046511104) := by unfold Hid; omega
  clear HO hW0
  go_enter Tryd.func4, Tryd.ntmps4
  go_wp2_with fail
  rw [HW0.out]
  refine (HO'.out).mono ?_
  rintro e W1 ⟨oa, oc, rfl, so1, b1⟩
  have gs1 := carry x0 b1
  have rs1 := carry x1 b1
  have cs1 := carry x2 b1
  have ks1 := kk.trans (b1.mono kk.size)
  clear x0 x1 x2 kk HW0 HO'
  go_wp2_with (refine wpList_store_row rfl 24 (.tmp 7) _ rfl W1.heap.size #[.int .i64 a, .int .i64 h, .slice oa cs.length oc] rfl rfl _ _ (heap_alloc_new W1 _) (by kernel_rfl) rfl (one3v _ _ _ _ _) ?_
               obtain ⟨mX1, aX1⟩ := var_new W1 24 #[.int .i64 0, .int .i64 0, .slice none 0 0] #[.int .i64 a, .int .i64 h, .slice oa cs.length oc]
               generalize ((W1.alloc (.cells #[.int .i64 0, .int .i64 0, .slice none 0 0] 24)).setRow W1.heap.size #[.int .i64 a, .int .i64 h, .slice oa cs.length oc]) = X1 at *
               have gs2 := carry gs1 aX1
               have rs2 := carry rs1 aX1
               have cs2 := carry cs1 aX1
               have soos2 := so1.below aX1
               have ks2 := ks1.trans (aX1.mono ks1.size)
               obtain ⟨cgX10, cgX11, cgX12, _⟩ := cells3 gs2
               obtain ⟨crX10, crX11, crX12, crX13⟩ := cells4 rs2
               obtain ⟨ccX10, ccX11, ccX12, ccX13⟩ := cells4 cs2
               obtain ⟨coX10, coX11, coX12, _⟩ := cells3 mX1)
  refine (HFL.out _ _ ks2 soos2).mono ?_
  rintro e W2 ⟨rfl, b2⟩
  have gs3 := carry gs2 b2
  have cs3 := carry cs2 b2
  have os3 := carry mX1 b2
  have soos3 := soos2.below b2
  have ks3 := ks2.trans (b2.mono ks2.size)
  clear cgX10 cgX11 cgX12 crX10 crX11 crX12 crX13 ccX10 ccX11 ccX12 ccX13 coX10 coX11 coX12
  go_wp2_with (refine wpList_store_row rfl 24 (.tmp 8) _ rfl W2.heap.size #[.int .i64 0, .int .i64 0, .slice none 0 0] rfl rfl _ _ (heap_alloc_new W2 _) (by kernel_rfl) rfl (one3v _ _ _ _ _) ?_
               obtain ⟨mX2, aX2⟩ := var_new W2 24 #[.int .i64 0, .int .i64 0, .slice none 0 0] #[.int .i64 0, .int .i64 0, .slice none 0 0]
               generalize ((W2.alloc (.cells #[.int .i64 0, .int .i64 0, .slice none 0 0] 24)).setRow W2.heap.size #[.int .i64 0, .int .i64 0, .slice none 0 0]) = X2 at *
               have gs4 := carry gs3 aX2
               have cs4 := carry cs3 aX2
               have os4 := carry os3 aX2
               have soos4 := soos3.below aX2
               have ks4 := ks3.trans (aX2.mono ks3.size)
               obtain ⟨cgX20, cgX21, cgX22, _⟩ := cells3 gs4
               obtain ⟨ccX20, ccX21, ccX22, ccX23⟩ := cells4 cs4
               obtain ⟨coX20, coX21, coX22, _⟩ := cells3 os4
               obtain ⟨czX20, czX21, czX22, _⟩ := cells3 mX2)
  refine (ref_to a h v cs _ HER.out _ (HS.out _ ks4)).mono ?_
  rintro e W3 ⟨rfl, b3⟩
  have gs5 := carry gs4 b3
  have cs5 := carry cs4 b3
  have os5 := carry os4 b3
  have zs5 := carry mX2 b3
  have soos5 := soos4.below b3
  have ks5 := ks4.trans (b3.mono ks4.size)
  clear cgX20 cgX21 cgX22 ccX20 ccX21 ccX22 ccX23 coX20 coX21 coX22 czX20 czX21 czX22
  obtain ⟨cgs50, cgs51, cgs52, _⟩ := cells3 gs5
  obtain ⟨ccs50, ccs51, ccs52, ccs53⟩ := cells4 cs5
  obtain ⟨cos50, cos51, cos52, _⟩ := cells3 os5
  obtain ⟨czs50, czs51, czs52, _⟩ := cells3 zs5
  go_wp2_with fail
  refine (gridded_any _ (HT.out _ ks5)).mono ?_
  rintro e W6 ⟨rfl, b6⟩
  have gs6 := carry gs5 b6
  have os6 := carry os5 b6
  have zs6 := carry zs5 b6
  have soos6 := soos5.below b6
  have ks6 := ks5.trans (b6.mono ks5.size)
  clear cgs50 cgs51 cgs52 ccs50 ccs51 ccs52 ccs53 cos50 cos51 cos52 czs50 czs51 czs52
  obtain ⟨cgs60, cgs61, cgs62, _⟩ := cells3 gs6
  obtain ⟨cos60, cos61, cos62, _⟩ := cells3 os6
  obtain ⟨czs60, czs61, czs62, _⟩ := cells3 zs6
  go_wp2_with fail
  refine (same_any_big a h _ _ cs _ soos6 (HS.out _ ks6) HBIG.out).mono ?_
  rintro e W7 ⟨rfl, b7⟩
  have gs7 := carry gs6 b7
  have os7 := carry os6 b7
  have zs7 := carry zs6 b7
  have soos7 := soos6.below b7
  have ks7 := ks6.trans (b7.mono ks6.size)
  clear cgs60 cgs61 cgs62 cos60 cos61 cos62 czs60 czs61 czs62
  obtain ⟨cgs70, cgs71, cgs72, _⟩ := cells3 gs7
  obtain ⟨cos70, cos71, cos72, _⟩ := cells3 os7
  obtain ⟨czs70, czs71, czs72, _⟩ := cells3 zs7
  go_wp2_with fail
  refine (gridded_any _ (HT.out _ ks7)).mono ?_
  rintro e W8 ⟨rfl, b8⟩
  have gs8 := carry gs7 b8
  have os8 := carry os7 b8
  have zs8 := carry zs7 b8
  have soos8 := soos7.below b8
  have ks8 := ks7.trans (b8.mono ks7.size)
  clear cgs70 cgs71 cgs72 cos70 cos71 cos72 czs70 czs71 czs72
  obtain ⟨cgs80, cgs81, cgs82, _⟩ := cells3 gs8
  obtain ⟨cos80, cos81, cos82, _⟩ := cells3 os8
  obtain ⟨czs80, czs81, czs82, _⟩ := cells3 zs8
  go_wp2_with fail
  refine (same_any_big a h _ _ cs _ soos8 (HS.out _ ks8) HBIG.out).mono ?_
  rintro e W9 ⟨rfl, b9⟩
  have zs9 := carry zs8 b9
  have soos9 := soos8.below b9
  have ks9 := ks8.trans (b9.mono ks8.size)
  clear cgs80 cgs81 cgs82 cos80 cos81 cos82 czs80 czs81 czs82
  obtain ⟨czs90, czs91, czs92, _⟩ := cells3 zs9
  go_wp2_with fail
  refine (noGrid_none _).mono ?_
  rintro e W10 ⟨rfl, b10⟩
  have soos10 := soos9.below b10
  have ks10 := ks9.trans (b10.mono ks9.size)
  clear czs90 czs91 czs92
  go_wp2_with fail
  go_ret
  exact ⟨rfl, ks10⟩
set_option maxHeartbeats 4000000 in
theorem gridFill_bad2 (a h : Int) (v : Value) (cs : List C) (rx ry rw rh r f bk x : Int) (w : World) (hT : Txt.Tab w) (hS : SliceAt w v cs) (hbig : cs.length * 32 ≤ 140737488351232) (hok : gridErr a h cs = 0) (hr : wd r ≠ 1) :
    Calls Tryd.prog 4 #[.agg #[.int .i64 a, .int .i64 h, v], .agg #[.int .i64 rx, .int .i64 ry, .int .i64 rw, .int .i64 rh], .agg #[.int .i32 r, .int .i64 f, .int .i64 bk, .int .i64 x]] w fun e w' => e = .returned (.bool true) ∧ Below w.heap.size w w' := by
  have HT : Hid (∀ W, Below w.heap.size w W → Txt.Tab W) := fun W k => Tab.next hT k
  have HS : Hid (∀ W, Below w.heap.size w W → SliceAt W v cs) := fun W k => hS.below k
  obtain ⟨x0, x1, x2, kk, hsz⟩ := alloc3 w (.cells #[.int .i64 a, .int .i64 h, v] 24) (.cells #[.int .i64 rx, .int .i64 ry, .int .i64 rw, .int .i64 rh] 36) (.cells #[.int .i32 r, .int .i64 f, .int .i64 bk, .int .i64 x] 40)
  have HO := own_any a h v cs _ (hS.below kk) (by omega)
  have HER : Hid (gridErr a h cs = 0) := hok
  have HFL : Hid (∀ W u, Below w.heap.size w W → SliceAt W u cs → Calls Tryd.prog 18 #[.agg #[.int .i64 a, .int .i64 h, u], .agg #[.int .i64 rx, .int .i64 ry, .int .i64 rw, .int .i64 rh], .agg #[.int .i32 r, .int .i64 f, .int .i64 bk, .int .i64 x]] W fun e w' => e = .returned (.tuple #[.agg #[.int .i64 0, .int .i64 0, .slice none 0 0], .int .i64 4]) ∧ Below W.heap.size W w') := fun W u k su => fill_bad2 a h u cs rx ry rw rh r f bk x W (Tab.next hT k) su hok hr
  obtain ⟨wv, hwv⟩ : ∃ q, wd r = q := ⟨_, rfl⟩
  have HWD : Hid (wd r = wv) := hwv
  have nw : (wv != 1) = true := by rw [← hwv]; simpa using hr
  clear hok hr hwv
  clear hT hS
  generalize hW0 : (((w.alloc (.cells #[.int .i64 a, .int .i64 h, v] 24)).alloc (.cells #[.int .i64 rx, .int .i64 ry, .int .i64 rw, .int .i64 rh] 36)).alloc (.cells #[.int .i32 r, .int .i64 f, .int .i64 bk, .int .i64 x] 40)) = W0 at x0 x1 x2 kk hsz HO
  have HW0 : Hid (_ = W0) := hW0
  have HO' : Hid (Calls Tryd.prog 17 #[.agg #[.int .i64 a, .int .i64 h, v]] W0 fun e w' => ∃ a' c', e = .returned (.agg #[.int .i64 a, .int .i64 h, .slice a' cs.length c']) ∧ SliceAt w' (.slice a' cs.length c') cs ∧ Below W0.heap.size W0 w') := HO
  have HBIG : Hid (cs.length ≤ 4398046511104) := by unfold Hid; omega
  clear HO hW0
  go_enter Tryd.func4, Tryd.ntmps4
  go_wp2_with fail
  rw [HW0.out]
  refine (HO'.out).mono ?_
  rintro e W1 ⟨oa, oc, rfl, so1, b1⟩
  have gs1 := carry x0 b1
  have rs1 := carry x1 b1
  have cs1 := carry x2 b1
  have ks1 := kk.trans (b1.mono kk.size)
  clear x0 x1 x2 kk HW0 HO'
  go_wp2_with (refine wpList_store_row rfl 24 (.tmp 7) _ rfl W1.heap.size #[.int .i64 a, .int .i64 h, .slice oa cs.length oc] rfl rfl _ _ (heap_alloc_new W1 _) (by kernel_rfl) rfl (one3v _ _ _ _ _) ?_
               obtain ⟨mX1, aX1⟩ := var_new W1 24 #[.int .i64 0, .int .i64 0, .slice none 0 0] #[.int .i64 a, .int .i64 h, .slice oa cs.length oc]
               generalize ((W1.alloc (.cells #[.int .i64 0, .int .i64 0, .slice none 0 0] 24)).setRow W1.heap.size #[.int .i64 a, .int .i64 h, .slice oa cs.length oc]) = X1 at *
               have gs2 := carry gs1 aX1
               have rs2 := carry rs1 aX1
               have cs2 := carry cs1 aX1
               have soos2 := so1.below aX1
               have ks2 := ks1.trans (aX1.mono ks1.size)
               obtain ⟨cgX10, cgX11, cgX12, _⟩ := cells3 gs2
               obtain ⟨crX10, crX11, crX12, crX13⟩ := cells4 rs2
               obtain ⟨ccX10, ccX11, ccX12, ccX13⟩ := cells4 cs2
               obtain ⟨coX10, coX11, coX12, _⟩ := cells3 mX1)
  refine (HFL.out _ _ ks2 soos2).mono ?_
  rintro e W2 ⟨rfl, b2⟩
  have gs3 := carry gs2 b2
  have cs3 := carry cs2 b2
  have os3 := carry mX1 b2
  have soos3 := soos2.below b2
  have ks3 := ks2.trans (b2.mono ks2.size)
  clear cgX10 cgX11 cgX12 crX10 crX11 crX12 crX13 ccX10 ccX11 ccX12 ccX13 coX10 coX11 coX12
  go_wp2_with (refine wpList_store_row rfl 24 (.tmp 8) _ rfl W2.heap.size #[.int .i64 0, .int .i64 0, .slice none 0 0] rfl rfl _ _ (heap_alloc_new W2 _) (by kernel_rfl) rfl (one3v _ _ _ _ _) ?_
               obtain ⟨mX2, aX2⟩ := var_new W2 24 #[.int .i64 0, .int .i64 0, .slice none 0 0] #[.int .i64 0, .int .i64 0, .slice none 0 0]
               generalize ((W2.alloc (.cells #[.int .i64 0, .int .i64 0, .slice none 0 0] 24)).setRow W2.heap.size #[.int .i64 0, .int .i64 0, .slice none 0 0]) = X2 at *
               have gs4 := carry gs3 aX2
               have cs4 := carry cs3 aX2
               have os4 := carry os3 aX2
               have soos4 := soos3.below aX2
               have ks4 := ks3.trans (aX2.mono ks3.size)
               obtain ⟨cgX20, cgX21, cgX22, _⟩ := cells3 gs4
               obtain ⟨ccX20, ccX21, ccX22, ccX23⟩ := cells4 cs4
               obtain ⟨coX20, coX21, coX22, _⟩ := cells3 os4
               obtain ⟨czX20, czX21, czX22, _⟩ := cells3 mX2)
  refine (ref_to a h v cs _ HER.out _ (HS.out _ ks4)).mono ?_
  rintro e W3 ⟨rfl, b3⟩
  have gs5 := carry gs4 b3
  have cs5 := carry cs4 b3
  have os5 := carry os4 b3
  have zs5 := carry mX2 b3
  have soos5 := soos4.below b3
  have ks5 := ks4.trans (b3.mono ks4.size)
  clear cgX20 cgX21 cgX22 ccX20 ccX21 ccX22 ccX23 coX20 coX21 coX22 czX20 czX21 czX22
  obtain ⟨cgs50, cgs51, cgs52, _⟩ := cells3 gs5
  obtain ⟨ccs50, ccs51, ccs52, ccs53⟩ := cells4 cs5
  obtain ⟨cos50, cos51, cos52, _⟩ := cells3 os5
  obtain ⟨czs50, czs51, czs52, _⟩ := cells3 zs5
  go_wp2_with fail
  refine (widthOf_to r _ _ HWD.out).mono ?_
  rintro e W4 ⟨rfl, b4⟩
  have gs6 := carry gs5 b4
  have cs6 := carry cs5 b4
  have os6 := carry os5 b4
  have zs6 := carry zs5 b4
  have soos6 := soos5.below b4
  have ks6 := ks5.trans (b4.mono ks5.size)
  clear cgs50 cgs51 cgs52 ccs50 ccs51 ccs52 ccs53 cos50 cos51 cos52 czs50 czs51 czs52
  obtain ⟨cgs60, cgs61, cgs62, _⟩ := cells3 gs6
  obtain ⟨ccs60, ccs61, ccs62, ccs63⟩ := cells4 cs6
  obtain ⟨cos60, cos61, cos62, _⟩ := cells3 os6
  obtain ⟨czs60, czs61, czs62, _⟩ := cells3 zs6
  go_wp2_with fail
  refine (gridded_any _ (HT.out _ ks6)).mono ?_
  rintro e W6 ⟨rfl, b6⟩
  have gs7 := carry gs6 b6
  have os7 := carry os6 b6
  have zs7 := carry zs6 b6
  have soos7 := soos6.below b6
  have ks7 := ks6.trans (b6.mono ks6.size)
  clear cgs60 cgs61 cgs62 ccs60 ccs61 ccs62 ccs63 cos60 cos61 cos62 czs60 czs61 czs62
  obtain ⟨cgs70, cgs71, cgs72, _⟩ := cells3 gs7
  obtain ⟨cos70, cos71, cos72, _⟩ := cells3 os7
  obtain ⟨czs70, czs71, czs72, _⟩ := cells3 zs7
  go_wp2_with fail
  refine (same_any_big a h _ _ cs _ soos7 (HS.out _ ks7) HBIG.out).mono ?_
  rintro e W7 ⟨rfl, b7⟩
  have gs8 := carry gs7 b7
  have os8 := carry os7 b7
  have zs8 := carry zs7 b7
  have soos8 := soos7.below b7
  have ks8 := ks7.trans (b7.mono ks7.size)
  clear cgs70 cgs71 cgs72 cos70 cos71 cos72 czs70 czs71 czs72
  obtain ⟨cgs80, cgs81, cgs82, _⟩ := cells3 gs8
  obtain ⟨cos80, cos81, cos82, _⟩ := cells3 os8
  obtain ⟨czs80, czs81, czs82, _⟩ := cells3 zs8
  go_wp2_with fail
  refine (gridded_any _ (HT.out _ ks8)).mono ?_
  rintro e W8 ⟨rfl, b8⟩
  have gs9 := carry gs8 b8
  have os9 := carry os8 b8
  have zs9 := carry zs8 b8
  have soos9 := soos8.below b8
  have ks9 := ks8.trans (b8.mono ks8.size)
  clear cgs80 cgs81 cgs82 cos80 cos81 cos82 czs80 czs81 czs82
  obtain ⟨cgs90, cgs91, cgs92, _⟩ := cells3 gs9
  obtain ⟨cos90, cos91, cos92, _⟩ := cells3 os9
  obtain ⟨czs90, czs91, czs92, _⟩ := cells3 zs9
  go_wp2_with fail
  refine (same_any_big a h _ _ cs _ soos9 (HS.out _ ks9) HBIG.out).mono ?_
  rintro e W9 ⟨rfl, b9⟩
  have zs10 := carry zs9 b9
  have soos10 := soos9.below b9
  have ks10 := ks9.trans (b9.mono ks9.size)
  clear cgs90 cgs91 cgs92 cos90 cos91 cos92 czs90 czs91 czs92
  obtain ⟨czs100, czs101, czs102, _⟩ := cells3 zs10
  go_wp2_with fail
  refine (noGrid_none _).mono ?_
  rintro e W10 ⟨rfl, b10⟩
  have soos11 := soos10.below b10
  have ks11 := ks10.trans (b10.mono ks10.size)
  clear czs100 czs101 czs102
  go_wp2_with fail
  go_ret
  exact ⟨rfl, ks11⟩
set_option maxHeartbeats 4000000 in
theorem gridFill_bad3 (a h : Int) (v : Value) (cs : List C) (rx ry rw rh r f bk x : Int) (w : World) (hT : Txt.Tab w) (hS : SliceAt w v cs) (hbig : cs.length * 32 ≤ 140737488351232) (hok : gridErr a h cs = 0) (hr : wd r = 1) (hs : isSt (f, bk, x) = false) :
    Calls Tryd.prog 4 #[.agg #[.int .i64 a, .int .i64 h, v], .agg #[.int .i64 rx, .int .i64 ry, .int .i64 rw, .int .i64 rh], .agg #[.int .i32 r, .int .i64 f, .int .i64 bk, .int .i64 x]] w fun e w' => e = .returned (.bool true) ∧ Below w.heap.size w w' := by
  have HT : Hid (∀ W, Below w.heap.size w W → Txt.Tab W) := fun W k => Tab.next hT k
  have HS : Hid (∀ W, Below w.heap.size w W → SliceAt W v cs) := fun W k => hS.below k
  obtain ⟨x0, x1, x2, kk, hsz⟩ := alloc3 w (.cells #[.int .i64 a, .int .i64 h, v] 24) (.cells #[.int .i64 rx, .int .i64 ry, .int .i64 rw, .int .i64 rh] 36) (.cells #[.int .i32 r, .int .i64 f, .int .i64 bk, .int .i64 x] 40)
  have HO := own_any a h v cs _ (hS.below kk) (by omega)
  have HER : Hid (gridErr a h cs = 0) := hok
  have HFL : Hid (∀ W u, Below w.heap.size w W → SliceAt W u cs → Calls Tryd.prog 18 #[.agg #[.int .i64 a, .int .i64 h, u], .agg #[.int .i64 rx, .int .i64 ry, .int .i64 rw, .int .i64 rh], .agg #[.int .i32 r, .int .i64 f, .int .i64 bk, .int .i64 x]] W fun e w' => e = .returned (.tuple #[.agg #[.int .i64 0, .int .i64 0, .slice none 0 0], .int .i64 4]) ∧ Below W.heap.size W w') := fun W u k su => fill_bad3 a h u cs rx ry rw rh r f bk x W (Tab.next hT k) su hok hr hs
  have HWD : Hid (wd r = 1) := hr
  have HST : Hid (isSt (f, bk, x) = false) := hs
  clear hok hr hs
  clear hT hS
  generalize hW0 : (((w.alloc (.cells #[.int .i64 a, .int .i64 h, v] 24)).alloc (.cells #[.int .i64 rx, .int .i64 ry, .int .i64 rw, .int .i64 rh] 36)).alloc (.cells #[.int .i32 r, .int .i64 f, .int .i64 bk, .int .i64 x] 40)) = W0 at x0 x1 x2 kk hsz HO
  have HW0 : Hid (_ = W0) := hW0
  have HO' : Hid (Calls Tryd.prog 17 #[.agg #[.int .i64 a, .int .i64 h, v]] W0 fun e w' => ∃ a' c', e = .returned (.agg #[.int .i64 a, .int .i64 h, .slice a' cs.length c']) ∧ SliceAt w' (.slice a' cs.length c') cs ∧ Below W0.heap.size W0 w') := HO
  have HBIG : Hid (cs.length ≤ 4398046511104) := by unfold Hid; omega
  clear HO hW0
  go_enter Tryd.func4, Tryd.ntmps4
  go_wp2_with fail
  rw [HW0.out]
  refine (HO'.out).mono ?_
  rintro e W1 ⟨oa, oc, rfl, so1, b1⟩
  have gs1 := carry x0 b1
  have rs1 := carry x1 b1
  have cs1 := carry x2 b1
  have ks1 := kk.trans (b1.mono kk.size)
  clear x0 x1 x2 kk HW0 HO'
  go_wp2_with (refine wpList_store_row rfl 24 (.tmp 7) _ rfl W1.heap.size #[.int .i64 a, .int .i64 h, .slice oa cs.length oc] rfl rfl _ _ (heap_alloc_new W1 _) (by kernel_rfl) rfl (one3v _ _ _ _ _) ?_
               obtain ⟨mX1, aX1⟩ := var_new W1 24 #[.int .i64 0, .int .i64 0, .slice none 0 0] #[.int .i64 a, .int .i64 h, .slice oa cs.length oc]
               generalize ((W1.alloc (.cells #[.int .i64 0, .int .i64 0, .slice none 0 0] 24)).setRow W1.heap.size #[.int .i64 a, .int .i64 h, .slice oa cs.length oc]) = X1 at *
               have gs2 := carry gs1 aX1
               have rs2 := carry rs1 aX1
               have cs2 := carry cs1 aX1
               have soos2 := so1.below aX1
               have ks2 := ks1.trans (aX1.mono ks1.size)
               obtain ⟨cgX10, cgX11, cgX12, _⟩ := cells3 gs2
               obtain ⟨crX10, crX11, crX12, crX13⟩ := cells4 rs2
               obtain ⟨ccX10, ccX11, ccX12, ccX13⟩ := cells4 cs2
               obtain ⟨coX10, coX11, coX12, _⟩ := cells3 mX1)
  refine (HFL.out _ _ ks2 soos2).mono ?_
  rintro e W2 ⟨rfl, b2⟩
  have gs3 := carry gs2 b2
  have cs3 := carry cs2 b2
  have os3 := carry mX1 b2
  have soos3 := soos2.below b2
  have ks3 := ks2.trans (b2.mono ks2.size)
  clear cgX10 cgX11 cgX12 crX10 crX11 crX12 crX13 ccX10 ccX11 ccX12 ccX13 coX10 coX11 coX12
  go_wp2_with (refine wpList_store_row rfl 24 (.tmp 8) _ rfl W2.heap.size #[.int .i64 0, .int .i64 0, .slice none 0 0] rfl rfl _ _ (heap_alloc_new W2 _) (by kernel_rfl) rfl (one3v _ _ _ _ _) ?_
               obtain ⟨mX2, aX2⟩ := var_new W2 24 #[.int .i64 0, .int .i64 0, .slice none 0 0] #[.int .i64 0, .int .i64 0, .slice none 0 0]
               generalize ((W2.alloc (.cells #[.int .i64 0, .int .i64 0, .slice none 0 0] 24)).setRow W2.heap.size #[.int .i64 0, .int .i64 0, .slice none 0 0]) = X2 at *
               have gs4 := carry gs3 aX2
               have cs4 := carry cs3 aX2
               have os4 := carry os3 aX2
               have soos4 := soos3.below aX2
               have ks4 := ks3.trans (aX2.mono ks3.size)
               obtain ⟨cgX20, cgX21, cgX22, _⟩ := cells3 gs4
               obtain ⟨ccX20, ccX21, ccX22, ccX23⟩ := cells4 cs4
               obtain ⟨coX20, coX21, coX22, _⟩ := cells3 os4
               obtain ⟨czX20, czX21, czX22, _⟩ := cells3 mX2)
  refine (ref_to a h v cs _ HER.out _ (HS.out _ ks4)).mono ?_
  rintro e W3 ⟨rfl, b3⟩
  have gs5 := carry gs4 b3
  have cs5 := carry cs4 b3
  have os5 := carry os4 b3
  have zs5 := carry mX2 b3
  have soos5 := soos4.below b3
  have ks5 := ks4.trans (b3.mono ks4.size)
  clear cgX20 cgX21 cgX22 ccX20 ccX21 ccX22 ccX23 coX20 coX21 coX22 czX20 czX21 czX22
  obtain ⟨cgs50, cgs51, cgs52, _⟩ := cells3 gs5
  obtain ⟨ccs50, ccs51, ccs52, ccs53⟩ := cells4 cs5
  obtain ⟨cos50, cos51, cos52, _⟩ := cells3 os5
  obtain ⟨czs50, czs51, czs52, _⟩ := cells3 zs5
  go_wp2_with fail
  refine (widthOf_to r _ _ HWD.out).mono ?_
  rintro e W4 ⟨rfl, b4⟩
  have gs6 := carry gs5 b4
  have cs6 := carry cs5 b4
  have os6 := carry os5 b4
  have zs6 := carry zs5 b4
  have soos6 := soos5.below b4
  have ks6 := ks5.trans (b4.mono ks5.size)
  clear cgs50 cgs51 cgs52 ccs50 ccs51 ccs52 ccs53 cos50 cos51 cos52 czs50 czs51 czs52
  obtain ⟨cgs60, cgs61, cgs62, _⟩ := cells3 gs6
  obtain ⟨ccs60, ccs61, ccs62, ccs63⟩ := cells4 cs6
  obtain ⟨cos60, cos61, cos62, _⟩ := cells3 os6
  obtain ⟨czs60, czs61, czs62, _⟩ := cells3 zs6
  go_wp2_with fail
  refine (isStyle_to f bk x _ HST.out _).mono ?_
  rintro e W5 ⟨rfl, b5⟩
  have gs7 := carry gs6 b5
  have os7 := carry os6 b5
  have zs7 := carry zs6 b5
  have soos7 := soos6.below b5
  have ks7 := ks6.trans (b5.mono ks6.size)
  clear cgs60 cgs61 cgs62 ccs60 ccs61 ccs62 ccs63 cos60 cos61 cos62 czs60 czs61 czs62
  obtain ⟨cgs70, cgs71, cgs72, _⟩ := cells3 gs7
  obtain ⟨cos70, cos71, cos72, _⟩ := cells3 os7
  obtain ⟨czs70, czs71, czs72, _⟩ := cells3 zs7
  go_wp2_with fail
  refine (gridded_any _ (HT.out _ ks7)).mono ?_
  rintro e W6 ⟨rfl, b6⟩
  have gs8 := carry gs7 b6
  have os8 := carry os7 b6
  have zs8 := carry zs7 b6
  have soos8 := soos7.below b6
  have ks8 := ks7.trans (b6.mono ks7.size)
  clear cgs70 cgs71 cgs72 cos70 cos71 cos72 czs70 czs71 czs72
  obtain ⟨cgs80, cgs81, cgs82, _⟩ := cells3 gs8
  obtain ⟨cos80, cos81, cos82, _⟩ := cells3 os8
  obtain ⟨czs80, czs81, czs82, _⟩ := cells3 zs8
  go_wp2_with fail
  refine (same_any_big a h _ _ cs _ soos8 (HS.out _ ks8) HBIG.out).mono ?_
  rintro e W7 ⟨rfl, b7⟩
  have gs9 := carry gs8 b7
  have os9 := carry os8 b7
  have zs9 := carry zs8 b7
  have soos9 := soos8.below b7
  have ks9 := ks8.trans (b7.mono ks8.size)
  clear cgs80 cgs81 cgs82 cos80 cos81 cos82 czs80 czs81 czs82
  obtain ⟨cgs90, cgs91, cgs92, _⟩ := cells3 gs9
  obtain ⟨cos90, cos91, cos92, _⟩ := cells3 os9
  obtain ⟨czs90, czs91, czs92, _⟩ := cells3 zs9
  go_wp2_with fail
  refine (gridded_any _ (HT.out _ ks9)).mono ?_
  rintro e W8 ⟨rfl, b8⟩
  have gs10 := carry gs9 b8
  have os10 := carry os9 b8
  have zs10 := carry zs9 b8
  have soos10 := soos9.below b8
  have ks10 := ks9.trans (b8.mono ks9.size)
  clear cgs90 cgs91 cgs92 cos90 cos91 cos92 czs90 czs91 czs92
  obtain ⟨cgs100, cgs101, cgs102, _⟩ := cells3 gs10
  obtain ⟨cos100, cos101, cos102, _⟩ := cells3 os10
  obtain ⟨czs100, czs101, czs102, _⟩ := cells3 zs10
  go_wp2_with fail
  refine (same_any_big a h _ _ cs _ soos10 (HS.out _ ks10) HBIG.out).mono ?_
  rintro e W9 ⟨rfl, b9⟩
  have zs11 := carry zs10 b9
  have soos11 := soos10.below b9
  have ks11 := ks10.trans (b9.mono ks10.size)
  clear cgs100 cgs101 cgs102 cos100 cos101 cos102 czs100 czs101 czs102
  obtain ⟨czs110, czs111, czs112, _⟩ := cells3 zs11
  go_wp2_with fail
  refine (noGrid_none _).mono ?_
  rintro e W10 ⟨rfl, b10⟩
  have soos12 := soos11.below b10
  have ks12 := ks11.trans (b10.mono ks11.size)
  clear czs110 czs111 czs112
  go_wp2_with fail
  go_ret
  exact ⟨rfl, ks12⟩
end Grd
end Go.Proofs.YtlpoahhlggnmfaaDoor

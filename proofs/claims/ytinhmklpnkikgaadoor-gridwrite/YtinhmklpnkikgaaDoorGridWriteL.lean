/- The walk of the law GridWrite: what is refused. -/
import Derived.Test.YtinhmklpnkikgaaDoorGridFillL2
import Derived.Test.YtinhmklpnkikgaaDoorGridRefWrite
namespace Go.Proofs.YtinhmklpnkikgaaDoor
open Go.ChangeShapes Go.WideShapes Go.ChangeAt Go.RowKit Go.Maps
namespace Grd
open Txt (wd)
open Sty (isSt)
theorem alloc2 (w : World) (o0 o1 : Obj) : ((w.alloc o0).alloc o1).heap[w.heap.size]? = some o0 ∧ ((w.alloc o0).alloc o1).heap[w.heap.size + 1]? = some o1 ∧ Below w.heap.size w ((w.alloc o0).alloc o1) ∧ ((w.alloc o0).alloc o1).heap.size = w.heap.size + 2 := by
  have s1 : (w.alloc o0).heap.size = w.heap.size + 1 := by simp
  refine ⟨?_, ?_, ((Below.refl _ _).alloc (Nat.le_refl _) _).alloc (by omega) _, by simp⟩
  · rw [Below.heap_alloc _ _ _ (by omega), heap_alloc_new]
  · rw [← s1, heap_alloc_new]
set_option maxHeartbeats 4000000 in
theorem gridWrite_bad1 (a h : Int) (v : Value) (cs : List C) (px py f bk x : Int) (s : ByteArray) (w : World) (hT : Txt.Tab w) (hS : SliceAt w v cs) (hbig : cs.length * 32 ≤ 140737488351232) (hok : gridErr a h cs ≠ 0) :
    Calls Tryd.prog 5 #[.agg #[.int .i64 a, .int .i64 h, v], .int .i64 px, .int .i64 py, .string s, .agg #[.int .i64 f, .int .i64 bk, .int .i64 x]] w fun e w' => e = .returned (.bool true) ∧ Below w.heap.size w w' := by
  have HT : Hid (∀ W, Below w.heap.size w W → Txt.Tab W) := fun W k => Tab.next hT k
  have HS : Hid (∀ W, Below w.heap.size w W → SliceAt W v cs) := fun W k => hS.below k
  obtain ⟨x0, x1, kk, hsz⟩ := alloc2 w (.cells #[.int .i64 a, .int .i64 h, v] 24) (.cells #[.int .i64 f, .int .i64 bk, .int .i64 x] 38)
  have HO := own_any a h v cs _ (hS.below kk) (by omega)
  obtain ⟨er, her⟩ : ∃ q, gridErr a h cs = q := ⟨_, rfl⟩
  have HER : Hid (gridErr a h cs = er) := her
  have HFL : Hid (∀ W u, Below w.heap.size w W → SliceAt W u cs → Calls Tryd.prog 22 #[.agg #[.int .i64 a, .int .i64 h, u], .int .i64 px, .int .i64 py, .string s, .agg #[.int .i64 f, .int .i64 bk, .int .i64 x]] W fun e w' => e = .returned (.tuple #[.agg #[.int .i64 0, .int .i64 0, .slice none 0 0], .int .i64 er]) ∧ Below W.heap.size W w') := fun W u k su => by
    have := write_bad1 a h u cs px py f bk x s W (Tab.next hT k) su hok
    rwa [her] at this
  have ne : (er != 0) = true := by rw [← her]; simpa using hok
  have ne2 : (er == 0) = false := by rw [← her]; simpa using hok
  have nee : (er == er) = true := by simp
  clear hok her
  clear hT hS
  generalize hW0 : ((w.alloc (.cells #[.int .i64 a, .int .i64 h, v] 24)).alloc (.cells #[.int .i64 f, .int .i64 bk, .int .i64 x] 38)) = W0 at x0 x1 kk hsz HO
  have HW0 : Hid (_ = W0) := hW0
  have HO' : Hid (Calls Tryd.prog 17 #[.agg #[.int .i64 a, .int .i64 h, v]] W0 fun e w' => ∃ a' c', e = .returned (.agg #[.int .i64 a, .int .i64 h, .slice a' cs.length c']) ∧ SliceAt w' (.slice a' cs.length c') cs ∧ Below W0.heap.size W0 w') := HO
  have HBIG : Hid (cs.length ≤ 4398046511104) := by unfold Hid; omega
  clear HO hW0
  go_enter Tryd.func5, Tryd.ntmps5
  go_wp2_with fail
  rw [HW0.out]
  refine (HO'.out).mono ?_
  rintro e W1 ⟨oa, oc, rfl, so1, b1⟩
  have gs1 := carry x0 b1
  have ss1 := carry x1 b1
  have ks1 := kk.trans (b1.mono kk.size)
  clear x0 x1 kk HW0 HO'
  go_wp2_with (refine wpList_store_row rfl 24 (.tmp 11) _ rfl W1.heap.size #[.int .i64 a, .int .i64 h, .slice oa cs.length oc] rfl rfl _ _ (heap_alloc_new W1 _) (by kernel_rfl) rfl (one3v _ _ _ _ _) ?_
               obtain ⟨mX1, aX1⟩ := var_new W1 24 #[.int .i64 0, .int .i64 0, .slice none 0 0] #[.int .i64 a, .int .i64 h, .slice oa cs.length oc]
               generalize ((W1.alloc (.cells #[.int .i64 0, .int .i64 0, .slice none 0 0] 24)).setRow W1.heap.size #[.int .i64 a, .int .i64 h, .slice oa cs.length oc]) = X1 at *
               have gs2 := carry gs1 aX1
               have ss2 := carry ss1 aX1
               have soos2 := so1.below aX1
               have ks2 := ks1.trans (aX1.mono ks1.size)
               obtain ⟨cgX10, cgX11, cgX12, _⟩ := cells3 gs2
               obtain ⟨csX10, csX11, csX12, _⟩ := cells3 ss2
               obtain ⟨coX10, coX11, coX12, _⟩ := cells3 mX1)
  refine (HFL.out _ _ ks2 soos2).mono ?_
  rintro e W2 ⟨rfl, b2⟩
  have gs3 := carry gs2 b2
  have ss3 := carry ss2 b2
  have os3 := carry mX1 b2
  have soos3 := soos2.below b2
  have ks3 := ks2.trans (b2.mono ks2.size)
  clear cgX10 cgX11 cgX12 csX10 csX11 csX12 coX10 coX11 coX12
  go_wp2_with (refine wpList_store_row rfl 24 (.tmp 12) _ rfl W2.heap.size #[.int .i64 0, .int .i64 0, .slice none 0 0] rfl rfl _ _ (heap_alloc_new W2 _) (by kernel_rfl) rfl (one3v _ _ _ _ _) ?_
               obtain ⟨mX2, aX2⟩ := var_new W2 24 #[.int .i64 0, .int .i64 0, .slice none 0 0] #[.int .i64 0, .int .i64 0, .slice none 0 0]
               generalize ((W2.alloc (.cells #[.int .i64 0, .int .i64 0, .slice none 0 0] 24)).setRow W2.heap.size #[.int .i64 0, .int .i64 0, .slice none 0 0]) = X2 at *
               have gs4 := carry gs3 aX2
               have ss4 := carry ss3 aX2
               have os4 := carry os3 aX2
               have soos4 := soos3.below aX2
               have ks4 := ks3.trans (aX2.mono ks3.size)
               obtain ⟨cgX20, cgX21, cgX22, _⟩ := cells3 gs4
               obtain ⟨csX20, csX21, csX22, _⟩ := cells3 ss4
               obtain ⟨coX20, coX21, coX22, _⟩ := cells3 os4
               obtain ⟨czX20, czX21, czX22, _⟩ := cells3 mX2)
  refine (ref_to a h v cs _ HER.out _ (HS.out _ ks4)).mono ?_
  rintro e W3 ⟨rfl, b3⟩
  have gs5 := carry gs4 b3
  have ss5 := carry ss4 b3
  have os5 := carry os4 b3
  have zs5 := carry mX2 b3
  have soos5 := soos4.below b3
  have ks5 := ks4.trans (b3.mono ks4.size)
  clear cgX20 cgX21 cgX22 csX20 csX21 csX22 coX20 coX21 coX22 czX20 czX21 czX22
  obtain ⟨cgs50, cgs51, cgs52, _⟩ := cells3 gs5
  obtain ⟨css50, css51, css52, _⟩ := cells3 ss5
  obtain ⟨cos50, cos51, cos52, _⟩ := cells3 os5
  obtain ⟨czs50, czs51, czs52, _⟩ := cells3 zs5
  go_wp2_with fail
  refine (gridded_any _ (HT.out _ ks5)).mono ?_
  rintro e W6 ⟨rfl, b6⟩
  have gs6 := carry gs5 b6
  have os6 := carry os5 b6
  have zs6 := carry zs5 b6
  have soos6 := soos5.below b6
  have ks6 := ks5.trans (b6.mono ks5.size)
  clear cgs50 cgs51 cgs52 css50 css51 css52 cos50 cos51 cos52 czs50 czs51 czs52
  obtain ⟨cgs60, cgs61, cgs62, _⟩ := cells3 gs6
  obtain ⟨cos60, cos61, cos62, _⟩ := cells3 os6
  obtain ⟨czs60, czs61, czs62, _⟩ := cells3 zs6
  go_wp2_with fail
  refine (same_any_big a h _ _ cs _ soos6 (HS.out _ ks6) HBIG.out).mono ?_
  rintro e W7 ⟨rfl, b7⟩
  have gs7 := carry gs6 b7
  have os7 := carry os6 b7
  have zs7 := carry zs6 b7
  have soos7 := soos6.below b7
  have ks7 := ks6.trans (b7.mono ks6.size)
  clear cgs60 cgs61 cgs62 cos60 cos61 cos62 czs60 czs61 czs62
  obtain ⟨cgs70, cgs71, cgs72, _⟩ := cells3 gs7
  obtain ⟨cos70, cos71, cos72, _⟩ := cells3 os7
  obtain ⟨czs70, czs71, czs72, _⟩ := cells3 zs7
  go_wp2_with fail
  refine (gridded_any _ (HT.out _ ks7)).mono ?_
  rintro e W8 ⟨rfl, b8⟩
  have gs8 := carry gs7 b8
  have os8 := carry os7 b8
  have zs8 := carry zs7 b8
  have soos8 := soos7.below b8
  have ks8 := ks7.trans (b8.mono ks7.size)
  clear cgs70 cgs71 cgs72 cos70 cos71 cos72 czs70 czs71 czs72
  obtain ⟨cgs80, cgs81, cgs82, _⟩ := cells3 gs8
  obtain ⟨cos80, cos81, cos82, _⟩ := cells3 os8
  obtain ⟨czs80, czs81, czs82, _⟩ := cells3 zs8
  go_wp2_with fail
  refine (same_any_big a h _ _ cs _ soos8 (HS.out _ ks8) HBIG.out).mono ?_
  rintro e W9 ⟨rfl, b9⟩
  have zs9 := carry zs8 b9
  have soos9 := soos8.below b9
  have ks9 := ks8.trans (b9.mono ks8.size)
  clear cgs80 cgs81 cgs82 cos80 cos81 cos82 czs80 czs81 czs82
  obtain ⟨czs90, czs91, czs92, _⟩ := cells3 zs9
  go_wp2_with fail
  refine (noGrid_none _).mono ?_
  rintro e W10 ⟨rfl, b10⟩
  have soos10 := soos9.below b10
  have ks10 := ks9.trans (b10.mono ks9.size)
  clear czs90 czs91 czs92
  go_wp2_with fail
  go_ret
  exact ⟨rfl, ks10⟩
set_option maxHeartbeats 4000000 in
theorem gridWrite_badA (n hh : Nat) (v : Value) (cs : List C) (px py f bk x : Int) (s : ByteArray) (w : World) (hT : Txt.Tab w) (hS : SliceAt w v cs) (hbig : cs.length * 32 ≤ 140737488351232) (hx0 : -9223372036854775808 ≤ px) (hx1 : px ≤ 9223372036854775807) (hy0 : -9223372036854775808 ≤ py) (hy1 : py ≤ 9223372036854775807) (hok : gridErr n hh cs = 0) (h1 : px < 0) :
    Calls Tryd.prog 5 #[.agg #[.int .i64 (n : Int), .int .i64 (hh : Int), v], .int .i64 px, .int .i64 py, .string s, .agg #[.int .i64 f, .int .i64 bk, .int .i64 x]] w fun e w' => e = .returned (.bool true) ∧ Below w.heap.size w w' := by
  have HT : Hid (∀ W, Below w.heap.size w W → Txt.Tab W) := fun W k => Tab.next hT k
  have HS : Hid (∀ W, Below w.heap.size w W → SliceAt W v cs) := fun W k => hS.below k
  obtain ⟨x0, x1, kk, hsz⟩ := alloc2 w (.cells #[.int .i64 (n : Int), .int .i64 (hh : Int), v] 24) (.cells #[.int .i64 f, .int .i64 bk, .int .i64 x] 38)
  have HO := own_any (n : Int) (hh : Int) v cs _ (hS.below kk) (by omega)
  have HER : Hid (gridErr n hh cs = 0) := hok
  have hold : holdsI n hh px py 1 1 = false := by unfold holdsI; rw [decide_eq_false_iff_not]; omega
  have HFL : Hid (∀ W u, Below w.heap.size w W → SliceAt W u cs → Calls Tryd.prog 22 #[.agg #[.int .i64 (n : Int), .int .i64 (hh : Int), u], .int .i64 px, .int .i64 py, .string s, .agg #[.int .i64 f, .int .i64 bk, .int .i64 x]] W fun e w' => e = .returned (.tuple #[.agg #[.int .i64 0, .int .i64 0, .slice none 0 0], .int .i64 4]) ∧ Below W.heap.size W w') := fun W u k su => write_bad2 n hh u cs px py f bk x s W (Tab.next hT k) su hok (by omega) (by omega) (by omega) (by omega) hold
  clear hok hold
  clear hT hS
  generalize hW0 : ((w.alloc (.cells #[.int .i64 (n : Int), .int .i64 (hh : Int), v] 24)).alloc (.cells #[.int .i64 f, .int .i64 bk, .int .i64 x] 38)) = W0 at x0 x1 kk hsz HO
  have HW0 : Hid (_ = W0) := hW0
  have HO' : Hid (Calls Tryd.prog 17 #[.agg #[.int .i64 (n : Int), .int .i64 (hh : Int), v]] W0 fun e w' => ∃ a' c', e = .returned (.agg #[.int .i64 (n : Int), .int .i64 (hh : Int), .slice a' cs.length c']) ∧ SliceAt w' (.slice a' cs.length c') cs ∧ Below W0.heap.size W0 w') := HO
  have HBIG : Hid (cs.length ≤ 4398046511104) := by unfold Hid; omega
  clear HO hW0
  go_enter Tryd.func5, Tryd.ntmps5
  go_wp2_with fail
  rw [HW0.out]
  refine (HO'.out).mono ?_
  rintro e W1 ⟨oa, oc, rfl, so1, b1⟩
  have gs1 := carry x0 b1
  have ss1 := carry x1 b1
  have ks1 := kk.trans (b1.mono kk.size)
  clear x0 x1 kk HW0 HO'
  go_wp2_with (refine wpList_store_row rfl 24 (.tmp 11) _ rfl W1.heap.size #[.int .i64 (n : Int), .int .i64 (hh : Int), .slice oa cs.length oc] rfl rfl _ _ (heap_alloc_new W1 _) (by kernel_rfl) rfl (one3v _ _ _ _ _) ?_
               obtain ⟨mX1, aX1⟩ := var_new W1 24 #[.int .i64 0, .int .i64 0, .slice none 0 0] #[.int .i64 (n : Int), .int .i64 (hh : Int), .slice oa cs.length oc]
               generalize ((W1.alloc (.cells #[.int .i64 0, .int .i64 0, .slice none 0 0] 24)).setRow W1.heap.size #[.int .i64 (n : Int), .int .i64 (hh : Int), .slice oa cs.length oc]) = X1 at *
               have gs2 := carry gs1 aX1
               have ss2 := carry ss1 aX1
               have soos2 := so1.below aX1
               have ks2 := ks1.trans (aX1.mono ks1.size)
               obtain ⟨cgX10, cgX11, cgX12, _⟩ := cells3 gs2
               obtain ⟨csX10, csX11, csX12, _⟩ := cells3 ss2
               obtain ⟨coX10, coX11, coX12, _⟩ := cells3 mX1)
  refine (HFL.out _ _ ks2 soos2).mono ?_
  rintro e W2 ⟨rfl, b2⟩
  have gs3 := carry gs2 b2
  have ss3 := carry ss2 b2
  have os3 := carry mX1 b2
  have soos3 := soos2.below b2
  have ks3 := ks2.trans (b2.mono ks2.size)
  clear cgX10 cgX11 cgX12 csX10 csX11 csX12 coX10 coX11 coX12
  go_wp2_with (refine wpList_store_row rfl 24 (.tmp 12) _ rfl W2.heap.size #[.int .i64 0, .int .i64 0, .slice none 0 0] rfl rfl _ _ (heap_alloc_new W2 _) (by kernel_rfl) rfl (one3v _ _ _ _ _) ?_
               obtain ⟨mX2, aX2⟩ := var_new W2 24 #[.int .i64 0, .int .i64 0, .slice none 0 0] #[.int .i64 0, .int .i64 0, .slice none 0 0]
               generalize ((W2.alloc (.cells #[.int .i64 0, .int .i64 0, .slice none 0 0] 24)).setRow W2.heap.size #[.int .i64 0, .int .i64 0, .slice none 0 0]) = X2 at *
               have gs4 := carry gs3 aX2
               have ss4 := carry ss3 aX2
               have os4 := carry os3 aX2
               have soos4 := soos3.below aX2
               have ks4 := ks3.trans (aX2.mono ks3.size)
               obtain ⟨cgX20, cgX21, cgX22, _⟩ := cells3 gs4
               obtain ⟨csX20, csX21, csX22, _⟩ := cells3 ss4
               obtain ⟨coX20, coX21, coX22, _⟩ := cells3 os4
               obtain ⟨czX20, czX21, czX22, _⟩ := cells3 mX2)
  refine (ref_to n hh v cs _ HER.out _ (HS.out _ ks4)).mono ?_
  rintro e W3 ⟨rfl, b3⟩
  have gs5 := carry gs4 b3
  have ss5 := carry ss4 b3
  have os5 := carry os4 b3
  have zs5 := carry mX2 b3
  have soos5 := soos4.below b3
  have ks5 := ks4.trans (b3.mono ks4.size)
  clear cgX20 cgX21 cgX22 csX20 csX21 csX22 coX20 coX21 coX22 czX20 czX21 czX22
  obtain ⟨cgs50, cgs51, cgs52, _⟩ := cells3 gs5
  obtain ⟨css50, css51, css52, _⟩ := cells3 ss5
  obtain ⟨cos50, cos51, cos52, _⟩ := cells3 os5
  obtain ⟨czs50, czs51, czs52, _⟩ := cells3 zs5
  go_wp2_with fail
  refine (gridded_any _ (HT.out _ ks5)).mono ?_
  rintro e W6 ⟨rfl, b6⟩
  have gs6 := carry gs5 b6
  have os6 := carry os5 b6
  have zs6 := carry zs5 b6
  have soos6 := soos5.below b6
  have ks6 := ks5.trans (b6.mono ks5.size)
  clear cgs50 cgs51 cgs52 css50 css51 css52 cos50 cos51 cos52 czs50 czs51 czs52
  obtain ⟨cgs60, cgs61, cgs62, _⟩ := cells3 gs6
  obtain ⟨cos60, cos61, cos62, _⟩ := cells3 os6
  obtain ⟨czs60, czs61, czs62, _⟩ := cells3 zs6
  go_wp2_with fail
  refine (same_any_big n hh _ _ cs _ soos6 (HS.out _ ks6) HBIG.out).mono ?_
  rintro e W7 ⟨rfl, b7⟩
  have gs7 := carry gs6 b7
  have os7 := carry os6 b7
  have zs7 := carry zs6 b7
  have soos7 := soos6.below b7
  have ks7 := ks6.trans (b7.mono ks6.size)
  clear cgs60 cgs61 cgs62 cos60 cos61 cos62 czs60 czs61 czs62
  obtain ⟨cgs70, cgs71, cgs72, _⟩ := cells3 gs7
  obtain ⟨cos70, cos71, cos72, _⟩ := cells3 os7
  obtain ⟨czs70, czs71, czs72, _⟩ := cells3 zs7
  go_wp2_with fail
  refine (gridded_any _ (HT.out _ ks7)).mono ?_
  rintro e W8 ⟨rfl, b8⟩
  have gs8 := carry gs7 b8
  have os8 := carry os7 b8
  have zs8 := carry zs7 b8
  have soos8 := soos7.below b8
  have ks8 := ks7.trans (b8.mono ks7.size)
  clear cgs70 cgs71 cgs72 cos70 cos71 cos72 czs70 czs71 czs72
  obtain ⟨cgs80, cgs81, cgs82, _⟩ := cells3 gs8
  obtain ⟨cos80, cos81, cos82, _⟩ := cells3 os8
  obtain ⟨czs80, czs81, czs82, _⟩ := cells3 zs8
  go_wp2_with fail
  refine (same_any_big n hh _ _ cs _ soos8 (HS.out _ ks8) HBIG.out).mono ?_
  rintro e W9 ⟨rfl, b9⟩
  have zs9 := carry zs8 b9
  have soos9 := soos8.below b9
  have ks9 := ks8.trans (b9.mono ks8.size)
  clear cgs80 cgs81 cgs82 cos80 cos81 cos82 czs80 czs81 czs82
  obtain ⟨czs90, czs91, czs92, _⟩ := cells3 zs9
  go_wp2_with fail
  refine (noGrid_none _).mono ?_
  rintro e W10 ⟨rfl, b10⟩
  have soos10 := soos9.below b10
  have ks10 := ks9.trans (b10.mono ks9.size)
  clear czs90 czs91 czs92
  go_wp2_with fail
  go_ret
  exact ⟨rfl, ks10⟩
set_option maxHeartbeats 4000000 in
theorem gridWrite_badB (n hh : Nat) (v : Value) (cs : List C) (px py f bk x : Int) (s : ByteArray) (w : World) (hT : Txt.Tab w) (hS : SliceAt w v cs) (hbig : cs.length * 32 ≤ 140737488351232) (hx0 : -9223372036854775808 ≤ px) (hx1 : px ≤ 9223372036854775807) (hy0 : -9223372036854775808 ≤ py) (hy1 : py ≤ 9223372036854775807) (hok : gridErr n hh cs = 0) (h1 : 0 ≤ px) (h2 : (n : Int) ≤ px) :
    Calls Tryd.prog 5 #[.agg #[.int .i64 (n : Int), .int .i64 (hh : Int), v], .int .i64 px, .int .i64 py, .string s, .agg #[.int .i64 f, .int .i64 bk, .int .i64 x]] w fun e w' => e = .returned (.bool true) ∧ Below w.heap.size w w' := by
  have HT : Hid (∀ W, Below w.heap.size w W → Txt.Tab W) := fun W k => Tab.next hT k
  have HS : Hid (∀ W, Below w.heap.size w W → SliceAt W v cs) := fun W k => hS.below k
  obtain ⟨x0, x1, kk, hsz⟩ := alloc2 w (.cells #[.int .i64 (n : Int), .int .i64 (hh : Int), v] 24) (.cells #[.int .i64 f, .int .i64 bk, .int .i64 x] 38)
  have HO := own_any (n : Int) (hh : Int) v cs _ (hS.below kk) (by omega)
  have HER : Hid (gridErr n hh cs = 0) := hok
  have hold : holdsI n hh px py 1 1 = false := by unfold holdsI; rw [decide_eq_false_iff_not]; omega
  have HFL : Hid (∀ W u, Below w.heap.size w W → SliceAt W u cs → Calls Tryd.prog 22 #[.agg #[.int .i64 (n : Int), .int .i64 (hh : Int), u], .int .i64 px, .int .i64 py, .string s, .agg #[.int .i64 f, .int .i64 bk, .int .i64 x]] W fun e w' => e = .returned (.tuple #[.agg #[.int .i64 0, .int .i64 0, .slice none 0 0], .int .i64 4]) ∧ Below W.heap.size W w') := fun W u k su => write_bad2 n hh u cs px py f bk x s W (Tab.next hT k) su hok (by omega) (by omega) (by omega) (by omega) hold
  have d1 : decide (px < 0) = false := by rw [decide_eq_false_iff_not]; omega
  have e1 : ¬ px < 0 := by omega
  clear hok hold
  clear hT hS
  generalize hW0 : ((w.alloc (.cells #[.int .i64 (n : Int), .int .i64 (hh : Int), v] 24)).alloc (.cells #[.int .i64 f, .int .i64 bk, .int .i64 x] 38)) = W0 at x0 x1 kk hsz HO
  have HW0 : Hid (_ = W0) := hW0
  have HO' : Hid (Calls Tryd.prog 17 #[.agg #[.int .i64 (n : Int), .int .i64 (hh : Int), v]] W0 fun e w' => ∃ a' c', e = .returned (.agg #[.int .i64 (n : Int), .int .i64 (hh : Int), .slice a' cs.length c']) ∧ SliceAt w' (.slice a' cs.length c') cs ∧ Below W0.heap.size W0 w') := HO
  have HBIG : Hid (cs.length ≤ 4398046511104) := by unfold Hid; omega
  clear HO hW0
  go_enter Tryd.func5, Tryd.ntmps5
  go_wp2_with fail
  rw [HW0.out]
  refine (HO'.out).mono ?_
  rintro e W1 ⟨oa, oc, rfl, so1, b1⟩
  have gs1 := carry x0 b1
  have ss1 := carry x1 b1
  have ks1 := kk.trans (b1.mono kk.size)
  clear x0 x1 kk HW0 HO'
  go_wp2_with (refine wpList_store_row rfl 24 (.tmp 11) _ rfl W1.heap.size #[.int .i64 (n : Int), .int .i64 (hh : Int), .slice oa cs.length oc] rfl rfl _ _ (heap_alloc_new W1 _) (by kernel_rfl) rfl (one3v _ _ _ _ _) ?_
               obtain ⟨mX1, aX1⟩ := var_new W1 24 #[.int .i64 0, .int .i64 0, .slice none 0 0] #[.int .i64 (n : Int), .int .i64 (hh : Int), .slice oa cs.length oc]
               generalize ((W1.alloc (.cells #[.int .i64 0, .int .i64 0, .slice none 0 0] 24)).setRow W1.heap.size #[.int .i64 (n : Int), .int .i64 (hh : Int), .slice oa cs.length oc]) = X1 at *
               have gs2 := carry gs1 aX1
               have ss2 := carry ss1 aX1
               have soos2 := so1.below aX1
               have ks2 := ks1.trans (aX1.mono ks1.size)
               obtain ⟨cgX10, cgX11, cgX12, _⟩ := cells3 gs2
               obtain ⟨csX10, csX11, csX12, _⟩ := cells3 ss2
               obtain ⟨coX10, coX11, coX12, _⟩ := cells3 mX1)
  refine (HFL.out _ _ ks2 soos2).mono ?_
  rintro e W2 ⟨rfl, b2⟩
  have gs3 := carry gs2 b2
  have ss3 := carry ss2 b2
  have os3 := carry mX1 b2
  have soos3 := soos2.below b2
  have ks3 := ks2.trans (b2.mono ks2.size)
  clear cgX10 cgX11 cgX12 csX10 csX11 csX12 coX10 coX11 coX12
  go_wp2_with (refine wpList_store_row rfl 24 (.tmp 12) _ rfl W2.heap.size #[.int .i64 0, .int .i64 0, .slice none 0 0] rfl rfl _ _ (heap_alloc_new W2 _) (by kernel_rfl) rfl (one3v _ _ _ _ _) ?_
               obtain ⟨mX2, aX2⟩ := var_new W2 24 #[.int .i64 0, .int .i64 0, .slice none 0 0] #[.int .i64 0, .int .i64 0, .slice none 0 0]
               generalize ((W2.alloc (.cells #[.int .i64 0, .int .i64 0, .slice none 0 0] 24)).setRow W2.heap.size #[.int .i64 0, .int .i64 0, .slice none 0 0]) = X2 at *
               have gs4 := carry gs3 aX2
               have ss4 := carry ss3 aX2
               have os4 := carry os3 aX2
               have soos4 := soos3.below aX2
               have ks4 := ks3.trans (aX2.mono ks3.size)
               obtain ⟨cgX20, cgX21, cgX22, _⟩ := cells3 gs4
               obtain ⟨csX20, csX21, csX22, _⟩ := cells3 ss4
               obtain ⟨coX20, coX21, coX22, _⟩ := cells3 os4
               obtain ⟨czX20, czX21, czX22, _⟩ := cells3 mX2)
  refine (ref_to n hh v cs _ HER.out _ (HS.out _ ks4)).mono ?_
  rintro e W3 ⟨rfl, b3⟩
  have gs5 := carry gs4 b3
  have ss5 := carry ss4 b3
  have os5 := carry os4 b3
  have zs5 := carry mX2 b3
  have soos5 := soos4.below b3
  have ks5 := ks4.trans (b3.mono ks4.size)
  clear cgX20 cgX21 cgX22 csX20 csX21 csX22 coX20 coX21 coX22 czX20 czX21 czX22
  obtain ⟨cgs50, cgs51, cgs52, _⟩ := cells3 gs5
  obtain ⟨css50, css51, css52, _⟩ := cells3 ss5
  obtain ⟨cos50, cos51, cos52, _⟩ := cells3 os5
  obtain ⟨czs50, czs51, czs52, _⟩ := cells3 zs5
  go_wp2_with fail
  refine (gridded_any _ (HT.out _ ks5)).mono ?_
  rintro e W6 ⟨rfl, b6⟩
  have gs6 := carry gs5 b6
  have os6 := carry os5 b6
  have zs6 := carry zs5 b6
  have soos6 := soos5.below b6
  have ks6 := ks5.trans (b6.mono ks5.size)
  clear cgs50 cgs51 cgs52 css50 css51 css52 cos50 cos51 cos52 czs50 czs51 czs52
  obtain ⟨cgs60, cgs61, cgs62, _⟩ := cells3 gs6
  obtain ⟨cos60, cos61, cos62, _⟩ := cells3 os6
  obtain ⟨czs60, czs61, czs62, _⟩ := cells3 zs6
  go_wp2_with fail
  refine (same_any_big n hh _ _ cs _ soos6 (HS.out _ ks6) HBIG.out).mono ?_
  rintro e W7 ⟨rfl, b7⟩
  have gs7 := carry gs6 b7
  have os7 := carry os6 b7
  have zs7 := carry zs6 b7
  have soos7 := soos6.below b7
  have ks7 := ks6.trans (b7.mono ks6.size)
  clear cgs60 cgs61 cgs62 cos60 cos61 cos62 czs60 czs61 czs62
  obtain ⟨cgs70, cgs71, cgs72, _⟩ := cells3 gs7
  obtain ⟨cos70, cos71, cos72, _⟩ := cells3 os7
  obtain ⟨czs70, czs71, czs72, _⟩ := cells3 zs7
  go_wp2_with fail
  refine (gridded_any _ (HT.out _ ks7)).mono ?_
  rintro e W8 ⟨rfl, b8⟩
  have gs8 := carry gs7 b8
  have os8 := carry os7 b8
  have zs8 := carry zs7 b8
  have soos8 := soos7.below b8
  have ks8 := ks7.trans (b8.mono ks7.size)
  clear cgs70 cgs71 cgs72 cos70 cos71 cos72 czs70 czs71 czs72
  obtain ⟨cgs80, cgs81, cgs82, _⟩ := cells3 gs8
  obtain ⟨cos80, cos81, cos82, _⟩ := cells3 os8
  obtain ⟨czs80, czs81, czs82, _⟩ := cells3 zs8
  go_wp2_with fail
  refine (same_any_big n hh _ _ cs _ soos8 (HS.out _ ks8) HBIG.out).mono ?_
  rintro e W9 ⟨rfl, b9⟩
  have zs9 := carry zs8 b9
  have soos9 := soos8.below b9
  have ks9 := ks8.trans (b9.mono ks8.size)
  clear cgs80 cgs81 cgs82 cos80 cos81 cos82 czs80 czs81 czs82
  obtain ⟨czs90, czs91, czs92, _⟩ := cells3 zs9
  go_wp2_with fail
  refine (noGrid_none _).mono ?_
  rintro e W10 ⟨rfl, b10⟩
  have soos10 := soos9.below b10
  have ks10 := ks9.trans (b10.mono ks9.size)
  clear czs90 czs91 czs92
  go_wp2_with fail
  go_ret
  exact ⟨rfl, ks10⟩
set_option maxHeartbeats 4000000 in
theorem gridWrite_badC (n hh : Nat) (v : Value) (cs : List C) (px py f bk x : Int) (s : ByteArray) (w : World) (hT : Txt.Tab w) (hS : SliceAt w v cs) (hbig : cs.length * 32 ≤ 140737488351232) (hx0 : -9223372036854775808 ≤ px) (hx1 : px ≤ 9223372036854775807) (hy0 : -9223372036854775808 ≤ py) (hy1 : py ≤ 9223372036854775807) (hok : gridErr n hh cs = 0) (h1 : 0 ≤ px) (h2 : px < n) (h3 : py < 0) :
    Calls Tryd.prog 5 #[.agg #[.int .i64 (n : Int), .int .i64 (hh : Int), v], .int .i64 px, .int .i64 py, .string s, .agg #[.int .i64 f, .int .i64 bk, .int .i64 x]] w fun e w' => e = .returned (.bool true) ∧ Below w.heap.size w w' := by
  have HT : Hid (∀ W, Below w.heap.size w W → Txt.Tab W) := fun W k => Tab.next hT k
  have HS : Hid (∀ W, Below w.heap.size w W → SliceAt W v cs) := fun W k => hS.below k
  obtain ⟨x0, x1, kk, hsz⟩ := alloc2 w (.cells #[.int .i64 (n : Int), .int .i64 (hh : Int), v] 24) (.cells #[.int .i64 f, .int .i64 bk, .int .i64 x] 38)
  have HO := own_any (n : Int) (hh : Int) v cs _ (hS.below kk) (by omega)
  have HER : Hid (gridErr n hh cs = 0) := hok
  have hold : holdsI n hh px py 1 1 = false := by unfold holdsI; rw [decide_eq_false_iff_not]; omega
  have HFL : Hid (∀ W u, Below w.heap.size w W → SliceAt W u cs → Calls Tryd.prog 22 #[.agg #[.int .i64 (n : Int), .int .i64 (hh : Int), u], .int .i64 px, .int .i64 py, .string s, .agg #[.int .i64 f, .int .i64 bk, .int .i64 x]] W fun e w' => e = .returned (.tuple #[.agg #[.int .i64 0, .int .i64 0, .slice none 0 0], .int .i64 4]) ∧ Below W.heap.size W w') := fun W u k su => write_bad2 n hh u cs px py f bk x s W (Tab.next hT k) su hok (by omega) (by omega) (by omega) (by omega) hold
  have d1 : decide (px < 0) = false := by rw [decide_eq_false_iff_not]; omega
  have d2 : decide ((n : Int) ≤ px) = false := by rw [decide_eq_false_iff_not]; omega
  have e1 : ¬ px < 0 := by omega
  have e2 : ¬ (n : Int) ≤ px := by omega
  clear hok hold
  clear hT hS
  generalize hW0 : ((w.alloc (.cells #[.int .i64 (n : Int), .int .i64 (hh : Int), v] 24)).alloc (.cells #[.int .i64 f, .int .i64 bk, .int .i64 x] 38)) = W0 at x0 x1 kk hsz HO
  have HW0 : Hid (_ = W0) := hW0
  have HO' : Hid (Calls Tryd.prog 17 #[.agg #[.int .i64 (n : Int), .int .i64 (hh : Int), v]] W0 fun e w' => ∃ a' c', e = .returned (.agg #[.int .i64 (n : Int), .int .i64 (hh : Int), .slice a' cs.length c']) ∧ SliceAt w' (.slice a' cs.length c') cs ∧ Below W0.heap.size W0 w') := HO
  have HBIG : Hid (cs.length ≤ 4398046511104) := by unfold Hid; omega
  clear HO hW0
  go_enter Tryd.func5, Tryd.ntmps5
  go_wp2_with fail
  rw [HW0.out]
  refine (HO'.out).mono ?_
  rintro e W1 ⟨oa, oc, rfl, so1, b1⟩
  have gs1 := carry x0 b1
  have ss1 := carry x1 b1
  have ks1 := kk.trans (b1.mono kk.size)
  clear x0 x1 kk HW0 HO'
  go_wp2_with (refine wpList_store_row rfl 24 (.tmp 11) _ rfl W1.heap.size #[.int .i64 (n : Int), .int .i64 (hh : Int), .slice oa cs.length oc] rfl rfl _ _ (heap_alloc_new W1 _) (by kernel_rfl) rfl (one3v _ _ _ _ _) ?_
               obtain ⟨mX1, aX1⟩ := var_new W1 24 #[.int .i64 0, .int .i64 0, .slice none 0 0] #[.int .i64 (n : Int), .int .i64 (hh : Int), .slice oa cs.length oc]
               generalize ((W1.alloc (.cells #[.int .i64 0, .int .i64 0, .slice none 0 0] 24)).setRow W1.heap.size #[.int .i64 (n : Int), .int .i64 (hh : Int), .slice oa cs.length oc]) = X1 at *
               have gs2 := carry gs1 aX1
               have ss2 := carry ss1 aX1
               have soos2 := so1.below aX1
               have ks2 := ks1.trans (aX1.mono ks1.size)
               obtain ⟨cgX10, cgX11, cgX12, _⟩ := cells3 gs2
               obtain ⟨csX10, csX11, csX12, _⟩ := cells3 ss2
               obtain ⟨coX10, coX11, coX12, _⟩ := cells3 mX1)
  refine (HFL.out _ _ ks2 soos2).mono ?_
  rintro e W2 ⟨rfl, b2⟩
  have gs3 := carry gs2 b2
  have ss3 := carry ss2 b2
  have os3 := carry mX1 b2
  have soos3 := soos2.below b2
  have ks3 := ks2.trans (b2.mono ks2.size)
  clear cgX10 cgX11 cgX12 csX10 csX11 csX12 coX10 coX11 coX12
  go_wp2_with (refine wpList_store_row rfl 24 (.tmp 12) _ rfl W2.heap.size #[.int .i64 0, .int .i64 0, .slice none 0 0] rfl rfl _ _ (heap_alloc_new W2 _) (by kernel_rfl) rfl (one3v _ _ _ _ _) ?_
               obtain ⟨mX2, aX2⟩ := var_new W2 24 #[.int .i64 0, .int .i64 0, .slice none 0 0] #[.int .i64 0, .int .i64 0, .slice none 0 0]
               generalize ((W2.alloc (.cells #[.int .i64 0, .int .i64 0, .slice none 0 0] 24)).setRow W2.heap.size #[.int .i64 0, .int .i64 0, .slice none 0 0]) = X2 at *
               have gs4 := carry gs3 aX2
               have ss4 := carry ss3 aX2
               have os4 := carry os3 aX2
               have soos4 := soos3.below aX2
               have ks4 := ks3.trans (aX2.mono ks3.size)
               obtain ⟨cgX20, cgX21, cgX22, _⟩ := cells3 gs4
               obtain ⟨csX20, csX21, csX22, _⟩ := cells3 ss4
               obtain ⟨coX20, coX21, coX22, _⟩ := cells3 os4
               obtain ⟨czX20, czX21, czX22, _⟩ := cells3 mX2)
  refine (ref_to n hh v cs _ HER.out _ (HS.out _ ks4)).mono ?_
  rintro e W3 ⟨rfl, b3⟩
  have gs5 := carry gs4 b3
  have ss5 := carry ss4 b3
  have os5 := carry os4 b3
  have zs5 := carry mX2 b3
  have soos5 := soos4.below b3
  have ks5 := ks4.trans (b3.mono ks4.size)
  clear cgX20 cgX21 cgX22 csX20 csX21 csX22 coX20 coX21 coX22 czX20 czX21 czX22
  obtain ⟨cgs50, cgs51, cgs52, _⟩ := cells3 gs5
  obtain ⟨css50, css51, css52, _⟩ := cells3 ss5
  obtain ⟨cos50, cos51, cos52, _⟩ := cells3 os5
  obtain ⟨czs50, czs51, czs52, _⟩ := cells3 zs5
  go_wp2_with fail
  refine (gridded_any _ (HT.out _ ks5)).mono ?_
  rintro e W6 ⟨rfl, b6⟩
  have gs6 := carry gs5 b6
  have os6 := carry os5 b6
  have zs6 := carry zs5 b6
  have soos6 := soos5.below b6
  have ks6 := ks5.trans (b6.mono ks5.size)
  clear cgs50 cgs51 cgs52 css50 css51 css52 cos50 cos51 cos52 czs50 czs51 czs52
  obtain ⟨cgs60, cgs61, cgs62, _⟩ := cells3 gs6
  obtain ⟨cos60, cos61, cos62, _⟩ := cells3 os6
  obtain ⟨czs60, czs61, czs62, _⟩ := cells3 zs6
  go_wp2_with fail
  refine (same_any_big n hh _ _ cs _ soos6 (HS.out _ ks6) HBIG.out).mono ?_
  rintro e W7 ⟨rfl, b7⟩
  have gs7 := carry gs6 b7
  have os7 := carry os6 b7
  have zs7 := carry zs6 b7
  have soos7 := soos6.below b7
  have ks7 := ks6.trans (b7.mono ks6.size)
  clear cgs60 cgs61 cgs62 cos60 cos61 cos62 czs60 czs61 czs62
  obtain ⟨cgs70, cgs71, cgs72, _⟩ := cells3 gs7
  obtain ⟨cos70, cos71, cos72, _⟩ := cells3 os7
  obtain ⟨czs70, czs71, czs72, _⟩ := cells3 zs7
  go_wp2_with fail
  refine (gridded_any _ (HT.out _ ks7)).mono ?_
  rintro e W8 ⟨rfl, b8⟩
  have gs8 := carry gs7 b8
  have os8 := carry os7 b8
  have zs8 := carry zs7 b8
  have soos8 := soos7.below b8
  have ks8 := ks7.trans (b8.mono ks7.size)
  clear cgs70 cgs71 cgs72 cos70 cos71 cos72 czs70 czs71 czs72
  obtain ⟨cgs80, cgs81, cgs82, _⟩ := cells3 gs8
  obtain ⟨cos80, cos81, cos82, _⟩ := cells3 os8
  obtain ⟨czs80, czs81, czs82, _⟩ := cells3 zs8
  go_wp2_with fail
  refine (same_any_big n hh _ _ cs _ soos8 (HS.out _ ks8) HBIG.out).mono ?_
  rintro e W9 ⟨rfl, b9⟩
  have zs9 := carry zs8 b9
  have soos9 := soos8.below b9
  have ks9 := ks8.trans (b9.mono ks8.size)
  clear cgs80 cgs81 cgs82 cos80 cos81 cos82 czs80 czs81 czs82
  obtain ⟨czs90, czs91, czs92, _⟩ := cells3 zs9
  go_wp2_with fail
  refine (noGrid_none _).mono ?_
  rintro e W10 ⟨rfl, b10⟩
  have soos10 := soos9.below b10
  have ks10 := ks9.trans (b10.mono ks9.size)
  clear czs90 czs91 czs92
  go_wp2_with fail
  go_ret
  exact ⟨rfl, ks10⟩
set_option maxHeartbeats 4000000 in
theorem gridWrite_badD (n hh : Nat) (v : Value) (cs : List C) (px py f bk x : Int) (s : ByteArray) (w : World) (hT : Txt.Tab w) (hS : SliceAt w v cs) (hbig : cs.length * 32 ≤ 140737488351232) (hx0 : -9223372036854775808 ≤ px) (hx1 : px ≤ 9223372036854775807) (hy0 : -9223372036854775808 ≤ py) (hy1 : py ≤ 9223372036854775807) (hok : gridErr n hh cs = 0) (h1 : 0 ≤ px) (h2 : px < n) (h3 : 0 ≤ py) (h4 : (hh : Int) ≤ py) :
    Calls Tryd.prog 5 #[.agg #[.int .i64 (n : Int), .int .i64 (hh : Int), v], .int .i64 px, .int .i64 py, .string s, .agg #[.int .i64 f, .int .i64 bk, .int .i64 x]] w fun e w' => e = .returned (.bool true) ∧ Below w.heap.size w w' := by
  have HT : Hid (∀ W, Below w.heap.size w W → Txt.Tab W) := fun W k => Tab.next hT k
  have HS : Hid (∀ W, Below w.heap.size w W → SliceAt W v cs) := fun W k => hS.below k
  obtain ⟨x0, x1, kk, hsz⟩ := alloc2 w (.cells #[.int .i64 (n : Int), .int .i64 (hh : Int), v] 24) (.cells #[.int .i64 f, .int .i64 bk, .int .i64 x] 38)
  have HO := own_any (n : Int) (hh : Int) v cs _ (hS.below kk) (by omega)
  have HER : Hid (gridErr n hh cs = 0) := hok
  have hold : holdsI n hh px py 1 1 = false := by unfold holdsI; rw [decide_eq_false_iff_not]; omega
  have HFL : Hid (∀ W u, Below w.heap.size w W → SliceAt W u cs → Calls Tryd.prog 22 #[.agg #[.int .i64 (n : Int), .int .i64 (hh : Int), u], .int .i64 px, .int .i64 py, .string s, .agg #[.int .i64 f, .int .i64 bk, .int .i64 x]] W fun e w' => e = .returned (.tuple #[.agg #[.int .i64 0, .int .i64 0, .slice none 0 0], .int .i64 4]) ∧ Below W.heap.size W w') := fun W u k su => write_bad2 n hh u cs px py f bk x s W (Tab.next hT k) su hok (by omega) (by omega) (by omega) (by omega) hold
  have d1 : decide (px < 0) = false := by rw [decide_eq_false_iff_not]; omega
  have d2 : decide ((n : Int) ≤ px) = false := by rw [decide_eq_false_iff_not]; omega
  have d3 : decide (py < 0) = false := by rw [decide_eq_false_iff_not]; omega
  have e1 : ¬ px < 0 := by omega
  have e2 : ¬ (n : Int) ≤ px := by omega
  have e3 : ¬ py < 0 := by omega
  clear hok hold
  clear hT hS
  generalize hW0 : ((w.alloc (.cells #[.int .i64 (n : Int), .int .i64 (hh : Int), v] 24)).alloc (.cells #[.int .i64 f, .int .i64 bk, .int .i64 x] 38)) = W0 at x0 x1 kk hsz HO
  have HW0 : Hid (_ = W0) := hW0
  have HO' : Hid (Calls Tryd.prog 17 #[.agg #[.int .i64 (n : Int), .int .i64 (hh : Int), v]] W0 fun e w' => ∃ a' c', e = .returned (.agg #[.int .i64 (n : Int), .int .i64 (hh : Int), .slice a' cs.length c']) ∧ SliceAt w' (.slice a' cs.length c') cs ∧ Below W0.heap.size W0 w') := HO
  have HBIG : Hid (cs.length ≤ 4398046511104) := by unfold Hid; omega
  clear HO hW0
  go_enter Tryd.func5, Tryd.ntmps5
  go_wp2_with fail
  rw [HW0.out]
  refine (HO'.out).mono ?_
  rintro e W1 ⟨oa, oc, rfl, so1, b1⟩
  have gs1 := carry x0 b1
  have ss1 := carry x1 b1
  have ks1 := kk.trans (b1.mono kk.size)
  clear x0 x1 kk HW0 HO'
  go_wp2_with (refine wpList_store_row rfl 24 (.tmp 11) _ rfl W1.heap.size #[.int .i64 (n : Int), .int .i64 (hh : Int), .slice oa cs.length oc] rfl rfl _ _ (heap_alloc_new W1 _) (by kernel_rfl) rfl (one3v _ _ _ _ _) ?_
               obtain ⟨mX1, aX1⟩ := var_new W1 24 #[.int .i64 0, .int .i64 0, .slice none 0 0] #[.int .i64 (n : Int), .int .i64 (hh : Int), .slice oa cs.length oc]
               generalize ((W1.alloc (.cells #[.int .i64 0, .int .i64 0, .slice none 0 0] 24)).setRow W1.heap.size #[.int .i64 (n : Int), .int .i64 (hh : Int), .slice oa cs.length oc]) = X1 at *
               have gs2 := carry gs1 aX1
               have ss2 := carry ss1 aX1
               have soos2 := so1.below aX1
               have ks2 := ks1.trans (aX1.mono ks1.size)
               obtain ⟨cgX10, cgX11, cgX12, _⟩ := cells3 gs2
               obtain ⟨csX10, csX11, csX12, _⟩ := cells3 ss2
               obtain ⟨coX10, coX11, coX12, _⟩ := cells3 mX1)
  refine (HFL.out _ _ ks2 soos2).mono ?_
  rintro e W2 ⟨rfl, b2⟩
  have gs3 := carry gs2 b2
  have ss3 := carry ss2 b2
  have os3 := carry mX1 b2
  have soos3 := soos2.below b2
  have ks3 := ks2.trans (b2.mono ks2.size)
  clear cgX10 cgX11 cgX12 csX10 csX11 csX12 coX10 coX11 coX12
  go_wp2_with (refine wpList_store_row rfl 24 (.tmp 12) _ rfl W2.heap.size #[.int .i64 0, .int .i64 0, .slice none 0 0] rfl rfl _ _ (heap_alloc_new W2 _) (by kernel_rfl) rfl (one3v _ _ _ _ _) ?_
               obtain ⟨mX2, aX2⟩ := var_new W2 24 #[.int .i64 0, .int .i64 0, .slice none 0 0] #[.int .i64 0, .int .i64 0, .slice none 0 0]
               generalize ((W2.alloc (.cells #[.int .i64 0, .int .i64 0, .slice none 0 0] 24)).setRow W2.heap.size #[.int .i64 0, .int .i64 0, .slice none 0 0]) = X2 at *
               have gs4 := carry gs3 aX2
               have ss4 := carry ss3 aX2
               have os4 := carry os3 aX2
               have soos4 := soos3.below aX2
               have ks4 := ks3.trans (aX2.mono ks3.size)
               obtain ⟨cgX20, cgX21, cgX22, _⟩ := cells3 gs4
               obtain ⟨csX20, csX21, csX22, _⟩ := cells3 ss4
               obtain ⟨coX20, coX21, coX22, _⟩ := cells3 os4
               obtain ⟨czX20, czX21, czX22, _⟩ := cells3 mX2)
  refine (ref_to n hh v cs _ HER.out _ (HS.out _ ks4)).mono ?_
  rintro e W3 ⟨rfl, b3⟩
  have gs5 := carry gs4 b3
  have ss5 := carry ss4 b3
  have os5 := carry os4 b3
  have zs5 := carry mX2 b3
  have soos5 := soos4.below b3
  have ks5 := ks4.trans (b3.mono ks4.size)
  clear cgX20 cgX21 cgX22 csX20 csX21 csX22 coX20 coX21 coX22 czX20 czX21 czX22
  obtain ⟨cgs50, cgs51, cgs52, _⟩ := cells3 gs5
  obtain ⟨css50, css51, css52, _⟩ := cells3 ss5
  obtain ⟨cos50, cos51, cos52, _⟩ := cells3 os5
  obtain ⟨czs50, czs51, czs52, _⟩ := cells3 zs5
  go_wp2_with fail
  refine (gridded_any _ (HT.out _ ks5)).mono ?_
  rintro e W6 ⟨rfl, b6⟩
  have gs6 := carry gs5 b6
  have os6 := carry os5 b6
  have zs6 := carry zs5 b6
  have soos6 := soos5.below b6
  have ks6 := ks5.trans (b6.mono ks5.size)
  clear cgs50 cgs51 cgs52 css50 css51 css52 cos50 cos51 cos52 czs50 czs51 czs52
  obtain ⟨cgs60, cgs61, cgs62, _⟩ := cells3 gs6
  obtain ⟨cos60, cos61, cos62, _⟩ := cells3 os6
  obtain ⟨czs60, czs61, czs62, _⟩ := cells3 zs6
  go_wp2_with fail
  refine (same_any_big n hh _ _ cs _ soos6 (HS.out _ ks6) HBIG.out).mono ?_
  rintro e W7 ⟨rfl, b7⟩
  have gs7 := carry gs6 b7
  have os7 := carry os6 b7
  have zs7 := carry zs6 b7
  have soos7 := soos6.below b7
  have ks7 := ks6.trans (b7.mono ks6.size)
  clear cgs60 cgs61 cgs62 cos60 cos61 cos62 czs60 czs61 czs62
  obtain ⟨cgs70, cgs71, cgs72, _⟩ := cells3 gs7
  obtain ⟨cos70, cos71, cos72, _⟩ := cells3 os7
  obtain ⟨czs70, czs71, czs72, _⟩ := cells3 zs7
  go_wp2_with fail
  refine (gridded_any _ (HT.out _ ks7)).mono ?_
  rintro e W8 ⟨rfl, b8⟩
  have gs8 := carry gs7 b8
  have os8 := carry os7 b8
  have zs8 := carry zs7 b8
  have soos8 := soos7.below b8
  have ks8 := ks7.trans (b8.mono ks7.size)
  clear cgs70 cgs71 cgs72 cos70 cos71 cos72 czs70 czs71 czs72
  obtain ⟨cgs80, cgs81, cgs82, _⟩ := cells3 gs8
  obtain ⟨cos80, cos81, cos82, _⟩ := cells3 os8
  obtain ⟨czs80, czs81, czs82, _⟩ := cells3 zs8
  go_wp2_with fail
  refine (same_any_big n hh _ _ cs _ soos8 (HS.out _ ks8) HBIG.out).mono ?_
  rintro e W9 ⟨rfl, b9⟩
  have zs9 := carry zs8 b9
  have soos9 := soos8.below b9
  have ks9 := ks8.trans (b9.mono ks8.size)
  clear cgs80 cgs81 cgs82 cos80 cos81 cos82 czs80 czs81 czs82
  obtain ⟨czs90, czs91, czs92, _⟩ := cells3 zs9
  go_wp2_with fail
  refine (noGrid_none _).mono ?_
  rintro e W10 ⟨rfl, b10⟩
  have soos10 := soos9.below b10
  have ks10 := ks9.trans (b10.mono ks9.size)
  clear czs90 czs91 czs92
  go_wp2_with fail
  go_ret
  exact ⟨rfl, ks10⟩
set_option maxHeartbeats 4000000 in
theorem gridWrite_badE (n hh : Nat) (v : Value) (cs : List C) (px py f bk x : Int) (s : ByteArray) (w : World) (hT : Txt.Tab w) (hS : SliceAt w v cs) (hbig : cs.length * 32 ≤ 140737488351232) (hx0 : -9223372036854775808 ≤ px) (hx1 : px ≤ 9223372036854775807) (hy0 : -9223372036854775808 ≤ py) (hy1 : py ≤ 9223372036854775807) (hok : gridErr n hh cs = 0) (h1 : 0 ≤ px) (h2 : px < n) (h3 : 0 ≤ py) (h4 : py < hh) (hs : isSt (f, bk, x) = false) :
    Calls Tryd.prog 5 #[.agg #[.int .i64 (n : Int), .int .i64 (hh : Int), v], .int .i64 px, .int .i64 py, .string s, .agg #[.int .i64 f, .int .i64 bk, .int .i64 x]] w fun e w' => e = .returned (.bool true) ∧ Below w.heap.size w w' := by
  have HT : Hid (∀ W, Below w.heap.size w W → Txt.Tab W) := fun W k => Tab.next hT k
  have HS : Hid (∀ W, Below w.heap.size w W → SliceAt W v cs) := fun W k => hS.below k
  obtain ⟨x0, x1, kk, hsz⟩ := alloc2 w (.cells #[.int .i64 (n : Int), .int .i64 (hh : Int), v] 24) (.cells #[.int .i64 f, .int .i64 bk, .int .i64 x] 38)
  have HO := own_any (n : Int) (hh : Int) v cs _ (hS.below kk) (by omega)
  have HER : Hid (gridErr n hh cs = 0) := hok
  have hold : holdsI n hh px py 1 1 = true := by unfold holdsI; rw [decide_eq_true_eq]; omega
  have HFL : Hid (∀ W u, Below w.heap.size w W → SliceAt W u cs → Calls Tryd.prog 22 #[.agg #[.int .i64 (n : Int), .int .i64 (hh : Int), u], .int .i64 px, .int .i64 py, .string s, .agg #[.int .i64 f, .int .i64 bk, .int .i64 x]] W fun e w' => e = .returned (.tuple #[.agg #[.int .i64 0, .int .i64 0, .slice none 0 0], .int .i64 4]) ∧ Below W.heap.size W w') := fun W u k su => write_bad3 n hh u cs px py f bk x s W (Tab.next hT k) su hok (by omega) (by omega) (by omega) (by omega) hold hs
  have HST : Hid (isSt (f, bk, x) = false) := hs
  have d1 : decide (px < 0) = false := by rw [decide_eq_false_iff_not]; omega
  have d2 : decide ((n : Int) ≤ px) = false := by rw [decide_eq_false_iff_not]; omega
  have d3 : decide (py < 0) = false := by rw [decide_eq_false_iff_not]; omega
  have d4 : decide ((hh : Int) ≤ py) = false := by rw [decide_eq_false_iff_not]; omega
  have e1 : ¬ px < 0 := by omega
  have e2 : ¬ (n : Int) ≤ px := by omega
  have e3 : ¬ py < 0 := by omega
  have e4 : ¬ (hh : Int) ≤ py := by omega
  clear hok hold hs
  clear hT hS
  generalize hW0 : ((w.alloc (.cells #[.int .i64 (n : Int), .int .i64 (hh : Int), v] 24)).alloc (.cells #[.int .i64 f, .int .i64 bk, .int .i64 x] 38)) = W0 at x0 x1 kk hsz HO
  have HW0 : Hid (_ = W0) := hW0
  have HO' : Hid (Calls Tryd.prog 17 #[.agg #[.int .i64 (n : Int), .int .i64 (hh : Int), v]] W0 fun e w' => ∃ a' c', e = .returned (.agg #[.int .i64 (n : Int), .int .i64 (hh : Int), .slice a' cs.length c']) ∧ SliceAt w' (.slice a' cs.length c') cs ∧ Below W0.heap.size W0 w') := HO
  have HBIG : Hid (cs.length ≤ 4398046511104) := by unfold Hid; omega
  clear HO hW0
  go_enter Tryd.func5, Tryd.ntmps5
  go_wp2_with fail
  rw [HW0.out]
  refine (HO'.out).mono ?_
  rintro e W1 ⟨oa, oc, rfl, so1, b1⟩
  have gs1 := carry x0 b1
  have ss1 := carry x1 b1
  have ks1 := kk.trans (b1.mono kk.size)
  clear x0 x1 kk HW0 HO'
  go_wp2_with (refine wpList_store_row rfl 24 (.tmp 11) _ rfl W1.heap.size #[.int .i64 (n : Int), .int .i64 (hh : Int), .slice oa cs.length oc] rfl rfl _ _ (heap_alloc_new W1 _) (by kernel_rfl) rfl (one3v _ _ _ _ _) ?_
               obtain ⟨mX1, aX1⟩ := var_new W1 24 #[.int .i64 0, .int .i64 0, .slice none 0 0] #[.int .i64 (n : Int), .int .i64 (hh : Int), .slice oa cs.length oc]
               generalize ((W1.alloc (.cells #[.int .i64 0, .int .i64 0, .slice none 0 0] 24)).setRow W1.heap.size #[.int .i64 (n : Int), .int .i64 (hh : Int), .slice oa cs.length oc]) = X1 at *
               have gs2 := carry gs1 aX1
               have ss2 := carry ss1 aX1
               have soos2 := so1.below aX1
               have ks2 := ks1.trans (aX1.mono ks1.size)
               obtain ⟨cgX10, cgX11, cgX12, _⟩ := cells3 gs2
               obtain ⟨csX10, csX11, csX12, _⟩ := cells3 ss2
               obtain ⟨coX10, coX11, coX12, _⟩ := cells3 mX1)
  refine (HFL.out _ _ ks2 soos2).mono ?_
  rintro e W2 ⟨rfl, b2⟩
  have gs3 := carry gs2 b2
  have ss3 := carry ss2 b2
  have os3 := carry mX1 b2
  have soos3 := soos2.below b2
  have ks3 := ks2.trans (b2.mono ks2.size)
  clear cgX10 cgX11 cgX12 csX10 csX11 csX12 coX10 coX11 coX12
  go_wp2_with (refine wpList_store_row rfl 24 (.tmp 12) _ rfl W2.heap.size #[.int .i64 0, .int .i64 0, .slice none 0 0] rfl rfl _ _ (heap_alloc_new W2 _) (by kernel_rfl) rfl (one3v _ _ _ _ _) ?_
               obtain ⟨mX2, aX2⟩ := var_new W2 24 #[.int .i64 0, .int .i64 0, .slice none 0 0] #[.int .i64 0, .int .i64 0, .slice none 0 0]
               generalize ((W2.alloc (.cells #[.int .i64 0, .int .i64 0, .slice none 0 0] 24)).setRow W2.heap.size #[.int .i64 0, .int .i64 0, .slice none 0 0]) = X2 at *
               have gs4 := carry gs3 aX2
               have ss4 := carry ss3 aX2
               have os4 := carry os3 aX2
               have soos4 := soos3.below aX2
               have ks4 := ks3.trans (aX2.mono ks3.size)
               obtain ⟨cgX20, cgX21, cgX22, _⟩ := cells3 gs4
               obtain ⟨csX20, csX21, csX22, _⟩ := cells3 ss4
               obtain ⟨coX20, coX21, coX22, _⟩ := cells3 os4
               obtain ⟨czX20, czX21, czX22, _⟩ := cells3 mX2)
  refine (ref_to n hh v cs _ HER.out _ (HS.out _ ks4)).mono ?_
  rintro e W3 ⟨rfl, b3⟩
  have gs5 := carry gs4 b3
  have ss5 := carry ss4 b3
  have os5 := carry os4 b3
  have zs5 := carry mX2 b3
  have soos5 := soos4.below b3
  have ks5 := ks4.trans (b3.mono ks4.size)
  clear cgX20 cgX21 cgX22 csX20 csX21 csX22 coX20 coX21 coX22 czX20 czX21 czX22
  obtain ⟨cgs50, cgs51, cgs52, _⟩ := cells3 gs5
  obtain ⟨css50, css51, css52, _⟩ := cells3 ss5
  obtain ⟨cos50, cos51, cos52, _⟩ := cells3 os5
  obtain ⟨czs50, czs51, czs52, _⟩ := cells3 zs5
  go_wp2_with fail
  refine (isStyle_to f bk x _ HST.out _).mono ?_
  rintro e W5 ⟨rfl, b5⟩
  have gs6 := carry gs5 b5
  have os6 := carry os5 b5
  have zs6 := carry zs5 b5
  have soos6 := soos5.below b5
  have ks6 := ks5.trans (b5.mono ks5.size)
  clear cgs50 cgs51 cgs52 css50 css51 css52 cos50 cos51 cos52 czs50 czs51 czs52
  obtain ⟨cgs60, cgs61, cgs62, _⟩ := cells3 gs6
  obtain ⟨cos60, cos61, cos62, _⟩ := cells3 os6
  obtain ⟨czs60, czs61, czs62, _⟩ := cells3 zs6
  go_wp2_with fail
  refine (gridded_any _ (HT.out _ ks6)).mono ?_
  rintro e W6 ⟨rfl, b6⟩
  have gs7 := carry gs6 b6
  have os7 := carry os6 b6
  have zs7 := carry zs6 b6
  have soos7 := soos6.below b6
  have ks7 := ks6.trans (b6.mono ks6.size)
  clear cgs60 cgs61 cgs62 cos60 cos61 cos62 czs60 czs61 czs62
  obtain ⟨cgs70, cgs71, cgs72, _⟩ := cells3 gs7
  obtain ⟨cos70, cos71, cos72, _⟩ := cells3 os7
  obtain ⟨czs70, czs71, czs72, _⟩ := cells3 zs7
  go_wp2_with fail
  refine (same_any_big n hh _ _ cs _ soos7 (HS.out _ ks7) HBIG.out).mono ?_
  rintro e W7 ⟨rfl, b7⟩
  have gs8 := carry gs7 b7
  have os8 := carry os7 b7
  have zs8 := carry zs7 b7
  have soos8 := soos7.below b7
  have ks8 := ks7.trans (b7.mono ks7.size)
  clear cgs70 cgs71 cgs72 cos70 cos71 cos72 czs70 czs71 czs72
  obtain ⟨cgs80, cgs81, cgs82, _⟩ := cells3 gs8
  obtain ⟨cos80, cos81, cos82, _⟩ := cells3 os8
  obtain ⟨czs80, czs81, czs82, _⟩ := cells3 zs8
  go_wp2_with fail
  refine (gridded_any _ (HT.out _ ks8)).mono ?_
  rintro e W8 ⟨rfl, b8⟩
  have gs9 := carry gs8 b8
  have os9 := carry os8 b8
  have zs9 := carry zs8 b8
  have soos9 := soos8.below b8
  have ks9 := ks8.trans (b8.mono ks8.size)
  clear cgs80 cgs81 cgs82 cos80 cos81 cos82 czs80 czs81 czs82
  obtain ⟨cgs90, cgs91, cgs92, _⟩ := cells3 gs9
  obtain ⟨cos90, cos91, cos92, _⟩ := cells3 os9
  obtain ⟨czs90, czs91, czs92, _⟩ := cells3 zs9
  go_wp2_with fail
  refine (same_any_big n hh _ _ cs _ soos9 (HS.out _ ks9) HBIG.out).mono ?_
  rintro e W9 ⟨rfl, b9⟩
  have zs10 := carry zs9 b9
  have soos10 := soos9.below b9
  have ks10 := ks9.trans (b9.mono ks9.size)
  clear cgs90 cgs91 cgs92 cos90 cos91 cos92 czs90 czs91 czs92
  obtain ⟨czs100, czs101, czs102, _⟩ := cells3 zs10
  go_wp2_with fail
  refine (noGrid_none _).mono ?_
  rintro e W10 ⟨rfl, b10⟩
  have soos11 := soos10.below b10
  have ks11 := ks10.trans (b10.mono ks10.size)
  clear czs100 czs101 czs102
  go_wp2_with fail
  go_ret
  exact ⟨rfl, ks11⟩
end Grd
end Go.Proofs.YtinhmklpnkikgaaDoor

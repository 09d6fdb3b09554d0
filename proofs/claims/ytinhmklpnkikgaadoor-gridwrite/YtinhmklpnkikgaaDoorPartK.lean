/- The walk of the law GridWrite: what is refused. -/
import Derived.Test.YtinhmklpnkikgaaDoorPartJ
namespace Go.Proofs.YtinhmklpnkikgaaDoor
open Go.ChangeShapes Go.WideShapes Go.ChangeAt Go.RowKit Go.Maps
namespace Grd
open Txt (wd)
open Sty (isSt)
theorem alloc2 (w : World) (o0 o1 : Obj) : ((w.alloc o0).alloc o1).heap[w.heap.size]? = some o0 ∧ ((w.alloc o0).alloc o1).heap[w.heap.size + 1]? = some o1 ∧ Below w.heap.size w ((w.alloc o0).alloc o1) ∧ ((w.alloc o0).alloc o1).heap.size = w.heap.size + 2 := by
  have s1 : (w.alloc o0).heap.size = w.heap.size + 1 := by simp
  refine ⟨?_, ?_, ((Below.refl _ _).alloc (Nat.le_refl _) _).alloc (by omega) _, by simp⟩
  · rw [Below.heap_alloc _ _ _ (by omega), heap_alloc_new]
  · rw [← s1, heap_alloc_new]
set_option maxHeartbeats 4000000 in
theorem gridWrite_bad1 (a h : Int) (v : Value) (cs : List C) (px py f bk x : Int) (s : ByteArray) (w : World) (hT : Txt.Tab w) (hS : SliceAt w v cs) (hbig : cs.length * 32 ≤ 140737488351232) (hok : gridErr a h cs ≠ 0) :
    Calls Tryd.prog 5 #[.agg #[.int .i64 a, .int .i64 h, v], .int .i64 px, .int .i64 py, .string s, .agg #[.int .i64 f, .int .i64 bk, .int .i64 x]] w fun e w' => e = .returned (.bool true) ∧ Below w.heap.size w w' := by
  have HT : Hid (∀ W, Below w.heap.size w W → Txt.Tab W) := fun W k => Tab.next hT k
  have HS : Hid (∀ W, Below w.heap.size w W → SliceAt W v cs) := fun W k => hS.below k
  obtain ⟨x0, x1, kk, hsz⟩ := alloc2 w (.cells #[.int .i64 a, .int .i64 h, v] 24) (.cells #[.int .i64 f, .int .i64 bk, .int .i64 x] 38)
  have HO := own_any a h v cs _ (hS.below kk) (by omega)
  obtain ⟨er, her⟩ : ∃ q, gridErr a h cs = q := ⟨_, rfl⟩
  have HER : Hid (gridErr a h cs = er) := her
  have HFL : Hid (∀ W u, Below w.heap.size w W → SliceAt W u cs → Calls Tryd.prog 22 #[.agg #[.int .i64 a, .int .i64 h, u], .int .i64 px, .int .i64 py, .string s, .agg #[.int .i64 f, .int .i64 bk, .int .i64 x]] W fun e w' => e = .returned (.tuple #[.agg #[.int .i64 0, .int .i64 0, .slice none 0 0], .int .i64 er]) ∧ Below W.heap.size W w') := fun W u k su => by
    have := write_bad1 a h u cs px py f bk x s W (Tab.next hT k) su hok
    rwa [her] at this
  have ne : (er != 0) = true := by rw [← her]; simpa using hok
  have ne2 : (er == 0) = false := by rw [← her]; simpa using hok
  have nee : (er == er) = true := by simp
  clear hok her
  clear hT hS
  generalize hW0 : ((w.alloc (.cells #[.int .i64 a, .int .i64 h, v] 24)).alloc (.cells #[.int .i64 f, .int .i64 bk, .int .i64 x] 38)) = W0 at x0 x1 kk hsz HO
  have HW0 : Hid (_ = W0) := hW0
  have HO' : Hid (Calls Tryd.prog 17 #[.agg #[.int .i64 a, .int .i64 h, v]] W0 fun e w' => ∃ a' c', e = .returned (.agg #[.int .i64 a, .int .i64 h, .slice a' cs.length c']) ∧ SliceAt w' (.slice a' cs.length c') cs ∧ Below W0.heap.size W0 w') := HO
  have HBIG : Hid (cs.length ≤ 4398046511104) := by unfold Hid; omega
  clear HO hW0
  go_enter Tryd.func5, Tryd.ntmps5
  go_wp2_with fail
  rw [HW0.out]
  refine (HO'.out).mono ?_
  rintro e W1 ⟨oa, oc, rfl, so1, b1⟩
  have gs1 := carry x0 b1
  have ss1 := carry x1 b1
  have ks1 := kk.trans (b1.mono kk.size)
  clear x0 x1 kk HW0 HO'
  go_wp2_with (refine wpList_store_row rfl 24 (.tmp 11) _ rfl W1.heap.size #[.int .i64 a, .int .i64 h, .slice oa cs.length oc] rfl rfl _ _ (heap_alloc_new W1 _) (by kernel_rfl) rfl (one3v _ _ _ _ _) ?_
               obtain ⟨mX1, aX1⟩ := var_new W1 24 #[.int .i64 0, .int .i64 0, .slice none 0 0] #[.int .i64 a, .int .i64 h, .slice oa cs.length oc]
               generalize ((W1.alloc (.cells #[.int .i64 0, .int .i64 0, .slice none 0 0] 24)).setRow W1.heap.size #[.int .i64 a, .int .i64 h, .slice oa cs.length oc]) = X1 at *
               have gs2 := carry gs1 aX1
               have ss2 := carry ss1 aX1
               have soos2 := so1.below aX1
               have ks2 := ks1.trans (aX1.mono ks1.size)
               obtain ⟨cgX10, cgX11, cgX12, _⟩ := cells3 gs2
               obtain ⟨csX10, csX11, csX12, _⟩ := cells3 ss2
               obtain ⟨coX10, coX11, coX12, _⟩ := cells3 mX1)
  refine (HFL.out _ _ ks2 soos2).mono ?_
  rintro e W2 ⟨rfl, b2⟩
  have gs3 := carry gs2 b2
  have ss3 := carry ss2 b2
  have os3 := carry mX1 b2
  have soos3 := soos2.below b2
  have ks3 := ks2.trans (b2.mono ks2.size)
  clear cgX10 cgX11 cgX12 csX10 csX11 csX12 coX10 coX11 coX12
  go_wp2_with (refine wpList_store_row rfl 24 (.tmp 12) _ rfl W2.heap.size #[.int .i64 0, .int .i64 0, .slice none 0 0] rfl rfl _ _ (heap_alloc_new W2 _) (by kernel_rfl) rfl (one3v _ _ _ _ _) ?_
               obtain ⟨mX2, aX2⟩ := var_new W2 24 #[.int .i64 0, .int .i64 0, .slice none 0 0] #[.int .i64 0, .int .i64 0, .slice none 0 0]
               generalize ((W2.alloc (.cells #[.int .i64 0, .int .i64 0, .slice none 0 0] 24)).setRow W2.heap.size #[.int .i64 0, .int .i64 0, .slice none 0 0]) = X2 at *
               have gs4 := carry gs3 aX2
               have ss4 := carry ss3 aX2
               have os4 := carry os3 aX2
               have soos4 := soos3.below aX2
               have ks4 := ks3.trans (aX2.mono ks3.size)
               obtain ⟨cgX20, cgX21, cgX22, _⟩ := cells3 gs4
               obtain ⟨csX20, csX21, csX22, _⟩ := cells3 ss4
               obtain ⟨coX20, coX21, coX22, _⟩ := cells3 os4
               obtain ⟨czX20, czX21, czX22, _⟩ := cells3 mX2)
  refine (ref_to a h v cs _ HER.out _ (HS.out _ ks4)).mono ?_
  rintro e W3 ⟨rfl, b3⟩
  have gs5 := carry gs4 b3
  have ss5 := carry ss4 b3
  have os5 := carry os4 b3
  have zs5 := carry mX2 b3
  have soos5 := soos4.below b3
  have ks5 := ks4.trans (b3.mono ks4.size)
  clear cgX20 cgX21 cgX22 csX20 csX21 csX22 coX20 coX21 coX22 czX20 czX21 czX22
  obtain ⟨cgs50, cgs51, cgs52, _⟩ := cells3 gs5
  obtain ⟨css50, css51, css52, _⟩ := cells3 ss5
  obtain ⟨cos50, cos51, cos52, _⟩ := cells3 os5
  obtain ⟨czs50, czs51, czs52, _⟩ := cells3 zs5
  go_wp2_with fail
  refine (gridded_any _ (HT.out _ ks5)).mono ?_
  rintro e W6 ⟨rfl, b6⟩
  have gs6 := carry gs5 b6
  have os6 := carry os5 b6
  have zs6 := carry zs5 b6
  have soos6 := soos5.below b6
  have ks6 := ks5.trans (b6.mono ks5.size)
  clear cgs50 cgs51 cgs52 css50 css51 css52 cos50 cos51 cos52 czs50 czs51 czs52
  obtain ⟨cgs60, cgs61, cgs62, _⟩ := cells3 gs6
  obtain ⟨cos60, cos61, cos62, _⟩ := cells3 os6
  obtain ⟨czs60, czs61, czs62, _⟩ := cells3 zs6
  go_wp2_with fail
  refine (same_any_big a h _ _ cs _ soos6 (HS.out _ ks6) HBIG.out).mono ?_
  rintro e W7 ⟨rfl, b7⟩
  have gs7 := carry gs6 b7
  have os7 := carry os6 b7
  have zs7 := carry zs6 b7
  have soos7 := soos6.below b7
  have ks7 := ks6.trans (b7.mono ks6.size)
  clear cgs60 cgs61 cgs62 cos60 cos61 cos62 czs60 czs61 czs62
  obtain ⟨cgs70, cgs71, cgs72, _⟩ := cells3 gs7
  obtain ⟨cos70, cos71, cos72, _⟩ := cells3 os7
  obtain ⟨czs70, czs71, czs72, _⟩ := cells3 zs7
  go_wp2_with fail
  refine (gridded_any _ (HT.out _ ks7)).mono ?_
  rintro e W8 ⟨rfl, b8⟩
  have gs8 := carry gs7 b8
  have os8 := carry os7 b8
  have zs8 := carry zs7 b8
  have soos8 := soos7.below b8
  have ks8 := ks7.trans (b8.mono ks7.size)
  clear cgs70 cgs71 cgs72 cos70 cos71 cos72 czs70 czs71 czs72
  obtain ⟨cgs80, cgs81, cgs82, _⟩ := cells3 gs8
  obtain ⟨cos80, cos81, cos82, _⟩ := cells3 os8
  obtain ⟨czs80, czs81, czs82, _⟩ := cells3 zs8
  go_wp2_with fail
  refine (same_any_big a h _ _ cs _ soos8 (HS.out _ ks8) HBIG.out).mono ?_
  rintro e W9 ⟨rfl, b9⟩
  have zs9 := carry zs8 b9
  have soos9 := soos8.below b9
  have ks9 := ks8.trans (b9.mono ks8.size)
  clear cgs80 cgs81 cgs82 cos80 cos81 cos82 czs80 czs81 czs82
  obtain ⟨czs90, czs91, czs92, _⟩ := cells3 zs9
  go_wp2_with fail
  refine (noGrid_none _).mono ?_
  rintro e W10 ⟨rfl, b10⟩
  have soos10 := soos9.below b10
  have ks10 := ks9.trans (b10.mono ks9.size)
  clear czs90 czs91 czs92
  go_wp2_with fail
  go_ret
  exact ⟨rfl, ks10⟩
set_option maxHeartbeats 4000000 in
theorem gridWrite_badA (n hh : Nat) (v : Value) (cs : List C) (px py f bk x : Int) (s : ByteArray) (w : World) (hT : Txt.Tab w) (hS : SliceAt w v cs) (hbig : cs.length * 32 ≤ 140737488351232) (hx0 : -9223372036854775808 ≤ px) (hx1 : px ≤ 9223372036854775807) (hy0 : -9223372036854775808 ≤ py) (hy1 : py ≤ 9223372036854775807) (hok : gridErr n hh cs = 0) (h1 : px < 0) :
    Calls Tryd.prog 5 #[.agg #[.int .i64 (n : Int), .int .i64 (hh : Int), v], .int .i64 px, .int .i64 py, .string s, .agg #[.int .i64 f, .int .i64 bk, .int .i64 x]] w fun e w' => e = .returned (.bool true) ∧ Below w.heap.size w w' := by
  have HT : Hid (∀ W, Below w.heap.size w W → Txt.Tab W) := fun W k => Tab.next hT k
  have HS : Hid (∀ W, Below w.heap.size w W → SliceAt W v cs) := fun W k => hS.below k
  obtain ⟨x0, x1, kk, hsz⟩ := alloc2 w (.cells #[.int .i64 (n : Int), .int .i64 (hh : Int), v] 24) (.cells #[.int .i64 f, .int .i64 bk, .int .i64 x] 38)
  have HO := own_any (n : Int) (hh : Int) v cs _ (hS.below kk) (by omega)
  have HER : Hid (gridErr n hh cs = 0) := hok
  have hold : holdsI n hh px py 1 1 = false := by unfold holdsI; rw [decide_eq_false_iff_not]; omega
  have HFL : Hid (∀ W u, Below w.heap.size w W → SliceAt W u cs → Calls Tryd.prog 22 #[.agg #[.int .i64 (n : Int), .int .i64 (hh : Int), u], .int .i64 px, .int .i64 py, .string s, .agg #[.int .i64 f, .int .i64 bk, .int .i64 x]] W fun e w' => e = .returned (.tuple #[.agg #[.int .i64 0, .int .i64 0, .slice none 0 0], .int .i64 4]) ∧ Below W.heap.size W w') := fun W u k su => write_bad2 n hh u cs px py f bk x s W (Tab.next hT k) su hok (by omega) (by omega) (by omega) (by omega) hold
  clear hok hold
  clear hT hS
  generalize hW0 : ((w.alloc (.cells #[.int .i64 (n : Int), .int .i64 (hh : Int), v] 24)).alloc (.cells #[.int .i64 f, .int .i64 bk, .int .i64 x] 38)) = W0 at x0 x1 kk hsz HO
  have HW0 : Hid (_ = W0) := hW0
  have HO' : Hid (Calls Tryd.prog 17 #[.agg #[.int .i64 (n : Int), .int .i64 (hh : Int), v]] W0 fun e w' => ∃ a' c', e = .returned (.agg #[.int .i64 (n : Int), .int .i64 (hh : Int), .slice a' cs.length c']) ∧ SliceAt w' (.slice a' cs.length c') cs ∧ Below W0.heap.size W0 w') := HO
  have HBIG : Hid (cs.length ≤ 4398046511104) := by unfold Hid; omega
  clear HO hW0
  go_enter Tryd.func5, Tryd.ntmps5
  go_wp2_with fail
  rw [HW0.out]
  refine (HO'.out).mono ?_
  rintro e W1 ⟨oa, oc, rfl, so1, b1⟩
  have gs1 := carry x0 b1
  have ss1 := carry x1 b1
  have ks1 := kk.trans (b1.mono kk.size)
  clear x0 x1 kk HW0 HO'
  go_wp2_with (refine wpList_store_row rfl 24 (.tmp 11) _ rfl W1.heap.size #[.int .i64 (n : Int), .int .i64 (hh : Int), .slice oa cs.length oc] rfl rfl _ _ (heap_alloc_new W1 _) (by kernel_rfl) rfl (one3v _ _ _ _ _) ?_
               obtain ⟨mX1, aX1⟩ := var_new W1 24 #[.int .i64 0, .int .i64 0, .slice none 0 0] #[.int .i64 (n : Int), .int .i64 (hh : Int), .slice oa cs.length oc]
               generalize ((W1.alloc (.cells #[.int .i64 0, .int .i64 0, .slice none 0 0] 24)).setRow W1.heap.size #[.int .i64 (n : Int), .int .i64 (hh : Int), .slice oa cs.length oc]) = X1 at *
               have gs2 := carry gs1 aX1
               have ss2 := carry ss1 aX1
               have soos2 := so1.below aX1
               have ks2 := ks1.trans (aX1.mono ks1.size)
               obtain ⟨cgX10, cgX11, cgX12, _⟩ := cells3 gs2
               obtain ⟨csX10, csX11, csX12, _⟩ := cells3 ss2
               obtain ⟨coX10, coX11, coX12, _⟩ := cells3 mX1)
  refine (HFL.out _ _ ks2 soos2).mono ?_
  rintro e W2 ⟨rfl, b2⟩
  have gs3 := carry gs2 b2
  have ss3 := carry ss2 b2
  have os3 := carry mX1 b2
  have soos3 := soos2.below b2
  have ks3 := ks2.trans (b2.mono ks2.size)
  clear cgX10 cgX11 cgX12 csX10 csX11 csX12 coX10 coX11 coX12
  go_wp2_with (refine wpList_store_row rfl 24 (.tmp 12) _ rfl W2.heap.size #[.int .i64 0, .int .i64 0, .slice none 0 0] rfl rfl _ _ (heap_alloc_new W2 _) (by kernel_rfl) rfl (one3v _ _ _ _ _) ?_
               obtain ⟨mX2, aX2⟩ := var_new W2 24 #[.int .i64 0, .int .i64 0, .slice none 0 0] #[.int .i64 0, .int .i64 0, .slice none 0 0]
               generalize ((W2.alloc (.cells #[.int .i64 0, .int .i64 0, .slice none 0 0] 24)).setRow W2.heap.size #[.int .i64 0, .int .i64 0, .slice none 0 0]) = X2 at *
               have gs4 := carry gs3 aX2
               have ss4 := carry ss3 aX2
               have os4 := carry os3 aX2
               have soos4 := soos3.below aX2
               have ks4 := ks3.trans (aX2.mono ks3.size)
               obtain ⟨cgX20, cgX21, cgX22, _⟩ := cells3 gs4
               obtain ⟨csX20, csX21, csX22, _⟩ := cells3 ss4
               obtain ⟨coX20, coX21, coX22, _⟩ := cells3 os4
               obtain ⟨czX20, czX21, czX22, _⟩ := cells3 mX2)
  refine (ref_to n hh v cs _ HER.out _ (HS.out _ ks4)).mono ?_
  rintro e W3 ⟨rfl, b3⟩
  have gs5 := carry gs4 b3
  have ss5 := carry ss4 b3
  have os5 := carry os4 b3
  have zs5 := carry mX2 b3
  have soos5 := soos4.below b3
  have ks5 := ks4.trans (b3.mono ks4.size)
  clear cgX20 cgX21 cgX22 csX20 csX21 csX22 coX20 coX21 coX22 czX20 czX21 czX22
  obtain ⟨cgs50, cgs51, cgs52, _⟩ := cells3 gs5
  obtain ⟨css50, css51, css52, _⟩ := cells3 ss5
  obtain ⟨cos50, cos51, cos52, _⟩ := cells3 os5
  obtain ⟨czs50, czs51, czs52, _⟩ := cells3 zs5
  go_wp2_with fail
  refine (gridded_any _ (HT.out _ ks5)).mono ?_
  rintro e W6 ⟨rfl, b6⟩
  have gs6 := carry gs5 b6
  have os6 := carry os5 b6
  have zs6 := carry zs5 b6
  have soos6 := soos5.below b6
  have ks6 := ks5.trans (b6.mono ks5.size)
  clear cgs50 cgs51 cgs52 css50 css51 css52 cos50 cos51 cos52 czs50 czs51 czs52
  obtain ⟨cgs60, cgs61, cgs62, _⟩ := cells3 gs6
  obtain ⟨cos60, cos61, cos62, _⟩ := cells3 os6
  obtain ⟨czs60, czs61, czs62, _⟩ := cells3 zs6
  go_wp2_with fail
  refine (same_any_big n hh _ _ cs _ soos6 (HS.out _ ks6) HBIG.out).mono ?_
  rintro e W7 ⟨rfl, b7⟩
  have gs7 := carry gs6 b7
  have os7 := carry os6 b7
  have zs7 := carry zs6 b7
  have soos7 := soos6.below b7
  have ks7 := ks6.trans (b7.mono ks6.size)
  clear cgs60 cgs61 cgs62 cos60 cos61 cos62 czs60 czs61 czs62
  obtain ⟨cgs70, cgs71, cgs72, _⟩ := cells3 gs7
  obtain ⟨cos70, cos71, cos72, _⟩ := cells3 os7
  obtain ⟨czs70, czs71, czs72, _⟩ := cells3 zs7
  go_wp2_with fail
  refine (gridded_any _ (HT.out _ ks7)).mono ?_
  rintro e W8 ⟨rfl, b8⟩
  have gs8 := carry gs7 b8
  have os8 := carry os7 b8
  have zs8 := carry zs7 b8
  have soos8 := soos7.below b8
  have ks8 := ks7.trans (b8.mono ks7.size)
  clear cgs70 cgs71 cgs72 cos70 cos71 cos72 czs70 czs71 czs72
  obtain ⟨cgs80, cgs81, cgs82, _⟩ := cells3 gs8
  obtain ⟨cos80, cos81, cos82, _⟩ := cells3 os8
  obtain ⟨czs80, czs81, czs82, _⟩ := cells3 zs8
  go_wp2_with fail
  refine (same_any_big n hh _ _ cs _ soos8 (HS.out _ ks8) HBIG.out).mono ?_
  rintro e W9 ⟨rfl, b9⟩
  have zs9 := carry zs8 b9
  have soos9 := soos8.below b9
  have ks9 := ks8.trans (b9.mono ks8.size)
  clear cgs80 cgs81 cgs82 cos80 cos81 cos82 czs80 czs81 czs82
  obtain ⟨czs90, czs91, czs92, _⟩ := cells3 zs9
  go_wp2_with fail
  refine (noGrid_none _).mono ?_
  rintro e W10 ⟨rfl, b10⟩
  have soos10 := soos9.below b10
  have ks10 := ks9.trans (b10.mono ks9.size)
  clear czs90 czs91 czs92
  go_wp2_with fail
  go_ret
  exact ⟨rfl, ks10⟩
set_option maxHeartbeats 4000000 in
theorem gridWrite_badB (n hh : Nat) (v : Value) (cs : List C) (px py f bk x : Int) (s : ByteArray) (w : World) (hT : Txt.Tab w) (hS : SliceAt w v cs) (hbig : cs.length * 32 ≤ 140737488351232) (hx0 : -9223372036854775808 ≤ px) (hx1 : px ≤ 9223372036854775807) (hy0 : -9223372036854775808 ≤ py) (hy1 : py ≤ 9223372036854775807) (hok : gridErr n hh cs = 0) (h1 : 0 ≤ px) (h2 : (n : Int) ≤ px) :
    Calls Tryd.prog 5 #[.agg #[.int .i64 (n : Int), .int .i64 (hh : Int), v], .int .i64 px, .int .i64 py, .string s, .agg #[.int .i64 f, .int .i64 bk, .int .i64 x]] w fun e w' => e = .returned (.bool true) ∧ Below w.heap.size w w' := by
  have HT : Hid (∀ W, Below w.heap.size w W → Txt.Tab W) := fun W k => Tab.next hT k
  have HS : Hid (∀ W, Below w.heap.size w W → SliceAt W v cs) := fun W k => hS.below k
  obtain ⟨x0, x1, kk, hsz⟩ := alloc2 w (.cells #[.int .i64 (n : Int), .int .i64 (hh : Int), v] 24) (.cells #[.int .i64 f, .int .i64 bk, .int .i64 x] 38)
  have HO := own_any (n : Int) (hh : Int) v cs _ (hS.below kk) (by omega)
  have HER : Hid (gridErr n hh cs = 0) := hok
  have hold : holdsI n hh px py 1 1 = false := by unfold holdsI; rw [decide_eq_false_iff_not]; omega
  have HFL : Hid (∀ W u, Below w.heap.size w W → SliceAt W u cs → Calls Tryd.prog 22 #[.agg #[.int .i64 (n : Int), .int .i64 (hh : Int), u], .int .i64 px, .int .i64 py, .string s, .agg #[.int .i64 f, .int .i64 bk, .int .i64 x]] W fun e w' => e = .returned (.tuple #[.agg #[.int .i64 0, .int .i64 0, .slice none 0 0], .int .i64 4]) ∧ Below W.heap.size W w') := fun W u k su => write_bad2 n hh u cs px py f bk x s W (Tab.next hT k) su hok (by omega) (by omega) (by omega) (by omega) hold
  have d1 : decide (px < 0) = false := by rw [decide_eq_false_iff_not]; omega
  have e1 : ¬ px < 0 := by omega
  clear hok hold
  clear hT hS
  generalize hW0 : ((w.alloc (.cells #[.int .i64 (n : Int), .int .i64 (hh : Int), v] 24)).alloc (.cells #[.int .i64 f, .int .i64 bk, .int .i64 x] 38)) = W0 at x0 x1 kk hsz HO
  have HW0 : Hid (_ = W0) := hW0
  have HO' : Hid (Calls Tryd.prog 17 #[.agg #[.int .i64 (n : Int), .int .i64 (hh : Int), v]] W0 fun e w' => ∃ a' c', e = .returned (.agg #[.int .i64 (n : Int), .int .i64 (hh : Int), .slice a' cs.length c']) ∧ SliceAt w' (.slice a' cs.length c') cs ∧ Below W0.heap.size W0 w') := HO
  have HBIG : Hid (cs.length ≤ 4398046511104) := by unfold Hid; omega
  clear HO hW0
  go_enter Tryd.func5, Tryd.ntmps5
  go_wp2_with fail
  rw [HW0.out]
  refine (HO'.out).mono ?_
  rintro e W1 ⟨oa, oc, rfl, so1, b1⟩
  have gs1 := carry x0 b1
  have ss1 := carry x1 b1
  have ks1 := kk.trans (b1.mono kk.size)
  clear x0 x1 kk HW0 HO'
  go_wp2_with (refine wpList_store_row rfl 24 (.tmp 11) _ rfl W1.heap.size #[.int .i64 (n : Int), .int .i64 (hh : Int), .slice oa cs.length oc] rfl rfl _ _ (heap_alloc_new W1 _) (by kernel_rfl) rfl (one3v _ _ _ _ _) ?_
               obtain ⟨mX1, aX1⟩ := var_new W1 24 #[.int .i64 0, .int .i64 0, .slice none 0 0] #[.int .i64 (n : Int), .int .i64 (hh : Int), .slice oa cs.length oc]
               generalize ((W1.alloc (.cells #[.int .i64 0, .int .i64 0, .slice none 0 0] 24)).setRow W1.heap.size #[.int .i64 (n : Int), .int .i64 (hh : Int), .slice oa cs.length oc]) = X1 at *
               have gs2 := carry gs1 aX1
               have ss2 := carry ss1 aX1
               have soos2 := so1.below aX1
               have ks2 := ks1.trans (aX1.mono ks1.size)
               obtain ⟨cgX10, cgX11, cgX12, _⟩ := cells3 gs2
               obtain ⟨csX10, csX11, csX12, _⟩ := cells3 ss2
               obtain ⟨coX10, coX11, coX12, _⟩ := cells3 mX1)
  refine (HFL.out _ _ ks2 soos2).mono ?_
  rintro e W2 ⟨rfl, b2⟩
  have gs3 := carry gs2 b2
  have ss3 := carry ss2 b2
  have os3 := carry mX1 b2
  have soos3 := soos2.below b2
  have ks3 := ks2.trans (b2.mono ks2.size)
  clear cgX10 cgX11 cgX12 csX10 csX11 csX12 coX10 coX11 coX12
  go_wp2_with (refine wpList_store_row rfl 24 (.tmp 12) _ rfl W2.heap.size #[.int .i64 0, .int .i64 0, .slice none 0 0] rfl rfl _ _ (heap_alloc_new W2 _) (by kernel_rfl) rfl (one3v _ _ _ _ _) ?_
               obtain ⟨mX2, aX2⟩ := var_new W2 24 #[.int .i64 0, .int .i64 0, .slice none 0 0] #[.int .i64 0, .int .i64 0, .slice none 0 0]
               generalize ((W2.alloc (.cells #[.int .i64 0, .int .i64 0, .slice none 0 0] 24)).setRow W2.heap.size #[.int .i64 0, .int .i64 0, .slice none 0 0]) = X2 at *
               have gs4 := carry gs3 aX2
               have ss4 := carry ss3 aX2
               have os4 := carry os3 aX2
               have soos4 := soos3.below aX2
               have ks4 := ks3.trans (aX2.mono ks3.size)
               obtain ⟨cgX20, cgX21, cgX22, _⟩ := cells3 gs4
               obtain ⟨csX20, csX21, csX22, _⟩ := cells3 ss4
               obtain ⟨coX20, coX21, coX22, _⟩ := cells3 os4
               obtain ⟨czX20, czX21, czX22, _⟩ := cells3 mX2)
  refine (ref_to n hh v cs _ HER.out _ (HS.out _ ks4)).mono ?_
  rintro e W3 ⟨rfl, b3⟩
  have gs5 := carry gs4 b3
  have ss5 := carry ss4 b3
  have os5 := carry os4 b3
  have zs5 := carry mX2 b3
  have soos5 := soos4.below b3
  have ks5 := ks4.trans (b3.mono ks4.size)
  clear cgX20 cgX21 cgX22 csX20 csX21 csX22 coX20 coX21 coX22 czX20 czX21 czX22
  obtain ⟨cgs50, cgs51, cgs52, _⟩ := cells3 gs5
  obtain ⟨css50, css51, css52, _⟩ := cells3 ss5
  obtain ⟨cos50, cos51, cos52, _⟩ := cells3 os5
  obtain ⟨czs50, czs51, czs52, _⟩ := cells3 zs5
  go_wp2_with fail
  refine (gridded_any _ (HT.out _ ks5)).mono ?_
  rintro e W6 ⟨rfl, b6⟩
  have gs6 := carry gs5 b6
  have os6 := carry os5 b6
  have zs6 := carry zs5 b6
  have soos6 := soos5.below b6
  have ks6 := ks5.trans (b6.mono ks5.size)
  clear cgs50 cgs51 cgs52 css50 css51 css52 cos50 cos51 cos52 czs50 czs51 czs52
  obtain ⟨cgs60, cgs61, cgs62, _⟩ := cells3 gs6
  obtain ⟨cos60, cos61, cos62, _⟩ := cells3 os6
  obtain ⟨czs60, czs61, czs62, _⟩ := cells3 zs6
  go_wp2_with fail
  refine (same_any_big n hh _ _ cs _ soos6 (HS.out _ ks6) HBIG.out).mono ?_
  rintro e W7 ⟨rfl, b7⟩
  have gs7 := carry gs6 b7
  have os7 := carry os6 b7
  have zs7 := carry zs6 b7
  have soos7 := soos6.below b7
  have ks7 := ks6.trans (b7.mono ks6.size)
  clear cgs60 cgs61 cgs62 cos60 cos61 cos62 czs60 czs61 czs62
  obtain ⟨cgs70, cgs71, cgs72, _⟩ := cells3 gs7
  obtain ⟨cos70, cos71, cos72, _⟩ := cells3 os7
  obtain ⟨czs70, czs71, czs72, _⟩ := cells3 zs7
  go_wp2_with fail
  refine (gridded_any _ (HT.out _ ks7)).mono ?_
  rintro e W8 ⟨rfl, b8⟩
  have gs8 := carry gs7 b8
  have os8 := carry os7 b8
  have zs8 := carry zs7 b8
  have soos8 := soos7.below b8
  have ks8 := ks7.trans (b8.mono ks7.size)
  clear cgs70 cgs71 cgs72 cos70 cos71 cos72 czs70 czs71 czs72
  obtain ⟨cgs80, cgs81, cgs82, _⟩ := cells3 gs8
  obtain ⟨cos80, cos81, cos82, _⟩ := cells3 os8
  obtain ⟨czs80, czs81, czs82, _⟩ := cells3 zs8
  go_wp2_with fail
  refine (same_any_big n hh _ _ cs _ soos8 (HS.out _ ks8) HBIG.out).mono ?_
  rintro e W9 ⟨rfl, b9⟩
  have zs9 := carry zs8 b9
  have soos9 := soos8.below b9
  have ks9 := ks8.trans (b9.mono ks8.size)
  clear cgs80 cgs81 cgs82 cos80 cos81 cos82 czs80 czs81 czs82
  obtain ⟨czs90, czs91, czs92, _⟩ := cells3 zs9
  go_wp2_with fail
  refine (noGrid_none _).mono ?_
  rintro e W10 ⟨rfl, b10⟩
  have soos10 := soos9.below b10
  have ks10 := ks9.trans (b10.mono ks9.size)
  clear czs90 czs91 czs92
  go_wp2_with fail
  go_ret
  exact ⟨rfl, ks10⟩
set_option maxHeartbeats 4000000 in
theorem gridWrite_badC (n hh : Nat) (v : Value) (cs : List C) (px py f bk x : Int) (s : ByteArray) (w : World) (hT : Txt.Tab w) (hS : SliceAt w v cs) (hbig : cs.length * 32 ≤ 140737488351232) (hx0 : -9223372036854775808 ≤ px) (hx1 : px ≤ 9223372036854775807) (hy0 : -9223372036854775808 ≤ py) (hy1 : py ≤ 9223372036854775807) (hok : gridErr n hh cs = 0) (h1 : 0 ≤ px) (h2 : px < n) (h3 : py < 0) :
    Calls Tryd.prog 5 #[.agg #[.int .i64 (n : Int), .int .i64 (hh : Int), v], .int .i64 px, .int .i64 py, .string s, .agg #[.int .i64 f, .int .i64 bk, .int .i64 x]] w fun e w' => e = .returned (.bool true) ∧ Below w.heap.size w w' := by
  have HT : Hid (∀ W, Below w.heap.size w W → Txt.Tab W) := fun W k => Tab.next hT k
  have HS : Hid (∀ W, Below w.heap.size w W → SliceAt W v cs) := fun W k => hS.below k
  obtain ⟨x0, x1, kk, hsz⟩ := alloc2 w (.cells #[.int .i64 (n : Int), .int .i64 (hh : Int), v] 24) (.cells #[.int .i64 f, .int .i64 bk, .int .i64 x] 38)
  have HO := own_any (n : Int) (hh : Int) v cs _ (hS.below kk) (by omega)
  have HER : Hid (gridErr n hh cs = 0) := hok
  have hold : holdsI n hh px py 1 1 = false := by unfold holdsI; rw [decide_eq_false_iff_not]; omega
  have HFL : Hid (∀ W u, Below w.heap.size w W → SliceAt W u cs → Calls Tryd.prog 22 #[.agg #[.int .i64 (n : Int), .int .i64 (hh : Int), u], .int .i64 px, .int .i64 py, .string s, .agg #[.int .i64 f, .int .i64 bk, .int .i64 x]] W fun e w' => e = .returned (.tuple #[.agg #[.int .i64 0, .int .i64 0, .slice none 0 0], .int .i64 4]) ∧ Below W.heap.size W w') := fun W u k su => write_bad2 n hh u cs px py f bk x s W (Tab.next hT k) su hok (by omega) (by omega) (by omega) (by omega) hold
  have d1 : decide (px < 0) = false := by rw [decide_eq_false_iff_not]; omega
  have d2 : decide ((n : Int) ≤ px) = false := by rw [decide_eq_false_iff_not]; omega
  have e1 : ¬ px < 0 := by omega
  have e2 : ¬ (n : Int) ≤ px := by omega
  clear hok hold
  clear hT hS
  generalize hW0 : ((w.alloc (.cells #[.int .i64 (n : Int), .int .i64 (hh : Int), v] 24)).alloc (.cells #[.int .i64 f, .int .i64 bk, .int .i64 x] 38)) = W0 at x0 x1 kk hsz HO
  have HW0 : Hid (_ = W0) := hW0
  have HO' : Hid (Calls Tryd.prog 17 #[.agg #[.int .i64 (n : Int), .int .i64 (hh : Int), v]] W0 fun e w' => ∃ a' c', e = .returned (.agg #[.int .i64 (n : Int), .int .i64 (hh : Int), .slice a' cs.length c']) ∧ SliceAt w' (.slice a' cs.length c') cs ∧ Below W0.heap.size W0 w') := HO
  have HBIG : Hid (cs.length ≤ 4398046511104) := by unfold Hid; omega
  clear HO hW0
  go_enter Tryd.func5, Tryd.ntmps5
  go_wp2_with fail
  rw [HW0.out]
  refine (HO'.out).mono ?_
  rintro e W1 ⟨oa, oc, rfl, so1, b1⟩
  have gs1 := carry x0 b1
  have ss1 := carry x1 b1
  have ks1 := kk.trans (b1.mono kk.size)
  clear x0 x1 kk HW0 HO'
  go_wp2_with (refine wpList_store_row rfl 24 (.tmp 11) _ rfl W1.heap.size #[.int .i64 (n : Int), .int .i64 (hh : Int), .slice oa cs.length oc] rfl rfl _ _ (heap_alloc_new W1 _) (by kernel_rfl) rfl (one3v _ _ _ _ _) ?_
               obtain ⟨mX1, aX1⟩ := var_new W1 24 #[.int .i64 0, .int .i64 0, .slice none 0 0] #[.int .i64 (n : Int), .int .i64 (hh : Int), .slice oa cs.length oc]
               generalize ((W1.alloc (.cells #[.int .i64 0, .int .i64 0, .slice none 0 0] 24)).setRow W1.heap.size #[.int .i64 (n : Int), .int .i64 (hh : Int), .slice oa cs.length oc]) = X1 at *
               have gs2 := carry gs1 aX1
               have ss2 := carry ss1 aX1
               have soos2 := so1.below aX1
               have ks2 := ks1.trans (aX1.mono ks1.size)
               obtain ⟨cgX10, cgX11, cgX12, _⟩ := cells3 gs2
               obtain ⟨csX10, csX11, csX12, _⟩ := cells3 ss2
               obtain ⟨coX10, coX11, coX12, _⟩ := cells3 mX1)
  refine (HFL.out _ _ ks2 soos2).mono ?_
  rintro e W2 ⟨rfl, b2⟩
  have gs3 := carry gs2 b2
  have ss3 := carry ss2 b2
  have os3 := carry mX1 b2
  have soos3 := soos2.below b2
  have ks3 := ks2.trans (b2.mono ks2.size)
  clear cgX10 cgX11 cgX12 csX10 csX11 csX12 coX10 coX11 coX12
  go_wp2_with (refine wpList_store_row rfl 24 (.tmp 12) _ rfl W2.heap.size #[.int .i64 0, .int .i64 0, .slice none 0 0] rfl rfl _ _ (heap_alloc_new W2 _) (by kernel_rfl) rfl (one3v _ _ _ _ _) ?_
               obtain ⟨mX2, aX2⟩ := var_new W2 24 #[.int .i64 0, .int .i64 0, .slice none 0 0] #[.int .i64 0, .int .i64 0, .slice none 0 0]
               generalize ((W2.alloc (.cells #[.int .i64 0, .int .i64 0, .slice none 0 0] 24)).setRow W2.heap.size #[.int .i64 0, .int .i64 0, .slice none 0 0]) = X2 at *
               have gs4 := carry gs3 aX2
               have ss4 := carry ss3 aX2
               have os4 := carry os3 aX2
               have soos4 := soos3.below aX2
               have ks4 := ks3.trans (aX2.mono ks3.size)
               obtain ⟨cgX20, cgX21, cgX22, _⟩ := cells3 gs4
               obtain ⟨csX20, csX21, csX22, _⟩ := cells3 ss4
               obtain ⟨coX20, coX21, coX22, _⟩ := cells3 os4
               obtain ⟨czX20, czX21, czX22, _⟩ := cells3 mX2)
  refine (ref_to n hh v cs _ HER.out _ (HS.out _ ks4)).mono ?_
  rintro e W3 ⟨rfl, b3⟩
  have gs5 := carry gs4 b3
  have ss5 := carry ss4 b3
  have os5 := carry os4 b3
  have zs5 := carry mX2 b3
  have soos5 := soos4.below b3
  have ks5 := ks4.trans (b3.mono ks4.size)
  clear cgX20 cgX21 cgX22 csX20 csX21 csX22 coX20 coX21 coX22 czX20 czX21 czX22
  obtain ⟨cgs50, cgs51, cgs52, _⟩ := cells3 gs5
  obtain ⟨css50, css51, css52, _⟩ := cells3 ss5
  obtain ⟨cos50, cos51, cos52, _⟩ := cells3 os5
  obtain ⟨czs50, czs51, czs52, _⟩ := cells3 zs5
  go_wp2_with fail
  refine (gridded_any _ (HT.out _ ks5)).mono ?_
  rintro e W6 ⟨rfl, b6⟩
  have gs6 := carry gs5 b6
  have os6 := carry os5 b6
  have zs6 := carry zs5 b6
  have soos6 := soos5.below b6
  have ks6 := ks5.trans (b6.mono ks5.size)
  clear cgs50 cgs51 cgs52 css50 css51 css52 cos50 cos51 cos52 czs50 czs51 czs52
  obtain ⟨cgs60, cgs61, cgs62, _⟩ := cells3 gs6
  obtain ⟨cos60, cos61, cos62, _⟩ := cells3 os6
  obtain ⟨czs60, czs61, czs62, _⟩ := cells3 zs6
  go_wp2_with fail
  refine (same_any_big n hh _ _ cs _ soos6 (HS.out _ ks6) HBIG.out).mono ?_
  rintro e W7 ⟨rfl, b7⟩
  have gs7 := carry gs6 b7
  have os7 := carry os6 b7
  have zs7 := carry zs6 b7
  have soos7 := soos6.below b7
  have ks7 := ks6.trans (b7.mono ks6.size)
  clear cgs60 cgs61 cgs62 cos60 cos61 cos62 czs60 czs61 czs62
  obtain ⟨cgs70, cgs71, cgs72, _⟩ := cells3 gs7
  obtain ⟨cos70, cos71, cos72, _⟩ := cells3 os7
  obtain ⟨czs70, czs71, czs72, _⟩ := cells3 zs7
  go_wp2_with fail
  refine (gridded_any _ (HT.out _ ks7)).mono ?_
  rintro e W8 ⟨rfl, b8⟩
  have gs8 := carry gs7 b8
  have os8 := carry os7 b8
  have zs8 := carry zs7 b8
  have soos8 := soos7.below b8
  have ks8 := ks7.trans (b8.mono ks7.size)
  clear cgs70 cgs71 cgs72 cos70 cos71 cos72 czs70 czs71 czs72
  obtain ⟨cgs80, cgs81, cgs82, _⟩ := cells3 gs8
  obtain ⟨cos80, cos81, cos82, _⟩ := cells3 os8
  obtain ⟨czs80, czs81, czs82, _⟩ := cells3 zs8
  go_wp2_with fail
  refine (same_any_big n hh _ _ cs _ soos8 (HS.out _ ks8) HBIG.out).mono ?_
  rintro e W9 ⟨rfl, b9⟩
  have zs9 := carry zs8 b9
  have soos9 := soos8.below b9
  have ks9 := ks8.trans (b9.mono ks8.size)
  clear cgs80 cgs81 cgs82 cos80 cos81 cos82 czs80 czs81 czs82
  obtain ⟨czs90, czs91, czs92, _⟩ := cells3 zs9
  go_wp2_with fail
  refine (noGrid_none _).mono ?_
  rintro e W10 ⟨rfl, b10⟩
  have soos10 := soos9.below b10
  have ks10 := ks9.trans (b10.mono ks9.size)
  clear czs90 czs91 czs92
  go_wp2_with fail
  go_ret
  exact ⟨rfl, ks10⟩
set_option maxHeartbeats 4000000 in
theorem gridWrite_badD (n hh : Nat) (v : Value) (cs : List C) (px py f bk x : Int) (s : ByteArray) (w : World) (hT : Txt.Tab w) (hS : SliceAt w v cs) (hbig : cs.length * 32 ≤ 140737488351232) (hx0 : -9223372036854775808 ≤ px) (hx1 : px ≤ 9223372036854775807) (hy0 : -9223372036854775808 ≤ py) (hy1 : py ≤ 9223372036854775807) (hok : gridErr n hh cs = 0) (h1 : 0 ≤ px) (h2 : px < n) (h3 : 0 ≤ py) (h4 : (hh : Int) ≤ py) :
    Calls Tryd.prog 5 #[.agg #[.int .i64 (n : Int), .int .i64 (hh : Int), v], .int .i64 px, .int .i64 py, .string s, .agg #[.int .i64 f, .int .i64 bk, .int .i64 x]] w fun e w' => e = .returned (.bool true) ∧ Below w.heap.size w w' := by
  have HT : Hid (∀ W, Below w.heap.size w W → Txt.Tab W) := fun W k => Tab.next hT k
  have HS : Hid (∀ W, Below w.heap.size w W → SliceAt W v cs) := fun W k => hS.below k
  obtain ⟨x0, x1, kk, hsz⟩ := alloc2 w (.cells #[.int .i64 (n : Int), .int .i64 (hh : Int), v] 24) (.cells #[.int .i64 f, .int .i64 bk, .int .i64 x] 38)
  have HO := own_any (n : Int) (hh : Int) v cs _ (hS.below kk) (by omega)
  have HER : Hid (gridErr n hh cs = 0) := hok
  have hold : holdsI n hh px py 1 1 = false := by unfold holdsI; rw [decide_eq_false_iff_not]; omega
  have HFL : Hid (∀ W u, Below w.heap.size w W → SliceAt W u cs → Calls Tryd.prog 22 #[.agg #[.int .i64 (n : Int), .int .i64 (hh : Int), u], .int .i64 px, .int .i64 py, .string s, .agg #[.int .i64 f, .int .i64 bk, .int .i64 x]] W fun e w' => e = .returned (.tuple #[.agg #[.int .i64 0, .int .i64 0, .slice none 0 0], .int .i64 4]) ∧ Below W.heap.size W w') := fun W u k su => write_bad2 n hh u cs px py f bk x s W (Tab.next hT k) su hok (by omega) (by omega) (by omega) (by omega) hold
  have d1 : decide (px < 0) = false := by rw [decide_eq_false_iff_not]; omega
  have d2 : decide ((n : Int) ≤ px) = false := by rw [decide_eq_false_iff_not]; omega
  have d3 : decide (py < 0) = false := by rw [decide_eq_false_iff_not]; omega
  have e1 : ¬ px < 0 := by omega
  have e2 : ¬ (n : Int) ≤ px := by omega
  have e3 : ¬ py < 0 := by omega
  clear hok hold
  clear hT hS
  generalize hW0 : ((w.alloc (.cells #[.int .i64 (n : Int), .int .i64 (hh : Int), v] 24)).alloc (.cells #[.int .i64 f, .int .i64 bk, .int .i64 x] 38)) = W0 at x0 x1 kk hsz HO
  have HW0 : Hid (_ = W0) := hW0
  have HO' : Hid (Calls Tryd.prog 17 #[.agg #[.int .i64 (n : Int), .int .i64 (hh : Int), v]] W0 fun e w' => ∃ a' c', e = .returned (.agg #[.int .i64 (n : Int), .int .i64 (hh : Int), .slice a' cs.length c']) ∧ SliceAt w' (.slice a' cs.length c') cs ∧ Below W0.heap.size W0 w') := HO
  have HBIG : Hid (cs.length ≤ 4398046511104) := by unfold Hid; omega
  clear HO hW0
  go_enter Tryd.func5, Tryd.ntmps5
  go_wp2_with fail
  rw [HW0.out]
  refine (HO'.out).mono ?_
  rintro e W1 ⟨oa, oc, rfl, so1, b1⟩
  have gs1 := carry x0 b1
  have ss1 := carry x1 b1
  have ks1 := kk.trans (b1.mono kk.size)
  clear x0 x1 kk HW0 HO'
  go_wp2_with (refine wpList_store_row rfl 24 (.tmp 11) _ rfl W1.heap.size #[.int .i64 (n : Int), .int .i64 (hh : Int), .slice oa cs.length oc] rfl rfl _ _ (heap_alloc_new W1 _) (by kernel_rfl) rfl (one3v _ _ _ _ _) ?_
               obtain ⟨mX1, aX1⟩ := var_new W1 24 #[.int .i64 0, .int .i64 0, .slice none 0 0] #[.int .i64 (n : Int), .int .i64 (hh : Int), .slice oa cs.length oc]
               generalize ((W1.alloc (.cells #[.int .i64 0, .int .i64 0, .slice none 0 0] 24)).setRow W1.heap.size #[.int .i64 (n : Int), .int .i64 (hh : Int), .slice oa cs.length oc]) = X1 at *
               have gs2 := carry gs1 aX1
               have ss2 := carry ss1 aX1
               have soos2 := so1.below aX1
               have ks2 := ks1.trans (aX1.mono ks1.size)
               obtain ⟨cgX10, cgX11, cgX12, _⟩ := cells3 gs2
               obtain ⟨csX10, csX11, csX12, _⟩ := cells3 ss2
               obtain ⟨coX10, coX11, coX12, _⟩ := cells3 mX1)
  refine (HFL.out _ _ ks2 soos2).mono ?_
  rintro e W2 ⟨rfl, b2⟩
  have gs3 := carry gs2 b2
  have ss3 := carry ss2 b2
  have os3 := carry mX1 b2
  have soos3 := soos2.below b2
  have ks3 := ks2.trans (b2.mono ks2.size)
  clear cgX10 cgX11 cgX12 csX10 csX11 csX12 coX10 coX11 coX12
  go_wp2_with (refine wpList_store_row rfl 24 (.tmp 12) _ rfl W2.heap.size #[.int .i64 0, .int .i64 0, .slice none 0 0] rfl rfl _ _ (heap_alloc_new W2 _) (by kernel_rfl) rfl (one3v _ _ _ _ _) ?_
               obtain ⟨mX2, aX2⟩ := var_new W2 24 #[.int .i64 0, .int .i64 0, .slice none 0 0] #[.int .i64 0, .int .i64 0, .slice none 0 0]
               generalize ((W2.alloc (.cells #[.int .i64 0, .int .i64 0, .slice none 0 0] 24)).setRow W2.heap.size #[.int .i64 0, .int .i64 0, .slice none 0 0]) = X2 at *
               have gs4 := carry gs3 aX2
               have ss4 := carry ss3 aX2
               have os4 := carry os3 aX2
               have soos4 := soos3.below aX2
               have ks4 := ks3.trans (aX2.mono ks3.size)
               obtain ⟨cgX20, cgX21, cgX22, _⟩ := cells3 gs4
               obtain ⟨csX20, csX21, csX22, _⟩ := cells3 ss4
               obtain ⟨coX20, coX21, coX22, _⟩ := cells3 os4
               obtain ⟨czX20, czX21, czX22, _⟩ := cells3 mX2)
  refine (ref_to n hh v cs _ HER.out _ (HS.out _ ks4)).mono ?_
  rintro e W3 ⟨rfl, b3⟩
  have gs5 := carry gs4 b3
  have ss5 := carry ss4 b3
  have os5 := carry os4 b3
  have zs5 := carry mX2 b3
  have soos5 := soos4.below b3
  have ks5 := ks4.trans (b3.mono ks4.size)
  clear cgX20 cgX21 cgX22 csX20 csX21 csX22 coX20 coX21 coX22 czX20 czX21 czX22
  obtain ⟨cgs50, cgs51, cgs52, _⟩ := cells3 gs5
  obtain ⟨css50, css51, css52, _⟩ := cells3 ss5
  obtain ⟨cos50, cos51, cos52, _⟩ := cells3 os5
  obtain ⟨czs50, czs51, czs52, _⟩ := cells3 zs5
  go_wp2_with fail
  refine (gridded_any _ (HT.out _ ks5)).mono ?_
  rintro e W6 ⟨rfl, b6⟩
  have gs6 := carry gs5 b6
  have os6 := carry os5 b6
  have zs6 := carry zs5 b6
  have soos6 := soos5.below b6
  have ks6 := ks5.trans (b6.mono ks5.size)
  clear cgs50 cgs51 cgs52 css50 css51 css52 cos50 cos51 cos52 czs50 czs51 czs52
  obtain ⟨cgs60, cgs61, cgs62, _⟩ := cells3 gs6
  obtain ⟨cos60, cos61, cos62, _⟩ := cells3 os6
  obtain ⟨czs60, czs61, czs62, _⟩ := cells3 zs6
  go_wp2_with fail
  refine (same_any_big n hh _ _ cs _ soos6 (HS.out _ ks6) HBIG.out).mono ?_
  rintro e W7 ⟨rfl, b7⟩
  have gs7 := carry gs6 b7
  have os7 := carry os6 b7
  have zs7 := carry zs6 b7
  have soos7 := soos6.below b7
  have ks7 := ks6.trans (b7.mono ks6.size)
  clear cgs60 cgs61 cgs62 cos60 cos61 cos62 czs60 czs61 czs62
  obtain ⟨cgs70, cgs71, cgs72, _⟩ := cells3 gs7
  obtain ⟨cos70, cos71, cos72, _⟩ := cells3 os7
  obtain ⟨czs70, czs71, czs72, _⟩ := cells3 zs7
  go_wp2_with fail
  refine (gridded_any _ (HT.out _ ks7)).mono ?_
  rintro e W8 ⟨rfl, b8⟩
  have gs8 := carry gs7 b8
  have os8 := carry os7 b8
  have zs8 := carry zs7 b8
  have soos8 := soos7.below b8
  have ks8 := ks7.trans (b8.mono ks7.size)
  clear cgs70 cgs71 cgs72 cos70 cos71 cos72 czs70 czs71 czs72
  obtain ⟨cgs80, cgs81, cgs82, _⟩ := cells3 gs8
  obtain ⟨cos80, cos81, cos82, _⟩ := cells3 os8
  obtain ⟨czs80, czs81, czs82, _⟩ := cells3 zs8
  go_wp2_with fail
  refine (same_any_big n hh _ _ cs _ soos8 (HS.out _ ks8) HBIG.out).mono ?_
  rintro e W9 ⟨rfl, b9⟩
  have zs9 := carry zs8 b9
  have soos9 := soos8.below b9
  have ks9 := ks8.trans (b9.mono ks8.size)
  clear cgs80 cgs81 cgs82 cos80 cos81 cos82 czs80 czs81 czs82
  obtain ⟨czs90, czs91, czs92, _⟩ := cells3 zs9
  go_wp2_with fail
  refine (noGrid_none _).mono ?_
  rintro e W10 ⟨rfl, b10⟩
  have soos10 := soos9.below b10
  have ks10 := ks9.trans (b10.mono ks9.size)
  clear czs90 czs91 czs92
  go_wp2_with fail
  go_ret
  exact ⟨rfl, ks10⟩
set_option maxHeartbeats 4000000 in
theorem gridWrite_badE (n hh : Nat) (v : Value) (cs : List C) (px py f bk x : Int) (s : ByteArray) (w : World) (hT : Txt.Tab w) (hS : SliceAt w v cs) (hbig : cs.length * 32 ≤ 140737488351232) (hx0 : -9223372036854775808 ≤ px) (hx1 : px ≤ 9223372036854775807) (hy0 : -9223372036854775808 ≤ py) (hy1 : py ≤ 9223372036854775807) (hok : gridErr n hh cs = 0) (h1 : 0 ≤ px) (h2 : px < n) (h3 : 0 ≤ py) (h4 : py < hh) (hs : isSt (f, bk, x) = false) :
    Calls Tryd.prog 5 #[.agg #[.int .i64 (n : Int), .int .i64 (hh : Int), v], .int .i64 px, .int .i64 py, .string s, .agg #[.int .i64 f, .int .i64 bk, .int .i64 x]] w fun e w' => e = .returned (.bool true) ∧ Below w.heap.size w w' := by
  have HT : Hid (∀ W, Below w.heap.size w W → Txt.Tab W) := fun W k => Tab.next hT k
  have HS : Hid (∀ W, Below w.heap.size w W → SliceAt W v cs) := fun W k => hS.below k
  obtain ⟨x0, x1, kk, hsz⟩ := alloc2 w (.cells #[.int .i64 (n : Int), .int .i64 (hh : Int), v] 24) (.cells #[.int .i64 f, .int .i64 bk, .int .i64 x] 38)
  have HO := own_any (n : Int) (hh : Int) v cs _ (hS.below kk) (by omega)
  have HER : Hid (gridErr n hh cs = 0) := hok
  have hold : holdsI n hh px py 1 1 = true := by unfold holdsI; rw [decide_eq_true_eq]; omega
  have HFL : Hid (∀ W u, Below w.heap.size w W → SliceAt W u cs → Calls Tryd.prog 22 #[.agg #[.int .i64 (n : Int), .int .i64 (hh : Int), u], .int .i64 px, .int .i64 py, .string s, .agg #[.int .i64 f, .int .i64 bk, .int .i64 x]] W fun e w' => e = .returned (.tuple #[.agg #[.int .i64 0, .int .i64 0, .slice none 0 0], .int .i64 4]) ∧ Below W.heap.size W w') := fun W u k su => write_bad3 n hh u cs px py f bk x s W (Tab.next hT k) su hok (by omega) (by omega) (by omega) (by omega) hold hs
  have HST : Hid (isSt (f, bk, x) = false) := hs
  have d1 : decide (px < 0) = false := by rw [decide_eq_false_iff_not]; omega
  have d2 : decide ((n : Int) ≤ px) = false := by rw [decide_eq_false_iff_not]; omega
  have d3 : decide (py < 0) = false := by rw [decide_eq_false_iff_not]; omega
  have d4 : decide ((hh : Int) ≤ py) = false := by rw [decide_eq_false_iff_not]; omega
  have e1 : ¬ px < 0 := by omega
  have e2 : ¬ (n : Int) ≤ px := by omega
  have e3 : ¬ py < 0 := by omega
  have e4 : ¬ (hh : Int) ≤ py := by omega
  clear hok hold hs
  clear hT hS
  generalize hW0 : ((w.alloc (.cells #[.int .i64 (n : Int), .int .i64 (hh : Int), v] 24)).alloc (.cells #[.int .i64 f, .int .i64 bk, .int .i64 x] 38)) = W0 at x0 x1 kk hsz HO
  have HW0 : Hid (_ = W0) := hW0
  have HO' : Hid (Calls Tryd.prog 17 #[.agg #[.int .i64 (n : Int), .int .i64 (hh : Int), v]] W0 fun e w' => ∃ a' c', e = .returned (.agg #[.int .i64 (n : Int), .int .i64 (hh : Int), .slice a' cs.length c']) ∧ SliceAt w' (.slice a' cs.length c') cs ∧ Below W0.heap.size W0 w') := HO
  have HBIG : Hid (cs.length ≤ 4398046511104) := by unfold Hid; omega
  clear HO hW0
  go_enter Tryd.func5, Tryd.ntmps5
  go_wp2_with fail
  rw [HW0.out]
  refine (HO'.out).mono ?_
  rintro e W1 ⟨oa, oc, rfl, so1, b1⟩
  have gs1 := carry x0 b1
  have ss1 := carry x1 b1
  have ks1 := kk.trans (b1.mono kk.size)
  clear x0 x1 kk HW0 HO'
  go_wp2_with (refine wpList_store_row rfl 24 (.tmp 11) _ rfl W1.heap.size #[.int .i64 (n : Int), .int .i64 (hh : Int), .slice oa cs.length oc] rfl rfl _ _ (heap_alloc_new W1 _) (by kernel_rfl) rfl (one3v _ _ _ _ _) ?_
               obtain ⟨mX1, aX1⟩ := var_new W1 24 #[.int .i64 0, .int .i64 0, .slice none 0 0] #[.int .i64 (n : Int), .int .i64 (hh : Int), .slice oa cs.length oc]
               generalize ((W1.alloc (.cells #[.int .i64 0, .int .i64 0, .slice none 0 0] 24)).setRow W1.heap.size #[.int .i64 (n : Int), .int .i64 (hh : Int), .slice oa cs.length oc]) = X1 at *
               have gs2 := carry gs1 aX1
               have ss2 := carry ss1 aX1
               have soos2 := so1.below aX1
               have ks2 := ks1.trans (aX1.mono ks1.size)
               obtain ⟨cgX10, cgX11, cgX12, _⟩ := cells3 gs2
               obtain ⟨csX10, csX11, csX12, _⟩ := cells3 ss2
               obtain ⟨coX10, coX11, coX12, _⟩ := cells3 mX1)
  refine (HFL.out _ _ ks2 soos2).mono ?_
  rintro e W2 ⟨rfl, b2⟩
  have gs3 := carry gs2 b2
  have ss3 := carry ss2 b2
  have os3 := carry mX1 b2
  have soos3 := soos2.below b2
  have ks3 := ks2.trans (b2.mono ks2.size)
  clear cgX10 cgX11 cgX12 csX10 csX11 csX12 coX10 coX11 coX12
  go_wp2_with (refine wpList_store_row rfl 24 (.tmp 12) _ rfl W2.heap.size #[.int .i64 0, .int .i64 0, .slice none 0 0] rfl rfl _ _ (heap_alloc_new W2 _) (by kernel_rfl) rfl (one3v _ _ _ _ _) ?_
               obtain ⟨mX2, aX2⟩ := var_new W2 24 #[.int .i64 0, .int .i64 0, .slice none 0 0] #[.int .i64 0, .int .i64 0, .slice none 0 0]
               generalize ((W2.alloc (.cells #[.int .i64 0, .int .i64 0, .slice none 0 0] 24)).setRow W2.heap.size #[.int .i64 0, .int .i64 0, .slice none 0 0]) = X2 at *
               have gs4 := carry gs3 aX2
               have ss4 := carry ss3 aX2
               have os4 := carry os3 aX2
               have soos4 := soos3.below aX2
               have ks4 := ks3.trans (aX2.mono ks3.size)
               obtain ⟨cgX20, cgX21, cgX22, _⟩ := cells3 gs4
               obtain ⟨csX20, csX21, csX22, _⟩ := cells3 ss4
               obtain ⟨coX20, coX21, coX22, _⟩ := cells3 os4
               obtain ⟨czX20, czX21, czX22, _⟩ := cells3 mX2)
  refine (ref_to n hh v cs _ HER.out _ (HS.out _ ks4)).mono ?_
  rintro e W3 ⟨rfl, b3⟩
  have gs5 := carry gs4 b3
  have ss5 := carry ss4 b3
  have os5 := carry os4 b3
  have zs5 := carry mX2 b3
  have soos5 := soos4.below b3
  have ks5 := ks4.trans (b3.mono ks4.size)
  clear cgX20 cgX21 cgX22 csX20 csX21 csX22 coX20 coX21 coX22 czX20 czX21 czX22
  obtain ⟨cgs50, cgs51, cgs52, _⟩ := cells3 gs5
  obtain ⟨css50, css51, css52, _⟩ := cells3 ss5
  obtain ⟨cos50, cos51, cos52, _⟩ := cells3 os5
  obtain ⟨czs50, czs51, czs52, _⟩ := cells3 zs5
  go_wp2_with fail
  refine (isStyle_to f bk x _ HST.out _).mono ?_
  rintro e W5 ⟨rfl, b5⟩
  have gs6 := carry gs5 b5
  have os6 := carry os5 b5
  have zs6 := carry zs5 b5
  have soos6 := soos5.below b5
  have ks6 := ks5.trans (b5.mono ks5.size)
  clear cgs50 cgs51 cgs52 css50 css51 css52 cos50 cos51 cos52 czs50 czs51 czs52
  obtain ⟨cgs60, cgs61, cgs62, _⟩ := cells3 gs6
  obtain ⟨cos60, cos61, cos62, _⟩ := cells3 os6
  obtain ⟨czs60, czs61, czs62, _⟩ := cells3 zs6
  go_wp2_with fail
  refine (gridded_any _ (HT.out _ ks6)).mono ?_
  rintro e W6 ⟨rfl, b6⟩
  have gs7 := carry gs6 b6
  have os7 := carry os6 b6
  have zs7 := carry zs6 b6
  have soos7 := soos6.below b6
  have ks7 := ks6.trans (b6.mono ks6.size)
  clear cgs60 cgs61 cgs62 cos60 cos61 cos62 czs60 czs61 czs62
  obtain ⟨cgs70, cgs71, cgs72, _⟩ := cells3 gs7
  obtain ⟨cos70, cos71, cos72, _⟩ := cells3 os7
  obtain ⟨czs70, czs71, czs72, _⟩ := cells3 zs7
  go_wp2_with fail
  refine (same_any_big n hh _ _ cs _ soos7 (HS.out _ ks7) HBIG.out).mono ?_
  rintro e W7 ⟨rfl, b7⟩
  have gs8 := carry gs7 b7
  have os8 := carry os7 b7
  have zs8 := carry zs7 b7
  have soos8 := soos7.below b7
  have ks8 := ks7.trans (b7.mono ks7.size)
  clear cgs70 cgs71 cgs72 cos70 cos71 cos72 czs70 czs71 czs72
  obtain ⟨cgs80, cgs81, cgs82, _⟩ := cells3 gs8
  obtain ⟨cos80, cos81, cos82, _⟩ := cells3 os8
  obtain ⟨czs80, czs81, czs82, _⟩ := cells3 zs8
  go_wp2_with fail
  refine (gridded_any _ (HT.out _ ks8)).mono ?_
  rintro e W8 ⟨rfl, b8⟩
  have gs9 := carry gs8 b8
  have os9 := carry os8 b8
  have zs9 := carry zs8 b8
  have soos9 := soos8.below b8
  have ks9 := ks8.trans (b8.mono ks8.size)
  clear cgs80 cgs81 cgs82 cos80 cos81 cos82 czs80 czs81 czs82
  obtain ⟨cgs90, cgs91, cgs92, _⟩ := cells3 gs9
  obtain ⟨cos90, cos91, cos92, _⟩ := cells3 os9
  obtain ⟨czs90, czs91, czs92, _⟩ := cells3 zs9
  go_wp2_with fail
  refine (same_any_big n hh _ _ cs _ soos9 (HS.out _ ks9) HBIG.out).mono ?_
  rintro e W9 ⟨rfl, b9⟩
  have zs10 := carry zs9 b9
  have soos10 := soos9.below b9
  have ks10 := ks9.trans (b9.mono ks9.size)
  clear cgs90 cgs91 cgs92 cos90 cos91 cos92 czs90 czs91 czs92
  obtain ⟨czs100, czs101, czs102, _⟩ := cells3 zs10
  go_wp2_with fail
  refine (noGrid_none _).mono ?_
  rintro e W10 ⟨rfl, b10⟩
  have soos11 := soos10.below b10
  have ks11 := ks10.trans (b10.mono ks10.size)
  clear czs100 czs101 czs102
  go_wp2_with fail
  go_ret
  exact ⟨rfl, ks11⟩
end Grd
end Go.Proofs.YtinhmklpnkikgaaDoor

/- The walk of the law GridWrite: a right place and a right style; and all of it. -/
namespace Go.Proofs.YtinhmklpnkikgaaDoor
open Go.ChangeShapes Go.WideShapes Go.ChangeAt Go.RowKit Go.Maps
namespace Grd
open Txt (wd)
open Sty (isSt)
theorem writeG_len (n hh : Nat) (cs : List C) (X Y : Nat) (l : List (Int × Nat)) (look : Int × Int × Int) (hL : cs.length = n * hh) : (writeG n hh cs X Y l look).length = cs.length := by
  unfold writeG
  rw [preF_len n hh cs _ hL (writeF_len n X Y l look) hh (Nat.le_refl _), hL, Nat.mul_comm]
set_option maxHeartbeats 8000000 in
theorem gridWrite_good (n hh b o cx X Y : Nat) (cs : List C) (f bk x : Int) (s : ByteArray) (w : World) (hT : Txt.Tab w) (hC : CellsAt w b o cs) (hc : cs.length ≤ cx) (hm : cx ≤ 9223372036854775807) (hok : gridErr n hh cs = 0) (hX : X < n) (hY : Y < hh) (hs : isSt (f, bk, x) = true) :
    Calls Tryd.prog 5 #[.agg #[.int .i64 (n : Int), .int .i64 (hh : Int), .slice (some ⟨b, o, none⟩) cs.length cx], .int .i64 (X : Int), .int .i64 (Y : Int), .string s, .agg #[.int .i64 f, .int .i64 bk, .int .i64 x]] w fun e w' => e = .returned (.bool true) ∧ Below w.heap.size w w' := by
  obtain ⟨hne, hl2⟩ := pos_of_ok n hh cs hok
  obtain ⟨hsize, hL, _⟩ := (gridErr_zero n hh cs).1 hok
  have hS : SliceAt w (.slice (some ⟨b, o, none⟩) cs.length cx) cs := .inr ⟨hne, b, o, cx, rfl, hc, hm, hC⟩
  have HT : Hid (∀ W, Below w.heap.size w W → Txt.Tab W) := fun W k => Tab.next hT k
  have HS : Hid (∀ W, Below w.heap.size w W → SliceAt W (.slice (some ⟨b, o, none⟩) cs.length cx) cs) := fun W k => hS.below k
  obtain ⟨x0, x1, kk, hsz⟩ := alloc2 w (.cells #[.int .i64 (n : Int), .int .i64 (hh : Int), .slice (some ⟨b, o, none⟩) cs.length cx] 24) (.cells #[.int .i64 f, .int .i64 bk, .int .i64 x] 38)
  have HO := own_any n hh _ cs _ (hS.below kk) (by omega)
  have HER : Hid (gridErr n hh cs = 0) := hok
  have HFL : Hid (∀ W u, Below w.heap.size w W → SliceAt W u cs → Calls Tryd.prog 22 #[.agg #[.int .i64 (n : Int), .int .i64 (hh : Int), u], .int .i64 (X : Int), .int .i64 (Y : Int), .string s, .agg #[.int .i64 f, .int .i64 bk, .int .i64 x]] W fun e w' => ∃ v, e = .returned (.tuple #[.agg #[.int .i64 (n : Int), .int .i64 (hh : Int), v], .int .i64 0]) ∧ OwnG w' W.heap.size v (writeG n hh cs X Y (Txt.runes s) (f, bk, x)) ∧ Below W.heap.size W w') := fun W u k su => by
    obtain ⟨b', o', c', rfl, h1, h2, h3⟩ := su.open hne
    exact write_good n hh b' o' c' X Y cs f bk x s W (Tab.next hT k) h3 hok h1 h2 hX hY hs
  have HFG : Hid (∀ W, Below w.heap.size w W → Calls Tryd.prog 23 #[.agg #[.int .i64 (n : Int), .int .i64 (hh : Int), .slice (some ⟨b, o, none⟩) cs.length cx], .int .i64 (X : Int), .int .i64 (Y : Int), .string s, .agg #[.int .i64 f, .int .i64 bk, .int .i64 x]] W fun e w' => ∃ v, e = .returned (.agg #[.int .i64 (n : Int), .int .i64 (hh : Int), v]) ∧ OwnG w' W.heap.size v (writeG n hh cs X Y (Txt.runes s) (f, bk, x)) ∧ Below W.heap.size W w') := fun W k => writeGrid_any n hh b o cx X Y cs f bk x s W (hC.below k) hsize hL hc hX hY
  have HST : Hid (isSt (f, bk, x) = true) := hs
  have hfl : (writeG n hh cs X Y (Txt.runes s) (f, bk, x)).length ≤ 1000000 := by rw [writeG_len n hh cs X Y _ _ hL]; omega
  have HFLN : Hid ((writeG n hh cs X Y (Txt.runes s) (f, bk, x)).length ≤ 1000000) := hfl
  have d1 : decide ((X : Int) < 0) = false := by rw [decide_eq_false_iff_not]; omega
  have d2 : decide ((n : Int) ≤ (X : Int)) = false := by rw [decide_eq_false_iff_not]; omega
  have d3 : decide ((Y : Int) < 0) = false := by rw [decide_eq_false_iff_not]; omega
  have d4 : decide ((hh : Int) ≤ (Y : Int)) = false := by rw [decide_eq_false_iff_not]; omega
  have e1 : ¬ (X : Int) < 0 := by omega
  have e2 : ¬ (n : Int) ≤ (X : Int) := by omega
  have e3 : ¬ (Y : Int) < 0 := by omega
  have e4 : ¬ (hh : Int) ≤ (Y : Int) := by omega
  clear hok hs hT hS hC hL hsize hfl hc hm hne
  generalize (writeG n hh cs X Y (Txt.runes s) (f, bk, x)) = fg at HFL HFG HFLN
  generalize hW0 : ((w.alloc (.cells #[.int .i64 (n : Int), .int .i64 (hh : Int), .slice (some ⟨b, o, none⟩) cs.length cx] 24)).alloc (.cells #[.int .i64 f, .int .i64 bk, .int .i64 x] 38)) = W0 at x0 x1 kk hsz HO
  have HW0 : Hid (_ = W0) := hW0
  have HO' : Hid (Calls Tryd.prog 17 #[.agg #[.int .i64 (n : Int), .int .i64 (hh : Int), .slice (some ⟨b, o, none⟩) cs.length cx]] W0 fun e w' => ∃ a' c', e = .returned (.agg #[.int .i64 (n : Int), .int .i64 (hh : Int), .slice a' cs.length c']) ∧ SliceAt w' (.slice a' cs.length c') cs ∧ Below W0.heap.size W0 w') := HO
  have HBIG : Hid (cs.length ≤ 4398046511104) := by unfold Hid; omega
  clear HO hW0
  go_enter Tryd.func5, Tryd.ntmps5
  go_wp2_with fail
  rw [HW0.out]
  refine (HO'.out).mono ?_
  rintro e W1 ⟨oa, oc, rfl, so1, b1⟩
  have gs1 := carry x0 b1
  have ss1 := carry x1 b1
  have ks1 := kk.trans (b1.mono kk.size)
  clear x0 x1 kk HW0 HO'
  go_wp2_with (refine wpList_store_row rfl 24 (.tmp 11) _ rfl W1.heap.size #[.int .i64 (n : Int), .int .i64 (hh : Int), .slice oa cs.length oc] rfl rfl _ _ (heap_alloc_new W1 _) (by kernel_rfl) rfl (one3v _ _ _ _ _) ?_
               obtain ⟨mX1, aX1⟩ := var_new W1 24 #[.int .i64 0, .int .i64 0, .slice none 0 0] #[.int .i64 (n : Int), .int .i64 (hh : Int), .slice oa cs.length oc]
               generalize ((W1.alloc (.cells #[.int .i64 0, .int .i64 0, .slice none 0 0] 24)).setRow W1.heap.size #[.int .i64 (n : Int), .int .i64 (hh : Int), .slice oa cs.length oc]) = X1 at *
               have gs2 := carry gs1 aX1
               have ss2 := carry ss1 aX1
               have soos2 := so1.below aX1
               have ks2 := ks1.trans (aX1.mono ks1.size)
               obtain ⟨cgX10, cgX11, cgX12, _⟩ := cells3 gs2
               obtain ⟨csX10, csX11, csX12, _⟩ := cells3 ss2
               obtain ⟨coX10, coX11, coX12, _⟩ := cells3 mX1)
  refine (HFL.out _ _ ks2 soos2).mono ?_
  rintro e W2 ⟨_, rfl, ⟨gf, cf, rf, tf, rfl, hgf, hcf, hmf, hhf⟩, b2⟩
  have gs3 := carry gs2 b2
  have ss3 := carry ss2 b2
  have os3 := carry mX1 b2
  have soos3 := soos2.below b2
  have ks3 := ks2.trans (b2.mono ks2.size)
  clear cgX10 cgX11 cgX12 csX10 csX11 csX12 coX10 coX11 coX12
  have soz : SliceAt W2 (.slice (some ⟨gf, 0, none⟩) fg.length cf) fg := OwnG.slice (base := 0) ⟨gf, cf, rf, tf, rfl, by omega, hcf, hmf, hhf⟩
  clear hhf
  go_wp2_with (refine wpList_store_row rfl 24 (.tmp 12) _ rfl W2.heap.size #[.int .i64 (n : Int), .int .i64 (hh : Int), .slice (some ⟨gf, 0, none⟩) fg.length cf] rfl rfl _ _ (heap_alloc_new W2 _) (by kernel_rfl) rfl (one3v _ _ _ _ _) ?_
               obtain ⟨mX2, aX2⟩ := var_new W2 24 #[.int .i64 0, .int .i64 0, .slice none 0 0] #[.int .i64 (n : Int), .int .i64 (hh : Int), .slice (some ⟨gf, 0, none⟩) fg.length cf]
               generalize ((W2.alloc (.cells #[.int .i64 0, .int .i64 0, .slice none 0 0] 24)).setRow W2.heap.size #[.int .i64 (n : Int), .int .i64 (hh : Int), .slice (some ⟨gf, 0, none⟩) fg.length cf]) = X2 at *
               have gs4 := carry gs3 aX2
               have ss4 := carry ss3 aX2
               have os4 := carry os3 aX2
               have soos4 := soos3.below aX2
               have sozs4 := soz.below aX2
               have ks4 := ks3.trans (aX2.mono ks3.size)
               obtain ⟨cgX20, cgX21, cgX22, _⟩ := cells3 gs4
               obtain ⟨csX20, csX21, csX22, _⟩ := cells3 ss4
               obtain ⟨coX20, coX21, coX22, _⟩ := cells3 os4
               obtain ⟨czX20, czX21, czX22, _⟩ := cells3 mX2)
  refine (ref_to n hh _ cs _ HER.out _ (HS.out _ ks4)).mono ?_
  rintro e W3 ⟨rfl, b3⟩
  have gs5 := carry gs4 b3
  have ss5 := carry ss4 b3
  have os5 := carry os4 b3
  have zs5 := carry mX2 b3
  have soos5 := soos4.below b3
  have sozs5 := sozs4.below b3
  have ks5 := ks4.trans (b3.mono ks4.size)
  clear cgX20 cgX21 cgX22 csX20 csX21 csX22 coX20 coX21 coX22 czX20 czX21 czX22
  obtain ⟨cgs50, cgs51, cgs52, _⟩ := cells3 gs5
  obtain ⟨css50, css51, css52, _⟩ := cells3 ss5
  obtain ⟨cos50, cos51, cos52, _⟩ := cells3 os5
  obtain ⟨czs50, czs51, czs52, _⟩ := cells3 zs5
  go_wp2_with fail
  refine (isStyle_to f bk x _ HST.out _).mono ?_
  rintro e W5 ⟨rfl, b5⟩
  have gs6 := carry gs5 b5
  have ss6 := carry ss5 b5
  have os6 := carry os5 b5
  have zs6 := carry zs5 b5
  have soos6 := soos5.below b5
  have sozs6 := sozs5.below b5
  have ks6 := ks5.trans (b5.mono ks5.size)
  clear cgs50 cgs51 cgs52 css50 css51 css52 cos50 cos51 cos52 czs50 czs51 czs52
  obtain ⟨cgs60, cgs61, cgs62, _⟩ := cells3 gs6
  obtain ⟨cos60, cos61, cos62, _⟩ := cells3 os6
  obtain ⟨czs60, czs61, czs62, _⟩ := cells3 zs6
  go_wp2_with fail
  refine (gridded_any _ (HT.out _ ks6)).mono ?_
  rintro e W6 ⟨rfl, b6⟩
  have gs7 := carry gs6 b6
  have ss7 := carry ss6 b6
  have os7 := carry os6 b6
  have zs7 := carry zs6 b6
  have soos7 := soos6.below b6
  have sozs7 := sozs6.below b6
  have ks7 := ks6.trans (b6.mono ks6.size)
  clear cgs60 cgs61 cgs62 cos60 cos61 cos62 czs60 czs61 czs62
  obtain ⟨cgs70, cgs71, cgs72, _⟩ := cells3 gs7
  obtain ⟨cos70, cos71, cos72, _⟩ := cells3 os7
  obtain ⟨czs70, czs71, czs72, _⟩ := cells3 zs7
  go_wp2_with fail
  refine (same_any_big n hh _ _ cs _ soos7 (HS.out _ ks7) HBIG.out).mono ?_
  rintro e W7 ⟨rfl, b7⟩
  have gs8 := carry gs7 b7
  have ss8 := carry ss7 b7
  have zs8 := carry zs7 b7
  have soos8 := soos7.below b7
  have sozs8 := sozs7.below b7
  have ks8 := ks7.trans (b7.mono ks7.size)
  clear cgs70 cgs71 cgs72 cos70 cos71 cos72 czs70 czs71 czs72
  obtain ⟨cgs80, cgs81, cgs82, _⟩ := cells3 gs8
  obtain ⟨css80, css81, css82, _⟩ := cells3 ss8
  obtain ⟨czs80, czs81, czs82, _⟩ := cells3 zs8
  go_wp2_with fail
  have kd : Below W7.heap.size W7 W7.drew := (Below.refl _ _).drew
  have HSZ : Hid (SliceAt W7 (.slice (some ⟨gf, 0, none⟩) fg.length cf) fg) := sozs8
  have HKN : Hid (Below w.heap.size w W7) := ks8
  have HNX : Hid (∀ W W', Below W.heap.size W W' → (fun W => Below W7.heap.size W7 W ∧ (W.cell? ⟨w.heap.size, 0, none⟩ = some (.int .i64 (n : Int)) ∧ W.cell? ⟨w.heap.size, 1, none⟩ = some (.int .i64 (hh : Int)) ∧ W.cell? ⟨w.heap.size, 2, none⟩ = some (.slice (some ⟨b, o, none⟩) cs.length cx)) ∧ (W.cell? ⟨w.heap.size + 1, 0, none⟩ = some (.int .i64 f) ∧ W.cell? ⟨w.heap.size + 1, 1, none⟩ = some (.int .i64 bk) ∧ W.cell? ⟨w.heap.size + 1, 2, none⟩ = some (.int .i64 x)) ∧ (W.cell? ⟨W2.heap.size, 0, none⟩ = some (.int .i64 (n : Int)) ∧ W.cell? ⟨W2.heap.size, 1, none⟩ = some (.int .i64 (hh : Int)) ∧ W.cell? ⟨W2.heap.size, 2, none⟩ = some (.slice (some ⟨gf, 0, none⟩) fg.length cf))) W → (fun W => Below W7.heap.size W7 W ∧ (W.cell? ⟨w.heap.size, 0, none⟩ = some (.int .i64 (n : Int)) ∧ W.cell? ⟨w.heap.size, 1, none⟩ = some (.int .i64 (hh : Int)) ∧ W.cell? ⟨w.heap.size, 2, none⟩ = some (.slice (some ⟨b, o, none⟩) cs.length cx)) ∧ (W.cell? ⟨w.heap.size + 1, 0, none⟩ = some (.int .i64 f) ∧ W.cell? ⟨w.heap.size + 1, 1, none⟩ = some (.int .i64 bk) ∧ W.cell? ⟨w.heap.size + 1, 2, none⟩ = some (.int .i64 x)) ∧ (W.cell? ⟨W2.heap.size, 0, none⟩ = some (.int .i64 (n : Int)) ∧ W.cell? ⟨W2.heap.size, 1, none⟩ = some (.int .i64 (hh : Int)) ∧ W.cell? ⟨W2.heap.size, 2, none⟩ = some (.slice (some ⟨gf, 0, none⟩) fg.length cf))) W') := by
    rintro W W' hb ⟨k0, ⟨g0, g1, g2⟩, ⟨r0, r1, r2⟩, z0, z1, z2⟩
    exact ⟨k0.trans (hb.mono k0.size), ⟨cell_keep hb g0, cell_keep hb g1, cell_keep hb g2⟩, ⟨cell_keep hb r0, cell_keep hb r1, cell_keep hb r2⟩, cell_keep hb z0, cell_keep hb z1, cell_keep hb z2⟩
  have HST0 : Hid ((fun W => Below W7.heap.size W7 W ∧ (W.cell? ⟨w.heap.size, 0, none⟩ = some (.int .i64 (n : Int)) ∧ W.cell? ⟨w.heap.size, 1, none⟩ = some (.int .i64 (hh : Int)) ∧ W.cell? ⟨w.heap.size, 2, none⟩ = some (.slice (some ⟨b, o, none⟩) cs.length cx)) ∧ (W.cell? ⟨w.heap.size + 1, 0, none⟩ = some (.int .i64 f) ∧ W.cell? ⟨w.heap.size + 1, 1, none⟩ = some (.int .i64 bk) ∧ W.cell? ⟨w.heap.size + 1, 2, none⟩ = some (.int .i64 x)) ∧ (W.cell? ⟨W2.heap.size, 0, none⟩ = some (.int .i64 (n : Int)) ∧ W.cell? ⟨W2.heap.size, 1, none⟩ = some (.int .i64 (hh : Int)) ∧ W.cell? ⟨W2.heap.size, 2, none⟩ = some (.slice (some ⟨gf, 0, none⟩) fg.length cf))) W7.drew) := ⟨kd, ⟨cgs80, cgs81, cgs82⟩, ⟨css80, css81, css82⟩, ⟨czs80, czs81, czs82⟩⟩
  go_region_held3 (fun W => Below W7.heap.size W7 W ∧ (W.cell? ⟨w.heap.size, 0, none⟩ = some (.int .i64 (n : Int)) ∧ W.cell? ⟨w.heap.size, 1, none⟩ = some (.int .i64 (hh : Int)) ∧ W.cell? ⟨w.heap.size, 2, none⟩ = some (.slice (some ⟨b, o, none⟩) cs.length cx)) ∧ (W.cell? ⟨w.heap.size + 1, 0, none⟩ = some (.int .i64 f) ∧ W.cell? ⟨w.heap.size + 1, 1, none⟩ = some (.int .i64 bk) ∧ W.cell? ⟨w.heap.size + 1, 2, none⟩ = some (.int .i64 x)) ∧ (W.cell? ⟨W2.heap.size, 0, none⟩ = some (.int .i64 (n : Int)) ∧ W.cell? ⟨W2.heap.size, 1, none⟩ = some (.int .i64 (hh : Int)) ∧ W.cell? ⟨W2.heap.size, 2, none⟩ = some (.slice (some ⟨gf, 0, none⟩) fg.length cf)))
    (first
      | (exact HNX.out _ _ b10 (by assumption))
      | (exact HNX.out _ _ b9 (by assumption))
      | (exact HST0.out))
    (first
      | (go_at_call 23; refine (HFG.out _ (HKN.out.trans (kd.mono HKN.out.size))).mono ?_; rintro e W9 ⟨v9, rfl, o9, b9⟩; have k9 := kd.trans (b9.mono kd.size))
      | (go_at_call 15; refine (same_any n hh _ v9 fg _ (HSZ.out.below k9) o9.slice HFLN.out).mono ?_; rintro e W10 ⟨rfl, b10⟩; have k10 := k9.trans (b10.mono k9.size)))
  go_wp2_with fail
  go_ret
  exact ⟨rfl, HKN.out.trans (k10.mono HKN.out.size)⟩
theorem gridWrite_walk (a h : Int) (v : Value) (cs : List C) (px py f bk x : Int) (s : ByteArray) (w : World) (hT : Txt.Tab w) (hS : SliceAt w v cs) (hbig : cs.length * 32 ≤ 140737488351232) (hx0 : -9223372036854775808 ≤ px) (hx1 : px ≤ 9223372036854775807) (hy0 : -9223372036854775808 ≤ py) (hy1 : py ≤ 9223372036854775807) :
    Calls Tryd.prog 5 #[.agg #[.int .i64 a, .int .i64 h, v], .int .i64 px, .int .i64 py, .string s, .agg #[.int .i64 f, .int .i64 bk, .int .i64 x]] w fun e w' => e = .returned (.bool true) ∧ Below w.heap.size w w' := by
  by_cases hok : gridErr a h cs = 0
  · obtain ⟨n, hh, rfl, rfl⟩ := size_of_ok a h cs hok
    by_cases h1 : 0 ≤ px
    · by_cases h2 : px < n
      · by_cases h3 : 0 ≤ py
        · by_cases h4 : py < hh
          · cases hs : isSt (f, bk, x) with
            | false => exact gridWrite_badE n hh v cs px py f bk x s w hT hS hbig hx0 hx1 hy0 hy1 hok h1 h2 h3 h4 hs
            | true =>
              obtain ⟨X, rfl⟩ := Int.eq_ofNat_of_zero_le h1
              obtain ⟨Y, rfl⟩ := Int.eq_ofNat_of_zero_le h3
              obtain ⟨b, o, c, rfl, g1, g2, g3⟩ := hS.open (pos_of_ok n hh cs hok).1
              exact gridWrite_good n hh b o c X Y cs f bk x s w hT g3 g1 g2 hok (by omega) (by omega) hs
          · exact gridWrite_badD n hh v cs px py f bk x s w hT hS hbig hx0 hx1 hy0 hy1 hok h1 h2 h3 (by omega)
        · exact gridWrite_badC n hh v cs px py f bk x s w hT hS hbig hx0 hx1 hy0 hy1 hok h1 h2 (by omega)
      · exact gridWrite_badB n hh v cs px py f bk x s w hT hS hbig hx0 hx1 hy0 hy1 hok h1 (by omega)
    · exact gridWrite_badA n hh v cs px py f bk x s w hT hS hbig hx0 hx1 hy0 hy1 hok (by omega)
  · exact gridWrite_bad1 a h v cs px py f bk x s w hT hS hbig hok
end Grd
end Go.Proofs.YtinhmklpnkikgaaDoor

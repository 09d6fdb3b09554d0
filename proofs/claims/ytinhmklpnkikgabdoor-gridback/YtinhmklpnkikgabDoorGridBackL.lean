/- The law GridBack: a part of what was laid there is what was laid. -/
import Derived.Test.YtinhmklpnkikgabDoorGridLayMath
import Derived.Test.YtinhmklpnkikgabDoorGridded2
namespace Go.Proofs.YtinhmklpnkikgabDoor
open Go.ChangeShapes Go.WideShapes Go.ChangeAt Go.RowKit
namespace Grd
theorem alloc2b (w : World) (o0 o1 : Obj) : ((w.alloc o0).alloc o1).heap[w.heap.size]? = some o0 ∧ ((w.alloc o0).alloc o1).heap[w.heap.size + 1]? = some o1 ∧ Below w.heap.size w ((w.alloc o0).alloc o1) ∧ ((w.alloc o0).alloc o1).heap.size = w.heap.size + 2 := alloc2' w o0 o1
theorem openOKb (a h : Int) (v : Value) (cs : List C) (w : World) (hS : SliceAt w v cs) (hok : gridErr a h cs = 0) : ∃ n hh b o c : Nat, a = (n : Int) ∧ h = (hh : Int) ∧ v = .slice (some ⟨b, o, none⟩) cs.length c ∧ cs.length ≤ c ∧ c ≤ 9223372036854775807 ∧ CellsAt w b o cs := by
  have hs : isSize a h = true := by
    unfold gridErr at hok
    by_cases hc : isSize a h = false ∨ (cs.length : Int) ≠ a * h
    · rw [if_pos hc] at hok; exact absurd hok (by decide)
    · simpa using (not_or.1 hc).1
  have ⟨_, _, p2, _, p4, _⟩ := prod_in a h hs
  obtain ⟨n, rfl⟩ := Int.eq_ofNat_of_zero_le (show 0 ≤ a by omega)
  obtain ⟨hh, rfl⟩ := Int.eq_ofNat_of_zero_le (show 0 ≤ h by omega)
  have hne := (okRange n hh cs hok).2.2.2.2.2.2
  rcases hS with ⟨h, _⟩ | ⟨_, b, o, c, rfl, h1, h2, h3⟩
  · exact absurd h hne
  · exact ⟨n, hh, b, o, c, rfl, rfl, rfl, h1, h2, h3⟩
set_option maxHeartbeats 4000000 in
theorem gridBack_err (a1 h1 a2 h2 px py : Int) (v1 v2 : Value) (er : Int) (w : World) (hT : Txt.Tab w) (hne : er ≠ 0) (hLY : ∀ W, Below w.heap.size w W → Calls Tryd.prog 10 #[.agg #[.int .i64 a1, .int .i64 h1, v1], .agg #[.int .i64 a2, .int .i64 h2, v2], .int .i64 px, .int .i64 py] W fun e w' => e = .returned (.tuple #[.agg #[.int .i64 0, .int .i64 0, .slice none 0 0], .int .i64 er]) ∧ Below W.heap.size W w') :
    Calls Tryd.prog 4 #[.agg #[.int .i64 a1, .int .i64 h1, v1], .agg #[.int .i64 a2, .int .i64 h2, v2], .int .i64 px, .int .i64 py] w fun e w' => e = .returned (.bool true) ∧ Below w.heap.size w w' := by
  have HT : Hid (∀ W, Below w.heap.size w W → Txt.Tab W) := fun W k => Tab.next hT k
  obtain ⟨x0, x1, kk, hsz⟩ := alloc2b w (.cells #[.int .i64 a1, .int .i64 h1, v1] 24) (.cells #[.int .i64 a2, .int .i64 h2, v2] 24)
  have HLY := hLY _ kk
  clear hT hLY
  have ne : (er != 0) = true := by simpa using hne
  clear hne
  generalize hW0 : ((w.alloc (.cells #[.int .i64 a1, .int .i64 h1, v1] 24)).alloc (.cells #[.int .i64 a2, .int .i64 h2, v2] 24)) = W0 at x0 x1 kk hsz HLY
  have HW0 : Hid (_ = W0) := hW0
  clear hW0
  go_enter Tryd.func4, Tryd.ntmps4
  go_wp2_with fail
  rw [HW0.out]
  refine (HLY).mono ?_
  rintro e W1 ⟨rfl, b1⟩
  have gs1 := carry x0 b1
  have ps1 := carry x1 b1
  have ks1 := kk.trans (b1.mono kk.size)
  go_wp2_with (refine wpList_store_row rfl 24 (.tmp 9) _ rfl W1.heap.size #[.int .i64 0, .int .i64 0, .slice none 0 0] rfl rfl _ _ (heap_alloc_new W1 _) (by kernel_rfl) rfl (one3v _ _ _ _ _) ?_
               obtain ⟨mX1, aX1⟩ := var_new W1 24 #[.int .i64 0, .int .i64 0, .slice none 0 0] #[.int .i64 0, .int .i64 0, .slice none 0 0]
               generalize ((W1.alloc (.cells #[.int .i64 0, .int .i64 0, .slice none 0 0] 24)).setRow W1.heap.size #[.int .i64 0, .int .i64 0, .slice none 0 0]) = X1 at *
               have gs2 := carry gs1 aX1
               have ps2 := carry ps1 aX1
               have ks2 := ks1.trans (aX1.mono ks1.size)
               obtain ⟨cgX10, cgX11, cgX12, _⟩ := cells3 gs2
               obtain ⟨cpX10, cpX11, cpX12, _⟩ := cells3 ps2)
  refine (gridded_any _ (HT.out _ ks2)).mono ?_
  rintro e W2 ⟨rfl, b2⟩
  have ks3 := ks2.trans (b2.mono ks2.size)
  clear cgX10 cgX11 cgX12 cpX10 cpX11 cpX12
  go_wp2_with fail
  refine (gridded_any _ (HT.out _ ks3)).mono ?_
  rintro e W3 ⟨rfl, b3⟩
  have ks4 := ks3.trans (b3.mono ks3.size)
  go_wp2_with fail
  go_ret
  exact ⟨rfl, ks4⟩
set_option maxHeartbeats 4000000 in
theorem gridBack_outA (m p b1 o1 c1 n hh b2 o2 c2 : Nat) (px py : Int) (fs cs : List C) (w : World) (hT : Txt.Tab w) (hC1 : CellsAt w b1 o1 fs) (hC2 : CellsAt w b2 o2 cs) (hok : gridErr m p fs = 0) (hok2 : gridErr n hh cs = 0) (hl1 : fs.length ≤ c1) (hm1 : c1 ≤ 9223372036854775807) (hl2 : cs.length ≤ c2) (hm2 : c2 ≤ 9223372036854775807) (e1 : px < 0) :
    Calls Tryd.prog 4 #[.agg #[.int .i64 (m : Int), .int .i64 (p : Int), .slice (some ⟨b1, o1, none⟩) fs.length c1], .agg #[.int .i64 (n : Int), .int .i64 (hh : Int), .slice (some ⟨b2, o2, none⟩) cs.length c2], .int .i64 px, .int .i64 py] w fun e w' => e = .returned (.bool true) ∧ Below w.heap.size w w' := by
  have HT : Hid (∀ W, Below w.heap.size w W → Txt.Tab W) := fun W k => Tab.next hT k
  obtain ⟨x0, x1, kk, hsz⟩ := alloc2b w (.cells #[.int .i64 (m : Int), .int .i64 (p : Int), .slice (some ⟨b1, o1, none⟩) fs.length c1] 24) (.cells #[.int .i64 (n : Int), .int .i64 (hh : Int), .slice (some ⟨b2, o2, none⟩) cs.length c2] 24)
  have HLY := lay_good m p b1 o1 c1 n hh b2 o2 c2 px py fs cs _ (Tab.next hT kk) (hC1.below kk) (hC2.below kk) hok hok2 hl1 hm1 hl2 hm2
  obtain ⟨-, q1, q2, q3, q4, -, -⟩ := okRange m p fs hok
  obtain ⟨-, r1, r2, r3, r4, -, -⟩ := okRange n hh cs hok2
  clear hT hC1 hC2 hok hok2
  generalize hW0 : ((w.alloc (.cells #[.int .i64 (m : Int), .int .i64 (p : Int), .slice (some ⟨b1, o1, none⟩) fs.length c1] 24)).alloc (.cells #[.int .i64 (n : Int), .int .i64 (hh : Int), .slice (some ⟨b2, o2, none⟩) cs.length c2] 24)) = W0 at x0 x1 kk hsz HLY
  have HW0 : Hid (_ = W0) := hW0
  clear hW0
  go_enter Tryd.func4, Tryd.ntmps4
  go_wp2_with fail
  rw [HW0.out]
  refine (HLY).mono ?_
  rintro e W1 ⟨_, rfl, ⟨gf, cf, rf, tf, rfl, hgf, hcf, hmf, hhf⟩, b1⟩
  have gs1 := carry x0 b1
  have ps1 := carry x1 b1
  have ks1 := kk.trans (b1.mono kk.size)
  generalize (layG n hh cs m p fs (nearI px) (nearI py)).length = fgl at *
  go_wp2_with (refine wpList_store_row rfl 24 (.tmp 9) _ rfl W1.heap.size #[.int .i64 (n : Int), .int .i64 (hh : Int), .slice (some ⟨gf, 0, none⟩) fgl cf] rfl rfl _ _ (heap_alloc_new W1 _) (by kernel_rfl) rfl (one3v _ _ _ _ _) ?_
               obtain ⟨mX1, aX1⟩ := var_new W1 24 #[.int .i64 0, .int .i64 0, .slice none 0 0] #[.int .i64 (n : Int), .int .i64 (hh : Int), .slice (some ⟨gf, 0, none⟩) fgl cf]
               generalize ((W1.alloc (.cells #[.int .i64 0, .int .i64 0, .slice none 0 0] 24)).setRow W1.heap.size #[.int .i64 (n : Int), .int .i64 (hh : Int), .slice (some ⟨gf, 0, none⟩) fgl cf]) = X1 at *
               have gs2 := carry gs1 aX1
               have ps2 := carry ps1 aX1
               have ks2 := ks1.trans (aX1.mono ks1.size)
               obtain ⟨cgX10, cgX11, cgX12, _⟩ := cells3 gs2
               obtain ⟨cpX10, cpX11, cpX12, _⟩ := cells3 ps2)
  refine (gridded_any _ (HT.out _ ks2)).mono ?_
  rintro e W2 ⟨rfl, b2⟩
  have gs3 := carry gs2 b2
  have ps3 := carry ps2 b2
  have ks3 := ks2.trans (b2.mono ks2.size)
  clear cgX10 cgX11 cgX12 cpX10 cpX11 cpX12
  obtain ⟨cgs30, cgs31, cgs32, _⟩ := cells3 gs3
  obtain ⟨cps30, cps31, cps32, _⟩ := cells3 ps3
  go_wp2_with fail
  refine (gridded_any _ (HT.out _ ks3)).mono ?_
  rintro e W3 ⟨rfl, b3⟩
  have ks4 := ks3.trans (b3.mono ks3.size)
  clear cgs30 cgs31 cgs32 cps30 cps31 cps32
  go_wp2_with fail
  go_ret
  exact ⟨rfl, ks4⟩
set_option maxHeartbeats 4000000 in
theorem gridBack_outB (m p b1 o1 c1 n hh b2 o2 c2 : Nat) (px py : Int) (fs cs : List C) (w : World) (hT : Txt.Tab w) (hC1 : CellsAt w b1 o1 fs) (hC2 : CellsAt w b2 o2 cs) (hok : gridErr m p fs = 0) (hok2 : gridErr n hh cs = 0) (hl1 : fs.length ≤ c1) (hm1 : c1 ≤ 9223372036854775807) (hl2 : cs.length ≤ c2) (hm2 : c2 ≤ 9223372036854775807) (e1 : 0 ≤ px) (e2 : py < 0) :
    Calls Tryd.prog 4 #[.agg #[.int .i64 (m : Int), .int .i64 (p : Int), .slice (some ⟨b1, o1, none⟩) fs.length c1], .agg #[.int .i64 (n : Int), .int .i64 (hh : Int), .slice (some ⟨b2, o2, none⟩) cs.length c2], .int .i64 px, .int .i64 py] w fun e w' => e = .returned (.bool true) ∧ Below w.heap.size w w' := by
  have HT : Hid (∀ W, Below w.heap.size w W → Txt.Tab W) := fun W k => Tab.next hT k
  obtain ⟨x0, x1, kk, hsz⟩ := alloc2b w (.cells #[.int .i64 (m : Int), .int .i64 (p : Int), .slice (some ⟨b1, o1, none⟩) fs.length c1] 24) (.cells #[.int .i64 (n : Int), .int .i64 (hh : Int), .slice (some ⟨b2, o2, none⟩) cs.length c2] 24)
  have HLY := lay_good m p b1 o1 c1 n hh b2 o2 c2 px py fs cs _ (Tab.next hT kk) (hC1.below kk) (hC2.below kk) hok hok2 hl1 hm1 hl2 hm2
  obtain ⟨-, q1, q2, q3, q4, -, -⟩ := okRange m p fs hok
  obtain ⟨-, r1, r2, r3, r4, -, -⟩ := okRange n hh cs hok2
  have d1 : decide (px < 0) = false := by rw [decide_eq_false_iff_not]; omega
  have f1 : ¬ (px < 0) := by omega
  clear hT hC1 hC2 hok hok2
  generalize hW0 : ((w.alloc (.cells #[.int .i64 (m : Int), .int .i64 (p : Int), .slice (some ⟨b1, o1, none⟩) fs.length c1] 24)).alloc (.cells #[.int .i64 (n : Int), .int .i64 (hh : Int), .slice (some ⟨b2, o2, none⟩) cs.length c2] 24)) = W0 at x0 x1 kk hsz HLY
  have HW0 : Hid (_ = W0) := hW0
  clear hW0
  go_enter Tryd.func4, Tryd.ntmps4
  go_wp2_with fail
  rw [HW0.out]
  refine (HLY).mono ?_
  rintro e W1 ⟨_, rfl, ⟨gf, cf, rf, tf, rfl, hgf, hcf, hmf, hhf⟩, b1⟩
  have gs1 := carry x0 b1
  have ps1 := carry x1 b1
  have ks1 := kk.trans (b1.mono kk.size)
  generalize (layG n hh cs m p fs (nearI px) (nearI py)).length = fgl at *
  go_wp2_with (refine wpList_store_row rfl 24 (.tmp 9) _ rfl W1.heap.size #[.int .i64 (n : Int), .int .i64 (hh : Int), .slice (some ⟨gf, 0, none⟩) fgl cf] rfl rfl _ _ (heap_alloc_new W1 _) (by kernel_rfl) rfl (one3v _ _ _ _ _) ?_
               obtain ⟨mX1, aX1⟩ := var_new W1 24 #[.int .i64 0, .int .i64 0, .slice none 0 0] #[.int .i64 (n : Int), .int .i64 (hh : Int), .slice (some ⟨gf, 0, none⟩) fgl cf]
               generalize ((W1.alloc (.cells #[.int .i64 0, .int .i64 0, .slice none 0 0] 24)).setRow W1.heap.size #[.int .i64 (n : Int), .int .i64 (hh : Int), .slice (some ⟨gf, 0, none⟩) fgl cf]) = X1 at *
               have gs2 := carry gs1 aX1
               have ps2 := carry ps1 aX1
               have ks2 := ks1.trans (aX1.mono ks1.size)
               obtain ⟨cgX10, cgX11, cgX12, _⟩ := cells3 gs2
               obtain ⟨cpX10, cpX11, cpX12, _⟩ := cells3 ps2)
  refine (gridded_any _ (HT.out _ ks2)).mono ?_
  rintro e W2 ⟨rfl, b2⟩
  have gs3 := carry gs2 b2
  have ps3 := carry ps2 b2
  have ks3 := ks2.trans (b2.mono ks2.size)
  clear cgX10 cgX11 cgX12 cpX10 cpX11 cpX12
  obtain ⟨cgs30, cgs31, cgs32, _⟩ := cells3 gs3
  obtain ⟨cps30, cps31, cps32, _⟩ := cells3 ps3
  go_wp2_with fail
  refine (gridded_any _ (HT.out _ ks3)).mono ?_
  rintro e W3 ⟨rfl, b3⟩
  have ks4 := ks3.trans (b3.mono ks3.size)
  clear cgs30 cgs31 cgs32 cps30 cps31 cps32
  go_wp2_with fail
  go_ret
  exact ⟨rfl, ks4⟩
set_option maxHeartbeats 4000000 in
theorem gridBack_outC (m p b1 o1 c1 n hh b2 o2 c2 : Nat) (px py : Int) (fs cs : List C) (w : World) (hT : Txt.Tab w) (hC1 : CellsAt w b1 o1 fs) (hC2 : CellsAt w b2 o2 cs) (hok : gridErr m p fs = 0) (hok2 : gridErr n hh cs = 0) (hl1 : fs.length ≤ c1) (hm1 : c1 ≤ 9223372036854775807) (hl2 : cs.length ≤ c2) (hm2 : c2 ≤ 9223372036854775807) (e1 : 0 ≤ px) (e2 : 0 ≤ py) (e3 : (n : Int) < px + m) (e4 : px + m ≤ 9223372036854775807) :
    Calls Tryd.prog 4 #[.agg #[.int .i64 (m : Int), .int .i64 (p : Int), .slice (some ⟨b1, o1, none⟩) fs.length c1], .agg #[.int .i64 (n : Int), .int .i64 (hh : Int), .slice (some ⟨b2, o2, none⟩) cs.length c2], .int .i64 px, .int .i64 py] w fun e w' => e = .returned (.bool true) ∧ Below w.heap.size w w' := by
  have HT : Hid (∀ W, Below w.heap.size w W → Txt.Tab W) := fun W k => Tab.next hT k
  obtain ⟨x0, x1, kk, hsz⟩ := alloc2b w (.cells #[.int .i64 (m : Int), .int .i64 (p : Int), .slice (some ⟨b1, o1, none⟩) fs.length c1] 24) (.cells #[.int .i64 (n : Int), .int .i64 (hh : Int), .slice (some ⟨b2, o2, none⟩) cs.length c2] 24)
  have HLY := lay_good m p b1 o1 c1 n hh b2 o2 c2 px py fs cs _ (Tab.next hT kk) (hC1.below kk) (hC2.below kk) hok hok2 hl1 hm1 hl2 hm2
  obtain ⟨-, q1, q2, q3, q4, -, -⟩ := okRange m p fs hok
  obtain ⟨-, r1, r2, r3, r4, -, -⟩ := okRange n hh cs hok2
  have d1 : decide (px < 0) = false := by rw [decide_eq_false_iff_not]; omega
  have f1 : ¬ (px < 0) := by omega
  have d2 : decide (py < 0) = false := by rw [decide_eq_false_iff_not]; omega
  have f2 : ¬ (py < 0) := by omega
  clear hT hC1 hC2 hok hok2
  generalize hW0 : ((w.alloc (.cells #[.int .i64 (m : Int), .int .i64 (p : Int), .slice (some ⟨b1, o1, none⟩) fs.length c1] 24)).alloc (.cells #[.int .i64 (n : Int), .int .i64 (hh : Int), .slice (some ⟨b2, o2, none⟩) cs.length c2] 24)) = W0 at x0 x1 kk hsz HLY
  have HW0 : Hid (_ = W0) := hW0
  clear hW0
  go_enter Tryd.func4, Tryd.ntmps4
  go_wp2_with fail
  rw [HW0.out]
  refine (HLY).mono ?_
  rintro e W1 ⟨_, rfl, ⟨gf, cf, rf, tf, rfl, hgf, hcf, hmf, hhf⟩, b1⟩
  have gs1 := carry x0 b1
  have ps1 := carry x1 b1
  have ks1 := kk.trans (b1.mono kk.size)
  generalize (layG n hh cs m p fs (nearI px) (nearI py)).length = fgl at *
  go_wp2_with (refine wpList_store_row rfl 24 (.tmp 9) _ rfl W1.heap.size #[.int .i64 (n : Int), .int .i64 (hh : Int), .slice (some ⟨gf, 0, none⟩) fgl cf] rfl rfl _ _ (heap_alloc_new W1 _) (by kernel_rfl) rfl (one3v _ _ _ _ _) ?_
               obtain ⟨mX1, aX1⟩ := var_new W1 24 #[.int .i64 0, .int .i64 0, .slice none 0 0] #[.int .i64 (n : Int), .int .i64 (hh : Int), .slice (some ⟨gf, 0, none⟩) fgl cf]
               generalize ((W1.alloc (.cells #[.int .i64 0, .int .i64 0, .slice none 0 0] 24)).setRow W1.heap.size #[.int .i64 (n : Int), .int .i64 (hh : Int), .slice (some ⟨gf, 0, none⟩) fgl cf]) = X1 at *
               have gs2 := carry gs1 aX1
               have ps2 := carry ps1 aX1
               have ks2 := ks1.trans (aX1.mono ks1.size)
               obtain ⟨cgX10, cgX11, cgX12, _⟩ := cells3 gs2
               obtain ⟨cpX10, cpX11, cpX12, _⟩ := cells3 ps2)
  refine (gridded_any _ (HT.out _ ks2)).mono ?_
  rintro e W2 ⟨rfl, b2⟩
  have gs3 := carry gs2 b2
  have ps3 := carry ps2 b2
  have ks3 := ks2.trans (b2.mono ks2.size)
  clear cgX10 cgX11 cgX12 cpX10 cpX11 cpX12
  obtain ⟨cgs30, cgs31, cgs32, _⟩ := cells3 gs3
  obtain ⟨cps30, cps31, cps32, _⟩ := cells3 ps3
  go_wp2_with fail
  refine (gridded_any _ (HT.out _ ks3)).mono ?_
  rintro e W3 ⟨rfl, b3⟩
  have ks4 := ks3.trans (b3.mono ks3.size)
  clear cgs30 cgs31 cgs32 cps30 cps31 cps32
  go_wp2_with fail
  go_ret
  exact ⟨rfl, ks4⟩
set_option maxHeartbeats 4000000 in
theorem gridBack_outD (m p b1 o1 c1 n hh b2 o2 c2 : Nat) (px py : Int) (fs cs : List C) (w : World) (hT : Txt.Tab w) (hC1 : CellsAt w b1 o1 fs) (hC2 : CellsAt w b2 o2 cs) (hok : gridErr m p fs = 0) (hok2 : gridErr n hh cs = 0) (hl1 : fs.length ≤ c1) (hm1 : c1 ≤ 9223372036854775807) (hl2 : cs.length ≤ c2) (hm2 : c2 ≤ 9223372036854775807) (e1 : 0 ≤ px) (e2 : 0 ≤ py) (e3 : px + m ≤ n) (e4 : (hh : Int) < py + p) (e5 : py + p ≤ 9223372036854775807) :
    Calls Tryd.prog 4 #[.agg #[.int .i64 (m : Int), .int .i64 (p : Int), .slice (some ⟨b1, o1, none⟩) fs.length c1], .agg #[.int .i64 (n : Int), .int .i64 (hh : Int), .slice (some ⟨b2, o2, none⟩) cs.length c2], .int .i64 px, .int .i64 py] w fun e w' => e = .returned (.bool true) ∧ Below w.heap.size w w' := by
  have HT : Hid (∀ W, Below w.heap.size w W → Txt.Tab W) := fun W k => Tab.next hT k
  obtain ⟨x0, x1, kk, hsz⟩ := alloc2b w (.cells #[.int .i64 (m : Int), .int .i64 (p : Int), .slice (some ⟨b1, o1, none⟩) fs.length c1] 24) (.cells #[.int .i64 (n : Int), .int .i64 (hh : Int), .slice (some ⟨b2, o2, none⟩) cs.length c2] 24)
  have HLY := lay_good m p b1 o1 c1 n hh b2 o2 c2 px py fs cs _ (Tab.next hT kk) (hC1.below kk) (hC2.below kk) hok hok2 hl1 hm1 hl2 hm2
  obtain ⟨-, q1, q2, q3, q4, -, -⟩ := okRange m p fs hok
  obtain ⟨-, r1, r2, r3, r4, -, -⟩ := okRange n hh cs hok2
  have d1 : decide (px < 0) = false := by rw [decide_eq_false_iff_not]; omega
  have f1 : ¬ (px < 0) := by omega
  have d2 : decide (py < 0) = false := by rw [decide_eq_false_iff_not]; omega
  have f2 : ¬ (py < 0) := by omega
  have d3 : decide ((n : Int) < px + m) = false := by rw [decide_eq_false_iff_not]; omega
  have f3 : ¬ ((n : Int) < px + m) := by omega
  clear hT hC1 hC2 hok hok2
  generalize hW0 : ((w.alloc (.cells #[.int .i64 (m : Int), .int .i64 (p : Int), .slice (some ⟨b1, o1, none⟩) fs.length c1] 24)).alloc (.cells #[.int .i64 (n : Int), .int .i64 (hh : Int), .slice (some ⟨b2, o2, none⟩) cs.length c2] 24)) = W0 at x0 x1 kk hsz HLY
  have HW0 : Hid (_ = W0) := hW0
  clear hW0
  go_enter Tryd.func4, Tryd.ntmps4
  go_wp2_with fail
  rw [HW0.out]
  refine (HLY).mono ?_
  rintro e W1 ⟨_, rfl, ⟨gf, cf, rf, tf, rfl, hgf, hcf, hmf, hhf⟩, b1⟩
  have gs1 := carry x0 b1
  have ps1 := carry x1 b1
  have ks1 := kk.trans (b1.mono kk.size)
  generalize (layG n hh cs m p fs (nearI px) (nearI py)).length = fgl at *
  go_wp2_with (refine wpList_store_row rfl 24 (.tmp 9) _ rfl W1.heap.size #[.int .i64 (n : Int), .int .i64 (hh : Int), .slice (some ⟨gf, 0, none⟩) fgl cf] rfl rfl _ _ (heap_alloc_new W1 _) (by kernel_rfl) rfl (one3v _ _ _ _ _) ?_
               obtain ⟨mX1, aX1⟩ := var_new W1 24 #[.int .i64 0, .int .i64 0, .slice none 0 0] #[.int .i64 (n : Int), .int .i64 (hh : Int), .slice (some ⟨gf, 0, none⟩) fgl cf]
               generalize ((W1.alloc (.cells #[.int .i64 0, .int .i64 0, .slice none 0 0] 24)).setRow W1.heap.size #[.int .i64 (n : Int), .int .i64 (hh : Int), .slice (some ⟨gf, 0, none⟩) fgl cf]) = X1 at *
               have gs2 := carry gs1 aX1
               have ps2 := carry ps1 aX1
               have ks2 := ks1.trans (aX1.mono ks1.size)
               obtain ⟨cgX10, cgX11, cgX12, _⟩ := cells3 gs2
               obtain ⟨cpX10, cpX11, cpX12, _⟩ := cells3 ps2)
  refine (gridded_any _ (HT.out _ ks2)).mono ?_
  rintro e W2 ⟨rfl, b2⟩
  have gs3 := carry gs2 b2
  have ps3 := carry ps2 b2
  have ks3 := ks2.trans (b2.mono ks2.size)
  clear cgX10 cgX11 cgX12 cpX10 cpX11 cpX12
  obtain ⟨cgs30, cgs31, cgs32, _⟩ := cells3 gs3
  obtain ⟨cps30, cps31, cps32, _⟩ := cells3 ps3
  go_wp2_with fail
  refine (gridded_any _ (HT.out _ ks3)).mono ?_
  rintro e W3 ⟨rfl, b3⟩
  have ks4 := ks3.trans (b3.mono ks3.size)
  clear cgs30 cgs31 cgs32 cps30 cps31 cps32
  go_wp2_with fail
  go_ret
  exact ⟨rfl, ks4⟩
set_option maxHeartbeats 4000000 in
theorem gridBack_outE (m p b1 o1 c1 n hh b2 o2 c2 : Nat) (px py : Int) (fs cs : List C) (w : World) (hT : Txt.Tab w) (hC1 : CellsAt w b1 o1 fs) (hC2 : CellsAt w b2 o2 cs) (hok : gridErr m p fs = 0) (hok2 : gridErr n hh cs = 0) (hl1 : fs.length ≤ c1) (hm1 : c1 ≤ 9223372036854775807) (hl2 : cs.length ≤ c2) (hm2 : c2 ≤ 9223372036854775807) (e1 : 0 ≤ px) (e2 : 0 ≤ py) (e3 : px + m ≤ n) (e4 : 9223372036854775807 < py + p) (e5 : py ≤ 9223372036854775807) :
    Calls Tryd.prog 4 #[.agg #[.int .i64 (m : Int), .int .i64 (p : Int), .slice (some ⟨b1, o1, none⟩) fs.length c1], .agg #[.int .i64 (n : Int), .int .i64 (hh : Int), .slice (some ⟨b2, o2, none⟩) cs.length c2], .int .i64 px, .int .i64 py] w fun e w' => e = .returned (.bool true) ∧ Below w.heap.size w w' := by
  have HT : Hid (∀ W, Below w.heap.size w W → Txt.Tab W) := fun W k => Tab.next hT k
  obtain ⟨x0, x1, kk, hsz⟩ := alloc2b w (.cells #[.int .i64 (m : Int), .int .i64 (p : Int), .slice (some ⟨b1, o1, none⟩) fs.length c1] 24) (.cells #[.int .i64 (n : Int), .int .i64 (hh : Int), .slice (some ⟨b2, o2, none⟩) cs.length c2] 24)
  have HLY := lay_good m p b1 o1 c1 n hh b2 o2 c2 px py fs cs _ (Tab.next hT kk) (hC1.below kk) (hC2.below kk) hok hok2 hl1 hm1 hl2 hm2
  obtain ⟨-, q1, q2, q3, q4, -, -⟩ := okRange m p fs hok
  obtain ⟨-, r1, r2, r3, r4, -, -⟩ := okRange n hh cs hok2
  have d1 : decide (px < 0) = false := by rw [decide_eq_false_iff_not]; omega
  have f1 : ¬ (px < 0) := by omega
  have d2 : decide (py < 0) = false := by rw [decide_eq_false_iff_not]; omega
  have f2 : ¬ (py < 0) := by omega
  have d3 : decide ((n : Int) < px + m) = false := by rw [decide_eq_false_iff_not]; omega
  have f3 : ¬ ((n : Int) < px + m) := by omega
  have d4 : decide ((n : Int) < px) = false := by rw [decide_eq_false_iff_not]; omega
  have f4 : ¬ ((n : Int) < px) := by omega
  have gy : (hh : Int) < py := by omega
  have wy : IntKind.i64.wrap (py + p) = py + p - 18446744073709551616 := by rw [IntKind.wrap_i64]; omega
  have ny : ¬ (hh : Int) < py + p - 18446744073709551616 := by omega
  have nyd : decide ((hh : Int) < py + p - 18446744073709551616) = false := by rw [decide_eq_false_iff_not]; exact ny
  clear hT hC1 hC2 hok hok2
  generalize hW0 : ((w.alloc (.cells #[.int .i64 (m : Int), .int .i64 (p : Int), .slice (some ⟨b1, o1, none⟩) fs.length c1] 24)).alloc (.cells #[.int .i64 (n : Int), .int .i64 (hh : Int), .slice (some ⟨b2, o2, none⟩) cs.length c2] 24)) = W0 at x0 x1 kk hsz HLY
  have HW0 : Hid (_ = W0) := hW0
  clear hW0
  go_enter Tryd.func4, Tryd.ntmps4
  go_wp2_with fail
  rw [HW0.out]
  refine (HLY).mono ?_
  rintro e W1 ⟨_, rfl, ⟨gf, cf, rf, tf, rfl, hgf, hcf, hmf, hhf⟩, b1⟩
  have gs1 := carry x0 b1
  have ps1 := carry x1 b1
  have ks1 := kk.trans (b1.mono kk.size)
  generalize (layG n hh cs m p fs (nearI px) (nearI py)).length = fgl at *
  go_wp2_with (refine wpList_store_row rfl 24 (.tmp 9) _ rfl W1.heap.size #[.int .i64 (n : Int), .int .i64 (hh : Int), .slice (some ⟨gf, 0, none⟩) fgl cf] rfl rfl _ _ (heap_alloc_new W1 _) (by kernel_rfl) rfl (one3v _ _ _ _ _) ?_
               obtain ⟨mX1, aX1⟩ := var_new W1 24 #[.int .i64 0, .int .i64 0, .slice none 0 0] #[.int .i64 (n : Int), .int .i64 (hh : Int), .slice (some ⟨gf, 0, none⟩) fgl cf]
               generalize ((W1.alloc (.cells #[.int .i64 0, .int .i64 0, .slice none 0 0] 24)).setRow W1.heap.size #[.int .i64 (n : Int), .int .i64 (hh : Int), .slice (some ⟨gf, 0, none⟩) fgl cf]) = X1 at *
               have gs2 := carry gs1 aX1
               have ps2 := carry ps1 aX1
               have ks2 := ks1.trans (aX1.mono ks1.size)
               obtain ⟨cgX10, cgX11, cgX12, _⟩ := cells3 gs2
               obtain ⟨cpX10, cpX11, cpX12, _⟩ := cells3 ps2)
  refine (gridded_any _ (HT.out _ ks2)).mono ?_
  rintro e W2 ⟨rfl, b2⟩
  have gs3 := carry gs2 b2
  have ps3 := carry ps2 b2
  have ks3 := ks2.trans (b2.mono ks2.size)
  clear cgX10 cgX11 cgX12 cpX10 cpX11 cpX12
  obtain ⟨cgs30, cgs31, cgs32, _⟩ := cells3 gs3
  obtain ⟨cps30, cps31, cps32, _⟩ := cells3 ps3
  go_wp2_with fail
  refine (gridded_any _ (HT.out _ ks3)).mono ?_
  rintro e W3 ⟨rfl, b3⟩
  have ks4 := ks3.trans (b3.mono ks3.size)
  clear cgs30 cgs31 cgs32 cps30 cps31 cps32
  go_wp2_with fail
  go_ret
  exact ⟨rfl, ks4⟩
set_option maxHeartbeats 4000000 in
theorem gridBack_outF (m p b1 o1 c1 n hh b2 o2 c2 : Nat) (px py : Int) (fs cs : List C) (w : World) (hT : Txt.Tab w) (hC1 : CellsAt w b1 o1 fs) (hC2 : CellsAt w b2 o2 cs) (hok : gridErr m p fs = 0) (hok2 : gridErr n hh cs = 0) (hl1 : fs.length ≤ c1) (hm1 : c1 ≤ 9223372036854775807) (hl2 : cs.length ≤ c2) (hm2 : c2 ≤ 9223372036854775807) (e1 : 0 ≤ px) (e2 : 0 ≤ py) (e3 : 9223372036854775807 < px + m) (e4 : px ≤ 9223372036854775807) (e5 : py + p ≤ hh) :
    Calls Tryd.prog 4 #[.agg #[.int .i64 (m : Int), .int .i64 (p : Int), .slice (some ⟨b1, o1, none⟩) fs.length c1], .agg #[.int .i64 (n : Int), .int .i64 (hh : Int), .slice (some ⟨b2, o2, none⟩) cs.length c2], .int .i64 px, .int .i64 py] w fun e w' => e = .returned (.bool true) ∧ Below w.heap.size w w' := by
  have HT : Hid (∀ W, Below w.heap.size w W → Txt.Tab W) := fun W k => Tab.next hT k
  obtain ⟨x0, x1, kk, hsz⟩ := alloc2b w (.cells #[.int .i64 (m : Int), .int .i64 (p : Int), .slice (some ⟨b1, o1, none⟩) fs.length c1] 24) (.cells #[.int .i64 (n : Int), .int .i64 (hh : Int), .slice (some ⟨b2, o2, none⟩) cs.length c2] 24)
  have HLY := lay_good m p b1 o1 c1 n hh b2 o2 c2 px py fs cs _ (Tab.next hT kk) (hC1.below kk) (hC2.below kk) hok hok2 hl1 hm1 hl2 hm2
  obtain ⟨-, q1, q2, q3, q4, -, -⟩ := okRange m p fs hok
  obtain ⟨-, r1, r2, r3, r4, -, -⟩ := okRange n hh cs hok2
  have d1 : decide (px < 0) = false := by rw [decide_eq_false_iff_not]; omega
  have f1 : ¬ (px < 0) := by omega
  have d2 : decide (py < 0) = false := by rw [decide_eq_false_iff_not]; omega
  have f2 : ¬ (py < 0) := by omega
  have d3 : decide ((hh : Int) < py + p) = false := by rw [decide_eq_false_iff_not]; omega
  have f3 : ¬ ((hh : Int) < py + p) := by omega
  have gx : (n : Int) < px := by omega
  have wx : IntKind.i64.wrap (px + m) = px + m - 18446744073709551616 := by rw [IntKind.wrap_i64]; omega
  have nx : ¬ (n : Int) < px + m - 18446744073709551616 := by omega
  have nxd : decide ((n : Int) < px + m - 18446744073709551616) = false := by rw [decide_eq_false_iff_not]; exact nx
  clear hT hC1 hC2 hok hok2
  generalize hW0 : ((w.alloc (.cells #[.int .i64 (m : Int), .int .i64 (p : Int), .slice (some ⟨b1, o1, none⟩) fs.length c1] 24)).alloc (.cells #[.int .i64 (n : Int), .int .i64 (hh : Int), .slice (some ⟨b2, o2, none⟩) cs.length c2] 24)) = W0 at x0 x1 kk hsz HLY
  have HW0 : Hid (_ = W0) := hW0
  clear hW0
  go_enter Tryd.func4, Tryd.ntmps4
  go_wp2_with fail
  rw [HW0.out]
  refine (HLY).mono ?_
  rintro e W1 ⟨_, rfl, ⟨gf, cf, rf, tf, rfl, hgf, hcf, hmf, hhf⟩, b1⟩
  have gs1 := carry x0 b1
  have ps1 := carry x1 b1
  have ks1 := kk.trans (b1.mono kk.size)
  generalize (layG n hh cs m p fs (nearI px) (nearI py)).length = fgl at *
  go_wp2_with (refine wpList_store_row rfl 24 (.tmp 9) _ rfl W1.heap.size #[.int .i64 (n : Int), .int .i64 (hh : Int), .slice (some ⟨gf, 0, none⟩) fgl cf] rfl rfl _ _ (heap_alloc_new W1 _) (by kernel_rfl) rfl (one3v _ _ _ _ _) ?_
               obtain ⟨mX1, aX1⟩ := var_new W1 24 #[.int .i64 0, .int .i64 0, .slice none 0 0] #[.int .i64 (n : Int), .int .i64 (hh : Int), .slice (some ⟨gf, 0, none⟩) fgl cf]
               generalize ((W1.alloc (.cells #[.int .i64 0, .int .i64 0, .slice none 0 0] 24)).setRow W1.heap.size #[.int .i64 (n : Int), .int .i64 (hh : Int), .slice (some ⟨gf, 0, none⟩) fgl cf]) = X1 at *
               have gs2 := carry gs1 aX1
               have ps2 := carry ps1 aX1
               have ks2 := ks1.trans (aX1.mono ks1.size)
               obtain ⟨cgX10, cgX11, cgX12, _⟩ := cells3 gs2
               obtain ⟨cpX10, cpX11, cpX12, _⟩ := cells3 ps2)
  refine (gridded_any _ (HT.out _ ks2)).mono ?_
  rintro e W2 ⟨rfl, b2⟩
  have gs3 := carry gs2 b2
  have ps3 := carry ps2 b2
  have ks3 := ks2.trans (b2.mono ks2.size)
  clear cgX10 cgX11 cgX12 cpX10 cpX11 cpX12
  obtain ⟨cgs30, cgs31, cgs32, _⟩ := cells3 gs3
  obtain ⟨cps30, cps31, cps32, _⟩ := cells3 ps3
  go_wp2_with fail
  refine (gridded_any _ (HT.out _ ks3)).mono ?_
  rintro e W3 ⟨rfl, b3⟩
  have ks4 := ks3.trans (b3.mono ks3.size)
  clear cgs30 cgs31 cgs32 cps30 cps31 cps32
  go_wp2_with fail
  go_ret
  exact ⟨rfl, ks4⟩
set_option maxHeartbeats 4000000 in
theorem gridBack_outG (m p b1 o1 c1 n hh b2 o2 c2 : Nat) (px py : Int) (fs cs : List C) (w : World) (hT : Txt.Tab w) (hC1 : CellsAt w b1 o1 fs) (hC2 : CellsAt w b2 o2 cs) (hok : gridErr m p fs = 0) (hok2 : gridErr n hh cs = 0) (hl1 : fs.length ≤ c1) (hm1 : c1 ≤ 9223372036854775807) (hl2 : cs.length ≤ c2) (hm2 : c2 ≤ 9223372036854775807) (e1 : 0 ≤ px) (e2 : 0 ≤ py) (e3 : 9223372036854775807 < px + m) (e4 : px ≤ 9223372036854775807) (e5 : (hh : Int) < py + p) (e6 : py + p ≤ 9223372036854775807) :
    Calls Tryd.prog 4 #[.agg #[.int .i64 (m : Int), .int .i64 (p : Int), .slice (some ⟨b1, o1, none⟩) fs.length c1], .agg #[.int .i64 (n : Int), .int .i64 (hh : Int), .slice (some ⟨b2, o2, none⟩) cs.length c2], .int .i64 px, .int .i64 py] w fun e w' => e = .returned (.bool true) ∧ Below w.heap.size w w' := by
  have HT : Hid (∀ W, Below w.heap.size w W → Txt.Tab W) := fun W k => Tab.next hT k
  obtain ⟨x0, x1, kk, hsz⟩ := alloc2b w (.cells #[.int .i64 (m : Int), .int .i64 (p : Int), .slice (some ⟨b1, o1, none⟩) fs.length c1] 24) (.cells #[.int .i64 (n : Int), .int .i64 (hh : Int), .slice (some ⟨b2, o2, none⟩) cs.length c2] 24)
  have HLY := lay_good m p b1 o1 c1 n hh b2 o2 c2 px py fs cs _ (Tab.next hT kk) (hC1.below kk) (hC2.below kk) hok hok2 hl1 hm1 hl2 hm2
  obtain ⟨-, q1, q2, q3, q4, -, -⟩ := okRange m p fs hok
  obtain ⟨-, r1, r2, r3, r4, -, -⟩ := okRange n hh cs hok2
  have d1 : decide (px < 0) = false := by rw [decide_eq_false_iff_not]; omega
  have f1 : ¬ (px < 0) := by omega
  have d2 : decide (py < 0) = false := by rw [decide_eq_false_iff_not]; omega
  have f2 : ¬ (py < 0) := by omega
  have gx : (n : Int) < px := by omega
  have wx : IntKind.i64.wrap (px + m) = px + m - 18446744073709551616 := by rw [IntKind.wrap_i64]; omega
  have nx : ¬ (n : Int) < px + m - 18446744073709551616 := by omega
  have nxd : decide ((n : Int) < px + m - 18446744073709551616) = false := by rw [decide_eq_false_iff_not]; exact nx
  clear hT hC1 hC2 hok hok2
  generalize hW0 : ((w.alloc (.cells #[.int .i64 (m : Int), .int .i64 (p : Int), .slice (some ⟨b1, o1, none⟩) fs.length c1] 24)).alloc (.cells #[.int .i64 (n : Int), .int .i64 (hh : Int), .slice (some ⟨b2, o2, none⟩) cs.length c2] 24)) = W0 at x0 x1 kk hsz HLY
  have HW0 : Hid (_ = W0) := hW0
  clear hW0
  go_enter Tryd.func4, Tryd.ntmps4
  go_wp2_with fail
  rw [HW0.out]
  refine (HLY).mono ?_
  rintro e W1 ⟨_, rfl, ⟨gf, cf, rf, tf, rfl, hgf, hcf, hmf, hhf⟩, b1⟩
  have gs1 := carry x0 b1
  have ps1 := carry x1 b1
  have ks1 := kk.trans (b1.mono kk.size)
  generalize (layG n hh cs m p fs (nearI px) (nearI py)).length = fgl at *
  go_wp2_with (refine wpList_store_row rfl 24 (.tmp 9) _ rfl W1.heap.size #[.int .i64 (n : Int), .int .i64 (hh : Int), .slice (some ⟨gf, 0, none⟩) fgl cf] rfl rfl _ _ (heap_alloc_new W1 _) (by kernel_rfl) rfl (one3v _ _ _ _ _) ?_
               obtain ⟨mX1, aX1⟩ := var_new W1 24 #[.int .i64 0, .int .i64 0, .slice none 0 0] #[.int .i64 (n : Int), .int .i64 (hh : Int), .slice (some ⟨gf, 0, none⟩) fgl cf]
               generalize ((W1.alloc (.cells #[.int .i64 0, .int .i64 0, .slice none 0 0] 24)).setRow W1.heap.size #[.int .i64 (n : Int), .int .i64 (hh : Int), .slice (some ⟨gf, 0, none⟩) fgl cf]) = X1 at *
               have gs2 := carry gs1 aX1
               have ps2 := carry ps1 aX1
               have ks2 := ks1.trans (aX1.mono ks1.size)
               obtain ⟨cgX10, cgX11, cgX12, _⟩ := cells3 gs2
               obtain ⟨cpX10, cpX11, cpX12, _⟩ := cells3 ps2)
  refine (gridded_any _ (HT.out _ ks2)).mono ?_
  rintro e W2 ⟨rfl, b2⟩
  have gs3 := carry gs2 b2
  have ps3 := carry ps2 b2
  have ks3 := ks2.trans (b2.mono ks2.size)
  clear cgX10 cgX11 cgX12 cpX10 cpX11 cpX12
  obtain ⟨cgs30, cgs31, cgs32, _⟩ := cells3 gs3
  obtain ⟨cps30, cps31, cps32, _⟩ := cells3 ps3
  go_wp2_with fail
  refine (gridded_any _ (HT.out _ ks3)).mono ?_
  rintro e W3 ⟨rfl, b3⟩
  have ks4 := ks3.trans (b3.mono ks3.size)
  clear cgs30 cgs31 cgs32 cps30 cps31 cps32
  go_wp2_with fail
  go_ret
  exact ⟨rfl, ks4⟩
set_option maxHeartbeats 4000000 in
theorem gridBack_outH (m p b1 o1 c1 n hh b2 o2 c2 : Nat) (px py : Int) (fs cs : List C) (w : World) (hT : Txt.Tab w) (hC1 : CellsAt w b1 o1 fs) (hC2 : CellsAt w b2 o2 cs) (hok : gridErr m p fs = 0) (hok2 : gridErr n hh cs = 0) (hl1 : fs.length ≤ c1) (hm1 : c1 ≤ 9223372036854775807) (hl2 : cs.length ≤ c2) (hm2 : c2 ≤ 9223372036854775807) (e1 : 0 ≤ px) (e2 : 0 ≤ py) (e3 : 9223372036854775807 < px + m) (e4 : px ≤ 9223372036854775807) (e5 : 9223372036854775807 < py + p) (e6 : py ≤ 9223372036854775807) :
    Calls Tryd.prog 4 #[.agg #[.int .i64 (m : Int), .int .i64 (p : Int), .slice (some ⟨b1, o1, none⟩) fs.length c1], .agg #[.int .i64 (n : Int), .int .i64 (hh : Int), .slice (some ⟨b2, o2, none⟩) cs.length c2], .int .i64 px, .int .i64 py] w fun e w' => e = .returned (.bool true) ∧ Below w.heap.size w w' := by
  have HT : Hid (∀ W, Below w.heap.size w W → Txt.Tab W) := fun W k => Tab.next hT k
  obtain ⟨x0, x1, kk, hsz⟩ := alloc2b w (.cells #[.int .i64 (m : Int), .int .i64 (p : Int), .slice (some ⟨b1, o1, none⟩) fs.length c1] 24) (.cells #[.int .i64 (n : Int), .int .i64 (hh : Int), .slice (some ⟨b2, o2, none⟩) cs.length c2] 24)
  have HLY := lay_good m p b1 o1 c1 n hh b2 o2 c2 px py fs cs _ (Tab.next hT kk) (hC1.below kk) (hC2.below kk) hok hok2 hl1 hm1 hl2 hm2
  obtain ⟨-, q1, q2, q3, q4, -, -⟩ := okRange m p fs hok
  obtain ⟨-, r1, r2, r3, r4, -, -⟩ := okRange n hh cs hok2
  have d1 : decide (px < 0) = false := by rw [decide_eq_false_iff_not]; omega
  have f1 : ¬ (px < 0) := by omega
  have d2 : decide (py < 0) = false := by rw [decide_eq_false_iff_not]; omega
  have f2 : ¬ (py < 0) := by omega
  have gx : (n : Int) < px := by omega
  have wx : IntKind.i64.wrap (px + m) = px + m - 18446744073709551616 := by rw [IntKind.wrap_i64]; omega
  have nx : ¬ (n : Int) < px + m - 18446744073709551616 := by omega
  have nxd : decide ((n : Int) < px + m - 18446744073709551616) = false := by rw [decide_eq_false_iff_not]; exact nx
  have gy : (hh : Int) < py := by omega
  have wy : IntKind.i64.wrap (py + p) = py + p - 18446744073709551616 := by rw [IntKind.wrap_i64]; omega
  have ny : ¬ (hh : Int) < py + p - 18446744073709551616 := by omega
  have nyd : decide ((hh : Int) < py + p - 18446744073709551616) = false := by rw [decide_eq_false_iff_not]; exact ny
  clear hT hC1 hC2 hok hok2
  generalize hW0 : ((w.alloc (.cells #[.int .i64 (m : Int), .int .i64 (p : Int), .slice (some ⟨b1, o1, none⟩) fs.length c1] 24)).alloc (.cells #[.int .i64 (n : Int), .int .i64 (hh : Int), .slice (some ⟨b2, o2, none⟩) cs.length c2] 24)) = W0 at x0 x1 kk hsz HLY
  have HW0 : Hid (_ = W0) := hW0
  clear hW0
  go_enter Tryd.func4, Tryd.ntmps4
  go_wp2_with fail
  rw [HW0.out]
  refine (HLY).mono ?_
  rintro e W1 ⟨_, rfl, ⟨gf, cf, rf, tf, rfl, hgf, hcf, hmf, hhf⟩, b1⟩
  have gs1 := carry x0 b1
  have ps1 := carry x1 b1
  have ks1 := kk.trans (b1.mono kk.size)
  generalize (layG n hh cs m p fs (nearI px) (nearI py)).length = fgl at *
  go_wp2_with (refine wpList_store_row rfl 24 (.tmp 9) _ rfl W1.heap.size #[.int .i64 (n : Int), .int .i64 (hh : Int), .slice (some ⟨gf, 0, none⟩) fgl cf] rfl rfl _ _ (heap_alloc_new W1 _) (by kernel_rfl) rfl (one3v _ _ _ _ _) ?_
               obtain ⟨mX1, aX1⟩ := var_new W1 24 #[.int .i64 0, .int .i64 0, .slice none 0 0] #[.int .i64 (n : Int), .int .i64 (hh : Int), .slice (some ⟨gf, 0, none⟩) fgl cf]
               generalize ((W1.alloc (.cells #[.int .i64 0, .int .i64 0, .slice none 0 0] 24)).setRow W1.heap.size #[.int .i64 (n : Int), .int .i64 (hh : Int), .slice (some ⟨gf, 0, none⟩) fgl cf]) = X1 at *
               have gs2 := carry gs1 aX1
               have ps2 := carry ps1 aX1
               have ks2 := ks1.trans (aX1.mono ks1.size)
               obtain ⟨cgX10, cgX11, cgX12, _⟩ := cells3 gs2
               obtain ⟨cpX10, cpX11, cpX12, _⟩ := cells3 ps2)
  refine (gridded_any _ (HT.out _ ks2)).mono ?_
  rintro e W2 ⟨rfl, b2⟩
  have gs3 := carry gs2 b2
  have ps3 := carry ps2 b2
  have ks3 := ks2.trans (b2.mono ks2.size)
  clear cgX10 cgX11 cgX12 cpX10 cpX11 cpX12
  obtain ⟨cgs30, cgs31, cgs32, _⟩ := cells3 gs3
  obtain ⟨cps30, cps31, cps32, _⟩ := cells3 ps3
  go_wp2_with fail
  refine (gridded_any _ (HT.out _ ks3)).mono ?_
  rintro e W3 ⟨rfl, b3⟩
  have ks4 := ks3.trans (b3.mono ks3.size)
  clear cgs30 cgs31 cgs32 cps30 cps31 cps32
  go_wp2_with fail
  go_ret
  exact ⟨rfl, ks4⟩
set_option maxHeartbeats 4000000 in
theorem gridBack_good (m p b1 o1 c1 n hh b2 o2 c2 X Y : Nat) (fs cs : List C) (w : World) (hT : Txt.Tab w) (hC1 : CellsAt w b1 o1 fs) (hC2 : CellsAt w b2 o2 cs) (hok : gridErr m p fs = 0) (hok2 : gridErr n hh cs = 0) (hl1 : fs.length ≤ c1) (hm1 : c1 ≤ 9223372036854775807) (hl2 : cs.length ≤ c2) (hm2 : c2 ≤ 9223372036854775807) (hX : X + m ≤ n) (hY : Y + p ≤ hh) :
    Calls Tryd.prog 4 #[.agg #[.int .i64 (m : Int), .int .i64 (p : Int), .slice (some ⟨b1, o1, none⟩) fs.length c1], .agg #[.int .i64 (n : Int), .int .i64 (hh : Int), .slice (some ⟨b2, o2, none⟩) cs.length c2], .int .i64 (X : Int), .int .i64 (Y : Int)] w fun e w' => e = .returned (.bool true) ∧ Below w.heap.size w w' := by
  have HT : Hid (∀ W, Below w.heap.size w W → Txt.Tab W) := fun W k => Tab.next hT k
  obtain ⟨x0, x1, kk, hsz⟩ := alloc2b w (.cells #[.int .i64 (m : Int), .int .i64 (p : Int), .slice (some ⟨b1, o1, none⟩) fs.length c1] 24) (.cells #[.int .i64 (n : Int), .int .i64 (hh : Int), .slice (some ⟨b2, o2, none⟩) cs.length c2] 24)
  have ex : nearI (X : Int) = X := by obtain ⟨_, _, _, _⟩ := okRange n hh cs hok2; unfold nearI; omega
  have ey : nearI (Y : Int) = Y := by obtain ⟨_, _, _, _, _⟩ := okRange n hh cs hok2; unfold nearI; omega
  have HLY := lay_good m p b1 o1 c1 n hh b2 o2 c2 X Y fs cs _ (Tab.next hT kk) (hC1.below kk) (hC2.below kk) hok hok2 hl1 hm1 hl2 hm2
  rw [ex, ey] at HLY
  obtain ⟨hL1, q1, q2, q3, q4, q5, hne1⟩ := okRange m p fs hok
  have HL1 : Hid (fs.length ≤ 1000000) := by unfold Hid; omega
  obtain ⟨-, r1, r2, r3, r4, -, -⟩ := okRange n hh cs hok2
  have hrt := right_lay n hh m p cs fs X Y hok2 hok
  have hbk := lay_back n hh m p cs fs X Y hok2 hok hX hY
  have hS1 : SliceAt w (.slice (some ⟨b1, o1, none⟩) fs.length c1) fs := .inr ⟨hne1, b1, o1, c1, rfl, hl1, hm1, hC1⟩
  have HS1 : Hid (∀ W, Below w.heap.size w W → SliceAt W (.slice (some ⟨b1, o1, none⟩) fs.length c1) fs) := fun W k => hS1.below k
  have HPT : Hid (∀ W g c, Below w.heap.size w W → CellsAt W g 0 (layG n hh cs m p fs X Y) → (layG n hh cs m p fs X Y).length ≤ c → c ≤ 9223372036854775807 → Calls Tryd.prog 11 #[.agg #[.int .i64 (n : Int), .int .i64 (hh : Int), .slice (some ⟨g, 0, none⟩) (layG n hh cs m p fs X Y).length c], .agg #[.int .i64 (X : Int), .int .i64 (Y : Int), .int .i64 (m : Int), .int .i64 (p : Int)]] W fun e w' => ∃ v, e = .returned (.tuple #[.agg #[.int .i64 (m : Int), .int .i64 (p : Int), v], .int .i64 0]) ∧ OwnG w' W.heap.size v fs ∧ Below W.heap.size W w') := fun W g c k hc hl hm => by
    have := part_good n hh g 0 c X Y m p (layG n hh cs m p fs X Y) W (Tab.next hT k) hc hl hm hrt q1 q3 hX hY
    rwa [hbk] at this
  have d1 : decide ((X : Int) < 0) = false := by rw [decide_eq_false_iff_not]; omega
  have f1 : ¬ (X : Int) < 0 := by omega
  have d2 : decide ((Y : Int) < 0) = false := by rw [decide_eq_false_iff_not]; omega
  have f2 : ¬ (Y : Int) < 0 := by omega
  have d3 : decide ((n : Int) < (X : Int) + m) = false := by rw [decide_eq_false_iff_not]; omega
  have f3 : ¬ (n : Int) < (X : Int) + m := by omega
  have d4 : decide ((hh : Int) < (Y : Int) + p) = false := by rw [decide_eq_false_iff_not]; omega
  have f4 : ¬ (hh : Int) < (Y : Int) + p := by omega
  have d5 : decide ((n : Int) < (X : Int)) = false := by rw [decide_eq_false_iff_not]; omega
  have f5 : ¬ (n : Int) < (X : Int) := by omega
  have d6 : decide ((hh : Int) < (Y : Int)) = false := by rw [decide_eq_false_iff_not]; omega
  have f6 : ¬ (hh : Int) < (Y : Int) := by omega
  clear hT hC1 hC2 hok hok2 hrt hbk hS1 hne1 hL1 ex ey
  generalize layG n hh cs m p fs X Y = zz at HLY HPT
  generalize hW0 : ((w.alloc (.cells #[.int .i64 (m : Int), .int .i64 (p : Int), .slice (some ⟨b1, o1, none⟩) fs.length c1] 24)).alloc (.cells #[.int .i64 (n : Int), .int .i64 (hh : Int), .slice (some ⟨b2, o2, none⟩) cs.length c2] 24)) = W0 at x0 x1 kk hsz HLY
  have HW0 : Hid (_ = W0) := hW0
  clear hW0
  go_enter Tryd.func4, Tryd.ntmps4
  go_wp2_with fail
  rw [HW0.out]
  refine (HLY).mono ?_
  rintro e W1 ⟨_, rfl, ⟨gf, cf, rf, tf, rfl, hgf, hcf, hmf, hhf⟩, b1⟩
  have gs1 := carry x0 b1
  have ps1 := carry x1 b1
  have ks1 := kk.trans (b1.mono kk.size)
  have soz : CellsAt W1 gf 0 zz := cellsAt_flat hhf
  clear hhf
  go_wp2_with (refine wpList_store_row rfl 24 (.tmp 9) _ rfl W1.heap.size #[.int .i64 (n : Int), .int .i64 (hh : Int), .slice (some ⟨gf, 0, none⟩) zz.length cf] rfl rfl _ _ (heap_alloc_new W1 _) (by kernel_rfl) rfl (one3v _ _ _ _ _) ?_
               obtain ⟨mX1, aX1⟩ := var_new W1 24 #[.int .i64 0, .int .i64 0, .slice none 0 0] #[.int .i64 (n : Int), .int .i64 (hh : Int), .slice (some ⟨gf, 0, none⟩) zz.length cf]
               generalize ((W1.alloc (.cells #[.int .i64 0, .int .i64 0, .slice none 0 0] 24)).setRow W1.heap.size #[.int .i64 (n : Int), .int .i64 (hh : Int), .slice (some ⟨gf, 0, none⟩) zz.length cf]) = X1 at *
               have gs2 := carry gs1 aX1
               have ps2 := carry ps1 aX1
               have sozs2 := soz.below aX1
               have ks2 := ks1.trans (aX1.mono ks1.size)
               obtain ⟨cgX10, cgX11, cgX12, _⟩ := cells3 gs2
               obtain ⟨cpX10, cpX11, cpX12, _⟩ := cells3 ps2)
  refine (gridded_any _ (HT.out _ ks2)).mono ?_
  rintro e W2 ⟨rfl, b2⟩
  have gs3 := carry gs2 b2
  have ps3 := carry ps2 b2
  have zs3 := carry mX1 b2
  have sozs3 := sozs2.below b2
  have ks3 := ks2.trans (b2.mono ks2.size)
  clear cgX10 cgX11 cgX12 cpX10 cpX11 cpX12
  obtain ⟨cgs30, cgs31, cgs32, _⟩ := cells3 gs3
  obtain ⟨cps30, cps31, cps32, _⟩ := cells3 ps3
  obtain ⟨czs30, czs31, czs32, _⟩ := cells3 zs3
  go_wp2_with fail
  refine (HPT.out _ gf cf ks3 sozs3 hcf hmf).mono ?_
  rintro e W3 ⟨_, rfl, ⟨gq, cq, rq, tq, rfl, hgq, hcq, hmq, hhq⟩, b3⟩
  have gs4 := carry gs3 b3
  have sozs4 := sozs3.below b3
  have ks4 := ks3.trans (b3.mono ks3.size)
  clear cgs30 cgs31 cgs32 cps30 cps31 cps32 czs30 czs31 czs32
  have soq : SliceAt W3 (.slice (some ⟨gq, 0, none⟩) fs.length cq) fs := OwnG.slice (base := 0) ⟨gq, cq, rq, tq, rfl, by omega, hcq, hmq, hhq⟩
  clear hhq
  go_wp2_with (refine wpList_store_row rfl 24 (.tmp 11) _ rfl W3.heap.size #[.int .i64 (m : Int), .int .i64 (p : Int), .slice (some ⟨gq, 0, none⟩) fs.length cq] rfl rfl _ _ (heap_alloc_new W3 _) (by kernel_rfl) rfl (one3v _ _ _ _ _) ?_
               obtain ⟨mX3, aX3⟩ := var_new W3 24 #[.int .i64 0, .int .i64 0, .slice none 0 0] #[.int .i64 (m : Int), .int .i64 (p : Int), .slice (some ⟨gq, 0, none⟩) fs.length cq]
               generalize ((W3.alloc (.cells #[.int .i64 0, .int .i64 0, .slice none 0 0] 24)).setRow W3.heap.size #[.int .i64 (m : Int), .int .i64 (p : Int), .slice (some ⟨gq, 0, none⟩) fs.length cq]) = X3 at *
               have gs5 := carry gs4 aX3
               have sozs5 := sozs4.below aX3
               have soqs5 := soq.below aX3
               have ks5 := ks4.trans (aX3.mono ks4.size)
               obtain ⟨cgX30, cgX31, cgX32, _⟩ := cells3 gs5
               obtain ⟨coX30, coX31, coX32, _⟩ := cells3 mX3)
  refine (same_any m p _ _ fs _ soqs5 (HS1.out _ ks5) HL1.out).mono ?_
  rintro e W5 ⟨rfl, b5⟩
  have sozs6 := sozs5.below b5
  have soqs6 := soqs5.below b5
  have ks6 := ks5.trans (b5.mono ks5.size)
  clear cgX30 cgX31 cgX32 coX30 coX31 coX32
  go_wp2_with fail
  go_ret
  exact ⟨rfl, ks6⟩
theorem gridBack_walk (a1 h1 a2 h2 px py : Int) (v1 v2 : Value) (fs cs : List C) (w : World) (hT : Txt.Tab w) (hS1 : SliceAt w v1 fs) (hS2 : SliceAt w v2 cs) (hx1 : px ≤ 9223372036854775807) (hy1 : py ≤ 9223372036854775807) :
    Calls Tryd.prog 4 #[.agg #[.int .i64 a1, .int .i64 h1, v1], .agg #[.int .i64 a2, .int .i64 h2, v2], .int .i64 px, .int .i64 py] w fun e w' => e = .returned (.bool true) ∧ Below w.heap.size w w' := by
  by_cases hok : gridErr a1 h1 fs = 0
  · by_cases hok2 : gridErr a2 h2 cs = 0
    · obtain ⟨m, p, b1, o1, c1, rfl, rfl, rfl, g1, g2, g3⟩ := openOKb a1 h1 v1 fs w hS1 hok
      obtain ⟨n, hh, b2, o2, c2, rfl, rfl, rfl, k1, k2, k3⟩ := openOKb a2 h2 v2 cs w hS2 hok2
      have ⟨_, _, mm, _, pp, _, _⟩ := okRange m p fs hok
      have ⟨_, _, nn, _, qq, _, _⟩ := okRange n hh cs hok2
      by_cases e1 : 0 ≤ px
      · by_cases e2 : 0 ≤ py
        · by_cases e3 : px + m ≤ 9223372036854775807
          · by_cases e4 : px + m ≤ n
            · by_cases e5 : py + p ≤ 9223372036854775807
              · by_cases e6 : py + p ≤ hh
                · obtain ⟨X, rfl⟩ := Int.eq_ofNat_of_zero_le e1
                  obtain ⟨Y, rfl⟩ := Int.eq_ofNat_of_zero_le e2
                  exact gridBack_good m p b1 o1 c1 n hh b2 o2 c2 X Y fs cs w hT g3 k3 hok hok2 g1 g2 k1 k2 (by omega) (by omega)
                · exact gridBack_outD m p b1 o1 c1 n hh b2 o2 c2 px py fs cs w hT g3 k3 hok hok2 g1 g2 k1 k2 e1 e2 e4 (by omega) e5
              · exact gridBack_outE m p b1 o1 c1 n hh b2 o2 c2 px py fs cs w hT g3 k3 hok hok2 g1 g2 k1 k2 e1 e2 e4 (by omega) hy1
            · exact gridBack_outC m p b1 o1 c1 n hh b2 o2 c2 px py fs cs w hT g3 k3 hok hok2 g1 g2 k1 k2 e1 e2 (by omega) e3
          · by_cases e5 : py + p ≤ 9223372036854775807
            · by_cases e6 : py + p ≤ hh
              · exact gridBack_outF m p b1 o1 c1 n hh b2 o2 c2 px py fs cs w hT g3 k3 hok hok2 g1 g2 k1 k2 e1 e2 (by omega) hx1 e6
              · exact gridBack_outG m p b1 o1 c1 n hh b2 o2 c2 px py fs cs w hT g3 k3 hok hok2 g1 g2 k1 k2 e1 e2 (by omega) hx1 (by omega) e5
            · exact gridBack_outH m p b1 o1 c1 n hh b2 o2 c2 px py fs cs w hT g3 k3 hok hok2 g1 g2 k1 k2 e1 e2 (by omega) hx1 (by omega) hy1
        · exact gridBack_outB m p b1 o1 c1 n hh b2 o2 c2 px py fs cs w hT g3 k3 hok hok2 g1 g2 k1 k2 e1 (by omega)
      · exact gridBack_outA m p b1 o1 c1 n hh b2 o2 c2 px py fs cs w hT g3 k3 hok hok2 g1 g2 k1 k2 (by omega)
    · exact gridBack_err a1 h1 a2 h2 px py v1 v2 _ w hT hok2 (fun W k => lay_bad2 a1 h1 a2 h2 px py v1 v2 fs cs W (Tab.next hT k) (hS1.below k) (hS2.below k) hok hok2)
  · exact gridBack_err a1 h1 a2 h2 px py v1 v2 _ w hT hok (fun W k => lay_bad1 a1 h1 a2 h2 px py v1 v2 fs W (Tab.next hT k) (hS1.below k) hok)
end Grd
end Go.Proofs.YtinhmklpnkikgabDoor

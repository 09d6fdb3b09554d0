/- The law GridRight: whatever is done to grids, what comes of it is a right one. -/
import Derived.Test.YtinhmklpnkikgabDoorGridLayMath
import Derived.Test.YtinhmklpnkikgabDoorGridded2
namespace Go.Proofs.YtinhmklpnkikgabDoor
open Go.ChangeShapes Go.WideShapes Go.ChangeAt Go.RowKit
namespace Grd
open Txt (wd)
open Sty (isSt)
/-- A grid and an error: an error, or a right grid. -/
def ResOK (w : World) (a h : Int) (u : Value) (er : Int) : Prop := er ≠ 0 ∨ (er = 0 ∧ ∃ cs, SliceAt w u cs ∧ gridErr a h cs = 0)
theorem ResOK.below {w w' : World} {a h : Int} {u : Value} {er : Int} (h1 : ResOK w a h u er) (hb : Below w.heap.size w w') : ResOK w' a h u er := by
  rcases h1 with h | ⟨h, cs, hs, hg⟩
  · exact .inl h
  · exact .inr ⟨h, cs, hs.below hb, hg⟩
theorem ResOK.own {w : World} {base : Nat} {n hh : Int} {v : Value} {cs : List C} (ho : OwnG w base v cs) (hg : gridErr n hh cs = 0) : ∃ q l c, v = .slice q l c ∧ ResOK w n hh (.slice q l c) 0 := by
  have hs := ho.slice
  obtain ⟨g, cap, rest, t, rfl, _⟩ := ho
  exact ⟨_, _, _, rfl, .inr ⟨rfl, cs, hs, hg⟩⟩
theorem openOK (a h : Int) (v : Value) (cs : List C) (w : World) (hS : SliceAt w v cs) (hok : gridErr a h cs = 0) : ∃ n hh b o c : Nat, a = (n : Int) ∧ h = (hh : Int) ∧ v = .slice (some ⟨b, o, none⟩) cs.length c ∧ cs.length ≤ c ∧ c ≤ 9223372036854775807 ∧ CellsAt w b o cs := by
  have hs : isSize a h = true := by
    unfold gridErr at hok
    by_cases hc : isSize a h = false ∨ (cs.length : Int) ≠ a * h
    · rw [if_pos hc] at hok; exact absurd hok (by decide)
    · simpa using (not_or.1 hc).1
  have ⟨_, _, p2, _, p4, _⟩ := prod_in a h hs
  obtain ⟨n, rfl⟩ := Int.eq_ofNat_of_zero_le (show 0 ≤ a by omega)
  obtain ⟨hh, rfl⟩ := Int.eq_ofNat_of_zero_le (show 0 ≤ h by omega)
  have hne := (okRange n hh cs hok).2.2.2.2.2.2
  rcases hS with ⟨h, _⟩ | ⟨_, b, o, c, rfl, h1, h2, h3⟩
  · exact absurd h hne
  · exact ⟨n, hh, b, o, c, rfl, rfl, rfl, h1, h2, h3⟩
theorem fill_res (a h : Int) (v : Value) (cs : List C) (rx ry rw rh r f bk x : Int) (w : World) (hT : Txt.Tab w) (hS : SliceAt w v cs) :
    Calls Tryd.prog 8 #[.agg #[.int .i64 a, .int .i64 h, v], .agg #[.int .i64 rx, .int .i64 ry, .int .i64 rw, .int .i64 rh], .agg #[.int .i32 r, .int .i64 f, .int .i64 bk, .int .i64 x]] w fun e w' => ∃ (a' h' : Int) (q' : Option Addr) (l' c' : Nat) (er : Int), e = .returned (.tuple #[.agg #[.int .i64 a', .int .i64 h', .slice q' l' c'], .int .i64 er]) ∧ ResOK w' a' h' (.slice q' l' c') er ∧ Below w.heap.size w w' := by
  by_cases hok : gridErr a h cs = 0
  · by_cases hr : wd r = 1
    · cases hs : isSt (f, bk, x) with
      | false => exact (fill_bad3 a h v cs rx ry rw rh r f bk x w hT hS hok hr hs).mono fun e w' ⟨he, hb⟩ => ⟨_, _, _, _, _, _, he, .inl (by decide), hb⟩
      | true =>
        obtain ⟨n, hh, b, o, c, rfl, rfl, rfl, h1, h2, h3⟩ := openOK a h v cs w hS hok
        exact (fill_good n hh b o c cs rx ry rw rh r f bk x w hT h3 hok h1 h2 hr hs).mono fun e w' ⟨u, he, ho, hb⟩ => by
          obtain ⟨q, l, c', rfl, hres⟩ := ResOK.own ho (right_fill n hh cs rx ry rw rh (r, f, bk, x) hok hr hs)
          exact ⟨_, _, _, _, _, _, he, hres, hb⟩
    · exact (fill_bad2 a h v cs rx ry rw rh r f bk x w hT hS hok hr).mono fun e w' ⟨he, hb⟩ => ⟨_, _, _, _, _, _, he, .inl (by decide), hb⟩
  · exact (fill_bad1 a h v cs rx ry rw rh r f bk x w hT hS hok).mono fun e w' ⟨he, hb⟩ => ⟨_, _, _, _, _, _, he, .inl hok, hb⟩
theorem write_res (a h : Int) (v : Value) (cs : List C) (px py f bk x : Int) (s : ByteArray) (w : World) (hT : Txt.Tab w) (hS : SliceAt w v cs) (hx0 : -9223372036854775808 ≤ px) (hx1 : px ≤ 9223372036854775807) (hy0 : -9223372036854775808 ≤ py) (hy1 : py ≤ 9223372036854775807) :
    Calls Tryd.prog 9 #[.agg #[.int .i64 a, .int .i64 h, v], .int .i64 px, .int .i64 py, .string s, .agg #[.int .i64 f, .int .i64 bk, .int .i64 x]] w fun e w' => ∃ (a' h' : Int) (q' : Option Addr) (l' c' : Nat) (er : Int), e = .returned (.tuple #[.agg #[.int .i64 a', .int .i64 h', .slice q' l' c'], .int .i64 er]) ∧ ResOK w' a' h' (.slice q' l' c') er ∧ Below w.heap.size w w' := by
  by_cases hok : gridErr a h cs = 0
  · obtain ⟨n, hh, b, o, c, rfl, rfl, rfl, h1, h2, h3⟩ := openOK a h v cs w hS hok
    cases hold : holdsI n hh px py 1 1 with
    | false => exact (write_bad2 n hh _ cs px py f bk x s w hT hS hok hx0 hx1 hy0 hy1 hold).mono fun e w' ⟨he, hb⟩ => ⟨_, _, _, _, _, _, he, .inl (by decide), hb⟩
    | true =>
      cases hs : isSt (f, bk, x) with
      | false => exact (write_bad3 n hh _ cs px py f bk x s w hT hS hok hx0 hx1 hy0 hy1 hold hs).mono fun e w' ⟨he, hb⟩ => ⟨_, _, _, _, _, _, he, .inl (by decide), hb⟩
      | true =>
        unfold holdsI at hold
        rw [decide_eq_true_eq] at hold
        obtain ⟨X, rfl⟩ := Int.eq_ofNat_of_zero_le (show 0 ≤ px by omega)
        obtain ⟨Y, rfl⟩ := Int.eq_ofNat_of_zero_le (show 0 ≤ py by omega)
        exact (write_good n hh b o c X Y cs f bk x s w hT h3 hok h1 h2 (by omega) (by omega) hs).mono fun e w' ⟨u, he, ho, hb⟩ => by
          obtain ⟨q, l, c', rfl, hres⟩ := ResOK.own ho (right_write n hh cs X Y _ (f, bk, x) hok hs)
          exact ⟨_, _, _, _, _, _, he, hres, hb⟩
  · exact (write_bad1 a h v cs px py f bk x s w hT hS hok).mono fun e w' ⟨he, hb⟩ => ⟨_, _, _, _, _, _, he, .inl hok, hb⟩
theorem lay_res (a1 h1 a2 h2 px py : Int) (v1 v2 : Value) (fs cs : List C) (w : World) (hT : Txt.Tab w) (hS1 : SliceAt w v1 fs) (hS2 : SliceAt w v2 cs) :
    Calls Tryd.prog 10 #[.agg #[.int .i64 a1, .int .i64 h1, v1], .agg #[.int .i64 a2, .int .i64 h2, v2], .int .i64 px, .int .i64 py] w fun e w' => ∃ (a' h' : Int) (q' : Option Addr) (l' c' : Nat) (er : Int), e = .returned (.tuple #[.agg #[.int .i64 a', .int .i64 h', .slice q' l' c'], .int .i64 er]) ∧ ResOK w' a' h' (.slice q' l' c') er ∧ Below w.heap.size w w' := by
  by_cases hok : gridErr a1 h1 fs = 0
  · by_cases hok2 : gridErr a2 h2 cs = 0
    · obtain ⟨m, p, b1, o1, c1, rfl, rfl, rfl, g1, g2, g3⟩ := openOK a1 h1 v1 fs w hS1 hok
      obtain ⟨n, hh, b2, o2, c2, rfl, rfl, rfl, k1, k2, k3⟩ := openOK a2 h2 v2 cs w hS2 hok2
      exact (lay_good m p b1 o1 c1 n hh b2 o2 c2 px py fs cs w hT g3 k3 hok hok2 g1 g2 k1 k2).mono fun e w' ⟨u, he, ho, hb⟩ => by
        obtain ⟨q, l, c', rfl, hres⟩ := ResOK.own ho (right_lay n hh m p cs fs _ _ hok2 hok)
        exact ⟨_, _, _, _, _, _, he, hres, hb⟩
    · exact (lay_bad2 a1 h1 a2 h2 px py v1 v2 fs cs w hT hS1 hS2 hok hok2).mono fun e w' ⟨he, hb⟩ => ⟨_, _, _, _, _, _, he, .inl hok2, hb⟩
  · exact (lay_bad1 a1 h1 a2 h2 px py v1 v2 fs w hT hS1 hok).mono fun e w' ⟨he, hb⟩ => ⟨_, _, _, _, _, _, he, .inl hok, hb⟩
theorem part_res (a h : Int) (v : Value) (cs : List C) (rx ry rw rh : Int) (w : World) (hT : Txt.Tab w) (hS : SliceAt w v cs) (hx0 : -9223372036854775808 ≤ rx) (hx1 : rx ≤ 9223372036854775807) (hy0 : -9223372036854775808 ≤ ry) (hy1 : ry ≤ 9223372036854775807) :
    Calls Tryd.prog 11 #[.agg #[.int .i64 a, .int .i64 h, v], .agg #[.int .i64 rx, .int .i64 ry, .int .i64 rw, .int .i64 rh]] w fun e w' => ∃ (a' h' : Int) (q' : Option Addr) (l' c' : Nat) (er : Int), e = .returned (.tuple #[.agg #[.int .i64 a', .int .i64 h', .slice q' l' c'], .int .i64 er]) ∧ ResOK w' a' h' (.slice q' l' c') er ∧ Below w.heap.size w w' := by
  by_cases hok : gridErr a h cs = 0
  · obtain ⟨m, p, b, o, c, rfl, rfl, rfl, h1, h2, h3⟩ := openOK a h v cs w hS hok
    cases hold : holdsI m p rx ry rw rh with
    | false => exact (part_bad2 m p _ cs rx ry rw rh w hT hS hok hx0 hx1 hy0 hy1 hold).mono fun e w' ⟨he, hb⟩ => ⟨_, _, _, _, _, _, he, .inl (by decide), hb⟩
    | true =>
      unfold holdsI at hold
      rw [decide_eq_true_eq] at hold
      obtain ⟨X, rfl⟩ := Int.eq_ofNat_of_zero_le (show 0 ≤ rx by omega)
      obtain ⟨Y, rfl⟩ := Int.eq_ofNat_of_zero_le (show 0 ≤ ry by omega)
      obtain ⟨n, rfl⟩ := Int.eq_ofNat_of_zero_le (show 0 ≤ rw by omega)
      obtain ⟨hh, rfl⟩ := Int.eq_ofNat_of_zero_le (show 0 ≤ rh by omega)
      have ⟨_, q1, q2, q3, q4, _, _⟩ := okRange m p cs hok
      exact (part_good m p b o c X Y n hh cs w hT h3 h1 h2 hok (by omega) (by omega) (by omega) (by omega)).mono fun e w' ⟨u, he, ho, hb⟩ => by
        obtain ⟨q, l, c', rfl, hres⟩ := ResOK.own ho (right_lay n hh m p (newL n hh) cs _ _ (right_new n hh (by unfold isSize; rw [decide_eq_true_eq]; omega)) hok)
        exact ⟨_, _, _, _, _, _, he, hres, hb⟩
  · exact (part_bad1 a h v cs rx ry rw rh w hT hS hok).mono fun e w' ⟨he, hb⟩ => ⟨_, _, _, _, _, _, he, .inl hok, hb⟩
theorem resize_res (a h : Int) (v : Value) (cs : List C) (pw ph : Int) (w : World) (hT : Txt.Tab w) (hS : SliceAt w v cs) :
    Calls Tryd.prog 12 #[.agg #[.int .i64 a, .int .i64 h, v], .int .i64 pw, .int .i64 ph] w fun e w' => ∃ (a' h' : Int) (q' : Option Addr) (l' c' : Nat) (er : Int), e = .returned (.tuple #[.agg #[.int .i64 a', .int .i64 h', .slice q' l' c'], .int .i64 er]) ∧ ResOK w' a' h' (.slice q' l' c') er ∧ Below w.heap.size w w' := by
  by_cases hok : gridErr a h cs = 0
  · obtain ⟨m, p, b, o, c, rfl, rfl, rfl, h1, h2, h3⟩ := openOK a h v cs w hS hok
    cases hs : isSize pw ph with
    | false => exact (resize_bad2 m p _ cs pw ph w hT hS hok hs).mono fun e w' ⟨he, hb⟩ => ⟨_, _, _, _, _, _, he, .inl (by decide), hb⟩
    | true =>
      have ⟨_, _, p2, _, p4, _⟩ := prod_in pw ph hs
      obtain ⟨n, rfl⟩ := Int.eq_ofNat_of_zero_le (show 0 ≤ pw by omega)
      obtain ⟨hh, rfl⟩ := Int.eq_ofNat_of_zero_le (show 0 ≤ ph by omega)
      exact (resize_good m p b o c n hh cs w hT h3 h1 h2 hok hs).mono fun e w' ⟨u, he, ho, hb⟩ => by
        obtain ⟨q, l, c', rfl, hres⟩ := ResOK.own ho (right_lay n hh m p (newL n hh) cs _ _ (right_new n hh hs) hok)
        exact ⟨_, _, _, _, _, _, he, hres, hb⟩
  · exact (resize_bad1 a h v cs pw ph w hT hS hok).mono fun e w' ⟨he, hb⟩ => ⟨_, _, _, _, _, _, he, .inl hok, hb⟩
set_option maxHeartbeats 1000000 in
theorem ok_res (a h : Int) (u : Value) (er : Int) (w : World) (hT : Txt.Tab w) (hr : ResOK w a h u er) :
    Calls Tryd.prog 6 #[.agg #[.int .i64 a, .int .i64 h, u], .int .i64 er] w fun e w' => e = .returned (.bool true) ∧ Below w.heap.size w w' := by
  have kk : Below w.heap.size w (w.alloc (.cells #[.int .i64 a, .int .i64 h, u] 24)) := (Below.refl _ _).alloc (Nat.le_refl _) _
  rcases hr with hne | ⟨rfl, cs, hs, hg⟩
  · have ne : (er != 0) = true := by simpa using hne
    clear hne
    go_enter Tryd.func6, Tryd.ntmps6
    go_wp2_with fail
    go_ret
    exact ⟨rfl, kk⟩
  · have HK := check_ok a h u cs _ (Tab.next hT kk) (hs.below kk) hg
    clear hT hs hg
    go_enter Tryd.func6, Tryd.ntmps6
    go_wp2_with fail
    refine HK.mono ?_
    rintro e W1 ⟨rfl, b1⟩
    go_wp2_with fail
    go_ret
    exact ⟨rfl, kk.trans (b1.mono kk.size)⟩
set_option maxHeartbeats 8000000 in
theorem gridRight_walk (a1 h1 a2 h2 : Int) (v1 v2 : Value) (fs cs : List C) (rx ry rw rh r f bk x px py : Int) (s : ByteArray) (w : World) (hT : Txt.Tab w) (hS1 : SliceAt w v1 fs) (hS2 : SliceAt w v2 cs)
    (hx0 : -9223372036854775808 ≤ px) (hx1 : px ≤ 9223372036854775807) (hy0 : -9223372036854775808 ≤ py) (hy1 : py ≤ 9223372036854775807) (hr0 : -9223372036854775808 ≤ rx) (hr1 : rx ≤ 9223372036854775807) (hq0 : -9223372036854775808 ≤ ry) (hq1 : ry ≤ 9223372036854775807) :
    Calls Tryd.prog 3 #[.agg #[.int .i64 a1, .int .i64 h1, v1], .agg #[.int .i64 a2, .int .i64 h2, v2], .agg #[.int .i64 rx, .int .i64 ry, .int .i64 rw, .int .i64 rh], .agg #[.int .i32 r, .int .i64 f, .int .i64 bk, .int .i64 x], .int .i64 px, .int .i64 py, .string s] w fun e w' => e = .returned (.bool true) ∧ Below w.heap.size w w' := by
  have HT : Hid (∀ W, Below w.heap.size w W → Txt.Tab W) := fun W k => Tab.next hT k
  have HS1 : Hid (∀ W, Below w.heap.size w W → SliceAt W v1 fs) := fun W k => hS1.below k
  have HS2 : Hid (∀ W, Below w.heap.size w W → SliceAt W v2 cs) := fun W k => hS2.below k
  obtain ⟨x0, x1, x2, x3, kk, hsz⟩ := alloc4 w (.cells #[.int .i64 a1, .int .i64 h1, v1] 24) (.cells #[.int .i64 a2, .int .i64 h2, v2] 24) (.cells #[.int .i64 rx, .int .i64 ry, .int .i64 rw, .int .i64 rh] 26) (.cells #[.int .i32 r, .int .i64 f, .int .i64 bk, .int .i64 x] 30)
  clear hT hS1 hS2
  generalize hW0 : ((((w.alloc (.cells #[.int .i64 a1, .int .i64 h1, v1] 24)).alloc (.cells #[.int .i64 a2, .int .i64 h2, v2] 24)).alloc (.cells #[.int .i64 rx, .int .i64 ry, .int .i64 rw, .int .i64 rh] 26)).alloc (.cells #[.int .i32 r, .int .i64 f, .int .i64 bk, .int .i64 x] 30)) = W0 at x0 x1 x2 x3 kk hsz
  have HW0 : Hid (_ = W0) := hW0
  clear hW0
  go_enter Tryd.func3, Tryd.ntmps3
  go_wp2_with fail
  rw [HW0.out]
  refine (gridded_any _ (HT.out _ kk)).mono ?_
  rintro e V0 ⟨rfl, b0⟩
  have gs1 := carry x0 b0
  have ps1 := carry x1 b0
  have rs1 := carry x2 b0
  have cs1 := carry x3 b0
  have ks1 := kk.trans (b0.mono kk.size)
  obtain ⟨cgs10, cgs11, cgs12, _⟩ := cells3 gs1
  obtain ⟨cps10, cps11, cps12, _⟩ := cells3 ps1
  obtain ⟨crs10, crs11, crs12, crs13⟩ := cells4 rs1
  obtain ⟨ccs10, ccs11, ccs12, ccs13⟩ := cells4 cs1
  clear x0 x1 x2 x3 kk HW0 hsz
  go_wp2_with fail
  refine (fill_res a1 h1 v1 fs rx ry rw rh r f bk x _ (HT.out _ ks1) (HS1.out _ ks1)).mono ?_
  rintro e WA ⟨aA, hA, qA, lA, cA, eA, rfl, resA, bA⟩
  have gs2 := carry gs1 bA
  have ps2 := carry ps1 bA
  have rs2 := carry rs1 bA
  have cs2 := carry cs1 bA
  have ks2 := ks1.trans (bA.mono ks1.size)
  clear cgs10 cgs11 cgs12 cps10 cps11 cps12 crs10 crs11 crs12 crs13 ccs10 ccs11 ccs12 ccs13
  go_wp2_with (refine wpList_store_row rfl 24 (.tmp 16) _ rfl WA.heap.size #[.int .i64 aA, .int .i64 hA, .slice qA lA cA] rfl rfl _ _ (heap_alloc_new WA _) (by kernel_rfl) rfl (one3v _ _ _ _ _) ?_
               obtain ⟨mXA, aXA⟩ := var_new WA 24 #[.int .i64 0, .int .i64 0, .slice none 0 0] #[.int .i64 aA, .int .i64 hA, .slice qA lA cA]
               generalize ((WA.alloc (.cells #[.int .i64 0, .int .i64 0, .slice none 0 0] 24)).setRow WA.heap.size #[.int .i64 aA, .int .i64 hA, .slice qA lA cA]) = XA at *
               have gs3 := carry gs2 aXA
               have ps3 := carry ps2 aXA
               have rs3 := carry rs2 aXA
               have cs3 := carry cs2 aXA
               have soAs3 := resA.below aXA
               have ks3 := ks2.trans (aXA.mono ks2.size)
               obtain ⟨cgXA0, cgXA1, cgXA2, _⟩ := cells3 gs3
               obtain ⟨cpXA0, cpXA1, cpXA2, _⟩ := cells3 ps3
               obtain ⟨crXA0, crXA1, crXA2, crXA3⟩ := cells4 rs3
               obtain ⟨ccXA0, ccXA1, ccXA2, ccXA3⟩ := cells4 cs3)
  refine (write_res a1 h1 v1 fs px py f bk x s _ (HT.out _ ks3) (HS1.out _ ks3) hx0 hx1 hy0 hy1).mono ?_
  rintro e WB ⟨aB, hB, qB, lB, cB, eB, rfl, resB, bB⟩
  have gs4 := carry gs3 bB
  have ps4 := carry ps3 bB
  have rs4 := carry rs3 bB
  have cs4 := carry cs3 bB
  have As4 := carry mXA bB
  have soAs4 := soAs3.below bB
  have ks4 := ks3.trans (bB.mono ks3.size)
  clear cgXA0 cgXA1 cgXA2 cpXA0 cpXA1 cpXA2 crXA0 crXA1 crXA2 crXA3 ccXA0 ccXA1 ccXA2 ccXA3
  go_wp2_with (refine wpList_store_row rfl 24 (.tmp 18) _ rfl WB.heap.size #[.int .i64 aB, .int .i64 hB, .slice qB lB cB] rfl rfl _ _ (heap_alloc_new WB _) (by kernel_rfl) rfl (one3v _ _ _ _ _) ?_
               obtain ⟨mXB, aXB⟩ := var_new WB 24 #[.int .i64 0, .int .i64 0, .slice none 0 0] #[.int .i64 aB, .int .i64 hB, .slice qB lB cB]
               generalize ((WB.alloc (.cells #[.int .i64 0, .int .i64 0, .slice none 0 0] 24)).setRow WB.heap.size #[.int .i64 aB, .int .i64 hB, .slice qB lB cB]) = XB at *
               have gs5 := carry gs4 aXB
               have ps5 := carry ps4 aXB
               have rs5 := carry rs4 aXB
               have cs5 := carry cs4 aXB
               have As5 := carry As4 aXB
               have soAs5 := soAs4.below aXB
               have soBs5 := resB.below aXB
               have ks5 := ks4.trans (aXB.mono ks4.size)
               obtain ⟨cgXB0, cgXB1, cgXB2, _⟩ := cells3 gs5
               obtain ⟨cpXB0, cpXB1, cpXB2, _⟩ := cells3 ps5
               obtain ⟨crXB0, crXB1, crXB2, crXB3⟩ := cells4 rs5
               obtain ⟨ccXB0, ccXB1, ccXB2, ccXB3⟩ := cells4 cs5)
  refine (lay_res a1 h1 a2 h2 px py v1 v2 fs cs _ (HT.out _ ks5) (HS1.out _ ks5) (HS2.out _ ks5)).mono ?_
  rintro e WD ⟨aD, hD, qD, lD, cD, eD, rfl, resD, bD⟩
  have gs6 := carry gs5 bD
  have ps6 := carry ps5 bD
  have rs6 := carry rs5 bD
  have cs6 := carry cs5 bD
  have As6 := carry As5 bD
  have Bs6 := carry mXB bD
  have soAs6 := soAs5.below bD
  have soBs6 := soBs5.below bD
  have ks6 := ks5.trans (bD.mono ks5.size)
  clear cgXB0 cgXB1 cgXB2 cpXB0 cpXB1 cpXB2 crXB0 crXB1 crXB2 crXB3 ccXB0 ccXB1 ccXB2 ccXB3
  go_wp2_with (refine wpList_store_row rfl 24 (.tmp 20) _ rfl WD.heap.size #[.int .i64 aD, .int .i64 hD, .slice qD lD cD] rfl rfl _ _ (heap_alloc_new WD _) (by kernel_rfl) rfl (one3v _ _ _ _ _) ?_
               obtain ⟨mXD, aXD⟩ := var_new WD 24 #[.int .i64 0, .int .i64 0, .slice none 0 0] #[.int .i64 aD, .int .i64 hD, .slice qD lD cD]
               generalize ((WD.alloc (.cells #[.int .i64 0, .int .i64 0, .slice none 0 0] 24)).setRow WD.heap.size #[.int .i64 aD, .int .i64 hD, .slice qD lD cD]) = XD at *
               have gs7 := carry gs6 aXD
               have ps7 := carry ps6 aXD
               have rs7 := carry rs6 aXD
               have cs7 := carry cs6 aXD
               have As7 := carry As6 aXD
               have Bs7 := carry Bs6 aXD
               have soAs7 := soAs6.below aXD
               have soBs7 := soBs6.below aXD
               have soDs7 := resD.below aXD
               have ks7 := ks6.trans (aXD.mono ks6.size)
               obtain ⟨cgXD0, cgXD1, cgXD2, _⟩ := cells3 gs7
               obtain ⟨cpXD0, cpXD1, cpXD2, _⟩ := cells3 ps7
               obtain ⟨crXD0, crXD1, crXD2, crXD3⟩ := cells4 rs7
               obtain ⟨ccXD0, ccXD1, ccXD2, ccXD3⟩ := cells4 cs7)
  refine (part_res a1 h1 v1 fs rx ry rw rh _ (HT.out _ ks7) (HS1.out _ ks7) hr0 hr1 hq0 hq1).mono ?_
  rintro e WE ⟨aE, hE, qE, lE, cE, eE, rfl, resE, bE⟩
  have gs8 := carry gs7 bE
  have ps8 := carry ps7 bE
  have rs8 := carry rs7 bE
  have cs8 := carry cs7 bE
  have As8 := carry As7 bE
  have Bs8 := carry Bs7 bE
  have Ds8 := carry mXD bE
  have soAs8 := soAs7.below bE
  have soBs8 := soBs7.below bE
  have soDs8 := soDs7.below bE
  have ks8 := ks7.trans (bE.mono ks7.size)
  clear cgXD0 cgXD1 cgXD2 cpXD0 cpXD1 cpXD2 crXD0 crXD1 crXD2 crXD3 ccXD0 ccXD1 ccXD2 ccXD3
  go_wp2_with (refine wpList_store_row rfl 24 (.tmp 22) _ rfl WE.heap.size #[.int .i64 aE, .int .i64 hE, .slice qE lE cE] rfl rfl _ _ (heap_alloc_new WE _) (by kernel_rfl) rfl (one3v _ _ _ _ _) ?_
               obtain ⟨mXE, aXE⟩ := var_new WE 24 #[.int .i64 0, .int .i64 0, .slice none 0 0] #[.int .i64 aE, .int .i64 hE, .slice qE lE cE]
               generalize ((WE.alloc (.cells #[.int .i64 0, .int .i64 0, .slice none 0 0] 24)).setRow WE.heap.size #[.int .i64 aE, .int .i64 hE, .slice qE lE cE]) = XE at *
               have gs9 := carry gs8 aXE
               have ps9 := carry ps8 aXE
               have rs9 := carry rs8 aXE
               have cs9 := carry cs8 aXE
               have As9 := carry As8 aXE
               have Bs9 := carry Bs8 aXE
               have Ds9 := carry Ds8 aXE
               have soAs9 := soAs8.below aXE
               have soBs9 := soBs8.below aXE
               have soDs9 := soDs8.below aXE
               have soEs9 := resE.below aXE
               have ks9 := ks8.trans (aXE.mono ks8.size)
               obtain ⟨cgXE0, cgXE1, cgXE2, _⟩ := cells3 gs9
               obtain ⟨cpXE0, cpXE1, cpXE2, _⟩ := cells3 ps9
               obtain ⟨crXE0, crXE1, crXE2, crXE3⟩ := cells4 rs9
               obtain ⟨ccXE0, ccXE1, ccXE2, ccXE3⟩ := cells4 cs9)
  refine (resize_res a1 h1 v1 fs rw rh _ (HT.out _ ks9) (HS1.out _ ks9)).mono ?_
  rintro e WF ⟨aF, hF, qF, lF, cF, eF, rfl, resF, bF⟩
  have gs10 := carry gs9 bF
  have ps10 := carry ps9 bF
  have rs10 := carry rs9 bF
  have cs10 := carry cs9 bF
  have As10 := carry As9 bF
  have Bs10 := carry Bs9 bF
  have Ds10 := carry Ds9 bF
  have Es10 := carry mXE bF
  have soAs10 := soAs9.below bF
  have soBs10 := soBs9.below bF
  have soDs10 := soDs9.below bF
  have soEs10 := soEs9.below bF
  have ks10 := ks9.trans (bF.mono ks9.size)
  clear cgXE0 cgXE1 cgXE2 cpXE0 cpXE1 cpXE2 crXE0 crXE1 crXE2 crXE3 ccXE0 ccXE1 ccXE2 ccXE3
  go_wp2_with (refine wpList_store_row rfl 24 (.tmp 24) _ rfl WF.heap.size #[.int .i64 aF, .int .i64 hF, .slice qF lF cF] rfl rfl _ _ (heap_alloc_new WF _) (by kernel_rfl) rfl (one3v _ _ _ _ _) ?_
               obtain ⟨mXF, aXF⟩ := var_new WF 24 #[.int .i64 0, .int .i64 0, .slice none 0 0] #[.int .i64 aF, .int .i64 hF, .slice qF lF cF]
               generalize ((WF.alloc (.cells #[.int .i64 0, .int .i64 0, .slice none 0 0] 24)).setRow WF.heap.size #[.int .i64 aF, .int .i64 hF, .slice qF lF cF]) = XF at *
               have gs11 := carry gs10 aXF
               have ps11 := carry ps10 aXF
               have rs11 := carry rs10 aXF
               have cs11 := carry cs10 aXF
               have As11 := carry As10 aXF
               have Bs11 := carry Bs10 aXF
               have Ds11 := carry Ds10 aXF
               have Es11 := carry Es10 aXF
               have soAs11 := soAs10.below aXF
               have soBs11 := soBs10.below aXF
               have soDs11 := soDs10.below aXF
               have soEs11 := soEs10.below aXF
               have soFs11 := resF.below aXF
               have ks11 := ks10.trans (aXF.mono ks10.size)
               obtain ⟨cAXF0, cAXF1, cAXF2, _⟩ := cells3 As11
               obtain ⟨cBXF0, cBXF1, cBXF2, _⟩ := cells3 Bs11
               obtain ⟨cDXF0, cDXF1, cDXF2, _⟩ := cells3 Ds11
               obtain ⟨cEXF0, cEXF1, cEXF2, _⟩ := cells3 Es11
               obtain ⟨cFXF0, cFXF1, cFXF2, _⟩ := cells3 mXF)
  refine (ok_res aA hA _ eA _ (HT.out _ ks11) soAs11).mono ?_
  rintro e OA ⟨rfl, boA⟩
  have As12 := carry As11 boA
  have Bs12 := carry Bs11 boA
  have Ds12 := carry Ds11 boA
  have Es12 := carry Es11 boA
  have Fs12 := carry mXF boA
  have soAs12 := soAs11.below boA
  have soBs12 := soBs11.below boA
  have soDs12 := soDs11.below boA
  have soEs12 := soEs11.below boA
  have soFs12 := soFs11.below boA
  have ks12 := ks11.trans (boA.mono ks11.size)
  clear cAXF0 cAXF1 cAXF2 cBXF0 cBXF1 cBXF2 cDXF0 cDXF1 cDXF2 cEXF0 cEXF1 cEXF2 cFXF0 cFXF1 cFXF2
  obtain ⟨cAs120, cAs121, cAs122, _⟩ := cells3 As12
  obtain ⟨cBs120, cBs121, cBs122, _⟩ := cells3 Bs12
  obtain ⟨cDs120, cDs121, cDs122, _⟩ := cells3 Ds12
  obtain ⟨cEs120, cEs121, cEs122, _⟩ := cells3 Es12
  obtain ⟨cFs120, cFs121, cFs122, _⟩ := cells3 Fs12
  go_wp2_with fail
  refine (ok_res aB hB _ eB _ (HT.out _ ks12) soBs12).mono ?_
  rintro e OB ⟨rfl, boB⟩
  have As13 := carry As12 boB
  have Bs13 := carry Bs12 boB
  have Ds13 := carry Ds12 boB
  have Es13 := carry Es12 boB
  have Fs13 := carry Fs12 boB
  have soAs13 := soAs12.below boB
  have soBs13 := soBs12.below boB
  have soDs13 := soDs12.below boB
  have soEs13 := soEs12.below boB
  have soFs13 := soFs12.below boB
  have ks13 := ks12.trans (boB.mono ks12.size)
  clear cAs120 cAs121 cAs122 cBs120 cBs121 cBs122 cDs120 cDs121 cDs122 cEs120 cEs121 cEs122 cFs120 cFs121 cFs122
  obtain ⟨cAs130, cAs131, cAs132, _⟩ := cells3 As13
  obtain ⟨cBs130, cBs131, cBs132, _⟩ := cells3 Bs13
  obtain ⟨cDs130, cDs131, cDs132, _⟩ := cells3 Ds13
  obtain ⟨cEs130, cEs131, cEs132, _⟩ := cells3 Es13
  obtain ⟨cFs130, cFs131, cFs132, _⟩ := cells3 Fs13
  go_wp2_with fail
  refine (ok_res aD hD _ eD _ (HT.out _ ks13) soDs13).mono ?_
  rintro e OD ⟨rfl, boD⟩
  have As14 := carry As13 boD
  have Bs14 := carry Bs13 boD
  have Ds14 := carry Ds13 boD
  have Es14 := carry Es13 boD
  have Fs14 := carry Fs13 boD
  have soAs14 := soAs13.below boD
  have soBs14 := soBs13.below boD
  have soDs14 := soDs13.below boD
  have soEs14 := soEs13.below boD
  have soFs14 := soFs13.below boD
  have ks14 := ks13.trans (boD.mono ks13.size)
  clear cAs130 cAs131 cAs132 cBs130 cBs131 cBs132 cDs130 cDs131 cDs132 cEs130 cEs131 cEs132 cFs130 cFs131 cFs132
  obtain ⟨cAs140, cAs141, cAs142, _⟩ := cells3 As14
  obtain ⟨cBs140, cBs141, cBs142, _⟩ := cells3 Bs14
  obtain ⟨cDs140, cDs141, cDs142, _⟩ := cells3 Ds14
  obtain ⟨cEs140, cEs141, cEs142, _⟩ := cells3 Es14
  obtain ⟨cFs140, cFs141, cFs142, _⟩ := cells3 Fs14
  go_wp2_with fail
  refine (ok_res aE hE _ eE _ (HT.out _ ks14) soEs14).mono ?_
  rintro e OE ⟨rfl, boE⟩
  have As15 := carry As14 boE
  have Bs15 := carry Bs14 boE
  have Ds15 := carry Ds14 boE
  have Es15 := carry Es14 boE
  have Fs15 := carry Fs14 boE
  have soAs15 := soAs14.below boE
  have soBs15 := soBs14.below boE
  have soDs15 := soDs14.below boE
  have soEs15 := soEs14.below boE
  have soFs15 := soFs14.below boE
  have ks15 := ks14.trans (boE.mono ks14.size)
  clear cAs140 cAs141 cAs142 cBs140 cBs141 cBs142 cDs140 cDs141 cDs142 cEs140 cEs141 cEs142 cFs140 cFs141 cFs142
  obtain ⟨cAs150, cAs151, cAs152, _⟩ := cells3 As15
  obtain ⟨cBs150, cBs151, cBs152, _⟩ := cells3 Bs15
  obtain ⟨cDs150, cDs151, cDs152, _⟩ := cells3 Ds15
  obtain ⟨cEs150, cEs151, cEs152, _⟩ := cells3 Es15
  obtain ⟨cFs150, cFs151, cFs152, _⟩ := cells3 Fs15
  go_wp2_with fail
  refine (ok_res aF hF _ eF _ (HT.out _ ks15) soFs15).mono ?_
  rintro e OF ⟨rfl, boF⟩
  have As16 := carry As15 boF
  have Bs16 := carry Bs15 boF
  have Ds16 := carry Ds15 boF
  have Es16 := carry Es15 boF
  have Fs16 := carry Fs15 boF
  have soAs16 := soAs15.below boF
  have soBs16 := soBs15.below boF
  have soDs16 := soDs15.below boF
  have soEs16 := soEs15.below boF
  have soFs16 := soFs15.below boF
  have ks16 := ks15.trans (boF.mono ks15.size)
  clear cAs150 cAs151 cAs152 cBs150 cBs151 cBs152 cDs150 cDs151 cDs152 cEs150 cEs151 cEs152 cFs150 cFs151 cFs152
  go_wp2_with fail
  go_ret
  exact ⟨rfl, ks16⟩
end Grd
end Go.Proofs.YtinhmklpnkikgabDoor

/- The law ModeSet. -/
import Derived.Test.YtnkeahfcpbepjaaGreatDoorPartJ
import Derived.Test.YtnkeahfcpbepjaaGreatDoorPartO
namespace Go.Proofs.YtnkeahfcpbepjaaGreatDoor
set_option linter.unusedVariables false
open Go.ChangeShapes Go.WideShapes Go.ChangeAt Go.RowKit
namespace Put
open Grd (C SliceAt CellsAt gridErr z0 nilV flat rowsL)
theorem plain_setc : Plain 53 := by
  intro args W
  kernel_rfl
theorem plain_savec : Plain 56 := by
  intro args W
  kernel_rfl
theorem plain_restc : Plain 57 := by
  intro args W
  kernel_rfl
theorem plainF_set : Plain 18 := by
  intro args W
  kernel_rfl
theorem plainF_save : Plain 20 := by
  intro args W
  kernel_rfl
theorem plainF_rest : Plain 21 := by
  intro args W
  kernel_rfl
theorem with_cs (s' : Scr) (cs : List C) (h : cs = s'.cs) : ({ s' with cs := cs } : Scr) = s' := by
  subst h
  rfl
theorem mset_any {w0 w : World} {s : Scr} {cv tv gv : Value} {n hh : Nat} (h : Met w0 w s cv tv gv) (hR : RightS s n hh) (b : Int) (on : Bool) : Calls Tryz.prog 19 #[.agg (scrA s cv tv gv), .int .i64 b, .bool on] w (Made w0 w (setS s (bits .and .i64 b 63) on) 0) :=
  modeSet_calls s _ cv tv gv b on 0 w0 w h.v h.b.size fun W B1 B2 hW hB1 l1 l2 hB2 => by
    have hs := setS_same s (bits .and .i64 b 63) on
    have := md_good (h.next hW) hR _ plain_setc #[.pointer (some ⟨B1, 0, none⟩), .pointer (some ⟨B2, 0, none⟩)] (rowsL n s.cs hh) _ (fun w1 hw1 => set_does (bits .and .i64 b 63) on B1 B2 _ w1 s _ (cell_stay hw1 hB1) (cell_stay hw1 hB2) (Nat.lt_of_lt_of_le l1 hw1.size) (Nat.lt_of_lt_of_le l2 hw1.size)) (rowsOk_same hR _ hs.1) rfl
    rwa [with_cs _ _ (by rw [hs.2.2.1]; exact hR.flatten)] at this
theorem mset_bad {w0 w : World} {s : Scr} {cv tv gv : Value} (h : Met w0 w s cv tv gv) (hz : scrErr s ≠ 0) (b : Int) (on : Bool) : Calls Tryz.prog 19 #[.agg (scrA s cv tv gv), .int .i64 b, .bool on] w (Made w0 w zScr (scrErr s)) :=
  modeSet_calls s zScr cv tv gv b on (scrErr s) w0 w h.v h.b.size fun _ _ _ hW _ _ _ _ => md_bad (h.next hW) hz _ _
theorem save_any {w0 w : World} {s : Scr} {cv tv gv : Value} {n hh : Nat} (h : Met w0 w s cv tv gv) (hR : RightS s n hh) : Calls Tryz.prog 20 #[.agg (scrA s cv tv gv)] w (Made w0 w (saveS s) 0) :=
  modeSave_calls s _ cv tv gv 0 w0 w h.v h.b.size fun W _ hW => by
    have := md_good (h.next hW) hR _ plain_savec #[] (rowsL n s.cs hh) _ (fun w1 _ => save_does _ w1 s _) (rowsOk_same hR (saveS s) rfl) rfl
    rwa [with_cs (saveS s) _ hR.flatten] at this
theorem save_bad {w0 w : World} {s : Scr} {cv tv gv : Value} (h : Met w0 w s cv tv gv) (hz : scrErr s ≠ 0) : Calls Tryz.prog 20 #[.agg (scrA s cv tv gv)] w (Made w0 w zScr (scrErr s)) :=
  modeSave_calls s zScr cv tv gv (scrErr s) w0 w h.v h.b.size fun _ _ hW => md_bad (h.next hW) hz _ _
theorem rest_any {w0 w : World} {s : Scr} {cv tv gv : Value} {n hh : Nat} (h : Met w0 w s cv tv gv) (hR : RightS s n hh) : Calls Tryz.prog 21 #[.agg (scrA s cv tv gv)] w (Made w0 w (restS s) 0) :=
  modeRestore_calls s _ cv tv gv 0 w0 w h.v h.b.size fun W _ hW => by
    have := md_good (h.next hW) hR _ plain_restc #[] (rowsL n s.cs hh) _ (fun w1 _ => restore_does _ w1 s _) (rowsOk_same hR (restS s) rfl) rfl
    rwa [with_cs (restS s) _ hR.flatten] at this
theorem rest_bad {w0 w : World} {s : Scr} {cv tv gv : Value} (h : Met w0 w s cv tv gv) (hz : scrErr s ≠ 0) : Calls Tryz.prog 21 #[.agg (scrA s cv tv gv)] w (Made w0 w zScr (scrErr s)) :=
  modeRestore_calls s zScr cv tv gv (scrErr s) w0 w h.v h.b.size fun _ _ hW => md_bad (h.next hW) hz _ _
theorem small_same {s s' : Scr} (h0 : Small s) (hc : s'.cs = s.cs) (ht : s'.tabs = s.tabs) (hg : s'.gone = s.gone) : Small s' := ⟨by rw [hc]; exact h0.c, by rw [ht]; exact h0.t, by rw [hg]; exact h0.g, by rw [hg]; exact h0.r⟩
/-- What leaves the rows as they are: a name agrees. -/
theorem agree_same {what : ByteArray} {a b : Int} {s s' : Scr} {n hh : Nat} (hR : RightS s n hh) (hA : ActMakes what a b s s' (rowsL n s.cs hh) (rowsL n s.cs hh)) (hc : s'.cs = s.cs) (ht : s'.tabs = s.tabs) (hg : s'.gone = s.gone) (hw : s'.w = s.w) (hh' : s'.h = s.h) : Agrees what a b s s' n hh := by
  refine ⟨small_same (smallOf hR) hc ht hg, _, _, hA, Grd.rowsL_len _ _ _, rowsL_row hR, ?_⟩
  rw [hR.flatten, ← hR.w, ← hR.h, ← hc, ← hw, ← hh']
theorem mset_agree {s : Scr} {n hh : Nat} (hR : RightS s n hh) (b m : Int) (on : Bool) : Agrees (if on then ⟨#[115, 101, 116]⟩ else ⟨#[99, 108, 101, 97, 114]⟩) b m s (setS s (bits .and .i64 b 63) on) n hh := by
  have hmo := hR.modes
  have h63 := and63 b
  obtain ⟨h1, h2, h3, h4, h5⟩ := setS_same s (bits .and .i64 b 63) on
  refine agree_same hR ?_ h3 h2 h1 h4 h5
  rw [← setR_same s _ on hmo.1 hmo.2 h63.1 h63.2]
  cases on with
  | true => exact act_set b m s _
  | false => exact act_clear b m s _
theorem save_agree {s : Scr} {n hh : Nat} (hR : RightS s n hh) (a m : Int) : Agrees ⟨#[115, 97, 118, 101]⟩ a m s (saveS s) n hh := agree_same hR (act_save a m s _) rfl rfl rfl rfl rfl
theorem rest_agree {s : Scr} {n hh : Nat} (hR : RightS s n hh) (a m : Int) : Agrees ⟨#[114, 101, 115, 116, 111, 114, 101]⟩ a m s (restS s) n hh := by
  have hmo := hR.modes
  have hk : keptOk s.km = true := by
    have := hR.looks
    simp only [looksOk, Bool.and_eq_true] at this
    exact this.2.2.2
  have hr := rest_nums s.modes s.km hmo.1 hmo.2 hk
  have e : restR s = restS s := by unfold restR restS; rw [hr.1]
  refine agree_same hR ?_ rfl rfl rfl rfl rfl
  rw [← e]
  exact act_restore a m s _ hr.2.1 hr.2.2
set_option maxHeartbeats 2000000 in
set_option maxRecDepth 100000 in
theorem set1_calls (s s' : Scr) (cv tv gv : Value) (y : Int) (x : Bool) (B1 B2 : Nat) (er : Int) (w0 w : World) (hV : ScrV w0 s cv tv gv) (hM : w0.heap.size ≤ w.heap.size) (h1 : w.cell? ⟨B1, 0, none⟩ = some (.int .i64 y)) (h2 : w.cell? ⟨B2, 0, none⟩ = some (.bool x))
    (hC : ∀ W, Below w.heap.size w W → Calls Tryz.prog 19 #[.agg (scrA s cv tv gv), .int .i64 y, .bool x] W (Made w0 W s' er)) :
    Calls Tryz.prog 18 #[.agg (scrA s cv tv gv), .pointer (some ⟨B1, 0, none⟩), .pointer (some ⟨B2, 0, none⟩)] w (Made w0 w s' er) := by
  obtain ⟨ca, cc, rfl⟩ := hV.c.shape
  obtain ⟨ta, tc, rfl⟩ := hV.t.slice
  obtain ⟨ga, gc, rfl⟩ := hV.g.slice
  have hkb : Below w.heap.size w ((w.alloc (.cells (scrA s (.slice ca s.cs.length cc) (.slice ta s.tabs.length tc) (.slice ga s.gone.length gc)) 32)).alloc (.cells #[.int .i64 0, .int .i64 0, .slice none 0 0, .int .i64 0, .int .i64 0, .bool false, .int .i64 0, .int .i64 0, .int .i64 0, .int .i64 0, .int .i64 0, .int .i64 0, .slice none 0 0, .int .i64 0, .int .i64 0, .int .i64 0, .int .i64 0, .int .i64 0, .int .i64 0, .int .i32 0, .string ⟨#[]⟩, .slice none 0 0] 32)) := (((Below.refl _ _).alloc (by simp) _).alloc (by simp) _)
  have hx0 : (w.alloc (.cells (scrA s (.slice ca s.cs.length cc) (.slice ta s.tabs.length tc) (.slice ga s.gone.length gc)) 32)).heap[w.heap.size]? = some (.cells (scrA s (.slice ca s.cs.length cc) (.slice ta s.tabs.length tc) (.slice ga s.gone.length gc)) 32 (0, 0)) := by
    have h := heap_alloc_new w (.cells (scrA s (.slice ca s.cs.length cc) (.slice ta s.tabs.length tc) (.slice ga s.gone.length gc)) 32)
    have e : w.heap.size = w.heap.size := by simp
    rw [e] at h
    exact h
  have hx0 := (Below.heap_alloc (w.alloc (.cells (scrA s (.slice ca s.cs.length cc) (.slice ta s.tabs.length tc) (.slice ga s.gone.length gc)) 32)) (.cells #[.int .i64 0, .int .i64 0, .slice none 0 0, .int .i64 0, .int .i64 0, .bool false, .int .i64 0, .int .i64 0, .int .i64 0, .int .i64 0, .int .i64 0, .int .i64 0, .slice none 0 0, .int .i64 0, .int .i64 0, .int .i64 0, .int .i64 0, .int .i64 0, .int .i64 0, .int .i32 0, .string ⟨#[]⟩, .slice none 0 0] 32) _ (heap_lt hx0)).trans hx0
  have hx1 : ((w.alloc (.cells (scrA s (.slice ca s.cs.length cc) (.slice ta s.tabs.length tc) (.slice ga s.gone.length gc)) 32)).alloc (.cells #[.int .i64 0, .int .i64 0, .slice none 0 0, .int .i64 0, .int .i64 0, .bool false, .int .i64 0, .int .i64 0, .int .i64 0, .int .i64 0, .int .i64 0, .int .i64 0, .slice none 0 0, .int .i64 0, .int .i64 0, .int .i64 0, .int .i64 0, .int .i64 0, .int .i64 0, .int .i32 0, .string ⟨#[]⟩, .slice none 0 0] 32)).heap[w.heap.size + 1]? = some (.cells #[.int .i64 0, .int .i64 0, .slice none 0 0, .int .i64 0, .int .i64 0, .bool false, .int .i64 0, .int .i64 0, .int .i64 0, .int .i64 0, .int .i64 0, .int .i64 0, .slice none 0 0, .int .i64 0, .int .i64 0, .int .i64 0, .int .i64 0, .int .i64 0, .int .i64 0, .int .i32 0, .string ⟨#[]⟩, .slice none 0 0] 32 (0, 0)) := by
    have h := heap_alloc_new (w.alloc (.cells (scrA s (.slice ca s.cs.length cc) (.slice ta s.tabs.length tc) (.slice ga s.gone.length gc)) 32)) (.cells #[.int .i64 0, .int .i64 0, .slice none 0 0, .int .i64 0, .int .i64 0, .bool false, .int .i64 0, .int .i64 0, .int .i64 0, .int .i64 0, .int .i64 0, .int .i64 0, .slice none 0 0, .int .i64 0, .int .i64 0, .int .i64 0, .int .i64 0, .int .i64 0, .int .i64 0, .int .i32 0, .string ⟨#[]⟩, .slice none 0 0] 32)
    have e : (w.alloc (.cells (scrA s (.slice ca s.cs.length cc) (.slice ta s.tabs.length tc) (.slice ga s.gone.length gc)) 32)).heap.size = w.heap.size + 1 := by simp
    rw [e] at h
    exact h
  have HX0 : Hid _ := hx0
  have HXR : Hid _ := hx1
  have HKB : Hid _ := hkb
  have HC := hC _ hkb
  have q1 := cell_stay hkb h1
  have q2 := cell_stay hkb h2
  have hsz : w.heap.size ≤ ((w.alloc (.cells (scrA s (.slice ca s.cs.length cc) (.slice ta s.tabs.length tc) (.slice ga s.gone.length gc)) 32)).alloc (.cells #[.int .i64 0, .int .i64 0, .slice none 0 0, .int .i64 0, .int .i64 0, .bool false, .int .i64 0, .int .i64 0, .int .i64 0, .int .i64 0, .int .i64 0, .int .i64 0, .slice none 0 0, .int .i64 0, .int .i64 0, .int .i64 0, .int .i64 0, .int .i64 0, .int .i64 0, .int .i32 0, .string ⟨#[]⟩, .slice none 0 0] 32)).heap.size := hkb.size
  clear hkb hV hC hx0 hx1 h1 h2
  go_enter Tryz.func18, Tryz.ntmps18
  go_upto_region 1 with fail
  generalize ((w.alloc (.cells (scrA s (.slice ca s.cs.length cc) (.slice ta s.tabs.length tc) (.slice ga s.gone.length gc)) 32)).alloc (.cells #[.int .i64 0, .int .i64 0, .slice none 0 0, .int .i64 0, .int .i64 0, .bool false, .int .i64 0, .int .i64 0, .int .i64 0, .int .i64 0, .int .i64 0, .int .i64 0, .slice none 0 0, .int .i64 0, .int .i64 0, .int .i64 0, .int .i64 0, .int .i64 0, .int .i64 0, .int .i32 0, .string ⟨#[]⟩, .slice none 0 0] 32)) = X at *
  go_wp2_with (refine wpList_load_row rfl 32 (.tmp 3) rfl w.heap.size rfl _ _ _ _ HX0.out Tryz.underlying32 rfl (by kernel_rfl) ?_)
  refine HC.mono ?_
  rintro e V ⟨cv', tv', gv', rfl, hO, c2⟩
  obtain ⟨a1, n1, c1, a2, n2, c2', a3, n3, c3, rfl, rfl, rfl⟩ := hO.shapes
  have HO : Hid (ScrO V 0 _ s' _ _ _) := hO
  have HR : Hid (V.heap[w.heap.size + 1]? = _) := Grd.carry HXR.out c2
  have HB : Hid (Below w.heap.size w V) := HKB.out.trans (c2.mono HKB.out.size)
  clear hO c2 HC q1 q2
  go_wp2_with (refine wpList_store_row rfl 32 (.tmp 4) (.tmp 10) rfl (w.heap.size + 1) (scrA s' (.slice a1 n1 c1) (.slice a2 n2 c2') (.slice a3 n3 c3)) rfl rfl _ _ HR.out (by kernel_rfl) rfl (scr_one _ _ _ _ _ _ _ _ _ _) ?_)
  (try simp only [Exit.inBlock, Exit.then])
  refine bodyPost_ret (v := .tuple #[.agg (scrA s' (.slice a1 n1 c1) (.slice a2 n2 c2') (.slice a3 n3 c3)), .int .i64 er]) ?_ rfl ⟨_, _, _, rfl, ?_, below_setRow HB.out (by omega) _⟩
  · exact Grd.results_row_tmp rfl _ _ (w.heap.size + 1) _ _ _ _ rfl (setRow_heap _ _ _ _ _ _ HR.out) Tryz.underlying32 rfl (by kernel_rfl) _ rfl
  · exact (ScrO.off HO.out HR.out screen_is (by omega) fun k hk => setRow_other _ _ _ _ hk).mono hsz
theorem set_law (s : Scr) (cv tv gv : Value) (y : Int) (x : Bool) (B1 B2 : Nat) (w : World) (hT : Txt.Tab w) (hV : ScrV w s cv tv gv) (hB : Bulk s) (h1 : w.cell? ⟨B1, 0, none⟩ = some (.int .i64 y)) (h2 : w.cell? ⟨B2, 0, none⟩ = some (.bool x)) :
    Calls Tryz.prog 12 #[.agg (scrA s cv tv gv), .func (.func 18) #[] #[.pointer (some ⟨B1, 0, none⟩), .pointer (some ⟨B2, 0, none⟩)], .string (if x then ⟨#[115, 101, 116]⟩ else ⟨#[99, 108, 101, 97, 114]⟩), .int .i64 y, .int .i64 0] w fun e w' => e = .returned (.bool true) ∧ Below w.heap.size w w' :=
  acts_any s cv tv gv _ plainF_set _ _ y 0 w hT hV hB (setS s (bits .and .i64 y 63) x) (fun hz w0 W cv' tv' gv' hb hm => set1_calls s zScr cv' tv' gv' y x B1 B2 _ w0 W hm.v hm.b.size (cell_stay (hb.trans (hm.b.mono hb.size)) h1) (cell_stay (hb.trans (hm.b.mono hb.size)) h2) fun _ hV' => mset_bad (hm.next hV') hz y x) fun _ _ hR =>
    ⟨fun w0 W cv' tv' gv' hb hm => set1_calls s _ cv' tv' gv' y x B1 B2 _ w0 W hm.v hm.b.size (cell_stay (hb.trans (hm.b.mono hb.size)) h1) (cell_stay (hb.trans (hm.b.mono hb.size)) h2) fun _ hV' => mset_any (hm.next hV') hR y x, mset_agree hR y 0 x⟩
theorem save_law (s : Scr) (cv tv gv : Value) (w : World) (hT : Txt.Tab w) (hV : ScrV w s cv tv gv) (hB : Bulk s) :
    Calls Tryz.prog 12 #[.agg (scrA s cv tv gv), .func (.func 20) #[] #[], .string ⟨#[115, 97, 118, 101]⟩, .int .i64 0, .int .i64 0] w fun e w' => e = .returned (.bool true) ∧ Below w.heap.size w w' :=
  acts_any s cv tv gv _ plainF_save #[] _ 0 0 w hT hV hB (saveS s) (fun hz _ _ _ _ _ _ hm => save_bad hm hz) fun _ _ hR => ⟨fun _ _ _ _ _ _ hm => save_any hm hR, save_agree hR 0 0⟩
theorem rest_law (s : Scr) (cv tv gv : Value) (w : World) (hT : Txt.Tab w) (hV : ScrV w s cv tv gv) (hB : Bulk s) :
    Calls Tryz.prog 12 #[.agg (scrA s cv tv gv), .func (.func 21) #[] #[], .string ⟨#[114, 101, 115, 116, 111, 114, 101]⟩, .int .i64 0, .int .i64 0] w fun e w' => e = .returned (.bool true) ∧ Below w.heap.size w w' :=
  acts_any s cv tv gv _ plainF_rest #[] _ 0 0 w hT hV hB (restS s) (fun hz _ _ _ _ _ _ hm => rest_bad hm hz) fun _ _ hR => ⟨fun _ _ _ _ _ _ hm => rest_any hm hR, rest_agree hR 0 0⟩
set_option maxHeartbeats 4000000 in
set_option maxRecDepth 100000 in
theorem modeSet_walk (s : Scr) (cv tv gv : Value) (a : Int) (on : Bool) (w : World) (hT : Txt.Tab w) (hV : ScrV w s cv tv gv) (hB : Bulk s) :
    Calls Tryz.prog 6 #[.agg (scrA s cv tv gv), .int .i64 a, .bool on] w fun e w' => e = .returned (.bool true) ∧ Below w.heap.size w w' := by
  have HC1 : Hid (∀ W B1 B2, Below w.heap.size w W → W.cell? ⟨B1, 0, none⟩ = some (.int .i64 a) → W.cell? ⟨B2, 0, none⟩ = some (.bool on) → Calls Tryz.prog 12 #[.agg (scrA s cv tv gv), .func (.func 18) #[] #[.pointer (some ⟨B1, 0, none⟩), .pointer (some ⟨B2, 0, none⟩)], .string (if on then ⟨#[115, 101, 116]⟩ else ⟨#[99, 108, 101, 97, 114]⟩), .int .i64 a, .int .i64 0] W fun e w' => e = .returned (.bool true) ∧ Below W.heap.size W w') := fun W B1 B2 h h1 h2 => set_law s cv tv gv a on B1 B2 W (Grd.Tab.next hT h) (hV.next h) hB h1 h2
  have HC2 : Hid (∀ W, Below w.heap.size w W → Calls Tryz.prog 12 #[.agg (scrA s cv tv gv), .func (.func 20) #[] #[], .string ⟨#[115, 97, 118, 101]⟩, .int .i64 0, .int .i64 0] W fun e w' => e = .returned (.bool true) ∧ Below W.heap.size W w') := fun W h => save_law s cv tv gv W (Grd.Tab.next hT h) (hV.next h) hB
  have HC3 : Hid (∀ W, Below w.heap.size w W → Calls Tryz.prog 12 #[.agg (scrA s cv tv gv), .func (.func 21) #[] #[], .string ⟨#[114, 101, 115, 116, 111, 114, 101]⟩, .int .i64 0, .int .i64 0] W fun e w' => e = .returned (.bool true) ∧ Below W.heap.size W w') := fun W h => rest_law s cv tv gv W (Grd.Tab.next hT h) (hV.next h) hB
  obtain ⟨ca, cc, rfl⟩ := hV.c.shape
  obtain ⟨ta, tc, rfl⟩ := hV.t.slice
  obtain ⟨ga, gc, rfl⟩ := hV.g.slice
  have hkb : Below w.heap.size w (((w.alloc (.cells (scrA s (.slice ca s.cs.length cc) (.slice ta s.tabs.length tc) (.slice ga s.gone.length gc)) 32)).alloc (.cells #[.int .i64 a] 3)).alloc (.cells #[.bool on] 4)) := ((((Below.refl _ _).alloc (by simp) _).alloc (by simp) _).alloc (by simp; omega) _)
  have hx0 : (w.alloc (.cells (scrA s (.slice ca s.cs.length cc) (.slice ta s.tabs.length tc) (.slice ga s.gone.length gc)) 32)).heap[w.heap.size]? = some (.cells (scrA s (.slice ca s.cs.length cc) (.slice ta s.tabs.length tc) (.slice ga s.gone.length gc)) 32 (0, 0)) := by
    have h := heap_alloc_new w (.cells (scrA s (.slice ca s.cs.length cc) (.slice ta s.tabs.length tc) (.slice ga s.gone.length gc)) 32)
    have e : w.heap.size = w.heap.size := by simp
    rw [e] at h
    exact h
  have hx0 := (Below.heap_alloc (w.alloc (.cells (scrA s (.slice ca s.cs.length cc) (.slice ta s.tabs.length tc) (.slice ga s.gone.length gc)) 32)) (.cells #[.int .i64 a] 3) _ (heap_lt hx0)).trans hx0
  have hx0 := (Below.heap_alloc ((w.alloc (.cells (scrA s (.slice ca s.cs.length cc) (.slice ta s.tabs.length tc) (.slice ga s.gone.length gc)) 32)).alloc (.cells #[.int .i64 a] 3)) (.cells #[.bool on] 4) _ (heap_lt hx0)).trans hx0
  have hx1 : ((w.alloc (.cells (scrA s (.slice ca s.cs.length cc) (.slice ta s.tabs.length tc) (.slice ga s.gone.length gc)) 32)).alloc (.cells #[.int .i64 a] 3)).heap[w.heap.size + 1]? = some (.cells #[.int .i64 a] 3 (0, 0)) := by
    have h := heap_alloc_new (w.alloc (.cells (scrA s (.slice ca s.cs.length cc) (.slice ta s.tabs.length tc) (.slice ga s.gone.length gc)) 32)) (.cells #[.int .i64 a] 3)
    have e : (w.alloc (.cells (scrA s (.slice ca s.cs.length cc) (.slice ta s.tabs.length tc) (.slice ga s.gone.length gc)) 32)).heap.size = w.heap.size + 1 := by simp
    rw [e] at h
    exact h
  have hx1 := (Below.heap_alloc ((w.alloc (.cells (scrA s (.slice ca s.cs.length cc) (.slice ta s.tabs.length tc) (.slice ga s.gone.length gc)) 32)).alloc (.cells #[.int .i64 a] 3)) (.cells #[.bool on] 4) _ (heap_lt hx1)).trans hx1
  have hx2 : (((w.alloc (.cells (scrA s (.slice ca s.cs.length cc) (.slice ta s.tabs.length tc) (.slice ga s.gone.length gc)) 32)).alloc (.cells #[.int .i64 a] 3)).alloc (.cells #[.bool on] 4)).heap[w.heap.size + 2]? = some (.cells #[.bool on] 4 (0, 0)) := by
    have h := heap_alloc_new ((w.alloc (.cells (scrA s (.slice ca s.cs.length cc) (.slice ta s.tabs.length tc) (.slice ga s.gone.length gc)) 32)).alloc (.cells #[.int .i64 a] 3)) (.cells #[.bool on] 4)
    have e : ((w.alloc (.cells (scrA s (.slice ca s.cs.length cc) (.slice ta s.tabs.length tc) (.slice ga s.gone.length gc)) 32)).alloc (.cells #[.int .i64 a] 3)).heap.size = w.heap.size + 2 := by simp
    rw [e] at h
    exact h
  have HX0 : Hid _ := hx0
  have HKB : Hid _ := hkb
  have q1 := cell_box hx1
  have q2 := cell_box hx2
  clear hkb hV hx0 hx1 hx2 hT hB
  cases on with
  | true =>
    go_enter Tryz.func6, Tryz.ntmps6
    go_upto_region 5 with fail
    generalize (((w.alloc (.cells (scrA s (.slice ca s.cs.length cc) (.slice ta s.tabs.length tc) (.slice ga s.gone.length gc)) 32)).alloc (.cells #[.int .i64 a] 3)).alloc (.cells #[.bool true] 4)) = X at *
    have HQ1 : Hid _ := q1
    have HQ2 : Hid _ := q2
    go_wp2_with (refine wpList_load_row rfl 32 (.tmp 3) rfl w.heap.size rfl _ _ _ _ HX0.out Tryz.underlying32 rfl (by kernel_rfl) ?_)
    refine (HC1.out _ _ _ HKB.out HQ1.out HQ2.out).mono ?_
    rintro e V1 ⟨rfl, b1⟩
    have HB1 : Hid (Below w.heap.size w V1) := HKB.out.trans (b1.mono HKB.out.size)
    have HX1 : Hid (V1.heap[w.heap.size]? = _) := Grd.carry HX0.out b1
    clear b1 q1 q2 HQ1 HQ2
    go_wp2_with (refine BigFrame.wpList_want rfl fun K hK => wp_load_row 32 (.tmp 3) rfl w.heap.size rfl _ _ _ _ HX1.out Tryz.underlying32 rfl (by kernel_rfl) (hK _ _ ?_))
    refine (HC2.out _ HB1.out).mono ?_
    rintro e V2 ⟨rfl, b2⟩
    have HB2 : Hid (Below w.heap.size w V2) := HB1.out.trans (b2.mono HB1.out.size)
    have HX2 : Hid (V2.heap[w.heap.size]? = _) := Grd.carry HX1.out b2
    clear b2
    go_wp2_with (refine BigFrame.wpList_want rfl fun K hK => wp_load_row 32 (.tmp 3) rfl w.heap.size rfl _ _ _ _ HX2.out Tryz.underlying32 rfl (by kernel_rfl) (hK _ _ ?_))
    refine (HC3.out _ HB2.out).mono ?_
    rintro e V3 ⟨rfl, b3⟩
    have HB3 : Hid (Below w.heap.size w V3) := HB2.out.trans (b3.mono HB2.out.size)
    clear b3
    go_wp2_with fail
    go_ret
    exact ⟨rfl, HB3.out⟩
  | false =>
    go_enter Tryz.func6, Tryz.ntmps6
    go_upto_region 5 with fail
    generalize (((w.alloc (.cells (scrA s (.slice ca s.cs.length cc) (.slice ta s.tabs.length tc) (.slice ga s.gone.length gc)) 32)).alloc (.cells #[.int .i64 a] 3)).alloc (.cells #[.bool false] 4)) = X at *
    have HQ1 : Hid _ := q1
    have HQ2 : Hid _ := q2
    go_wp2_with (refine wpList_load_row rfl 32 (.tmp 3) rfl w.heap.size rfl _ _ _ _ HX0.out Tryz.underlying32 rfl (by kernel_rfl) ?_)
    refine (HC1.out _ _ _ HKB.out HQ1.out HQ2.out).mono ?_
    rintro e V1 ⟨rfl, b1⟩
    have HB1 : Hid (Below w.heap.size w V1) := HKB.out.trans (b1.mono HKB.out.size)
    have HX1 : Hid (V1.heap[w.heap.size]? = _) := Grd.carry HX0.out b1
    clear b1 q1 q2 HQ1 HQ2
    go_wp2_with (refine BigFrame.wpList_want rfl fun K hK => wp_load_row 32 (.tmp 3) rfl w.heap.size rfl _ _ _ _ HX1.out Tryz.underlying32 rfl (by kernel_rfl) (hK _ _ ?_))
    refine (HC2.out _ HB1.out).mono ?_
    rintro e V2 ⟨rfl, b2⟩
    have HB2 : Hid (Below w.heap.size w V2) := HB1.out.trans (b2.mono HB1.out.size)
    have HX2 : Hid (V2.heap[w.heap.size]? = _) := Grd.carry HX1.out b2
    clear b2
    go_wp2_with (refine BigFrame.wpList_want rfl fun K hK => wp_load_row 32 (.tmp 3) rfl w.heap.size rfl _ _ _ _ HX2.out Tryz.underlying32 rfl (by kernel_rfl) (hK _ _ ?_))
    refine (HC3.out _ HB2.out).mono ?_
    rintro e V3 ⟨rfl, b3⟩
    have HB3 : Hid (Below w.heap.size w V3) := HB2.out.trans (b3.mono HB2.out.size)
    clear b3
    go_wp2_with fail
    go_ret
    exact ⟨rfl, HB3.out⟩
end Put
end Go.Proofs.YtnkeahfcpbepjaaGreatDoor

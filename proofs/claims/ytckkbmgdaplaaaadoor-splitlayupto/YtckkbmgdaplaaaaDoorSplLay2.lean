/- Package split: Least and Lay. (Written by gen_spllay2.py.) -/
import Derived.Test.YtckkbmgdaplaaaaDoorSplLay
import Derived.Test.YtckkbmgdaplaaaaDoorSplChk3
namespace Go.Proofs.YtckkbmgdaplaaaaDoor
open Go.ChangeShapes Go.WideShapes Go.ChangeAt Go.RowKit Go.Maps
namespace Spl
open Fo
/-- What is right of a tree that is a split. -/
theorem chk_ok {wy pn sz : Int} {ks : Fo} (h : (chk (cons wy pn sz ks nil)).1 = 0) : (wy = 0 ∨ ((wy = 1 ∨ wy = 2) ∧ ks ≠ nil)) ∧ Ok ks := by
  have := chkF_sz _ _ _ h
  exact ⟨this.2.1, this.2.2.1⟩
set_option maxHeartbeats 4000000 in
set_option maxRecDepth 100000 in
theorem Least_bad (wy pn sz : Int) (ks : Fo) (kv : Value) (w : World) (hk : KAt w kv ks) (hcnt : ks.cnt ≤ 2000000) (hc : (chk (cons wy pn sz ks nil)).1 ≠ 0) :
    Calls Tryd.prog 11 #[.agg #[.int .i64 wy, .int .i64 pn, .int .i64 sz, kv]] w fun e w' => e = .returned (.tuple #[.int .i64 0, .int .i64 0, .int .i64 (chk (cons wy pn sz ks nil)).1]) ∧ Below w.heap.size w w' := by
  have kb : Below w.heap.size w (w.alloc (.cells #[.int .i64 wy, .int .i64 pn, .int .i64 sz, kv] 24)) := (Below.refl _ _).alloc (Nat.le_refl _) _
  have xb := heap_alloc_new w (.cells #[.int .i64 wy, .int .i64 pn, .int .i64 sz, kv] 24)
  have HC := check_any wy pn sz ks kv _ (kat_below hk kb) hcnt
  obtain ⟨er, her⟩ : ∃ er, (chk (cons wy pn sz ks nil)).1 = er := ⟨_, rfl⟩
  rw [her] at HC hc ⊢
  have ie : (er == 0) = false := beq_eq_false_iff_ne.2 hc
  clear her hk
  go_enter Tryd.func11, Tryd.ntmps11
  go_wp2_with fail
  refine HC.mono ?_
  rintro e W ⟨rfl, b⟩
  go_wp2_with fail
  go_ret3
  exact ⟨rfl, kb.trans (b.mono kb.size)⟩
set_option maxHeartbeats 4000000 in
set_option maxRecDepth 100000 in
theorem Least_good (wy pn sz : Int) (ks : Fo) (kv : Value) (w : World) (hk : KAt w kv ks) (hcnt : ks.cnt ≤ 2000000) (hc : (chk (cons wy pn sz ks nil)).1 = 0) :
    Calls Tryd.prog 11 #[.agg #[.int .i64 wy, .int .i64 pn, .int .i64 sz, kv]] w fun e w' => e = .returned (.tuple #[.int .i64 ((ls wy ks).1 : Nat), .int .i64 ((ls wy ks).2 : Nat), .int .i64 0]) ∧ Below w.heap.size w w' := by
  have kb : Below w.heap.size w (w.alloc (.cells #[.int .i64 wy, .int .i64 pn, .int .i64 sz, kv] 24)) := (Below.refl _ _).alloc (Nat.le_refl _) _
  have xb := heap_alloc_new w (.cells #[.int .i64 wy, .int .i64 pn, .int .i64 sz, kv] 24)
  have HC := check_any wy pn sz ks kv _ (kat_below hk kb) hcnt
  rw [hc] at HC
  obtain ⟨h1, h2⟩ := chk_ok hc
  have HL := fun V (hV : KAt V kv ks) => leastN_any wy pn sz ks kv V hcnt (h1.imp id And.right) (Ok.rt ks h2) hV
  have HK : Hid (∀ V, Below w.heap.size w V → KAt V kv ks) := fun V hV => kat_below hk hV
  clear hk hc h1 h2
  go_enter Tryd.func11, Tryd.ntmps11
  go_wp2_with fail
  refine HC.mono ?_
  rintro e W ⟨rfl, b⟩
  have k1 := kb.trans (b.mono kb.size)
  have x1 := (b.block _ (Array.getElem?_eq_some_iff.1 xb).1).trans xb
  obtain ⟨⟨c0, c1, c2, c3⟩, _⟩ := four_at x1
  clear HC xb kb x1
  go_wp2_with fail
  refine (HL _ (HK.out _ k1)).mono ?_
  rintro e W2 ⟨rfl, b2⟩
  go_wp2_with fail
  go_ret3
  exact ⟨rfl, k1.trans (b2.mono k1.size)⟩
set_option maxHeartbeats 4000000 in
set_option maxRecDepth 100000 in
theorem Lay_bad (wy pn sz : Int) (ks : Fo) (kv : Value) (W H : Int) (w : World) (hk : KAt w kv ks) (hcnt : ks.cnt ≤ 2000000) (hc : (chk (cons wy pn sz ks nil)).1 ≠ 0) :
    Calls Tryd.prog 12 #[.agg #[.int .i64 wy, .int .i64 pn, .int .i64 sz, kv], .int .i64 W, .int .i64 H] w fun e w' => e = .returned (.tuple #[.slice none 0 0, .int .i64 (chk (cons wy pn sz ks nil)).1]) ∧ Below w.heap.size w w' := by
  have kb : Below w.heap.size w (w.alloc (.cells #[.int .i64 wy, .int .i64 pn, .int .i64 sz, kv] 24)) := (Below.refl _ _).alloc (Nat.le_refl _) _
  have xb := heap_alloc_new w (.cells #[.int .i64 wy, .int .i64 pn, .int .i64 sz, kv] 24)
  have HC := Least_bad wy pn sz ks kv _ (kat_below hk kb) hcnt hc
  obtain ⟨er, her⟩ : ∃ er, (chk (cons wy pn sz ks nil)).1 = er := ⟨_, rfl⟩
  rw [her] at HC hc ⊢
  have ie : (er == 0) = false := beq_eq_false_iff_ne.2 hc
  clear her hk
  go_enter Tryd.func12, Tryd.ntmps12
  go_wp2_with fail
  refine HC.mono ?_
  rintro e W2 ⟨rfl, b⟩
  go_wp2_with fail
  go_ret2
  exact ⟨rfl, kb.trans (b.mono kb.size)⟩
set_option maxHeartbeats 4000000 in
set_option maxRecDepth 100000 in
theorem Lay_good (wy pn sz : Int) (ks : Fo) (kv : Value) (W H : Int) (w : World) (hk : KAt w kv ks) (hcnt : ks.cnt ≤ 2000000) (hc : (chk (cons wy pn sz ks nil)).1 = 0) (hW0 : ((ls wy ks).1 : Int) ≤ W) (hW1 : W ≤ 120) (hH0 : ((ls wy ks).2 : Int) ≤ H) (hH1 : H ≤ 60) :
    Calls Tryd.prog 12 #[.agg #[.int .i64 wy, .int .i64 pn, .int .i64 sz, kv], .int .i64 W, .int .i64 H] w fun e w' => ∃ v, e = .returned (.tuple #[v, .int .i64 0]) ∧ OwnP w' w.heap.size v (layT wy pn ks 0 0 W H) ∧ Below w.heap.size w w' := by
  have kb : Below w.heap.size w (w.alloc (.cells #[.int .i64 wy, .int .i64 pn, .int .i64 sz, kv] 24)) := (Below.refl _ _).alloc (Nat.le_refl _) _
  have xb := heap_alloc_new w (.cells #[.int .i64 wy, .int .i64 pn, .int .i64 sz, kv] 24)
  have HC := Least_good wy pn sz ks kv _ (kat_below hk kb) hcnt hc
  obtain ⟨h1, h2⟩ := chk_ok hc
  have HL := fun V (hV : KAt V kv ks) => lay_any (ks.cnt + 1) wy pn sz ks kv 0 0 W H V (Nat.lt_succ_self _) hcnt h1 h2 hV hW0 hH0 (Int.le_refl _) (by omega) (Int.le_refl _) (by omega)
  have HK : Hid (∀ V, Below w.heap.size w V → KAt V kv ks) := fun V hV => kat_below hk hV
  have i1 : ¬ W < ((ls wy ks).1 : Int) := by omega
  have i2 : ¬ 120 < W := by omega
  have i3 : ¬ H < ((ls wy ks).2 : Int) := by omega
  have i4 : ¬ 60 < H := by omega
  clear hk hc h1 h2 hW0 hW1 hH0 hH1
  go_enter Tryd.func12, Tryd.ntmps12
  go_wp2_with fail
  refine HC.mono ?_
  rintro e W2 ⟨rfl, b⟩
  have k1 := kb.trans (b.mono kb.size)
  have x1 := (b.block _ (Array.getElem?_eq_some_iff.1 xb).1).trans xb
  obtain ⟨⟨c0, c1, c2, c3⟩, _⟩ := four_at x1
  clear HC xb kb x1 b
  go_wp2_with fail
  refine (HL _ (HK.out _ k1)).mono ?_
  rintro e W3 ⟨v, rfl, o, b2⟩
  go_wp2_with fail
  go_ret2
  exact ⟨_, rfl, o.down k1.size, k1.trans (b2.mono k1.size)⟩
set_option maxHeartbeats 4000000 in
set_option maxRecDepth 100000 in
theorem Lay_size1 (wy pn sz : Int) (ks : Fo) (kv : Value) (W H : Int) (w : World) (hk : KAt w kv ks) (hcnt : ks.cnt ≤ 2000000) (hc : (chk (cons wy pn sz ks nil)).1 = 0) (i1 : W < ((ls wy ks).1 : Int)) :
    Calls Tryd.prog 12 #[.agg #[.int .i64 wy, .int .i64 pn, .int .i64 sz, kv], .int .i64 W, .int .i64 H] w fun e w' => e = .returned (.tuple #[.slice none 0 0, .int .i64 3]) ∧ Below w.heap.size w w' := by
  have kb : Below w.heap.size w (w.alloc (.cells #[.int .i64 wy, .int .i64 pn, .int .i64 sz, kv] 24)) := (Below.refl _ _).alloc (Nat.le_refl _) _
  have xb := heap_alloc_new w (.cells #[.int .i64 wy, .int .i64 pn, .int .i64 sz, kv] 24)
  have HC := Least_good wy pn sz ks kv _ (kat_below hk kb) hcnt hc
  clear hk hc
  go_enter Tryd.func12, Tryd.ntmps12
  go_wp2_with fail
  refine HC.mono ?_
  rintro e W2 ⟨rfl, b⟩
  have k1 := kb.trans (b.mono kb.size)
  have x1 := (b.block _ (Array.getElem?_eq_some_iff.1 xb).1).trans xb
  obtain ⟨⟨c0, c1, c2, c3⟩, _⟩ := four_at x1
  clear HC xb kb x1 b
  go_wp2_with fail
  go_ret2
  exact ⟨rfl, k1⟩
set_option maxHeartbeats 4000000 in
set_option maxRecDepth 100000 in
theorem Lay_size2 (wy pn sz : Int) (ks : Fo) (kv : Value) (W H : Int) (w : World) (hk : KAt w kv ks) (hcnt : ks.cnt ≤ 2000000) (hc : (chk (cons wy pn sz ks nil)).1 = 0) (i1 : ¬ W < ((ls wy ks).1 : Int)) (i2 : 120 < W) :
    Calls Tryd.prog 12 #[.agg #[.int .i64 wy, .int .i64 pn, .int .i64 sz, kv], .int .i64 W, .int .i64 H] w fun e w' => e = .returned (.tuple #[.slice none 0 0, .int .i64 3]) ∧ Below w.heap.size w w' := by
  have kb : Below w.heap.size w (w.alloc (.cells #[.int .i64 wy, .int .i64 pn, .int .i64 sz, kv] 24)) := (Below.refl _ _).alloc (Nat.le_refl _) _
  have xb := heap_alloc_new w (.cells #[.int .i64 wy, .int .i64 pn, .int .i64 sz, kv] 24)
  have HC := Least_good wy pn sz ks kv _ (kat_below hk kb) hcnt hc
  clear hk hc
  go_enter Tryd.func12, Tryd.ntmps12
  go_wp2_with fail
  refine HC.mono ?_
  rintro e W2 ⟨rfl, b⟩
  have k1 := kb.trans (b.mono kb.size)
  have x1 := (b.block _ (Array.getElem?_eq_some_iff.1 xb).1).trans xb
  obtain ⟨⟨c0, c1, c2, c3⟩, _⟩ := four_at x1
  clear HC xb kb x1 b
  go_wp2_with fail
  go_ret2
  exact ⟨rfl, k1⟩
set_option maxHeartbeats 4000000 in
set_option maxRecDepth 100000 in
theorem Lay_size3 (wy pn sz : Int) (ks : Fo) (kv : Value) (W H : Int) (w : World) (hk : KAt w kv ks) (hcnt : ks.cnt ≤ 2000000) (hc : (chk (cons wy pn sz ks nil)).1 = 0) (i1 : ¬ W < ((ls wy ks).1 : Int)) (i2 : ¬ 120 < W) (i3 : H < ((ls wy ks).2 : Int)) :
    Calls Tryd.prog 12 #[.agg #[.int .i64 wy, .int .i64 pn, .int .i64 sz, kv], .int .i64 W, .int .i64 H] w fun e w' => e = .returned (.tuple #[.slice none 0 0, .int .i64 3]) ∧ Below w.heap.size w w' := by
  have kb : Below w.heap.size w (w.alloc (.cells #[.int .i64 wy, .int .i64 pn, .int .i64 sz, kv] 24)) := (Below.refl _ _).alloc (Nat.le_refl _) _
  have xb := heap_alloc_new w (.cells #[.int .i64 wy, .int .i64 pn, .int .i64 sz, kv] 24)
  have HC := Least_good wy pn sz ks kv _ (kat_below hk kb) hcnt hc
  clear hk hc
  go_enter Tryd.func12, Tryd.ntmps12
  go_wp2_with fail
  refine HC.mono ?_
  rintro e W2 ⟨rfl, b⟩
  have k1 := kb.trans (b.mono kb.size)
  have x1 := (b.block _ (Array.getElem?_eq_some_iff.1 xb).1).trans xb
  obtain ⟨⟨c0, c1, c2, c3⟩, _⟩ := four_at x1
  clear HC xb kb x1 b
  go_wp2_with fail
  go_ret2
  exact ⟨rfl, k1⟩
set_option maxHeartbeats 4000000 in
set_option maxRecDepth 100000 in
theorem Lay_size4 (wy pn sz : Int) (ks : Fo) (kv : Value) (W H : Int) (w : World) (hk : KAt w kv ks) (hcnt : ks.cnt ≤ 2000000) (hc : (chk (cons wy pn sz ks nil)).1 = 0) (i1 : ¬ W < ((ls wy ks).1 : Int)) (i2 : ¬ 120 < W) (i3 : ¬ H < ((ls wy ks).2 : Int)) (i4 : 60 < H) :
    Calls Tryd.prog 12 #[.agg #[.int .i64 wy, .int .i64 pn, .int .i64 sz, kv], .int .i64 W, .int .i64 H] w fun e w' => e = .returned (.tuple #[.slice none 0 0, .int .i64 3]) ∧ Below w.heap.size w w' := by
  have kb : Below w.heap.size w (w.alloc (.cells #[.int .i64 wy, .int .i64 pn, .int .i64 sz, kv] 24)) := (Below.refl _ _).alloc (Nat.le_refl _) _
  have xb := heap_alloc_new w (.cells #[.int .i64 wy, .int .i64 pn, .int .i64 sz, kv] 24)
  have HC := Least_good wy pn sz ks kv _ (kat_below hk kb) hcnt hc
  clear hk hc
  go_enter Tryd.func12, Tryd.ntmps12
  go_wp2_with fail
  refine HC.mono ?_
  rintro e W2 ⟨rfl, b⟩
  have k1 := kb.trans (b.mono kb.size)
  have x1 := (b.block _ (Array.getElem?_eq_some_iff.1 xb).1).trans xb
  obtain ⟨⟨c0, c1, c2, c3⟩, _⟩ := four_at x1
  clear HC xb kb x1 b
  go_wp2_with fail
  go_ret2
  exact ⟨rfl, k1⟩
theorem Lay_size (wy pn sz : Int) (ks : Fo) (kv : Value) (W H : Int) (w : World) (hk : KAt w kv ks) (hcnt : ks.cnt ≤ 2000000) (hc : (chk (cons wy pn sz ks nil)).1 = 0) (hs : W < ((ls wy ks).1 : Int) ∨ 120 < W ∨ H < ((ls wy ks).2 : Int) ∨ 60 < H) :
    Calls Tryd.prog 12 #[.agg #[.int .i64 wy, .int .i64 pn, .int .i64 sz, kv], .int .i64 W, .int .i64 H] w fun e w' => e = .returned (.tuple #[.slice none 0 0, .int .i64 3]) ∧ Below w.heap.size w w' := by
  by_cases i1 : W < ((ls wy ks).1 : Int)
  · exact Lay_size1 wy pn sz ks kv W H w hk hcnt hc i1
  by_cases i2 : 120 < W
  · exact Lay_size2 wy pn sz ks kv W H w hk hcnt hc i1 i2
  by_cases i3 : H < ((ls wy ks).2 : Int)
  · exact Lay_size3 wy pn sz ks kv W H w hk hcnt hc i1 i2 i3
  · exact Lay_size4 wy pn sz ks kv W H w hk hcnt hc i1 i2 i3 (by omega)
end Spl
end Go.Proofs.YtckkbmgdaplaaaaDoor

/- Package format: read. -/
import Derived.Test.YtbhoklhcdefabaaDoorFmtBytes
import Derived.Test.YtbhoklhcdefabaaDoorFmtCatch
import Derived.Deep.WholeRow
namespace Go.Proofs.YtbhoklhcdefabaaDoor
open Go.ChangeShapes Go.WideShapes Go.ChangeAt Go.RowKit Go.Maps Go.Sort
namespace Fmt
def rdV : Res → Value
  | .ok o _ => .tuple #[.string ⟨o.toArray⟩, .int .i64 0, .int .i64 0]
  | .bad q => .tuple #[.string ⟨#[]⟩, .int .i64 q, .int .i64 1]
set_option maxHeartbeats 4000000 in
set_option maxRecDepth 100000 in
theorem read_any (t : ByteArray) (iv : Value) (I : List (ByteArray × ByteArray)) (w : World) (hI : ItAt w iv I) (hT : Txt.Tab w) (hs : t.size ≤ 4000) (hsz : ∀ x ∈ I, x.2.size ≤ 4000) (hl : I.length ≤ 20) :
    Calls Tryd.prog 16 #[.string t, iv] w fun e w' => e = .returned (rdV (tx t I 5000 0 0 0)) ∧ Below w.heap.size w w' := by
  obtain ⟨a, c, rfl, hcell⟩ := hI
  have hI : ItAt w (.slice a I.length c) I := ⟨a, c, rfl, hcell⟩
  clear hcell
  have hmf : ∀ (fn : Fn) (first cap : Array Value) (w : World), (Instr.makeFunc fn first cap).run Tryd.prog w = .ok (.func fn first cap) w := fun _ _ _ _ => rfl
  have E : Env w (w.heap.size + 3) (.slice a I.length c) I := ⟨by omega, fun V hV => hI.below hV, fun V hV => hT.below hV hT.pos, hsz, hl⟩
  have HB := bytes_any w (w.heap.size + 3) t (.slice a I.length c) I E hs 5000
  obtain ⟨W3, hW3⟩ : ∃ W3, ((w.alloc (.cells #[.string ⟨#[]⟩] 9)).alloc (.cells #[.int .i64 0] 3)).alloc (.cells #[.int .i64 0] 23) = W3 := ⟨_, rfl⟩
  have h3 : W3.heap.size = w.heap.size + 1 + 1 + 1 := by
    rw [← hW3]
    simp only [World.size_alloc]
  have kb3 : Below w.heap.size w W3 := by
    rw [← hW3]
    exact (((Below.refl _ _).alloc (Nat.le_refl _) _).alloc (by simp only [World.size_alloc]; omega) _).alloc (by simp only [World.size_alloc]; omega) _
  have z0 : W3.heap[w.heap.size]? = some (.cells #[.string ⟨#[]⟩] 9 (0, 0)) := by
    rw [← hW3]
    exact (heap_alloc_old _ _ (by simp only [World.size_alloc]; omega)).trans ((heap_alloc_old _ _ (by simp only [World.size_alloc]; omega)).trans (heap_alloc_new w _))
  have z1 : W3.heap[w.heap.size + 1]? = some (.cells #[.int .i64 0] 3 (0, 0)) := by
    rw [← hW3]
    have := heap_alloc_new (w.alloc (.cells #[.string ⟨#[]⟩] 9)) (.cells #[.int .i64 0] 3)
    simp only [World.size_alloc] at this
    exact (heap_alloc_old _ _ (by simp only [World.size_alloc]; omega)).trans this
  have z2 : W3.heap[w.heap.size + 1 + 1]? = some (.cells #[.int .i64 0] 23 (0, 0)) := by
    rw [← hW3]
    have := heap_alloc_new ((w.alloc (.cells #[.string ⟨#[]⟩] 9)).alloc (.cells #[.int .i64 0] 3)) (.cells #[.int .i64 0] 23)
    simp only [World.size_alloc] at this
    exact this
  have Z := heap_alloc_new W3 (.cells #[.string ⟨#[]⟩, .slice none 0 0, .int .i64 0, .int .i64 0] 69)
  have k4 : Below W3.heap.size W3 (W3.alloc (.cells #[.string t, .slice a I.length c, .int .i64 0, .int .i64 0] 69)) := own_of_below _
  have hR : RdAt (W3.alloc (.cells #[.string t, .slice a I.length c, .int .i64 0, .int .i64 0] 69)) W3.heap.size t (.slice a I.length c) 0 0 := heap_alloc_new W3 _
  have o0 := Fmt.kept z0 k4
  have o1 := Fmt.kept z1 k4
  have o2 := Fmt.kept z2 k4
  have kb := kb3.trans (k4.mono kb3.size)
  obtain ⟨W4, hW4⟩ : ∃ W4, W3.alloc (.cells #[.string t, .slice a I.length c, .int .i64 0, .int .i64 0] 69) = W4 := ⟨_, rfl⟩
  rw [hW4] at hR o0 o1 o2 kb k4
  rw [h3] at hR
  have HW4 : Hid (W3.alloc (.cells #[.string t, .slice a I.length c, .int .i64 0, .int .i64 0] 69) = W4) := hW4
  clear hW4
  have HC := HB 0 0 0 W4 kb hR (Nat.zero_le _) (by omega) (by omega)
  rw [show ends 0 = ⟨#[]⟩ from rfl] at HC
  cases hx : tx t I 5000 0 0 0 with
  | bad q =>
    rw [hx] at HC
    clear hx HB hT hI
    go_enter_defers Tryd.func16, Tryd.ntmps16
    go_wp2_with ((try rw [hW3]); refine wpList_store_row rfl 69 (.tmp 7) (.tmp 11) rfl W3.heap.size #[.string t, .slice a I.length c, .int .i64 0, .int .i64 0] (by rw [h3]; rfl) rfl _ _ Z (by kernel_rfl) rfl (by simp [Value.oneCell']) ?_)
    rw [← h3, World.setRow_alloc_new, HW4.out]
    simp only [h3]
    refine HC.mono ?_
    rintro e W ⟨rfl, b⟩
    go_wp2_with fail
    have p0 := b.kept o0 (by omega)
    have p1 := b.kept o1 (by omega)
    have p2 := b.kept o2 (by omega)
    refine leaves_cons (f := 33) (args := #[.pointer (some ⟨w.heap.size, 0, none⟩), .pointer (some ⟨w.heap.size + 1, 0, none⟩), .pointer (some ⟨w.heap.size + 1 + 1, 0, none⟩)]) (by simp) (by simp [go_sem]) ?_
    refine (catch_panic w.heap.size q _ _ _ _ p0 p1 p2).mono ?_
    rintro e u' w'' ⟨rfl, rfl, r0, r1, r2, b2⟩
    have d0 := one_box r0
    have d1 := one_box r1
    have d2 : w''.cell? ⟨w.heap.size + 1 + 1, 0, none⟩ = _ := one_box r2
    have kf : Below w.heap.size w w'' := (kb.trans (b.below (by omega) kb.size)).trans b2
    clear hmf E z0 z1 z2 Z hR o0 o1 o2 HW4 HC p0 p1 p2 r0 r1 r2 k4 kb kb3
    simp [Leaves, settle, results, Tryd.results16, go_sem, d0, d1, d2, rdV, kf]
  | ok o q =>
    rw [hx] at HC
    clear hx HB hT hI
    go_enter_defers Tryd.func16, Tryd.ntmps16
    go_wp2_with ((try rw [hW3]); refine wpList_store_row rfl 69 (.tmp 7) (.tmp 11) rfl W3.heap.size #[.string t, .slice a I.length c, .int .i64 0, .int .i64 0] (by rw [h3]; rfl) rfl _ _ Z (by kernel_rfl) rfl (by simp [Value.oneCell']) ?_)
    rw [← h3, World.setRow_alloc_new, HW4.out]
    simp only [h3]
    refine HC.mono ?_
    rintro e W ⟨rfl, r, b⟩
    have p0 := b.kept o0 (by omega)
    have p1 := b.kept o1 (by omega)
    have p2 := b.kept o2 (by omega)
    have c0 := one_box p0
    have c1 := one_box p1
    have c2 : W.cell? ⟨w.heap.size + 1 + 1, 0, none⟩ = _ := one_box p2
    have f0 : ∀ i, W.frozen? ⟨w.heap.size, i, none⟩ = false := fun i => by simp [World.frozen?, p0]
    have f1 : ∀ i, W.frozen? ⟨w.heap.size + 1, i, none⟩ = false := fun i => by simp [World.frozen?, p1]
    have f2 : ∀ i, W.frozen? ⟨w.heap.size + 1 + 1, i, none⟩ = false := fun i => by simp [World.frozen?, p2]
    go_wp2_with fail
    have n01 : w.heap.size ≠ w.heap.size + 1 := by omega
    have n02 : w.heap.size ≠ w.heap.size + 1 + 1 := by omega
    have n12 : w.heap.size + 1 ≠ w.heap.size + 1 + 1 := by omega
    have n10 := n01.symm
    have n20 := n02.symm
    have n21 := n12.symm
    have r0 : (((W.setCell ⟨w.heap.size, 0, none⟩ (.string ⟨o.toArray⟩)).setCell ⟨w.heap.size + 1, 0, none⟩ (.int .i64 0)).setCell ⟨w.heap.size + 1 + 1, 0, none⟩ (.int .i64 0)).heap[w.heap.size]? = some (.cells #[.string ⟨o.toArray⟩] 9 (0, 0)) :=
      (RowKit.Below.heap_setCell _ _ _ _ n02).trans ((RowKit.Below.heap_setCell _ _ _ _ n01).trans (heap_setCell_same _ _ _ _ _ _ p0))
    have r1 : (((W.setCell ⟨w.heap.size, 0, none⟩ (.string ⟨o.toArray⟩)).setCell ⟨w.heap.size + 1, 0, none⟩ (.int .i64 0)).setCell ⟨w.heap.size + 1 + 1, 0, none⟩ (.int .i64 0)).heap[w.heap.size + 1]? = some (.cells #[.int .i64 0] 3 (0, 0)) :=
      (RowKit.Below.heap_setCell _ _ _ _ n12).trans (heap_setCell_same _ _ _ _ _ _ ((RowKit.Below.heap_setCell _ _ _ _ n10).trans p1))
    have r2 : (((W.setCell ⟨w.heap.size, 0, none⟩ (.string ⟨o.toArray⟩)).setCell ⟨w.heap.size + 1, 0, none⟩ (.int .i64 0)).setCell ⟨w.heap.size + 1 + 1, 0, none⟩ (.int .i64 0)).heap[w.heap.size + 1 + 1]? = some (.cells #[.int .i64 0] 23 (0, 0)) :=
      heap_setCell_same _ _ _ _ _ _ ((RowKit.Below.heap_setCell _ _ _ _ n21).trans ((RowKit.Below.heap_setCell _ _ _ _ n20).trans p2))
    have k5 := (((kb.trans (b.below (by omega) kb.size)).setCell (p := ⟨w.heap.size, 0, none⟩) (Nat.le_refl _) (.string ⟨o.toArray⟩)).setCell (p := ⟨w.heap.size + 1, 0, none⟩) (Nat.le_succ _) (.int .i64 0)).setCell (p := ⟨w.heap.size + 1 + 1, 0, none⟩) (Nat.le_add_right w.heap.size 2) (.int .i64 0)
    generalize ((W.setCell ⟨w.heap.size, 0, none⟩ (.string ⟨o.toArray⟩)).setCell ⟨w.heap.size + 1, 0, none⟩ (.int .i64 0)).setCell ⟨w.heap.size + 1 + 1, 0, none⟩ (.int .i64 0) = W5 at *
    refine leaves_cons (f := 33) (args := #[.pointer (some ⟨w.heap.size, 0, none⟩), .pointer (some ⟨w.heap.size + 1, 0, none⟩), .pointer (some ⟨w.heap.size + 1 + 1, 0, none⟩)]) (by simp) (by simp [go_sem]) ?_
    refine (catch_idle ⟨w.heap.size, 0, none⟩ ⟨w.heap.size + 1, 0, none⟩ ⟨w.heap.size + 1 + 1, 0, none⟩ W5).mono ?_
    rintro e u' w'' ⟨rfl, rfl, b2⟩
    have d0 := one_box (Fmt.kept r0 b2)
    have d1 := one_box (Fmt.kept r1 b2)
    have d2 := one_box (Fmt.kept r2 b2)
    have kf : Below w.heap.size w w'' := k5.trans (b2.mono k5.size)
    clear hmf E z0 z1 z2 Z hR o0 o1 o2 HW4 HC p0 p1 p2 r0 r1 r2 k4 kb kb3 c0 c1 c2 f0 f1 f2
    simp [Leaves, settle, results, Tryd.results16, go_sem, d0, d1, d2, rdV, kf]
end Fmt
end Go.Proofs.YtbhoklhcdefabaaDoor

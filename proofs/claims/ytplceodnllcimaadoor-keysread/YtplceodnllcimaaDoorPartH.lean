/- The reference's table of sequences, made. (Written by gen_keysrefs.py.) -/
import Derived.Test.YtplceodnllcimaaDoorPartG
import Derived.Lib.SplitLaws
import Derived.Lib.ItoaNum
import Derived.Maps.RangeWalk
import Derived.Test.YtplceodnllcimaaDoorPartF
import Derived.Laws.AppendOwn
import Derived.Lib.ItoaLen
import Derived.Lib.AppendIntMem
import Derived.Lib.SmallJoins
import Derived.Laws.OwnMore
import Derived.Deep.LoopGhost
namespace Go.Proofs.YtplceodnllcimaaDoor
open Go.ChangeShapes Go.WideShapes Go.ChangeAt Go.RowKit Go.Maps
namespace Kys
open Txt (wd bs)
theorem heap_grown {w w' : World} {b j : Nat} {o : Obj} (h : w.heap[j]? = some o) (hg : w.grownBy w' (some b)) (hne : j ≠ b) : w'.heap[j]? = some o :=
  (hg.block j (Array.getElem?_eq_some_iff.1 h).1 (by simp [hne])).trans h
theorem cell_of {w : World} {b i : Nat} {xs : Array Value} {t : TypeId} {f : Nat × Nat} {v : Value} (h : w.heap[b]? = some (.cells xs t f)) (hv : xs[i]? = some v) : w.cell? ⟨b, i, none⟩ = some v := by
  unfold World.cell?
  rw [h]
  exact hv
def S1 (w wr : World) (l : List (Ky × List UInt8)) : Prop := SeqAt wr w.heap.size l ∧ Below w.heap.size w wr ∧ w.heap.size + 1 ≤ wr.heap.size
theorem S1.put {w wr : World} {l : List (Ky × List UInt8)} (h : S1 w wr l) (hn : l.length < 100) (k : Ky) (hk : Wf k) (t : List UInt8) (ht : t.length < 100) :
    ∃ w', Sem.run Tryd.prog (Instr.mapUpdate 70 (.map (some w.heap.size)) (kyv k) (.string (bs t))) wr = .ok () w' ∧ S1 w w' (l ++ [(k, t)]) ∧ wr.grownBy w' (some w.heap.size) := by
  obtain ⟨h1, h2, h3⟩ := h
  obtain ⟨w', hr, hs, hg⟩ := h1.put hn k hk t ht
  exact ⟨w', hr, ⟨hs, h2.grown hg h2.size (fun j hj => by cases hj; exact Nat.le_refl _), Nat.le_trans h3 hg.size⟩, hg⟩
theorem S1.alloc {w wr : World} {l : List (Ky × List UInt8)} (h : S1 w wr l) (o : Obj) : S1 w (wr.alloc o) l := by
  obtain ⟨⟨n, hn, h1⟩, h2, h3⟩ := h
  exact ⟨⟨n, hn, h1.alloc o⟩, h2.alloc h2.size o, by rw [World.size_alloc]; omega⟩
theorem S1.start (w : World) : S1 w (w.alloc (.map #[] 0)) [] := ⟨seq_made w, (Below.refl _ _).alloc (Nat.le_refl _) _, by rw [World.size_alloc]; omega⟩
def c1 : Array Value := #[.int .i64 6, .int .i64 7, .int .i64 8, .int .i64 9, .int .i64 11, .int .i64 10]
def c2 : Array Value := #[.int .i64 11, .int .i64 12, .int .i64 13, .int .i64 14, .int .i64 15, .int .i64 17, .int .i64 18, .int .i64 19, .int .i64 20, .int .i64 21, .int .i64 23, .int .i64 24]
set_option maxHeartbeats 4000000 in
set_option maxRecDepth 100000 in
theorem sequences_any (w : World) : Calls Tryd.prog 41 #[] w fun e w' => e = .returned (.map (some w.heap.size)) ∧ SeqAt w' w.heap.size seqT ∧ Below w.heap.size w w' ∧ w.heap.size < w'.heap.size := by
  have hmm := @run_makeMap Tryd.prog
  go_enter Tryd.func41, Tryd.ntmps41
  go_wp2_with fail
  obtain ⟨W0, hW0⟩ : ∃ W0, (w.alloc (.map #[] 0)).alloc (.cells #[.int .i64 6, .int .i64 7, .int .i64 8, .int .i64 9, .int .i64 11, .int .i64 10] 3) = W0 := ⟨_, rfl⟩
  have hs0 : S1 w W0 (seqT.take 0) := by rw [← hW0]; exact (S1.start w).alloc _
  have z0 : W0.heap[w.heap.size + 1]? = some (.cells #[.int .i64 6, .int .i64 7, .int .i64 8, .int .i64 9, .int .i64 11, .int .i64 10] 3 (0, 0)) := by
    rw [← hW0, show w.heap.size + 1 = (w.alloc (.map #[] 0)).heap.size by simp]
    exact heap_alloc_new _ _
  rw [hW0]
  clear hmm hW0
  go_loopg [9] 6 (fun g v wr => ∃ i : Nat, i ≤ 6 ∧ 6 - i ≤ g ∧ v = .int .i64 (i : Int) ∧ S1 w wr (seqT.take i) ∧ wr.heap[w.heap.size + 1]? = some (.cells #[.int .i64 6, .int .i64 7, .int .i64 8, .int .i64 9, .int .i64 11, .int .i64 10] 3 (0, 0)))
  case atStart => exact ⟨0, Nat.zero_le _, by omega, rfl, hs0, z0⟩
  case round =>
    obtain ⟨i, hi, hg, rfl, hs, hz⟩ := hrel
    have hc := fun j v (h : _ = some v) => cell_of (i := j) hz h
    have h6 : i = 0 ∨ i = 1 ∨ i = 2 ∨ i = 3 ∨ i = 4 ∨ i = 5 ∨ i = 6 := by omega
    clear hs0 z0
    rcases h6 with rfl | rfl | rfl | rfl | rfl | rfl | rfl
    · have c0 := hc 0 _ rfl
      clear hc
      obtain ⟨V, rV, sV, gV⟩ := hs.put (by decide) ⟨6, 0, 0, 0⟩ (by decide) [65] (by decide)
      rw [show kyv ⟨6, 0, 0, 0⟩ = .agg #[.int .i64 6, .int .i32 0, .int .i64 0, .int .i64 0] from rfl, show bs [65] = (⟨#[65, 66, 67, 68, 70, 72]⟩ : ByteArray).extract 0 1 by kernel_rfl] at rV
      go_wp2_with fail
      go_roundg 5
      case measure => omega
      case rel => exact ⟨1, by omega, by omega, by go_num, sV, heap_grown hz gV (by omega)⟩
    · have c0 := hc 1 _ rfl
      clear hc
      obtain ⟨V, rV, sV, gV⟩ := hs.put (by decide) ⟨7, 0, 0, 0⟩ (by decide) [66] (by decide)
      rw [show kyv ⟨7, 0, 0, 0⟩ = .agg #[.int .i64 7, .int .i32 0, .int .i64 0, .int .i64 0] from rfl, show bs [66] = (⟨#[65, 66, 67, 68, 70, 72]⟩ : ByteArray).extract 1 2 by kernel_rfl] at rV
      go_wp2_with fail
      go_roundg 4
      case measure => omega
      case rel => exact ⟨2, by omega, by omega, by go_num, sV, heap_grown hz gV (by omega)⟩
    · have c0 := hc 2 _ rfl
      clear hc
      obtain ⟨V, rV, sV, gV⟩ := hs.put (by decide) ⟨8, 0, 0, 0⟩ (by decide) [67] (by decide)
      rw [show kyv ⟨8, 0, 0, 0⟩ = .agg #[.int .i64 8, .int .i32 0, .int .i64 0, .int .i64 0] from rfl, show bs [67] = (⟨#[65, 66, 67, 68, 70, 72]⟩ : ByteArray).extract 2 3 by kernel_rfl] at rV
      go_wp2_with fail
      go_roundg 3
      case measure => omega
      case rel => exact ⟨3, by omega, by omega, by go_num, sV, heap_grown hz gV (by omega)⟩
    · have c0 := hc 3 _ rfl
      clear hc
      obtain ⟨V, rV, sV, gV⟩ := hs.put (by decide) ⟨9, 0, 0, 0⟩ (by decide) [68] (by decide)
      rw [show kyv ⟨9, 0, 0, 0⟩ = .agg #[.int .i64 9, .int .i32 0, .int .i64 0, .int .i64 0] from rfl, show bs [68] = (⟨#[65, 66, 67, 68, 70, 72]⟩ : ByteArray).extract 3 4 by kernel_rfl] at rV
      go_wp2_with fail
      go_roundg 2
      case measure => omega
      case rel => exact ⟨4, by omega, by omega, by go_num, sV, heap_grown hz gV (by omega)⟩
    · have c0 := hc 4 _ rfl
      clear hc
      obtain ⟨V, rV, sV, gV⟩ := hs.put (by decide) ⟨11, 0, 0, 0⟩ (by decide) [70] (by decide)
      rw [show kyv ⟨11, 0, 0, 0⟩ = .agg #[.int .i64 11, .int .i32 0, .int .i64 0, .int .i64 0] from rfl, show bs [70] = (⟨#[65, 66, 67, 68, 70, 72]⟩ : ByteArray).extract 4 5 by kernel_rfl] at rV
      go_wp2_with fail
      go_roundg 1
      case measure => omega
      case rel => exact ⟨5, by omega, by omega, by go_num, sV, heap_grown hz gV (by omega)⟩
    · have c0 := hc 5 _ rfl
      clear hc
      obtain ⟨V, rV, sV, gV⟩ := hs.put (by decide) ⟨10, 0, 0, 0⟩ (by decide) [72] (by decide)
      rw [show kyv ⟨10, 0, 0, 0⟩ = .agg #[.int .i64 10, .int .i32 0, .int .i64 0, .int .i64 0] from rfl, show bs [72] = (⟨#[65, 66, 67, 68, 70, 72]⟩ : ByteArray).extract 5 6 by kernel_rfl] at rV
      go_wp2_with fail
      go_roundg 0
      case measure => omega
      case rel => exact ⟨6, by omega, by omega, by go_num, sV, heap_grown hz gV (by omega)⟩
    · clear hc hz
      obtain ⟨V1, rV1, sV1, gV1⟩ := hs.put (by decide) ⟨14, 0, 0, 0⟩ (by decide) [51, 126] (by decide)
      rw [show kyv ⟨14, 0, 0, 0⟩ = .agg #[.int .i64 14, .int .i32 0, .int .i64 0, .int .i64 0] from rfl, show bs [51, 126] = ⟨#[51, 126]⟩ by kernel_rfl] at rV1
      obtain ⟨V2, rV2, sV2, gV2⟩ := sV1.put (by decide) ⟨12, 0, 0, 0⟩ (by decide) [53, 126] (by decide)
      rw [show kyv ⟨12, 0, 0, 0⟩ = .agg #[.int .i64 12, .int .i32 0, .int .i64 0, .int .i64 0] from rfl, show bs [53, 126] = ⟨#[53, 126]⟩ by kernel_rfl] at rV2
      obtain ⟨V3, rV3, sV3, gV3⟩ := sV2.put (by decide) ⟨13, 0, 0, 0⟩ (by decide) [54, 126] (by decide)
      rw [show kyv ⟨13, 0, 0, 0⟩ = .agg #[.int .i64 13, .int .i32 0, .int .i64 0, .int .i64 0] from rfl, show bs [54, 126] = ⟨#[54, 126]⟩ by kernel_rfl] at rV3
      go_wp2_with fail
      have hs3 : S1 w (V3.alloc (.cells #[.int .i64 11, .int .i64 12, .int .i64 13, .int .i64 14, .int .i64 15, .int .i64 17, .int .i64 18, .int .i64 19, .int .i64 20, .int .i64 21, .int .i64 23, .int .i64 24] 3)) (seqT.take 9) := S1.alloc sV3 _
      have z3 : (V3.alloc (.cells #[.int .i64 11, .int .i64 12, .int .i64 13, .int .i64 14, .int .i64 15, .int .i64 17, .int .i64 18, .int .i64 19, .int .i64 20, .int .i64 21, .int .i64 23, .int .i64 24] 3)).heap[V3.heap.size]? = some (.cells #[.int .i64 11, .int .i64 12, .int .i64 13, .int .i64 14, .int .i64 15, .int .i64 17, .int .i64 18, .int .i64 19, .int .i64 20, .int .i64 21, .int .i64 23, .int .i64 24] 3 (0, 0)) := heap_alloc_new _ _
      have hne : V3.heap.size ≠ w.heap.size := by have := sV3.2.2; omega
      generalize V3.heap.size = B at *
      clear rV1 rV2 rV3 gV1 gV2 gV3 sV1 sV2 sV3 hs
      generalize V3.alloc (.cells #[.int .i64 11, .int .i64 12, .int .i64 13, .int .i64 14, .int .i64 15, .int .i64 17, .int .i64 18, .int .i64 19, .int .i64 20, .int .i64 21, .int .i64 23, .int .i64 24] 3) = W3 at *
      go_loopg [30] 12 (fun g v wr => ∃ i : Nat, i ≤ 12 ∧ 12 - i ≤ g ∧ v = .int .i64 (i : Int) ∧ S1 w wr (seqT.take (9 + i)) ∧ wr.heap[B]? = some (.cells #[.int .i64 11, .int .i64 12, .int .i64 13, .int .i64 14, .int .i64 15, .int .i64 17, .int .i64 18, .int .i64 19, .int .i64 20, .int .i64 21, .int .i64 23, .int .i64 24] 3 (0, 0)))
      case atStart => exact ⟨0, Nat.zero_le _, by omega, rfl, hs3, z3⟩
      case round =>
        obtain ⟨i, hi, hg, rfl, hs, hz⟩ := hrel
        have hc := fun j v (h : _ = some v) => cell_of (i := j) hz h
        have h6 : i = 0 ∨ i = 1 ∨ i = 2 ∨ i = 3 ∨ i = 4 ∨ i = 5 ∨ i = 6 ∨ i = 7 ∨ i = 8 ∨ i = 9 ∨ i = 10 ∨ i = 11 ∨ i = 12 := by omega
        clear hs3 z3
        rcases h6 with rfl | rfl | rfl | rfl | rfl | rfl | rfl | rfl | rfl | rfl | rfl | rfl | rfl
        · have c0 := hc 0 _ rfl
          clear hc
          have HI := Tryd.strconv_Itoa_small 11 (by omega) wr
          rw [show (Lib.decDigits 11) = [49, 49] by rw [Lib.decDigits_two (by omega) (by omega)]; rfl] at HI
          obtain ⟨V, rV, sV, gV⟩ := hs.put (by decide) ⟨15, 0, 1, 0⟩ (by decide) [49, 49, 126] (by decide)
          rw [show kyv ⟨15, 0, 1, 0⟩ = .agg #[.int .i64 15, .int .i32 0, .int .i64 1, .int .i64 0] from rfl, show bs [49, 49, 126] = (⟨#[49, 49]⟩ ++ ⟨#[126]⟩ : ByteArray) by kernel_rfl] at rV
          go_wp2_with (go_at_call 42; refine HI.mono ?_; rintro e W ⟨rfl, hW⟩; subst hW)
          go_roundg 11
          case measure => omega
          case rel => exact ⟨1, by omega, by omega, by go_num, sV, heap_grown hz gV hne⟩
        · have c0 := hc 1 _ rfl
          clear hc
          have HI := Tryd.strconv_Itoa_small 12 (by omega) wr
          rw [show (Lib.decDigits 12) = [49, 50] by rw [Lib.decDigits_two (by omega) (by omega)]; rfl] at HI
          obtain ⟨V, rV, sV, gV⟩ := hs.put (by decide) ⟨15, 0, 2, 0⟩ (by decide) [49, 50, 126] (by decide)
          rw [show kyv ⟨15, 0, 2, 0⟩ = .agg #[.int .i64 15, .int .i32 0, .int .i64 2, .int .i64 0] from rfl, show bs [49, 50, 126] = (⟨#[49, 50]⟩ ++ ⟨#[126]⟩ : ByteArray) by kernel_rfl] at rV
          go_wp2_with (go_at_call 42; refine HI.mono ?_; rintro e W ⟨rfl, hW⟩; subst hW)
          go_roundg 10
          case measure => omega
          case rel => exact ⟨2, by omega, by omega, by go_num, sV, heap_grown hz gV hne⟩
        · have c0 := hc 2 _ rfl
          clear hc
          have HI := Tryd.strconv_Itoa_small 13 (by omega) wr
          rw [show (Lib.decDigits 13) = [49, 51] by rw [Lib.decDigits_two (by omega) (by omega)]; rfl] at HI
          obtain ⟨V, rV, sV, gV⟩ := hs.put (by decide) ⟨15, 0, 3, 0⟩ (by decide) [49, 51, 126] (by decide)
          rw [show kyv ⟨15, 0, 3, 0⟩ = .agg #[.int .i64 15, .int .i32 0, .int .i64 3, .int .i64 0] from rfl, show bs [49, 51, 126] = (⟨#[49, 51]⟩ ++ ⟨#[126]⟩ : ByteArray) by kernel_rfl] at rV
          go_wp2_with (go_at_call 42; refine HI.mono ?_; rintro e W ⟨rfl, hW⟩; subst hW)
          go_roundg 9
          case measure => omega
          case rel => exact ⟨3, by omega, by omega, by go_num, sV, heap_grown hz gV hne⟩
        · have c0 := hc 3 _ rfl
          clear hc
          have HI := Tryd.strconv_Itoa_small 14 (by omega) wr
          rw [show (Lib.decDigits 14) = [49, 52] by rw [Lib.decDigits_two (by omega) (by omega)]; rfl] at HI
          obtain ⟨V, rV, sV, gV⟩ := hs.put (by decide) ⟨15, 0, 4, 0⟩ (by decide) [49, 52, 126] (by decide)
          rw [show kyv ⟨15, 0, 4, 0⟩ = .agg #[.int .i64 15, .int .i32 0, .int .i64 4, .int .i64 0] from rfl, show bs [49, 52, 126] = (⟨#[49, 52]⟩ ++ ⟨#[126]⟩ : ByteArray) by kernel_rfl] at rV
          go_wp2_with (go_at_call 42; refine HI.mono ?_; rintro e W ⟨rfl, hW⟩; subst hW)
          go_roundg 8
          case measure => omega
          case rel => exact ⟨4, by omega, by omega, by go_num, sV, heap_grown hz gV hne⟩
        · have c0 := hc 4 _ rfl
          clear hc
          have HI := Tryd.strconv_Itoa_small 15 (by omega) wr
          rw [show (Lib.decDigits 15) = [49, 53] by rw [Lib.decDigits_two (by omega) (by omega)]; rfl] at HI
          obtain ⟨V, rV, sV, gV⟩ := hs.put (by decide) ⟨15, 0, 5, 0⟩ (by decide) [49, 53, 126] (by decide)
          rw [show kyv ⟨15, 0, 5, 0⟩ = .agg #[.int .i64 15, .int .i32 0, .int .i64 5, .int .i64 0] from rfl, show bs [49, 53, 126] = (⟨#[49, 53]⟩ ++ ⟨#[126]⟩ : ByteArray) by kernel_rfl] at rV
          go_wp2_with (go_at_call 42; refine HI.mono ?_; rintro e W ⟨rfl, hW⟩; subst hW)
          go_roundg 7
          case measure => omega
          case rel => exact ⟨5, by omega, by omega, by go_num, sV, heap_grown hz gV hne⟩
        · have c0 := hc 5 _ rfl
          clear hc
          have HI := Tryd.strconv_Itoa_small 17 (by omega) wr
          rw [show (Lib.decDigits 17) = [49, 55] by rw [Lib.decDigits_two (by omega) (by omega)]; rfl] at HI
          obtain ⟨V, rV, sV, gV⟩ := hs.put (by decide) ⟨15, 0, 6, 0⟩ (by decide) [49, 55, 126] (by decide)
          rw [show kyv ⟨15, 0, 6, 0⟩ = .agg #[.int .i64 15, .int .i32 0, .int .i64 6, .int .i64 0] from rfl, show bs [49, 55, 126] = (⟨#[49, 55]⟩ ++ ⟨#[126]⟩ : ByteArray) by kernel_rfl] at rV
          go_wp2_with (go_at_call 42; refine HI.mono ?_; rintro e W ⟨rfl, hW⟩; subst hW)
          go_roundg 6
          case measure => omega
          case rel => exact ⟨6, by omega, by omega, by go_num, sV, heap_grown hz gV hne⟩
        · have c0 := hc 6 _ rfl
          clear hc
          have HI := Tryd.strconv_Itoa_small 18 (by omega) wr
          rw [show (Lib.decDigits 18) = [49, 56] by rw [Lib.decDigits_two (by omega) (by omega)]; rfl] at HI
          obtain ⟨V, rV, sV, gV⟩ := hs.put (by decide) ⟨15, 0, 7, 0⟩ (by decide) [49, 56, 126] (by decide)
          rw [show kyv ⟨15, 0, 7, 0⟩ = .agg #[.int .i64 15, .int .i32 0, .int .i64 7, .int .i64 0] from rfl, show bs [49, 56, 126] = (⟨#[49, 56]⟩ ++ ⟨#[126]⟩ : ByteArray) by kernel_rfl] at rV
          go_wp2_with (go_at_call 42; refine HI.mono ?_; rintro e W ⟨rfl, hW⟩; subst hW)
          go_roundg 5
          case measure => omega
          case rel => exact ⟨7, by omega, by omega, by go_num, sV, heap_grown hz gV hne⟩
        · have c0 := hc 7 _ rfl
          clear hc
          have HI := Tryd.strconv_Itoa_small 19 (by omega) wr
          rw [show (Lib.decDigits 19) = [49, 57] by rw [Lib.decDigits_two (by omega) (by omega)]; rfl] at HI
          obtain ⟨V, rV, sV, gV⟩ := hs.put (by decide) ⟨15, 0, 8, 0⟩ (by decide) [49, 57, 126] (by decide)
          rw [show kyv ⟨15, 0, 8, 0⟩ = .agg #[.int .i64 15, .int .i32 0, .int .i64 8, .int .i64 0] from rfl, show bs [49, 57, 126] = (⟨#[49, 57]⟩ ++ ⟨#[126]⟩ : ByteArray) by kernel_rfl] at rV
          go_wp2_with (go_at_call 42; refine HI.mono ?_; rintro e W ⟨rfl, hW⟩; subst hW)
          go_roundg 4
          case measure => omega
          case rel => exact ⟨8, by omega, by omega, by go_num, sV, heap_grown hz gV hne⟩
        · have c0 := hc 8 _ rfl
          clear hc
          have HI := Tryd.strconv_Itoa_small 20 (by omega) wr
          rw [show (Lib.decDigits 20) = [50, 48] by rw [Lib.decDigits_two (by omega) (by omega)]; rfl] at HI
          obtain ⟨V, rV, sV, gV⟩ := hs.put (by decide) ⟨15, 0, 9, 0⟩ (by decide) [50, 48, 126] (by decide)
          rw [show kyv ⟨15, 0, 9, 0⟩ = .agg #[.int .i64 15, .int .i32 0, .int .i64 9, .int .i64 0] from rfl, show bs [50, 48, 126] = (⟨#[50, 48]⟩ ++ ⟨#[126]⟩ : ByteArray) by kernel_rfl] at rV
          go_wp2_with (go_at_call 42; refine HI.mono ?_; rintro e W ⟨rfl, hW⟩; subst hW)
          go_roundg 3
          case measure => omega
          case rel => exact ⟨9, by omega, by omega, by go_num, sV, heap_grown hz gV hne⟩
        · have c0 := hc 9 _ rfl
          clear hc
          have HI := Tryd.strconv_Itoa_small 21 (by omega) wr
          rw [show (Lib.decDigits 21) = [50, 49] by rw [Lib.decDigits_two (by omega) (by omega)]; rfl] at HI
          obtain ⟨V, rV, sV, gV⟩ := hs.put (by decide) ⟨15, 0, 10, 0⟩ (by decide) [50, 49, 126] (by decide)
          rw [show kyv ⟨15, 0, 10, 0⟩ = .agg #[.int .i64 15, .int .i32 0, .int .i64 10, .int .i64 0] from rfl, show bs [50, 49, 126] = (⟨#[50, 49]⟩ ++ ⟨#[126]⟩ : ByteArray) by kernel_rfl] at rV
          go_wp2_with (go_at_call 42; refine HI.mono ?_; rintro e W ⟨rfl, hW⟩; subst hW)
          go_roundg 2
          case measure => omega
          case rel => exact ⟨10, by omega, by omega, by go_num, sV, heap_grown hz gV hne⟩
        · have c0 := hc 10 _ rfl
          clear hc
          have HI := Tryd.strconv_Itoa_small 23 (by omega) wr
          rw [show (Lib.decDigits 23) = [50, 51] by rw [Lib.decDigits_two (by omega) (by omega)]; rfl] at HI
          obtain ⟨V, rV, sV, gV⟩ := hs.put (by decide) ⟨15, 0, 11, 0⟩ (by decide) [50, 51, 126] (by decide)
          rw [show kyv ⟨15, 0, 11, 0⟩ = .agg #[.int .i64 15, .int .i32 0, .int .i64 11, .int .i64 0] from rfl, show bs [50, 51, 126] = (⟨#[50, 51]⟩ ++ ⟨#[126]⟩ : ByteArray) by kernel_rfl] at rV
          go_wp2_with (go_at_call 42; refine HI.mono ?_; rintro e W ⟨rfl, hW⟩; subst hW)
          go_roundg 1
          case measure => omega
          case rel => exact ⟨11, by omega, by omega, by go_num, sV, heap_grown hz gV hne⟩
        · have c0 := hc 11 _ rfl
          clear hc
          have HI := Tryd.strconv_Itoa_small 24 (by omega) wr
          rw [show (Lib.decDigits 24) = [50, 52] by rw [Lib.decDigits_two (by omega) (by omega)]; rfl] at HI
          obtain ⟨V, rV, sV, gV⟩ := hs.put (by decide) ⟨15, 0, 12, 0⟩ (by decide) [50, 52, 126] (by decide)
          rw [show kyv ⟨15, 0, 12, 0⟩ = .agg #[.int .i64 15, .int .i32 0, .int .i64 12, .int .i64 0] from rfl, show bs [50, 52, 126] = (⟨#[50, 52]⟩ ++ ⟨#[126]⟩ : ByteArray) by kernel_rfl] at rV
          go_wp2_with (go_at_call 42; refine HI.mono ?_; rintro e W ⟨rfl, hW⟩; subst hW)
          go_roundg 0
          case measure => omega
          case rel => exact ⟨12, by omega, by omega, by go_num, sV, heap_grown hz gV hne⟩
        · clear hc hz
          go_wp2_with fail
          go_ret
          exact ⟨rfl, hs.1, hs.2.1, hs.2.2⟩
end Kys
end Go.Proofs.YtplceodnllcimaaDoor

/- Plain mathematics: keys, read as the reference reads them. -/
namespace Go.Proofs.YtplceodnllcimaaDoor
namespace Kys
open Txt (dec wd okRune)
def atoiO (l : List UInt8) : Option Int := match Lib.atoiAll l with
  | .ok v => some v
  | _ => none
def numsF : List (List UInt8) → Option (List Int)
  | [] => some []
  | x :: r => match atoiO x with
    | none => none
    | some v => (numsF r).map (v :: ·)
/-- What stands between ; as numbers. -/
def numsR (s : List UInt8) : Option (List Int) := if s = [] then some [] else numsF (Lib.split s [59])
/-- Does this sequence answer to these numbers and this last byte? -/
def hitR (n : List Int) (fin : UInt8) (t : List UInt8) : Bool :=
  decide (t.getD (t.length - 1) 0 = fin) && (if fin = 126 then decide (1 ≤ n.length) && (decide (n.length ≤ 2) && decide (Lib.decDigits (n.getD 0 0).toNat ++ [126] = t)) else decide (n.length = 0) || (decide (n.length = 2) && decide (n.getD 0 0 = 1)))
def keyOfL (s : List UInt8) (fin : UInt8) : Option Ky := match numsR s with
  | none => none
  | some n => if fin = 90 then (if n = [] then some ⟨3, 0, 0, 1⟩ else none)
    else if n.length = 2 ∧ ¬ (1 ≤ n.getD 1 0 ∧ n.getD 1 0 ≤ 8) then none
    else (seqT.find? fun p => hitR n fin p.2).map fun p => { p.1 with held := if n.length = 2 then n.getD 1 0 - 1 else 0 }
theorem index_one (c : UInt8) : ∀ s : List UInt8, Lib.index s [c] = Lib.indexByte s c
  | [] => rfl
  | b :: l => by
    unfold Lib.index Lib.indexByte
    rw [index_one c l]
    simp only [List.isPrefixOf, Bool.and_true]
    by_cases h : c = b
    · subst h; simp
    · have h' : (b == c) = false := by simpa using fun e => h e.symm
      have h2 : (c == b) = false := by simpa using h
      rw [h', h2]
theorem ib_ge (s : List UInt8) (c : UInt8) : -1 ≤ Lib.indexByte s c := Lib.indexByte_ge s c
theorem ib_lt : ∀ (s : List UInt8) (c : UInt8), Lib.indexByte s c < s.length ∨ Lib.indexByte s c = -1
  | [], _ => .inr rfl
  | b :: l, c => by
    unfold Lib.indexByte
    rcases ib_lt l c with h | h
    · split
      · exact .inl (by simp)
      · split
        · exact .inr rfl
        · exact .inl (by simp; omega)
    · split
      · exact .inl (by simp)
      · rw [if_pos (by simpa using h)]; exact .inr rfl
theorem ib_mem : ∀ (s : List UInt8) (c : UInt8), c ∈ s ↔ Lib.indexByte s c ≠ -1
  | [], c => by simp [Lib.indexByte]
  | b :: l, c => by
    unfold Lib.indexByte
    by_cases h : b = c
    · subst h; simp
    · rw [if_neg (by simpa using h), List.mem_cons]
      have ih := ib_mem l c
      by_cases h2 : Lib.indexByte l c = -1
      · rw [if_pos (by simpa using h2)]
        simp only [ne_eq, not_true_eq_false, iff_false]
        rintro (e | e)
        · exact h e.symm
        · exact ih.1 e h2
      · rw [if_neg (by simpa using h2)]
        have := ib_ge l c
        constructor
        · intro _; omega
        · intro _; exact .inr (ih.2 h2)
theorem split_no (s : List UInt8) (h : Lib.indexByte s 59 < 0) : Lib.split s [59] = [s] := by
  have e : Lib.index s [59] = -1 := by rw [index_one]; have := ib_ge s 59; omega
  unfold Lib.split
  rw [Lib.count_miss e]
  rfl
theorem split_yes (s : List UInt8) (h : 0 ≤ Lib.indexByte s 59) : Lib.split s [59] = cutA s :: Lib.split (cutB s) [59] := by
  have e : Lib.index s [59] = ((Lib.indexByte s 59).toNat : Int) := by rw [index_one]; omega
  unfold Lib.split
  rw [Lib.count_hit (by simp) e, Nat.add_comm 1, Lib.splitK]
  rw [if_neg (by rw [e]; simp; omega), e]
  unfold cutA cutB
  rw [if_neg (by omega), if_neg (by omega)]
  rfl
theorem mag_digits : ∀ (l : List UInt8) (acc u : Nat), Lib.parseUint10 acc l = .ok u → ∀ c ∈ l, 48 ≤ c.toNat ∧ c.toNat ≤ 57
  | [], _, _, _, c, hc => by simp at hc
  | a :: r, acc, u, h, c, hc => by
    simp only [Lib.parseUint10] at h
    split at h
    · rename_i ha
      split at h
      · cases h
      · split at h
        · cases h
        · rcases List.mem_cons.1 hc with rfl | hc
          · exact ha
          · exact mag_digits r _ u h c hc
    · cases h
theorem num_head (c : UInt8) (h : isNum c = true) : c.toNat ≠ 43 ∧ c.toNat ≠ 45 := by
  unfold isNum at h
  simp at h
  omega
/-- Of digits and ; alone: what is a number has no ;, and is at least 0. -/
theorem atoi_okn (l : List UInt8) (v : Int) (hn : ∀ c ∈ l, isNum c = true) (h : Lib.atoiAll l = .ok v) : (∀ c ∈ l, c ≠ 59) ∧ 0 ≤ v ∧ l ≠ [] := by
  cases l with
  | nil => simp [Lib.atoiAll] at h
  | cons c r =>
    obtain ⟨h1, h2⟩ := num_head c (hn c (by simp))
    unfold Lib.atoiAll at h
    simp only at h
    rw [if_neg (by omega)] at h
    split at h
    · cases h
    · cases h
    · rename_i u hu
      split at h
      · cases h
      · split at h
        · cases h
        · injection h with h
          unfold Lib.parseMag at hu
          rw [if_neg (by simp)] at hu
          refine ⟨fun d hd e => ?_, by omega, by simp⟩
          have := mag_digits _ _ _ hu d hd
          subst e
          revert this
          decide
theorem nums_some : ∀ (l : List (List UInt8)) (n : List Int), numsF l = some n → n.length = l.length
  | [], n, h => by simp only [numsF, Option.some.injEq] at h; subst h; rfl
  | x :: r, n, h => by
    unfold numsF at h
    split at h
    · cases h
    · cases hr : numsF r with
      | none => rw [hr] at h; cases h
      | some m => rw [hr] at h; simp only [Option.map_some, Option.some.injEq] at h; subst h; simp [nums_some r m hr]
theorem dig_pos (u : Nat) : 1 ≤ (Lib.decDigits u).length := by
  rw [Lib.decDigits]
  split <;> simp
theorem dig_three (u : Nat) (h : 100 ≤ u) : 3 ≤ (Lib.decDigits u).length := by
  rw [Lib.decDigits, dif_neg (by omega), List.length_append, Lib.decDigits, dif_neg (by omega), List.length_append]
  have := dig_pos (u / 10 / 10)
  simp
  omega
theorem seq_short : ∀ p ∈ seqT, p.2.length ≤ 3 := by decide +kernel
def tabF (v : Nat) (h : Int) : Option Ky := if v < 25 ∧ (numT.getD v (0, 0)).1 ≠ 0 then some ⟨(numT.getD v (0, 0)).1, 0, (numT.getD v (0, 0)).2, h⟩ else none
def findN (v : Nat) : Option (Ky × List UInt8) := seqT.find? fun p => decide (Lib.decDigits v ++ [126] = p.2)
theorem find_small : ∀ v ∈ List.range 100, (findN v).map (·.1) = tabF v 0 := by
  have : ∀ v ∈ List.range 100, ((seqT.find? fun p => decide ((if v < 10 then [UInt8.ofNat (48 + v)] else [UInt8.ofNat (48 + v / 10), UInt8.ofNat (48 + v % 10)]) ++ [126] = p.2)).map (·.1)) = tabF v 0 := by decide +kernel
  intro v hv
  rw [← this v hv]
  have hv := List.mem_range.1 hv
  unfold findN
  by_cases h : v < 10
  · rw [Lib.decDigits_one h, if_pos h]
  · rw [Lib.decDigits_two h hv, if_neg h]
theorem find_tab (v : Nat) (h : Int) : (findN v).map (fun p => { p.1 with held := h }) = tabF v h := by
  have e : (findN v).map (·.1) = tabF v 0 := by
    by_cases hv : v < 100
    · exact find_small v (List.mem_range.2 hv)
    · have h3 := dig_three v (by omega)
      have : findN v = none := by
        unfold findN
        rw [List.find?_eq_none]
        intro p hp e
        have := seq_short p hp
        have e := of_decide_eq_true e
        rw [← e, List.length_append] at this
        simp at this
        omega
      rw [this]
      unfold tabF
      rw [if_neg (by omega)]
      rfl
  have : (findN v).map (fun p => ({ p.1 with held := h } : Ky)) = ((findN v).map (·.1)).map (fun k => { k with held := h }) := by rw [Option.map_map]; rfl
  rw [this, e]
  unfold tabF
  split <;> rfl
theorem seq_last : ∀ p ∈ seqT, p.2.getD (p.2.length - 1) 0 = 126 ∨ p.2.getD (p.2.length - 1) 0 ∈ lettersL := by decide +kernel
theorem find_other (n : List Int) (fin : UInt8) (h1 : fin ≠ 126) (h2 : fin ∉ lettersL) : (seqT.find? fun p => hitR n fin p.2) = none := by
  rw [List.find?_eq_none]
  intro p hp h
  unfold hitR at h
  rw [Bool.and_eq_true] at h
  have e := of_decide_eq_true h.1
  rcases seq_last p hp with h3 | h3
  · exact h1 (e.symm.trans h3)
  · rw [e] at h3; exact h2 h3
theorem find_letter : ∀ fin ∈ lettersL, (seqT.find? fun p => decide (p.2.getD (p.2.length - 1) 0 = fin)) = some (⟨6 + Lib.indexByte lettersL fin, 0, 0, 0⟩, [fin]) := by decide +kernel
theorem lett_ne : ∀ fin ∈ lettersL, fin ≠ 126 ∧ fin ≠ 90 ∧ 0 ≤ Lib.indexByte lettersL fin := by decide +kernel
theorem hit_letter (n : List Int) (fin : UInt8) (hf : fin ∈ lettersL) : (seqT.find? fun p => hitR n fin p.2) = if n.length = 0 ∨ n.length = 2 ∧ n.getD 0 0 = 1 then some (⟨6 + Lib.indexByte lettersL fin, 0, 0, 0⟩, [fin]) else none := by
  have h1 := (lett_ne fin hf).1
  split
  · rename_i h
    rw [← find_letter fin hf]
    congr 1
    funext p
    unfold hitR
    rw [if_neg h1]
    have e : (decide (n.length = 0) || (decide (n.length = 2) && decide (n.getD 0 0 = 1))) = true := by
      rcases h with h | ⟨h, h'⟩
      · rw [decide_eq_true h]; rfl
      · rw [decide_eq_true h, decide_eq_true h']; simp
    rw [e, Bool.and_true]
  · rename_i h
    rw [List.find?_eq_none]
    intro p hp e
    unfold hitR at e
    rw [if_neg h1, Bool.and_eq_true] at e
    have := e.2
    simp only [Bool.or_eq_true, Bool.and_eq_true, decide_eq_true_eq] at this
    exact h this
theorem dig_last (v : Nat) : ∀ p ∈ seqT, Lib.decDigits v ++ [126] = p.2 → p.2.getD (p.2.length - 1) 0 = 126 := by
  intro p _ e
  rw [← e]
  simp
theorem hit_number (n : List Int) : (seqT.find? fun p => hitR n 126 p.2) = if 1 ≤ n.length ∧ n.length ≤ 2 then findN (n.getD 0 0).toNat else none := by
  split
  · rename_i h
    unfold findN
    apply Lib.find_congr
    intro p hp
    unfold hitR
    rw [if_pos rfl]
    by_cases hd : Lib.decDigits (n.getD 0 0).toNat ++ [126] = p.2
    · rw [decide_eq_true (dig_last _ p hp hd), decide_eq_true h.1, decide_eq_true h.2, decide_eq_true hd]
      rfl
    · rw [decide_eq_false hd]
      simp
  · rename_i h
    rw [List.find?_eq_none]
    intro p hp e
    unfold hitR at e
    rw [if_pos rfl] at e
    simp only [Bool.and_eq_true, decide_eq_true_eq] at e
    exact h ⟨e.2.1, e.2.2.1⟩
theorem atoiO_some {l : List UInt8} {v : Int} : atoiO l = some v ↔ Lib.atoiAll l = .ok v := by
  unfold atoiO
  split
  · rename_i u hu
    rw [hu]
    constructor
    · intro h; injection h with h; rw [h]
    · intro h; injection h with h; rw [h]
  · rename_i h
    constructor
    · intro h'; cases h'
    · intro h'; exact absurd h' (h v)
theorem heldN_some (l : List UInt8) (v : Int) (h : Lib.atoiAll l = .ok v) : heldN l = if 1 ≤ v ∧ v ≤ 8 then some (v - 1) else none := by
  unfold heldN
  rw [h]
theorem heldN_none (l : List UInt8) (h : atoiO l = none) : heldN l = none := by
  unfold heldN
  split
  · rename_i v hv
    rw [atoiO_some.2 hv] at h
    cases h
  · rfl
theorem withNumber_no (s : List UInt8) (h : atoiO (cutA s) = none) : withNumberL s = none := by
  unfold withNumberL
  split
  · rename_i v hv
    rw [atoiO_some.2 hv] at h
    cases h
  · rfl
theorem withNumber_is (s : List UInt8) (v : Int) (h : Lib.atoiAll (cutA s) = .ok v) (h0 : 0 ≤ v) : withNumberL s = if cutF s = true ∧ heldN (cutB s) = none then none else tabF v.toNat ((heldN (cutB s)).getD 0) := by
  unfold withNumberL tabF
  rw [h]
  simp only
  by_cases hc : cutF s = true ∧ heldN (cutB s) = none
  · rw [if_pos hc, if_neg (fun e => e.2.2 hc)]
  · rw [if_neg hc]
    by_cases hv : v.toNat < 25 ∧ (numT.getD v.toNat (0, 0)).1 ≠ 0
    · rw [if_pos hv, if_pos ⟨by omega, hv.2, hc⟩]
    · rw [if_neg hv, if_neg (fun e => hv ⟨by omega, e.2.1⟩)]
theorem told_empty : ∀ i ∈ List.range 256, keyOfL [] (UInt8.ofNat i) = toldL 91 [] (UInt8.ofNat i) := by
  intro i _
  generalize UInt8.ofNat i = fin
  unfold keyOfL toldL numsR
  rw [if_pos rfl]
  simp only
  by_cases h1 : fin ∈ lettersL
  · obtain ⟨e1, e2, e3⟩ := lett_ne fin h1
    rw [if_neg e2, if_neg (c := ([] : List Int).length = 2 ∧ _) (by simp), hit_letter _ _ h1, if_pos (c := ([] : List Int).length = 0 ∨ _) (by simp), if_pos e3]
    rfl
  · have h2 : ¬ 0 ≤ Lib.indexByte lettersL fin := fun h => h1 ((ib_mem _ _).2 (by omega))
    rw [if_neg h2]
    by_cases h3 : fin = 90
    · subst h3; rfl
    · rw [if_neg h3, if_neg (c := ([] : List Int).length = 2 ∧ _) (by simp)]
      by_cases h4 : fin = 126
      · subst h4
        rw [if_pos rfl, hit_number, if_neg (by simp)]
        rfl
      · rw [if_neg h4, if_neg (c := fin = 90 ∧ _) (fun e => h3 e.1), find_other _ _ h4 h1]
        rfl
theorem keyOf_told (s : List UInt8) (fin : UInt8) (hn : ∀ c ∈ s, isNum c = true) : keyOfL s fin = toldL 91 s fin := by
  by_cases hs : s = []
  · subst hs
    have := told_empty fin.toNat (List.mem_range.2 fin.toNat_lt)
    rwa [UInt8.ofNat_toNat] at this
  · unfold keyOfL toldL numsR
    rw [if_neg hs]
    rw [if_neg (c := fin = 90 ∧ (91 : UInt8) = 91 ∧ s = []) (fun e => hs e.2.2)]
    have hcA : ∀ c ∈ cutA s, isNum c = true := by
      intro c hc
      unfold cutA at hc
      split at hc
      · exact hn c hc
      · exact hn c (List.mem_of_mem_take hc)
    have hcB : ∀ c ∈ cutB s, isNum c = true := by
      intro c hc
      unfold cutB at hc
      split at hc
      · simp at hc
      · exact hn c (List.mem_of_mem_drop hc)
    by_cases hF : Lib.indexByte s 59 < 0
    · rw [split_no s hF]
      have eA : cutA s = s := by unfold cutA; rw [if_pos hF]
      have eB : cutB s = [] := by unfold cutB; rw [if_pos hF]
      have eF : cutF s = false := by unfold cutF; exact decide_eq_false (by omega)
      cases hv : atoiO s with
      | none =>
        simp only [numsF, hv]
        split
        · unfold withLetterL
          rw [if_neg hs, eA, if_neg (fun e => by rw [atoiO_some.2 e] at hv; cases hv)]
        · split
          · rw [withNumber_no s (by rw [eA]; exact hv)]
          · rfl
      | some v =>
        have hv' := atoiO_some.1 hv
        obtain ⟨_, h0, _⟩ := atoi_okn s v hn hv'
        simp only [numsF, hv, Option.map_some]
        by_cases h1 : fin ∈ lettersL
        · obtain ⟨e1, e2, e3⟩ := lett_ne fin h1
          rw [if_neg e2, if_neg (c := [v].length = 2 ∧ _) (by simp), hit_letter _ _ h1, if_neg (c := [v].length = 0 ∨ _) (by simp), if_pos e3]
          unfold withLetterL
          rw [if_neg hs, eB, show heldN [] = none from rfl]
          by_cases hq : Lib.atoiAll (cutA s) = Lib.NumEnd.ok 1
          · rw [if_pos hq]; rfl
          · rw [if_neg hq]; rfl
        · have h2 : ¬ 0 ≤ Lib.indexByte lettersL fin := fun h => h1 ((ib_mem _ _).2 (by omega))
          rw [if_neg h2]
          by_cases h3 : fin = 90
          · subst h3
            rfl
          · rw [if_neg h3, if_neg (c := [v].length = 2 ∧ _) (by simp)]
            by_cases h4 : fin = 126
            · subst h4
              rw [if_pos rfl, hit_number, if_pos (c := 1 ≤ [v].length ∧ _) (by simp), withNumber_is s v (by rw [eA]; exact hv') h0, eF, if_neg (c := false = true ∧ _) (by simp), eB]
              exact find_tab v.toNat 0
            · rw [if_neg h4, find_other _ _ h4 h1]
              rfl
    · rw [split_yes s (by omega)]
      have eF : cutF s = true := by unfold cutF; exact decide_eq_true (by omega)
      cases hv : atoiO (cutA s) with
      | none =>
        simp only [numsF, hv]
        split
        · unfold withLetterL
          rw [if_neg hs, if_neg (fun e => by rw [atoiO_some.2 e] at hv; cases hv)]
        · split
          · rw [withNumber_no s hv]
          · rfl
      | some v =>
        have hv' := atoiO_some.1 hv
        obtain ⟨_, h0, _⟩ := atoi_okn (cutA s) v hcA hv'
        simp only [numsF, hv]
        by_cases hG : Lib.indexByte (cutB s) 59 < 0
        · rw [split_no _ hG]
          cases hu : atoiO (cutB s) with
          | none =>
            have hH := heldN_none _ hu
            simp only [numsF, hu, Option.map_none]
            split
            · unfold withLetterL
              rw [if_neg hs, hH]
              split <;> rfl
            · split
              · rw [withNumber_is s v hv' h0, eF, hH, if_pos ⟨rfl, rfl⟩]
              · rfl
          | some u =>
            have hu' := atoiO_some.1 hu
            have hH := heldN_some _ _ hu'
            simp only [numsF, hu, Option.map_some]
            by_cases h1 : fin ∈ lettersL
            · obtain ⟨e1, e2, e3⟩ := lett_ne fin h1
              rw [if_neg e2, if_pos e3]
              unfold withLetterL
              rw [if_neg hs, hH, hv']
              by_cases hr : 1 ≤ u ∧ u ≤ 8
              · rw [if_neg (c := [v, u].length = 2 ∧ ¬ (1 ≤ [v, u].getD 1 0 ∧ [v, u].getD 1 0 ≤ 8)) (fun e => e.2 hr), hit_letter _ _ h1, if_pos hr]
                by_cases hv1 : v = 1
                · subst hv1
                  rw [if_pos (c := [(1 : Int), u].length = 0 ∨ [(1 : Int), u].length = 2 ∧ [(1 : Int), u].getD 0 0 = 1) (.inr ⟨rfl, rfl⟩), if_pos (c := Lib.NumEnd.ok (1 : Int) = Lib.NumEnd.ok 1) rfl]
                  rfl
                · rw [if_neg (c := [v, u].length = 0 ∨ [v, u].length = 2 ∧ [v, u].getD 0 0 = 1) (fun e => hv1 (e.elim (fun e => by simp at e) (fun e => e.2))), if_neg (c := Lib.NumEnd.ok v = Lib.NumEnd.ok 1) (fun e => hv1 (by injection e))]
                  rfl
              · rw [if_pos (c := [v, u].length = 2 ∧ ¬ (1 ≤ [v, u].getD 1 0 ∧ [v, u].getD 1 0 ≤ 8)) ⟨rfl, hr⟩, if_neg hr]
                by_cases hq : Lib.NumEnd.ok v = Lib.NumEnd.ok (1 : Int)
                · rw [if_pos hq]; rfl
                · rw [if_neg hq]
            · have h2 : ¬ 0 ≤ Lib.indexByte lettersL fin := fun h => h1 ((ib_mem _ _).2 (by omega))
              rw [if_neg h2]
              by_cases h3 : fin = 90
              · subst h3
                rfl
              · rw [if_neg h3]
                by_cases h4 : fin = 126
                · subst h4
                  rw [if_pos rfl, withNumber_is s v hv' h0, eF, hH]
                  by_cases hr : 1 ≤ u ∧ u ≤ 8
                  · rw [if_neg (c := [v, u].length = 2 ∧ ¬ (1 ≤ [v, u].getD 1 0 ∧ [v, u].getD 1 0 ≤ 8)) (fun e => e.2 hr), hit_number, if_pos (c := 1 ≤ [v, u].length ∧ _) (by simp), if_pos hr, if_neg (c := true = true ∧ _) (fun e => by cases e.2)]
                    exact find_tab v.toNat (u - 1)
                  · rw [if_pos (c := [v, u].length = 2 ∧ ¬ (1 ≤ [v, u].getD 1 0 ∧ [v, u].getD 1 0 ≤ 8)) ⟨rfl, hr⟩, if_neg hr, if_pos (c := true = true ∧ _) ⟨rfl, rfl⟩]
                · rw [if_neg h4, find_other _ _ h4 h1]
                  split <;> rfl
        · have hm : (59 : UInt8) ∈ cutB s := (ib_mem _ _).2 (by omega)
          have hH : heldN (cutB s) = none := by
            cases hu : atoiO (cutB s) with
            | none => exact heldN_none _ hu
            | some u => exact absurd rfl ((atoi_okn _ u hcB (atoiO_some.1 hu)).1 59 hm)
          have hT : toldL 91 s fin = none := by
            have t1 : ∀ kd, withLetterL kd s = none := fun kd => by
              unfold withLetterL
              rw [if_neg hs, hH]
              split <;> rfl
            have t2 : withNumberL s = none := by
              rw [withNumber_is s v hv' h0, eF, hH, if_pos (c := true = true ∧ _) ⟨rfl, rfl⟩]
            unfold toldL
            rw [t1, t2, if_neg (c := fin = 90 ∧ (91 : UInt8) = 91 ∧ s = []) (fun e => hs e.2.2)]
            split
            · rfl
            · split <;> rfl
          unfold toldL at hT
          rw [if_neg (c := fin = 90 ∧ (91 : UInt8) = 91 ∧ s = []) (fun e => hs e.2.2)] at hT
          rw [hT, split_yes _ (by omega)]
          have hlen : ∀ x : List UInt8, 1 ≤ (Lib.split x [59]).length := fun x => by
            by_cases hx : Lib.indexByte x 59 < 0
            · rw [split_no x hx]; simp
            · rw [split_yes x (by omega)]; simp
          cases hnn : numsF (cutA (cutB s) :: Lib.split (cutB (cutB s)) [59]) with
          | none => rfl
          | some m =>
            have hl := nums_some _ _ hnn
            have := hlen (cutB (cutB s))
            simp only [Option.map_some]
            rw [List.length_cons] at hl
            have hl3 : 3 ≤ (v :: m).length := by rw [List.length_cons]; omega
            have q1 : (seqT.find? fun p => hitR (v :: m) fin p.2) = none := by
              by_cases h1 : fin ∈ lettersL
              · rw [hit_letter _ _ h1, if_neg (by omega)]
              · by_cases h4 : fin = 126
                · subst h4
                  rw [hit_number, if_neg (by omega)]
                · exact find_other _ _ h4 h1
            rw [q1]
            split
            · rw [if_neg (by simp)]
            · split <;> rfl
/-- Behind ESC O stands no number, and only letters count. -/
theorem keyOf_O (fin : UInt8) : (match keyOfL [] fin with
    | none => none
    | some k => if 6 ≤ k.kind ∧ k.kind ≤ 11 then some k else none) = toldL 79 [] fin := by
  have e : ∀ i ∈ List.range 256, (match toldL 91 [] (UInt8.ofNat i) with
    | none => none
    | some k => if 6 ≤ k.kind ∧ k.kind ≤ 11 then some k else none) = toldL 79 [] (UInt8.ofNat i) := by decide +kernel
  have := e fin.toNat (List.mem_range.2 fin.toNat_lt)
  rw [UInt8.ofNat_toNat] at this
  rw [← this, keyOf_told [] fin (by simp)]
end Kys
end Go.Proofs.YtplceodnllcimaaDoor

/- The reference's table of sequences, gone through: which entries come, and that one at most answers. -/
namespace Go.Proofs.YtplceodnllcimaaDoor
open Go.ChangeShapes Go.WideShapes Go.ChangeAt Go.RowKit Go.Maps
namespace Kys
open Txt (wd bs)
theorem has_puts (kl : Lit) : ∀ (l : List (Ky × List UInt8)) (D : DataW Unit), IsMap D → (∀ p ∈ l, Wf p.1) → Maps.has (l.foldl putS D) kl = true → Maps.has D kl = true ∨ ∃ p ∈ l, klOf p.1 = kl
  | [], D, _, _, h => .inl h
  | p :: l, D, hD, hl, h => by
    rw [List.foldl_cons] at h
    rcases has_puts kl l (putS D p) (hD.put _ _) (fun q hq => hl q (by simp [hq])) h with h | ⟨q, hq, e⟩
    · by_cases e : klOf p.1 = kl
      · exact .inr ⟨p, by simp, e⟩
      · unfold putS at h
        rw [has_put_other (fun h => e h.symm)] at h
        exact .inl h
    · exact .inr ⟨q, by simp [hq], e⟩
theorem seqT_look : ∀ p ∈ seqT, lookS seqT p.1 = p.2 := by decide +kernel
theorem seqT_wf' : ∀ p ∈ seqT, Wf p.1 := by decide +kernel
/-- What the range hands out is one of the entries. -/
theorem seq_entry {key v : Value} {kl : Lit} {y : DataW Unit × List MemPlace} (hk : keyOf Tryd.prog 31 key = some kl) (hv : plainElem (H := Unit) Tryd.prog 9 v = some y) (hat : ∀ zd, (litsS seqT).atKey kl zd = y.1) :
    ∃ p ∈ seqT, key = kyv p.1 ∧ v = .string (bs p.2) ∧ kl = klOf p.1 := by
  have hh := has_true_of_atKey hat
  unfold litsS at hh
  obtain ⟨p, hp, e⟩ := (has_puts kl seqT (.map []) isMap_empty seqT_wf' hh).resolve_left (by simp [Maps.has])
  refine ⟨p, hp, ky_law.inj hk (by rw [← e]; exact key_mk p.1 (seqT_wf' p hp)), ?_, e.symm⟩
  obtain ⟨s, rfl, rfl, _⟩ := plainElem_string_inv ky_string hv
  have := hat (.lit (.string []))
  rw [← e, litsS_look seqT seqT_wf' p.1 (seqT_wf' p hp), seqT_look p hp] at this
  simp only [DataW.lit.injEq, Lit.string.injEq] at this
  rw [this]
  rfl
theorem seqT_texts : seqT.Pairwise (fun p q => p.2 ≠ q.2) := by decide +kernel
theorem letters_once : ∀ p ∈ seqT, ∀ q ∈ seqT, p.2.getD (p.2.length - 1) 0 ≠ 126 → p.2.getD (p.2.length - 1) 0 = q.2.getD (q.2.length - 1) 0 → p = q := by decide +kernel
theorem texts_once : ∀ p ∈ seqT, ∀ q ∈ seqT, p.2 = q.2 → p = q := by decide +kernel
/-- One at most answers. -/
theorem hit_once (n : List Int) (fin : UInt8) (p q : Ky × List UInt8) (hp : p ∈ seqT) (hq : q ∈ seqT) (h1 : hitR n fin p.2 = true) (h2 : hitR n fin q.2 = true) : p = q := by
  unfold hitR at h1 h2
  rw [Bool.and_eq_true] at h1 h2
  have e1 := of_decide_eq_true h1.1
  have e2 := of_decide_eq_true h2.1
  by_cases hf : fin = 126
  · have a1 := h1.2
    have a2 := h2.2
    rw [if_pos hf] at a1 a2
    simp only [Bool.and_eq_true, decide_eq_true_eq] at a1 a2
    exact texts_once p hp q hq (a1.2.2.symm.trans a2.2.2)
  · exact letters_once p hp q hq (by rw [e1]; exact hf) (e1.trans e2.symm)
theorem find_hit (n : List Int) (fin : UInt8) (p : Ky × List UInt8) (hp : p ∈ seqT) (h : hitR n fin p.2 = true) : (seqT.find? fun x => hitR n fin x.2) = some p := by
  cases hf : seqT.find? (fun x => hitR n fin x.2) with
  | none => exact absurd h (by simpa using List.find?_eq_none.1 hf p hp)
  | some q => rw [hit_once n fin q p (List.mem_of_find?_eq_some hf) hp (List.find?_some (p := fun x : Ky × List UInt8 => hitR n fin x.2) hf) h]
theorem find_no (n : List Int) (fin : UInt8) (left : Lit → Bool) (hl : ∀ kl, left kl = false) (h : ∀ p ∈ seqT, left (klOf p.1) = false → hitR n fin p.2 = false) : (seqT.find? fun x => hitR n fin x.2) = none :=
  List.find?_eq_none.2 fun p hp => by simpa using h p hp (hl _)
end Kys
end Go.Proofs.YtplceodnllcimaaDoor

/- The reference's keyOf: what its walk asks. -/
namespace Go.Proofs.YtplceodnllcimaaDoor
open Go.ChangeShapes Go.WideShapes Go.ChangeAt Go.RowKit Go.Maps
namespace Kys
open Txt (wd bs)
/-- A row of numbers, lying in a block of its own or nowhere. -/
def NAt (w : World) (v : Value) (n : List Int) : Prop := w.ownsRow 0 3 1 v n.length (n.map (Value.int .i64))
theorem str_inv {v : Value} {y : DataW Unit × List MemPlace} (h : plainElem (H := Unit) Tryd.prog 9 v = some y) : ∃ c, v = .string c := by
  obtain ⟨s, rfl, _⟩ := plainElem_string_inv ky_string h
  exact ⟨s, rfl⟩
theorem seq_once : ∀ p ∈ seqT, ∀ q ∈ seqT, p.1 = q.1 → p = q := by decide +kernel
/-- What was seen before or is seen now does not answer. -/
theorem left_step {n : List Int} {fin : UInt8} {left : Lit → Bool} {kl : Lit} {p : Ky × List UInt8} (hp : p ∈ seqT) (hk : kl = klOf p.1) (hn : hitR n fin p.2 = false) (h : ∀ q ∈ seqT, left (klOf q.1) = false → hitR n fin q.2 = false) :
    ∀ q ∈ seqT, (left (klOf q.1) && !(klOf q.1).sameKey kl) = false → hitR n fin q.2 = false := by
  intro q hq e
  cases hl : left (klOf q.1) with
  | false => exact h q hq hl
  | true =>
    rw [hl] at e
    simp only [Bool.true_and, Bool.not_eq_false'] at e
    have e := Go.WideAt.sameKey_eq e
    rw [hk] at e
    rw [seq_once q hq p hp (kl_inj (seqT_wf' q hq) (seqT_wf' p hp) e)]
    exact hn
theorem shape_seq : ∀ p ∈ seqT, (p.2.length = 1 ∧ p.2.getD 0 0 ≠ 126) ∨ (p.2.length = 2 ∧ p.2.getD 1 0 = 126) ∨ (p.2.length = 3 ∧ p.2.getD 2 0 = 126) := by decide +kernel
theorem seq_shape (p : Ky × List UInt8) (hp : p ∈ seqT) : (∃ a, p.2 = [a] ∧ a ≠ 126) ∨ (∃ a, p.2 = [a, 126]) ∨ ∃ a b, p.2 = [a, b, 126] := by
  rcases shape_seq p hp with ⟨h1, h2⟩ | ⟨h1, h2⟩ | ⟨h1, h2⟩
  · obtain ⟨a, e⟩ := List.length_eq_one_iff.1 h1
    rw [e] at h2
    exact .inl ⟨a, e, h2⟩
  · match hq : p.2, h1 with
    | [a, b], _ =>
      rw [hq] at h2
      have h2 : b = 126 := h2
      exact .inr (.inl ⟨a, by rw [h2]⟩)
  · match hq : p.2, h1 with
    | [a, b, c], _ =>
      rw [hq] at h2
      have h2 : c = 126 := h2
      exact .inr (.inr ⟨a, b, by rw [h2]⟩)
theorem numsF_cons (x : List UInt8) (r : List (List UInt8)) : numsF (x :: r) = match atoiO x with
    | none => none
    | some v => (numsF r).map (v :: ·) := by
  rw [numsF] <;> rfl
theorem nums_drop {l : List (List UInt8)} {i : Nat} {n : List Int} (hi : i < l.length) (h : numsF l = (numsF (l.drop i)).map (n ++ ·)) :
    numsF l = match atoiO (l[i]) with
      | none => none
      | some v => (numsF (l.drop (i + 1))).map ((n ++ [v]) ++ ·) := by
  rw [h, List.drop_eq_getElem_cons hi, numsF_cons]
  cases atoiO l[i] with
  | none => rfl
  | some v =>
    simp only [Option.map_map]
    congr 1
    funext x
    simp
theorem u8_is (x c : UInt8) : (((x.toNat : Int) == (c.toNat : Int)) = decide (x = c)) := by
  by_cases h : x = c
  · subst h; simp
  · rw [decide_eq_false h, beq_eq_false_iff_ne]
    intro h'
    exact h (UInt8.toNat_inj.1 (by omega))
theorem has_lits (kl : Lit) : ∀ (l : List (Ky × List UInt8)) (D : DataW Unit), IsMap D → (∀ p ∈ l, Wf p.1) → (Maps.has D kl = true ∨ ∃ p ∈ l, klOf p.1 = kl) → Maps.has (l.foldl putS D) kl = true
  | [], D, _, _, h => by
    rcases h with h | ⟨p, hp, _⟩
    · exact h
    · cases hp
  | p :: l, D, hD, hl, h => by
    rw [List.foldl_cons]
    refine has_lits kl l (putS D p) (hD.put _ _) (fun q hq => hl q (by simp [hq])) ?_
    by_cases e : klOf p.1 = kl
    · left
      subst e
      have hw := kl_key p.1 (hl p (by simp))
      unfold putS
      generalize klOf p.1 = l' at *
      exact has_put_same hD hw _
    · rcases h with h | ⟨q, hq, e'⟩
      · left
        unfold putS
        rw [has_put_other (fun h => e h.symm)]
        exact h
      · rcases List.mem_cons.1 hq with rfl | hq
        · exact absurd e' e
        · exact .inr ⟨q, hq, e'⟩
/-- At the start all are still to come. -/
theorem has_start (n : List Int) (fin : UInt8) : ∀ q ∈ seqT, Maps.has (litsS seqT) (klOf q.1) = false → hitR n fin q.2 = false := by
  intro q hq h
  rw [show Maps.has (litsS seqT) (klOf q.1) = true from has_lits _ seqT (.map []) isMap_empty seqT_wf' (.inr ⟨q, hq, rfl⟩)] at h
  cases h
theorem heap_grown2 {w w' : World} {j : Nat} {o : Obj} (h : w.heap[j]? = some o) (hg : w.grownBy w' none) : w'.heap[j]? = some o :=
  (hg.block j (Array.getElem?_eq_some_iff.1 h).1 (by simp)).trans h
theorem hit_l {a fin : UInt8} {n : List Int} (hf : a = fin) (h : fin ≠ 126) (hn : n = [] ∨ n.length = 2 ∧ n.getD 0 0 = 1) : hitR n fin [a] = true := by
  unfold hitR
  rw [if_neg h, decide_eq_true (p := ([a] : List UInt8).getD (([a] : List UInt8).length - 1) 0 = fin) hf]
  rcases hn with rfl | ⟨h1, h2⟩
  · rfl
  · rw [decide_eq_true h1, decide_eq_true h2]; simp
theorem hitn_l {a fin : UInt8} {n : List Int} (h : fin ≠ 126) (h0 : n.length ≠ 0) (h2 : n.length ≠ 2) : hitR n fin [a] = false := by
  unfold hitR
  rw [if_neg h, decide_eq_false h0, decide_eq_false h2]
  simp
theorem hitn_l2 {a fin : UInt8} {n : List Int} (h : fin ≠ 126) (h0 : n.length ≠ 0) (h2 : n.getD 0 0 ≠ 1) : hitR n fin [a] = false := by
  unfold hitR
  rw [if_neg h, decide_eq_false h0, decide_eq_false h2]
  simp
theorem hitn_last {l : List UInt8} {fin : UInt8} {n : List Int} (h : l.getD (l.length - 1) 0 ≠ fin) : hitR n fin l = false := by
  unfold hitR
  rw [decide_eq_false h]
  rfl
theorem hitn_n {l : List UInt8} {fin : UInt8} {n : List Int} (hf : 126 = fin) (h : ¬ 1 ≤ n.length ∨ ¬ n.length ≤ 2) : hitR n fin l = false := by
  unfold hitR
  rw [if_pos hf.symm]
  rcases h with h | h
  · rw [decide_eq_false h]; simp
  · rw [decide_eq_false h]; simp
theorem hitn_d {l : List UInt8} {fin : UInt8} {n : List Int} (hf : 126 = fin) (h : ¬ Lib.decDigits (n.getD 0 0).toNat ++ [126] = l) : hitR n fin l = false := by
  unfold hitR
  rw [if_pos hf.symm, decide_eq_false h]
  simp
theorem hit_n {l : List UInt8} {fin : UInt8} {n : List Int} (hf : 126 = fin) (h1 : 1 ≤ n.length) (h2 : n.length ≤ 2) (h : Lib.decDigits (n.getD 0 0).toNat ++ [126] = l) : hitR n fin l = true := by
  unfold hitR
  rw [if_pos hf.symm, decide_eq_true h, decide_eq_true h1, decide_eq_true h2, ← h, ← hf]
  simp
theorem itoa_is {x : Int} {t : List UInt8} (h0 : 0 ≤ x) (h : Lib.decDigits x.toNat ++ [126] = t) : ((bs (Lib.itoa x) ++ ⟨#[126]⟩ : ByteArray).toList == t) = true := by
  rw [beq_iff_eq, Lib.toList_data, ByteArray.data_append]
  unfold Lib.itoa bs
  rw [if_neg (by omega)]
  simp [h]
theorem itoa_not {x : Int} {t : List UInt8} (h0 : 0 ≤ x) (h : ¬ Lib.decDigits x.toNat ++ [126] = t) : ((bs (Lib.itoa x) ++ ⟨#[126]⟩ : ByteArray).toList == t) = false := by
  rw [beq_eq_false_iff_ne, Lib.toList_data, ByteArray.data_append]
  unfold Lib.itoa bs
  rw [if_neg (by omega)]
  simpa using h
def P10 (w : World) : Prop := Lib.TabIs Tryd.prog w "internal/strconv.uint64pow10" .u64 Lib.pow10Tab
theorem P10.below {w w' : World} (h : P10 w) (hb : Below w.heap.size w w') : P10 w' := Joins.tab_stays (g := 7) (by kernel_rfl) h hb (Nat.le_refl _)
theorem itoa_any (n : Int) (w : World) (h0 : -9223372036854775808 ≤ n) (h1 : n ≤ 9223372036854775807) (hP : P10 w) :
    Calls Tryd.prog 42 #[.int .i64 n] w fun e w' => e = .returned (.string (bs (Lib.itoa n))) ∧ Below w.heap.size w w' :=
  (Tryd.strconv_Itoa n h0 h1 w hP).mono fun e w' ⟨he, k, os, hw⟩ => ⟨he, by rw [hw]; exact Lib.below_grow _ _ (Nat.le_refl _) _ _⟩
theorem atoi_max {l : List UInt8} {v : Int} (h : Lib.atoiAll l = .ok v) : -9223372036854775808 ≤ v ∧ v ≤ 9223372036854775807 := by
  unfold Lib.atoiAll at h
  split at h
  · cases h
  · simp only at h
    split at h
    · cases h
    · cases h
    · split at h
      · cases h
      · split at h
        · cases h
        · injection h with h
          subst h
          split <;> omega
theorem nat_open {w : World} {base : Nat} {v : Value} {n : List Int} (h : w.ownsRow base 3 1 v n.length (n.map (Value.int .i64))) (hne : n ≠ []) : ∃ g c cur, v = .slice (some ⟨g, 0, none⟩) n.length c ∧ base ≤ g ∧ w.heap[g]? = some (.cells cur 3 (0, 0)) ∧ ∀ (i : Nat) (x : Int), n[i]? = some x → cur[i]? = some (Value.int .i64 x) := by
  rcases h.2 with ⟨_, h2⟩ | ⟨g, cap, cur, hv, hg, hh, _, _, _, ht⟩
  · exact absurd (List.length_eq_zero_iff.1 h2) hne
  · refine ⟨g, cap, cur, hv, hg, hh, fun i x hx => ?_⟩
    have h1 : (cur.toList.take (n.length * 1))[i]? = some (Value.int .i64 x) := by rw [ht, List.getElem?_map, hx]; rfl
    rw [List.getElem?_take] at h1
    split at h1
    · simpa using h1
    · cases h1
theorem own_from1 {w : World} {base : Nat} {e : TypeId} {size : Nat} {v : Value} {n : Nat} {xs : List Value} (h : w.ownsRow base e size v n xs) : ∀ k, v.ownBlock = some k → base ≤ k := by
  intro k hk
  obtain ⟨_, h | ⟨q, cap, cur, rfl, hq, _⟩⟩ := h
  · rw [h.1] at hk; simp [Value.ownBlock] at hk
  · simp only [Value.ownBlock, Option.some.injEq] at hk; omega
theorem ownsRow_stays {w w' : World} {base : Nat} {e : TypeId} {size : Nat} {v : Value} {n : Nat} {xs : List Value} (h : w.ownsRow base e size v n xs) (hb : Below w.heap.size w w') : w'.ownsRow base e size v n xs := by
  refine ⟨h.1, ?_⟩
  rcases h.2 with h2 | ⟨g, cap, cur, hv, hg, hh, r⟩
  · exact .inl h2
  · exact .inr ⟨g, cap, cur, hv, hg, by rw [hb.block g (Array.getElem?_eq_some_iff.1 hh).1]; exact hh, r⟩
theorem cells_of_blk {W : World} {g : Nat} {L : List Value} {t : TypeId} (h : W.heap[g]? = some (.cells L.toArray t (0, 0))) : ∀ j u, L[j]? = some u → W.cell? ((⟨g, 0, none⟩ : Addr).add j) = some u := fun j u hj => by
  rw [Addr.add_mid, Nat.zero_add]
  unfold World.cell?
  rw [h]
  simpa using hj
theorem heap_grown3 {w w' : World} {v : Value} {j : Nat} {o : Obj} (h : w.heap[j]? = some o) (hg : w.grownBy w' v.ownBlock) (hne : v.ownBlock = some j → False) : w'.heap[j]? = some o :=
  (hg.block j (Array.getElem?_eq_some_iff.1 h).1 (fun e => hne e.symm)).trans h
theorem bs_sz' (l : List UInt8) : (bs l).size = l.length := by simp [bs, ByteArray.size]
theorem info_int : (Tryd.prog.info? 3).map (fun i => (i.zero, i.size, i.bytes)) = some (some (.int .i64 0), 1, 8) := by kernel_rfl
theorem und_ints : Tryd.prog.underlying 63 = some (.slice 3) := by kernel_rfl
theorem splitK_part (sep : List UInt8) : ∀ (k : Nat) (l t : List UInt8), t ∈ Lib.splitK sep 0 k l → (∀ c ∈ t, c ∈ l) ∧ t.length ≤ l.length
  | 0, l, t, h => by
    simp only [Lib.splitK, List.mem_singleton] at h
    subst h
    exact ⟨fun c hc => hc, Nat.le_refl _⟩
  | k + 1, l, t, h => by
    unfold Lib.splitK at h
    split at h
    · simp only [List.mem_singleton] at h
      subst h
      exact ⟨fun c hc => hc, Nat.le_refl _⟩
    · rcases List.mem_cons.1 h with rfl | h
      · exact ⟨fun c hc => List.mem_of_mem_take hc, by rw [List.length_take]; omega⟩
      · obtain ⟨h1, h2⟩ := splitK_part sep k _ t h
        exact ⟨fun c hc => List.mem_of_mem_drop (h1 c hc), by rw [List.length_drop] at h2; omega⟩
theorem split_part (l t : List UInt8) (h : t ∈ Lib.split l [59]) : (∀ c ∈ t, c ∈ l) ∧ t.length ≤ l.length := splitK_part _ _ _ _ h
theorem ranges_below {w w' : World} {P : Program} {k : TypeId} {R : Value → Option (DataW Unit × List MemPlace)} {b r n : Nat} {D : DataW Unit} {left : Lit → Bool} {cnt : Nat} (h : w.ranges P k R b r n D left cnt) (hb : Below w.heap.size w w') : w'.ranges P k R b r n D left cnt := by
  obtain ⟨es, clock, since, seen, c0, h1, h2, h3, h4, h5, h6⟩ := h
  exact ⟨es, clock, since, seen, c0, by rw [hb.block b (Array.getElem?_eq_some_iff.1 h1).1]; exact h1, h2, h3, h4, by rw [hb.block r (Array.getElem?_eq_some_iff.1 h5).1]; exact h5, h6⟩
theorem four_cells1 {W : World} {b : Nat} {p q r z : Value} {t : TypeId} (h : W.heap[b]? = some (.cells #[p, q, r, z] t (0, 0))) : (W.cell? ⟨b, 0, none⟩ = some p ∧ W.cell? ⟨b, 1, none⟩ = some q ∧ W.cell? ⟨b, 2, none⟩ = some r ∧ W.cell? ⟨b, 3, none⟩ = some z) ∧ True := by
  unfold World.cell?
  rw [h]
  exact ⟨⟨rfl, rfl, rfl, rfl⟩, trivial⟩
end Kys
end Go.Proofs.YtplceodnllcimaaDoor

/- The reference's keyOf, of nothing. (Written by gen_keysrefo.py.) -/
namespace Go.Proofs.YtplceodnllcimaaDoor
open Go.ChangeShapes Go.WideShapes Go.ChangeAt Go.RowKit Go.Maps
namespace Kys
open Txt (wd bs)

set_option maxHeartbeats 8000000 in
set_option maxRecDepth 100000 in
theorem keyOf_e (fin : UInt8) (h90 : fin ≠ 90) (w : World) : Calls Tryd.prog 23 #[.string ⟨#[]⟩, .int .u8 fin.toNat] w fun e w' => ∃ k', e = .returned (.tuple #[kyv k', .bool (keyOfL [] fin).isSome]) ∧ (∀ k, keyOfL [] fin = some k → k' = k) ∧ Below w.heap.size w w' := by
  have k0 := kb_z w
  have z0 := hz w
  have j90 := u8_is fin 90
  rw [show (((90 : UInt8).toNat : Nat) : Int) = 90 from rfl, decide_eq_false h90] at j90
  obtain ⟨res, hres⟩ : ∃ res, keyOfL [] fin = res := ⟨_, rfl⟩
  have HR : Hid ((seqT.find? fun p => hitR [] fin p.2).map (fun p => ({ p.1 with held := 0 } : Ky)) = res) := by
    rw [← hres]
    unfold Hid keyOfL numsR
    rw [if_pos rfl]
    simp only
    rw [if_neg h90, if_neg (c := ([] : List Int).length = 2 ∧ _) (by simp)]
    rfl
  rw [hres]
  clear hres h90
  go_enter Tryd.func23, Tryd.ntmps23
  go_wp2_with (first | (go_at_call 41; refine (sequences_any _).mono ?_; rintro e W1 ⟨rfl, hS, hB, hlt⟩; obtain ⟨n0, hn0, hown⟩ := hS; rw [World.size_alloc] at hown hlt) | (at_range; refine wpList_range_own _ rfl _ 70 rfl 31 9 ky_law ky_map _ _ n0 (litsS seqT) rfl hown ?_; intro W2 hrg0 hg0 hs0))
  go_frame
  have z1 := by_block z0 hB
  have k1 := k0.trans (hB.mono k0.size)
  have hk2 := k1.grown hg0 k1.size (fun j hj => by cases hj)
  have z2 := heap_grown2 z1 hg0
  have hrz : w.heap.size ≠ W1.heap.size := by have := (Array.getElem?_eq_some_iff.1 z1).1; omega
  have hrB : W1.heap.size ≠ (w.heap.size + 1) := by omega
  have hrw : w.heap.size ≤ W1.heap.size := k1.size
  generalize W1.heap.size = r at *
  generalize (w.heap.size + 1) = B at *
  clear hg0 hs0 hown z1 k1 hlt z0 k0 hB
  have hst : Hid (∀ q ∈ seqT, Maps.has (litsS seqT) (klOf q.1) = false → hitR [] fin q.2 = false) := has_start [] fin
  go_loopw [13] (fun _ wr => ∃ left cnt, wr.ranges Tryd.prog 31 (plainElem Tryd.prog 9) B r n0 (litsS seqT) left cnt ∧ (∀ q ∈ seqT, left (klOf q.1) = false → hitR [] fin q.2 = false) ∧ wr.heap[w.heap.size]? = some (.cells #[.int .i64 0, .int .i32 0, .int .i64 0, .int .i64 0] 31 (0, 0)) ∧ Below w.heap.size w wr) (fun _ wr => wr.rangeLeft B r)
  case atStart => exact ⟨_, _, hrg0, hst.out, z2, hk2⟩
  case round =>
    obtain ⟨left, cnt, hrg1, hno, hz0, kr⟩ := hrel
    have HN : Hid (∀ q ∈ seqT, left (klOf q.1) = false → hitR [] fin q.2 = false) := hno
    clear hno hst hrg0 z2 hk2
    go_wp2_with (at_next; refine wpList_next_ranges _ rfl _ rfl 31 ky_law (plainElem Tryd.prog 9) (fun x : Value => x) (fun x : Value => x) (fun key kl _ => ⟨key, rfl⟩) (fun v y _ => ⟨v, rfl⟩) B r n0 (litsS seqT) left cnt rfl hrg1 ?_ ?_; refine Hid.out ?_; refine Hid.out ?_)
    · unfold Hid
      intro _ hl
      have e : res = none := by rw [← HR.out, find_no [] fin left hl HN.out]; rfl
      subst e
      clear HR HN hrg1 hl
      go_wp2_with (refine wpList_store_row rfl 31 (.tmp 4) (.tmp 107) rfl w.heap.size #[.int .i64 0, .int .i32 0, .int .i64 0, .int .i64 0] rfl rfl _ _ hz0 (by kernel_rfl) rfl (one4 _ _ _ _) ?_)
      (try simp only [Exit.inBlock, Exit.then])
      refine bodyPost_ret (v := .tuple #[.agg #[.int .i64 0, .int .i32 0, .int .i64 0, .int .i64 0], .bool false]) ?_ rfl (by first | exact ⟨⟨0, 0, 0, 0⟩, rfl, (fun k h => by cases h), below_setRow kr (Nat.le_refl _) _⟩ | exact ⟨⟨⟨0, 0, 0, 0⟩, rfl⟩, below_setRow kr (Nat.le_refl _) _⟩)
      exact results_key_tmp rfl _ _ w.heap.size _ _ _ _ rfl (setRow_heap _ _ _ _ _ _ hz0) Tryd.underlying31 rfl (by kernel_rfl) _ rfl
    · intro x c kl ya yb w1 cnt1 hkey hlx hv hat hrg2 hlt1 hg1 hs1 hen
      obtain ⟨p, hp, rfl, rfl, hkl⟩ := seq_entry hkey hv hat
      have hz1 := heap_grown hz0 hg1 hrz
      have k1 := kr.grown hg1 kr.size (fun j hj => by cases hj; exact hrw)
      have HS : Hid (hitR [] fin p.2 = false → ∀ q ∈ seqT, (left (klOf q.1) && !(klOf q.1).sameKey kl) = false → hitR [] fin q.2 = false) := fun hn => left_step hp hkl hn HN.out
      have hE : Hid (wr.rangeLeft B r = cnt) := hrg1.left_eq
      have HP : Hid (p ∈ seqT) := hp
      clear hkey hlx hv hat hg1 hs1 HN kr hz0 hrg1 hkl
      rcases seq_shape p hp with ⟨a, ha, hne⟩ | ⟨a, ha⟩ | ⟨a, b, ha⟩
      · by_cases hf : a = fin
        · have h126 : fin ≠ 126 := fun e => hne (hf.trans e)
          have hct : ((((⟨#[a]⟩ : ByteArray)[0]'(show 0 < 1 by omega)).toNat : Int) != fin.toNat) = false := by rw [bne, u8_is]; rw [show (⟨#[a]⟩ : ByteArray)[0]'(show 0 < 1 by omega) = a from rfl, decide_eq_true hf]; rfl
          have j126 : ((fin.toNat : Int) != 126) = true := by rw [bne, show (126 : Int) = ((126 : UInt8).toNat : Int) from rfl, u8_is, decide_eq_false h126]; rfl
          have e : res = some { p.1 with held := 0 } := by rw [← HR.out, find_hit [] fin p HP.out (by rw [ha]; exact hit_l hf h126 (.inl rfl))]; rfl
          rw [ha, show bs [a] = ⟨#[a]⟩ from rfl] at hen ⊢
          obtain ⟨⟨kd, rr, nn, hh⟩, t⟩ := p
          unfold kyv at hen ⊢
          simp only at hen ha ⊢
          subst e
          have ka := (Below.refl w1.heap.size w1).alloc (Nat.le_refl _) (.cells #[.int .i64 kd, .int .i32 rr, .int .i64 nn, .int .i64 0] 31)
          have hz2 := by_block hz1 ka
          have k2 := k1.trans (ka.mono k1.size)
          clear hf
          clear HS HP HR ha hp hz1 k1 ka
          go_wp2_with (refine wpList_store_row rfl 31 (.tmp 4) (.tmp 88) rfl w.heap.size #[.int .i64 kd, .int .i32 rr, .int .i64 nn, .int .i64 0] rfl rfl _ _ hz2 (by kernel_rfl) rfl (one4 _ _ _ _) ?_)
          (try simp only [Exit.inBlock, Exit.then])
          refine bodyPost_ret (v := .tuple #[.agg #[.int .i64 kd, .int .i32 rr, .int .i64 nn, .int .i64 0], .bool true]) ?_ rfl (by first | exact ⟨⟨kd, rr, nn, 0⟩, rfl, (by first | rfl | exact fun k h => Option.some.inj h), below_setRow k2 (Nat.le_refl _) _⟩ | exact ⟨⟨⟨kd, rr, nn, 0⟩, rfl⟩, below_setRow k2 (Nat.le_refl _) _⟩)
          exact results_key_tmp rfl _ _ w.heap.size _ _ _ _ rfl (setRow_heap _ _ _ _ _ _ hz2) Tryd.underlying31 rfl (by kernel_rfl) _ rfl
        · skip
          have hct : ((((⟨#[a]⟩ : ByteArray)[0]'(show 0 < 1 by omega)).toNat : Int) != fin.toNat) = true := by rw [bne, u8_is]; rw [show (⟨#[a]⟩ : ByteArray)[0]'(show 0 < 1 by omega) = a from rfl, decide_eq_false hf]; rfl
          have hS := HS.out (by rw [ha]; exact hitn_last (l := [a]) hf)
          have HSS : Hid (∀ q ∈ seqT, (left (klOf q.1) && !(klOf q.1).sameKey kl) = false → hitR [] fin q.2 = false) := hS
          rw [ha, show bs [a] = ⟨#[a]⟩ from rfl] at hen ⊢
          obtain ⟨⟨kd, rr, nn, hh⟩, t⟩ := p
          unfold kyv at hen ⊢
          simp only at hen ha ⊢
          have ka := (Below.refl w1.heap.size w1).alloc (Nat.le_refl _) (.cells #[.int .i64 kd, .int .i32 rr, .int .i64 nn, .int .i64 hh] 31)
          have hz2 := by_block hz1 ka
          have k2 := k1.trans (ka.mono k1.size)
          clear hf
          clear hS HS HP HR ha hp hz1 k1 ka
          go_wp2_with fail
          refine ⟨⟨_, _, hrg2.alloc _, HSS.out, hz2, k2⟩, ?_⟩
          rw [(hrg2.alloc _).left_eq, hE.out]; exact hlt1
      · by_cases hf : (126 : UInt8) = fin
        · skip
          have hct : ((((⟨#[a, 126]⟩ : ByteArray)[1]'(show 1 < 2 by omega)).toNat : Int) != fin.toNat) = false := by rw [bne, u8_is]; rw [show (⟨#[a, 126]⟩ : ByteArray)[1]'(show 1 < 2 by omega) = 126 from rfl, decide_eq_true hf]; rfl
          have j126 : ((fin.toNat : Int) != 126) = false := by rw [bne, show (126 : Int) = ((126 : UInt8).toNat : Int) from rfl, u8_is, decide_eq_true hf.symm]; rfl
          have hS := HS.out (by rw [ha]; exact hitn_n hf (.inl (by simp)))
          have HSS : Hid (∀ q ∈ seqT, (left (klOf q.1) && !(klOf q.1).sameKey kl) = false → hitR [] fin q.2 = false) := hS
          rw [ha, show bs [a, 126] = ⟨#[a, 126]⟩ from rfl] at hen ⊢
          obtain ⟨⟨kd, rr, nn, hh⟩, t⟩ := p
          unfold kyv at hen ⊢
          simp only at hen ha ⊢
          have ka := (Below.refl w1.heap.size w1).alloc (Nat.le_refl _) (.cells #[.int .i64 kd, .int .i32 rr, .int .i64 nn, .int .i64 0] 31)
          have hz2 := by_block hz1 ka
          have k2 := k1.trans (ka.mono k1.size)
          clear hf
          clear hS HS HP HR ha hp hz1 k1 ka
          go_wp2_with fail
          refine ⟨⟨_, _, hrg2.alloc _, HSS.out, hz2, k2⟩, ?_⟩
          rw [(hrg2.alloc _).left_eq, hE.out]; exact hlt1
        · skip
          have hct : ((((⟨#[a, 126]⟩ : ByteArray)[1]'(show 1 < 2 by omega)).toNat : Int) != fin.toNat) = true := by rw [bne, u8_is]; rw [show (⟨#[a, 126]⟩ : ByteArray)[1]'(show 1 < 2 by omega) = 126 from rfl, decide_eq_false hf]; rfl
          have hS := HS.out (by rw [ha]; exact hitn_last (l := [a, 126]) hf)
          have HSS : Hid (∀ q ∈ seqT, (left (klOf q.1) && !(klOf q.1).sameKey kl) = false → hitR [] fin q.2 = false) := hS
          rw [ha, show bs [a, 126] = ⟨#[a, 126]⟩ from rfl] at hen ⊢
          obtain ⟨⟨kd, rr, nn, hh⟩, t⟩ := p
          unfold kyv at hen ⊢
          simp only at hen ha ⊢
          have ka := (Below.refl w1.heap.size w1).alloc (Nat.le_refl _) (.cells #[.int .i64 kd, .int .i32 rr, .int .i64 nn, .int .i64 hh] 31)
          have hz2 := by_block hz1 ka
          have k2 := k1.trans (ka.mono k1.size)
          clear hf
          clear hS HS HP HR ha hp hz1 k1 ka
          go_wp2_with fail
          refine ⟨⟨_, _, hrg2.alloc _, HSS.out, hz2, k2⟩, ?_⟩
          rw [(hrg2.alloc _).left_eq, hE.out]; exact hlt1
      · by_cases hf : (126 : UInt8) = fin
        · skip
          have hct : ((((⟨#[a, b, 126]⟩ : ByteArray)[2]'(show 2 < 3 by omega)).toNat : Int) != fin.toNat) = false := by rw [bne, u8_is]; rw [show (⟨#[a, b, 126]⟩ : ByteArray)[2]'(show 2 < 3 by omega) = 126 from rfl, decide_eq_true hf]; rfl
          have j126 : ((fin.toNat : Int) != 126) = false := by rw [bne, show (126 : Int) = ((126 : UInt8).toNat : Int) from rfl, u8_is, decide_eq_true hf.symm]; rfl
          have hS := HS.out (by rw [ha]; exact hitn_n hf (.inl (by simp)))
          have HSS : Hid (∀ q ∈ seqT, (left (klOf q.1) && !(klOf q.1).sameKey kl) = false → hitR [] fin q.2 = false) := hS
          rw [ha, show bs [a, b, 126] = ⟨#[a, b, 126]⟩ from rfl] at hen ⊢
          obtain ⟨⟨kd, rr, nn, hh⟩, t⟩ := p
          unfold kyv at hen ⊢
          simp only at hen ha ⊢
          have ka := (Below.refl w1.heap.size w1).alloc (Nat.le_refl _) (.cells #[.int .i64 kd, .int .i32 rr, .int .i64 nn, .int .i64 0] 31)
          have hz2 := by_block hz1 ka
          have k2 := k1.trans (ka.mono k1.size)
          clear hf
          clear hS HS HP HR ha hp hz1 k1 ka
          go_wp2_with fail
          refine ⟨⟨_, _, hrg2.alloc _, HSS.out, hz2, k2⟩, ?_⟩
          rw [(hrg2.alloc _).left_eq, hE.out]; exact hlt1
        · skip
          have hct : ((((⟨#[a, b, 126]⟩ : ByteArray)[2]'(show 2 < 3 by omega)).toNat : Int) != fin.toNat) = true := by rw [bne, u8_is]; rw [show (⟨#[a, b, 126]⟩ : ByteArray)[2]'(show 2 < 3 by omega) = 126 from rfl, decide_eq_false hf]; rfl
          have hS := HS.out (by rw [ha]; exact hitn_last (l := [a, b, 126]) hf)
          have HSS : Hid (∀ q ∈ seqT, (left (klOf q.1) && !(klOf q.1).sameKey kl) = false → hitR [] fin q.2 = false) := hS
          rw [ha, show bs [a, b, 126] = ⟨#[a, b, 126]⟩ from rfl] at hen ⊢
          obtain ⟨⟨kd, rr, nn, hh⟩, t⟩ := p
          unfold kyv at hen ⊢
          simp only at hen ha ⊢
          have ka := (Below.refl w1.heap.size w1).alloc (Nat.le_refl _) (.cells #[.int .i64 kd, .int .i32 rr, .int .i64 nn, .int .i64 hh] 31)
          have hz2 := by_block hz1 ka
          have k2 := k1.trans (ka.mono k1.size)
          clear hf
          clear hS HS HP HR ha hp hz1 k1 ka
          go_wp2_with fail
          refine ⟨⟨_, _, hrg2.alloc _, HSS.out, hz2, k2⟩, ?_⟩
          rw [(hrg2.alloc _).left_eq, hE.out]; exact hlt1
end Kys
end Go.Proofs.YtplceodnllcimaaDoor

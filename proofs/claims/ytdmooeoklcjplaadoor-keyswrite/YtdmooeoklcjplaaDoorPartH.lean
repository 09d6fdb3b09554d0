/- The reference's table of sequences, made. (Written by gen_keysrefs.py.) -/
import Derived.Test.YtdmooeoklcjplaaDoorPartG
import Derived.Test.YtdmooeoklcjplaaDoorPartD
import Derived.Great.Walk
import Derived.Test.YtdmooeoklcjplaaDoorShelf
import Derived.Test.YtdmooeoklcjplaaDoorPartF
import Derived.Lib.QuietBelow
import Derived.BigQuiet
namespace Go.Proofs.YtdmooeoklcjplaaDoor
open Go.ChangeShapes Go.WideShapes Go.ChangeAt Go.RowKit Go.Maps
namespace Kys
open Txt (wd bs)
theorem heap_grown {w w' : World} {b j : Nat} {o : Obj} (h : w.heap[j]? = some o) (hg : w.grownBy w' (some b)) (hne : j ≠ b) : w'.heap[j]? = some o :=
  (hg.block j (Array.getElem?_eq_some_iff.1 h).1 (by simp [hne])).trans h
theorem cell_of {w : World} {b i : Nat} {xs : Array Value} {t : TypeId} {f : Nat × Nat} {v : Value} (h : w.heap[b]? = some (.cells xs t f)) (hv : xs[i]? = some v) : w.cell? ⟨b, i, none⟩ = some v := by
  unfold World.cell?
  rw [h]
  exact hv
def S1 (w wr : World) (l : List (Ky × List UInt8)) : Prop := SeqAt wr w.heap.size l ∧ Below w.heap.size w wr ∧ w.heap.size + 1 ≤ wr.heap.size
theorem S1.put {w wr : World} {l : List (Ky × List UInt8)} (h : S1 w wr l) (hn : l.length < 100) (k : Ky) (hk : Wf k) (t : List UInt8) (ht : t.length < 100) :
    ∃ w', Sem.run Tryd.prog (Instr.mapUpdate 45 (.map (some w.heap.size)) (kyv k) (.string (bs t))) wr = .ok () w' ∧ S1 w w' (l ++ [(k, t)]) ∧ wr.grownBy w' (some w.heap.size) := by
  obtain ⟨h1, h2, h3⟩ := h
  obtain ⟨w', hr, hs, hg⟩ := h1.put hn k hk t ht
  exact ⟨w', hr, ⟨hs, h2.grown hg h2.size (fun j hj => by cases hj; exact Nat.le_refl _), Nat.le_trans h3 hg.size⟩, hg⟩
theorem S1.alloc {w wr : World} {l : List (Ky × List UInt8)} (h : S1 w wr l) (o : Obj) : S1 w (wr.alloc o) l := by
  obtain ⟨⟨n, hn, h1⟩, h2, h3⟩ := h
  exact ⟨⟨n, hn, h1.alloc o⟩, h2.alloc h2.size o, by rw [World.size_alloc]; omega⟩
theorem S1.start (w : World) : S1 w (w.alloc (.map #[] 0)) [] := ⟨seq_made w, (Below.refl _ _).alloc (Nat.le_refl _) _, by rw [World.size_alloc]; omega⟩
def c1 : Array Value := #[.int .i64 6, .int .i64 7, .int .i64 8, .int .i64 9, .int .i64 11, .int .i64 10]
def c2 : Array Value := #[.int .i64 11, .int .i64 12, .int .i64 13, .int .i64 14, .int .i64 15, .int .i64 17, .int .i64 18, .int .i64 19, .int .i64 20, .int .i64 21, .int .i64 23, .int .i64 24]
set_option maxHeartbeats 4000000 in
set_option maxRecDepth 100000 in
theorem sequences_any (w : World) : Calls Tryd.prog 18 #[] w fun e w' => e = .returned (.map (some w.heap.size)) ∧ SeqAt w' w.heap.size seqT ∧ Below w.heap.size w w' ∧ w.heap.size < w'.heap.size := by
  have hmm := @run_makeMap Tryd.prog
  go_enter Tryd.func18, Tryd.ntmps18
  go_wp2_with fail
  obtain ⟨W0, hW0⟩ : ∃ W0, (w.alloc (.map #[] 0)).alloc (.cells #[.int .i64 6, .int .i64 7, .int .i64 8, .int .i64 9, .int .i64 11, .int .i64 10] 3) = W0 := ⟨_, rfl⟩
  have hs0 : S1 w W0 (seqT.take 0) := by rw [← hW0]; exact (S1.start w).alloc _
  have z0 : W0.heap[w.heap.size + 1]? = some (.cells #[.int .i64 6, .int .i64 7, .int .i64 8, .int .i64 9, .int .i64 11, .int .i64 10] 3 (0, 0)) := by
    rw [← hW0, show w.heap.size + 1 = (w.alloc (.map #[] 0)).heap.size by simp]
    exact heap_alloc_new _ _
  rw [hW0]
  clear hmm hW0
  go_loopg [9] 6 (fun g v wr => ∃ i : Nat, i ≤ 6 ∧ 6 - i ≤ g ∧ v = .int .i64 (i : Int) ∧ S1 w wr (seqT.take i) ∧ wr.heap[w.heap.size + 1]? = some (.cells #[.int .i64 6, .int .i64 7, .int .i64 8, .int .i64 9, .int .i64 11, .int .i64 10] 3 (0, 0)))
  case atStart => exact ⟨0, Nat.zero_le _, by omega, rfl, hs0, z0⟩
  case round =>
    obtain ⟨i, hi, hg, rfl, hs, hz⟩ := hrel
    have hc := fun j v (h : _ = some v) => cell_of (i := j) hz h
    have h6 : i = 0 ∨ i = 1 ∨ i = 2 ∨ i = 3 ∨ i = 4 ∨ i = 5 ∨ i = 6 := by omega
    clear hs0 z0
    rcases h6 with rfl | rfl | rfl | rfl | rfl | rfl | rfl
    · have c0 := hc 0 _ rfl
      clear hc
      obtain ⟨V, rV, sV, gV⟩ := hs.put (by decide) ⟨6, 0, 0, 0⟩ (by decide) [65] (by decide)
      rw [show kyv ⟨6, 0, 0, 0⟩ = .agg #[.int .i64 6, .int .i32 0, .int .i64 0, .int .i64 0] from rfl, show bs [65] = (⟨#[65, 66, 67, 68, 70, 72]⟩ : ByteArray).extract 0 1 by kernel_rfl] at rV
      go_wp2_with fail
      go_roundg 5
      case measure => omega
      case rel => exact ⟨1, by omega, by omega, by go_num, sV, heap_grown hz gV (by omega)⟩
    · have c0 := hc 1 _ rfl
      clear hc
      obtain ⟨V, rV, sV, gV⟩ := hs.put (by decide) ⟨7, 0, 0, 0⟩ (by decide) [66] (by decide)
      rw [show kyv ⟨7, 0, 0, 0⟩ = .agg #[.int .i64 7, .int .i32 0, .int .i64 0, .int .i64 0] from rfl, show bs [66] = (⟨#[65, 66, 67, 68, 70, 72]⟩ : ByteArray).extract 1 2 by kernel_rfl] at rV
      go_wp2_with fail
      go_roundg 4
      case measure => omega
      case rel => exact ⟨2, by omega, by omega, by go_num, sV, heap_grown hz gV (by omega)⟩
    · have c0 := hc 2 _ rfl
      clear hc
      obtain ⟨V, rV, sV, gV⟩ := hs.put (by decide) ⟨8, 0, 0, 0⟩ (by decide) [67] (by decide)
      rw [show kyv ⟨8, 0, 0, 0⟩ = .agg #[.int .i64 8, .int .i32 0, .int .i64 0, .int .i64 0] from rfl, show bs [67] = (⟨#[65, 66, 67, 68, 70, 72]⟩ : ByteArray).extract 2 3 by kernel_rfl] at rV
      go_wp2_with fail
      go_roundg 3
      case measure => omega
      case rel => exact ⟨3, by omega, by omega, by go_num, sV, heap_grown hz gV (by omega)⟩
    · have c0 := hc 3 _ rfl
      clear hc
      obtain ⟨V, rV, sV, gV⟩ := hs.put (by decide) ⟨9, 0, 0, 0⟩ (by decide) [68] (by decide)
      rw [show kyv ⟨9, 0, 0, 0⟩ = .agg #[.int .i64 9, .int .i32 0, .int .i64 0, .int .i64 0] from rfl, show bs [68] = (⟨#[65, 66, 67, 68, 70, 72]⟩ : ByteArray).extract 3 4 by kernel_rfl] at rV
      go_wp2_with fail
      go_roundg 2
      case measure => omega
      case rel => exact ⟨4, by omega, by omega, by go_num, sV, heap_grown hz gV (by omega)⟩
    · have c0 := hc 4 _ rfl
      clear hc
      obtain ⟨V, rV, sV, gV⟩ := hs.put (by decide) ⟨11, 0, 0, 0⟩ (by decide) [70] (by decide)
      rw [show kyv ⟨11, 0, 0, 0⟩ = .agg #[.int .i64 11, .int .i32 0, .int .i64 0, .int .i64 0] from rfl, show bs [70] = (⟨#[65, 66, 67, 68, 70, 72]⟩ : ByteArray).extract 4 5 by kernel_rfl] at rV
      go_wp2_with fail
      go_roundg 1
      case measure => omega
      case rel => exact ⟨5, by omega, by omega, by go_num, sV, heap_grown hz gV (by omega)⟩
    · have c0 := hc 5 _ rfl
      clear hc
      obtain ⟨V, rV, sV, gV⟩ := hs.put (by decide) ⟨10, 0, 0, 0⟩ (by decide) [72] (by decide)
      rw [show kyv ⟨10, 0, 0, 0⟩ = .agg #[.int .i64 10, .int .i32 0, .int .i64 0, .int .i64 0] from rfl, show bs [72] = (⟨#[65, 66, 67, 68, 70, 72]⟩ : ByteArray).extract 5 6 by kernel_rfl] at rV
      go_wp2_with fail
      go_roundg 0
      case measure => omega
      case rel => exact ⟨6, by omega, by omega, by go_num, sV, heap_grown hz gV (by omega)⟩
    · clear hc hz
      obtain ⟨V1, rV1, sV1, gV1⟩ := hs.put (by decide) ⟨14, 0, 0, 0⟩ (by decide) [51, 126] (by decide)
      rw [show kyv ⟨14, 0, 0, 0⟩ = .agg #[.int .i64 14, .int .i32 0, .int .i64 0, .int .i64 0] from rfl, show bs [51, 126] = ⟨#[51, 126]⟩ by kernel_rfl] at rV1
      obtain ⟨V2, rV2, sV2, gV2⟩ := sV1.put (by decide) ⟨12, 0, 0, 0⟩ (by decide) [53, 126] (by decide)
      rw [show kyv ⟨12, 0, 0, 0⟩ = .agg #[.int .i64 12, .int .i32 0, .int .i64 0, .int .i64 0] from rfl, show bs [53, 126] = ⟨#[53, 126]⟩ by kernel_rfl] at rV2
      obtain ⟨V3, rV3, sV3, gV3⟩ := sV2.put (by decide) ⟨13, 0, 0, 0⟩ (by decide) [54, 126] (by decide)
      rw [show kyv ⟨13, 0, 0, 0⟩ = .agg #[.int .i64 13, .int .i32 0, .int .i64 0, .int .i64 0] from rfl, show bs [54, 126] = ⟨#[54, 126]⟩ by kernel_rfl] at rV3
      go_wp2_with fail
      have hs3 : S1 w (V3.alloc (.cells #[.int .i64 11, .int .i64 12, .int .i64 13, .int .i64 14, .int .i64 15, .int .i64 17, .int .i64 18, .int .i64 19, .int .i64 20, .int .i64 21, .int .i64 23, .int .i64 24] 3)) (seqT.take 9) := S1.alloc sV3 _
      have z3 : (V3.alloc (.cells #[.int .i64 11, .int .i64 12, .int .i64 13, .int .i64 14, .int .i64 15, .int .i64 17, .int .i64 18, .int .i64 19, .int .i64 20, .int .i64 21, .int .i64 23, .int .i64 24] 3)).heap[V3.heap.size]? = some (.cells #[.int .i64 11, .int .i64 12, .int .i64 13, .int .i64 14, .int .i64 15, .int .i64 17, .int .i64 18, .int .i64 19, .int .i64 20, .int .i64 21, .int .i64 23, .int .i64 24] 3 (0, 0)) := heap_alloc_new _ _
      have hne : V3.heap.size ≠ w.heap.size := by have := sV3.2.2; omega
      generalize V3.heap.size = B at *
      clear rV1 rV2 rV3 gV1 gV2 gV3 sV1 sV2 sV3 hs
      generalize V3.alloc (.cells #[.int .i64 11, .int .i64 12, .int .i64 13, .int .i64 14, .int .i64 15, .int .i64 17, .int .i64 18, .int .i64 19, .int .i64 20, .int .i64 21, .int .i64 23, .int .i64 24] 3) = W3 at *
      go_loopg [30] 12 (fun g v wr => ∃ i : Nat, i ≤ 12 ∧ 12 - i ≤ g ∧ v = .int .i64 (i : Int) ∧ S1 w wr (seqT.take (9 + i)) ∧ wr.heap[B]? = some (.cells #[.int .i64 11, .int .i64 12, .int .i64 13, .int .i64 14, .int .i64 15, .int .i64 17, .int .i64 18, .int .i64 19, .int .i64 20, .int .i64 21, .int .i64 23, .int .i64 24] 3 (0, 0)))
      case atStart => exact ⟨0, Nat.zero_le _, by omega, rfl, hs3, z3⟩
      case round =>
        obtain ⟨i, hi, hg, rfl, hs, hz⟩ := hrel
        have hc := fun j v (h : _ = some v) => cell_of (i := j) hz h
        have h6 : i = 0 ∨ i = 1 ∨ i = 2 ∨ i = 3 ∨ i = 4 ∨ i = 5 ∨ i = 6 ∨ i = 7 ∨ i = 8 ∨ i = 9 ∨ i = 10 ∨ i = 11 ∨ i = 12 := by omega
        clear hs3 z3
        rcases h6 with rfl | rfl | rfl | rfl | rfl | rfl | rfl | rfl | rfl | rfl | rfl | rfl | rfl
        · have c0 := hc 0 _ rfl
          clear hc
          have HI := Tryd.strconv_Itoa_small 11 (by omega) wr
          rw [show (Lib.decDigits 11) = [49, 49] by rw [Lib.decDigits_two (by omega) (by omega)]; rfl] at HI
          obtain ⟨V, rV, sV, gV⟩ := hs.put (by decide) ⟨15, 0, 1, 0⟩ (by decide) [49, 49, 126] (by decide)
          rw [show kyv ⟨15, 0, 1, 0⟩ = .agg #[.int .i64 15, .int .i32 0, .int .i64 1, .int .i64 0] from rfl, show bs [49, 49, 126] = (⟨#[49, 49]⟩ ++ ⟨#[126]⟩ : ByteArray) by kernel_rfl] at rV
          go_wp2_with (go_at_call 23; refine HI.mono ?_; rintro e W ⟨rfl, hW⟩; subst hW)
          go_roundg 11
          case measure => omega
          case rel => exact ⟨1, by omega, by omega, by go_num, sV, heap_grown hz gV hne⟩
        · have c0 := hc 1 _ rfl
          clear hc
          have HI := Tryd.strconv_Itoa_small 12 (by omega) wr
          rw [show (Lib.decDigits 12) = [49, 50] by rw [Lib.decDigits_two (by omega) (by omega)]; rfl] at HI
          obtain ⟨V, rV, sV, gV⟩ := hs.put (by decide) ⟨15, 0, 2, 0⟩ (by decide) [49, 50, 126] (by decide)
          rw [show kyv ⟨15, 0, 2, 0⟩ = .agg #[.int .i64 15, .int .i32 0, .int .i64 2, .int .i64 0] from rfl, show bs [49, 50, 126] = (⟨#[49, 50]⟩ ++ ⟨#[126]⟩ : ByteArray) by kernel_rfl] at rV
          go_wp2_with (go_at_call 23; refine HI.mono ?_; rintro e W ⟨rfl, hW⟩; subst hW)
          go_roundg 10
          case measure => omega
          case rel => exact ⟨2, by omega, by omega, by go_num, sV, heap_grown hz gV hne⟩
        · have c0 := hc 2 _ rfl
          clear hc
          have HI := Tryd.strconv_Itoa_small 13 (by omega) wr
          rw [show (Lib.decDigits 13) = [49, 51] by rw [Lib.decDigits_two (by omega) (by omega)]; rfl] at HI
          obtain ⟨V, rV, sV, gV⟩ := hs.put (by decide) ⟨15, 0, 3, 0⟩ (by decide) [49, 51, 126] (by decide)
          rw [show kyv ⟨15, 0, 3, 0⟩ = .agg #[.int .i64 15, .int .i32 0, .int .i64 3, .int .i64 0] from rfl, show bs [49, 51, 126] = (⟨#[49, 51]⟩ ++ ⟨#[126]⟩ : ByteArray) by kernel_rfl] at rV
          go_wp2_with (go_at_call 23; refine HI.mono ?_; rintro e W ⟨rfl, hW⟩; subst hW)
          go_roundg 9
          case measure => omega
          case rel => exact ⟨3, by omega, by omega, by go_num, sV, heap_grown hz gV hne⟩
        · have c0 := hc 3 _ rfl
          clear hc
          have HI := Tryd.strconv_Itoa_small 14 (by omega) wr
          rw [show (Lib.decDigits 14) = [49, 52] by rw [Lib.decDigits_two (by omega) (by omega)]; rfl] at HI
          obtain ⟨V, rV, sV, gV⟩ := hs.put (by decide) ⟨15, 0, 4, 0⟩ (by decide) [49, 52, 126] (by decide)
          rw [show kyv ⟨15, 0, 4, 0⟩ = .agg #[.int .i64 15, .int .i32 0, .int .i64 4, .int .i64 0] from rfl, show bs [49, 52, 126] = (⟨#[49, 52]⟩ ++ ⟨#[126]⟩ : ByteArray) by kernel_rfl] at rV
          go_wp2_with (go_at_call 23; refine HI.mono ?_; rintro e W ⟨rfl, hW⟩; subst hW)
          go_roundg 8
          case measure => omega
          case rel => exact ⟨4, by omega, by omega, by go_num, sV, heap_grown hz gV hne⟩
        · have c0 := hc 4 _ rfl
          clear hc
          have HI := Tryd.strconv_Itoa_small 15 (by omega) wr
          rw [show (Lib.decDigits 15) = [49, 53] by rw [Lib.decDigits_two (by omega) (by omega)]; rfl] at HI
          obtain ⟨V, rV, sV, gV⟩ := hs.put (by decide) ⟨15, 0, 5, 0⟩ (by decide) [49, 53, 126] (by decide)
          rw [show kyv ⟨15, 0, 5, 0⟩ = .agg #[.int .i64 15, .int .i32 0, .int .i64 5, .int .i64 0] from rfl, show bs [49, 53, 126] = (⟨#[49, 53]⟩ ++ ⟨#[126]⟩ : ByteArray) by kernel_rfl] at rV
          go_wp2_with (go_at_call 23; refine HI.mono ?_; rintro e W ⟨rfl, hW⟩; subst hW)
          go_roundg 7
          case measure => omega
          case rel => exact ⟨5, by omega, by omega, by go_num, sV, heap_grown hz gV hne⟩
        · have c0 := hc 5 _ rfl
          clear hc
          have HI := Tryd.strconv_Itoa_small 17 (by omega) wr
          rw [show (Lib.decDigits 17) = [49, 55] by rw [Lib.decDigits_two (by omega) (by omega)]; rfl] at HI
          obtain ⟨V, rV, sV, gV⟩ := hs.put (by decide) ⟨15, 0, 6, 0⟩ (by decide) [49, 55, 126] (by decide)
          rw [show kyv ⟨15, 0, 6, 0⟩ = .agg #[.int .i64 15, .int .i32 0, .int .i64 6, .int .i64 0] from rfl, show bs [49, 55, 126] = (⟨#[49, 55]⟩ ++ ⟨#[126]⟩ : ByteArray) by kernel_rfl] at rV
          go_wp2_with (go_at_call 23; refine HI.mono ?_; rintro e W ⟨rfl, hW⟩; subst hW)
          go_roundg 6
          case measure => omega
          case rel => exact ⟨6, by omega, by omega, by go_num, sV, heap_grown hz gV hne⟩
        · have c0 := hc 6 _ rfl
          clear hc
          have HI := Tryd.strconv_Itoa_small 18 (by omega) wr
          rw [show (Lib.decDigits 18) = [49, 56] by rw [Lib.decDigits_two (by omega) (by omega)]; rfl] at HI
          obtain ⟨V, rV, sV, gV⟩ := hs.put (by decide) ⟨15, 0, 7, 0⟩ (by decide) [49, 56, 126] (by decide)
          rw [show kyv ⟨15, 0, 7, 0⟩ = .agg #[.int .i64 15, .int .i32 0, .int .i64 7, .int .i64 0] from rfl, show bs [49, 56, 126] = (⟨#[49, 56]⟩ ++ ⟨#[126]⟩ : ByteArray) by kernel_rfl] at rV
          go_wp2_with (go_at_call 23; refine HI.mono ?_; rintro e W ⟨rfl, hW⟩; subst hW)
          go_roundg 5
          case measure => omega
          case rel => exact ⟨7, by omega, by omega, by go_num, sV, heap_grown hz gV hne⟩
        · have c0 := hc 7 _ rfl
          clear hc
          have HI := Tryd.strconv_Itoa_small 19 (by omega) wr
          rw [show (Lib.decDigits 19) = [49, 57] by rw [Lib.decDigits_two (by omega) (by omega)]; rfl] at HI
          obtain ⟨V, rV, sV, gV⟩ := hs.put (by decide) ⟨15, 0, 8, 0⟩ (by decide) [49, 57, 126] (by decide)
          rw [show kyv ⟨15, 0, 8, 0⟩ = .agg #[.int .i64 15, .int .i32 0, .int .i64 8, .int .i64 0] from rfl, show bs [49, 57, 126] = (⟨#[49, 57]⟩ ++ ⟨#[126]⟩ : ByteArray) by kernel_rfl] at rV
          go_wp2_with (go_at_call 23; refine HI.mono ?_; rintro e W ⟨rfl, hW⟩; subst hW)
          go_roundg 4
          case measure => omega
          case rel => exact ⟨8, by omega, by omega, by go_num, sV, heap_grown hz gV hne⟩
        · have c0 := hc 8 _ rfl
          clear hc
          have HI := Tryd.strconv_Itoa_small 20 (by omega) wr
          rw [show (Lib.decDigits 20) = [50, 48] by rw [Lib.decDigits_two (by omega) (by omega)]; rfl] at HI
          obtain ⟨V, rV, sV, gV⟩ := hs.put (by decide) ⟨15, 0, 9, 0⟩ (by decide) [50, 48, 126] (by decide)
          rw [show kyv ⟨15, 0, 9, 0⟩ = .agg #[.int .i64 15, .int .i32 0, .int .i64 9, .int .i64 0] from rfl, show bs [50, 48, 126] = (⟨#[50, 48]⟩ ++ ⟨#[126]⟩ : ByteArray) by kernel_rfl] at rV
          go_wp2_with (go_at_call 23; refine HI.mono ?_; rintro e W ⟨rfl, hW⟩; subst hW)
          go_roundg 3
          case measure => omega
          case rel => exact ⟨9, by omega, by omega, by go_num, sV, heap_grown hz gV hne⟩
        · have c0 := hc 9 _ rfl
          clear hc
          have HI := Tryd.strconv_Itoa_small 21 (by omega) wr
          rw [show (Lib.decDigits 21) = [50, 49] by rw [Lib.decDigits_two (by omega) (by omega)]; rfl] at HI
          obtain ⟨V, rV, sV, gV⟩ := hs.put (by decide) ⟨15, 0, 10, 0⟩ (by decide) [50, 49, 126] (by decide)
          rw [show kyv ⟨15, 0, 10, 0⟩ = .agg #[.int .i64 15, .int .i32 0, .int .i64 10, .int .i64 0] from rfl, show bs [50, 49, 126] = (⟨#[50, 49]⟩ ++ ⟨#[126]⟩ : ByteArray) by kernel_rfl] at rV
          go_wp2_with (go_at_call 23; refine HI.mono ?_; rintro e W ⟨rfl, hW⟩; subst hW)
          go_roundg 2
          case measure => omega
          case rel => exact ⟨10, by omega, by omega, by go_num, sV, heap_grown hz gV hne⟩
        · have c0 := hc 10 _ rfl
          clear hc
          have HI := Tryd.strconv_Itoa_small 23 (by omega) wr
          rw [show (Lib.decDigits 23) = [50, 51] by rw [Lib.decDigits_two (by omega) (by omega)]; rfl] at HI
          obtain ⟨V, rV, sV, gV⟩ := hs.put (by decide) ⟨15, 0, 11, 0⟩ (by decide) [50, 51, 126] (by decide)
          rw [show kyv ⟨15, 0, 11, 0⟩ = .agg #[.int .i64 15, .int .i32 0, .int .i64 11, .int .i64 0] from rfl, show bs [50, 51, 126] = (⟨#[50, 51]⟩ ++ ⟨#[126]⟩ : ByteArray) by kernel_rfl] at rV
          go_wp2_with (go_at_call 23; refine HI.mono ?_; rintro e W ⟨rfl, hW⟩; subst hW)
          go_roundg 1
          case measure => omega
          case rel => exact ⟨11, by omega, by omega, by go_num, sV, heap_grown hz gV hne⟩
        · have c0 := hc 11 _ rfl
          clear hc
          have HI := Tryd.strconv_Itoa_small 24 (by omega) wr
          rw [show (Lib.decDigits 24) = [50, 52] by rw [Lib.decDigits_two (by omega) (by omega)]; rfl] at HI
          obtain ⟨V, rV, sV, gV⟩ := hs.put (by decide) ⟨15, 0, 12, 0⟩ (by decide) [50, 52, 126] (by decide)
          rw [show kyv ⟨15, 0, 12, 0⟩ = .agg #[.int .i64 15, .int .i32 0, .int .i64 12, .int .i64 0] from rfl, show bs [50, 52, 126] = (⟨#[50, 52]⟩ ++ ⟨#[126]⟩ : ByteArray) by kernel_rfl] at rV
          go_wp2_with (go_at_call 23; refine HI.mono ?_; rintro e W ⟨rfl, hW⟩; subst hW)
          go_roundg 0
          case measure => omega
          case rel => exact ⟨12, by omega, by omega, by go_num, sV, heap_grown hz gV hne⟩
        · clear hc hz
          go_wp2_with fail
          go_ret
          exact ⟨rfl, hs.1, hs.2.1, hs.2.2⟩
end Kys
end Go.Proofs.YtdmooeoklcjplaaDoor

/- The walk of the reference's WidthOf: it tells Txt.wd, for every int32. -/
namespace Go.Proofs.YtdmooeoklcjplaaDoor
open Go.ChangeShapes Go.WideShapes Go.ChangeAt Go.RowKit
namespace Txt

def cell2 (x : Int × Int) : List Value := [.int .i32 x.1, .int .i64 x.2]
def edgeCells : Array Value := (edges.flatMap cell2).toArray
theorem flat2 : ∀ (l : List (Int × Int)) (k : Nat) (x : Int × Int), l[k]? = some x → (l.flatMap cell2)[k * 2]? = some (.int .i32 x.1) ∧ (l.flatMap cell2)[k * 2 + 1]? = some (.int .i64 x.2)
  | [], k, x, h => by simp at h
  | y :: t, 0, x, h => by
    obtain rfl := Option.some.inj h
    exact ⟨rfl, rfl⟩
  | y :: t, k + 1, x, h => by
    have := flat2 t k x (by simpa using h)
    rw [show (k + 1) * 2 = k * 2 + 1 + 1 from by omega]
    simpa [List.flatMap_cons, cell2] using this
theorem edges_at (k : Nat) (hk : k < 41) : ∃ a c : Int, edges.drop k = (a, c) :: edges.drop (k + 1) ∧ edgeCells[k * 2]? = some (.int .i32 a) ∧ edgeCells[k * 2 + 1]? = some (.int .i64 c) := by
  match h : edges.drop k with
  | [] => have := congrArg List.length h; simp [edges] at this; omega
  | (a, c) :: t =>
    have hx : edges[k]? = some (a, c) := by
      have := congrArg (fun l => l[0]?) h
      simpa using this
    have hf := flat2 edges k (a, c) hx
    refine ⟨a, c, ?_, by simpa [edgeCells] using hf.1, by simpa [edgeCells] using hf.2⟩
    rw [← List.drop_drop, h]; rfl

set_option maxHeartbeats 4000000 in
theorem widthOf_any (r : Int) (w : World) :
    Calls Tryd.prog 19 #[.int .i32 r] w fun e w' => e = .returned (.int .i64 (wd r)) ∧ Below w.heap.size w w' := by
  by_cases h0 : r < 0
  · have hw : wd r = 0 := by unfold wd; rw [if_pos (Or.inl h0)]
    rw [hw]
    clear hw
    go_enter Tryd.func19, Tryd.ntmps19
    go_wp2
    go_ret
    exact ⟨rfl, Below.refl _ _⟩
  · by_cases h1 : 1114111 < r
    · have hw : wd r = 0 := by unfold wd; rw [if_pos (Or.inr h1)]
      rw [hw]
      clear hw
      go_enter Tryd.func19, Tryd.ntmps19
      go_wp2
      go_ret
      exact ⟨rfl, Below.refl _ _⟩
    · rw [wd_edge r (by omega) (by omega)]
      go_enter Tryd.func19, Tryd.ntmps19
      go_wp2_with (refine Great.wpList_buildSliceTo rfl 65 64 41 _ rfl _ rfl (some 53) rfl Tryd.underlying65 edgeCells (by kernel_rfl) ?_)
      have hb0 : Below (w.heap.size + 1) (w.alloc (.cells edgeCells 64)) (w.alloc (.cells edgeCells 64)) := Below.refl _ _
      have HB : Hid (Below w.heap.size w (w.alloc (.cells edgeCells 64))) := (Below.refl _ _).alloc (Nat.le_refl _) _
      have HE : Hid ((w.alloc (.cells edgeCells 64)).heap[w.heap.size]? = some (.cells edgeCells 64)) := heap_alloc_new _ _
      have hS : w.heap.size + 1 ≤ (w.alloc (.cells edgeCells 64)).heap.size := by simp
      generalize w.alloc (.cells edgeCells 64) = W at *
      generalize hB : w.heap.size = B at *
      have HQ : Hid (w.heap.size = B) := hB
      clear hB
      go_loopg [3, 55] 41 (fun g acc s wr => ∃ (k : Nat) (c : Int), k ≤ 41 ∧ 41 - k ≤ g ∧ s = .int .i64 k ∧ acc = .int .i64 c ∧ Below (B + 1) W wr ∧ edge r (edges.drop k) c = edge r edges 0)
      case atStart => exact ⟨0, 0, Nat.zero_le _, by omega, rfl, rfl, hb0, rfl⟩
      case round =>
        obtain ⟨k, c, hk, hg, rfl, rfl, hb, hl⟩ := hrel
        have HL : Hid (edge r (edges.drop k) c = edge r edges 0) := hl
        clear hl
        by_cases hlt : k < 41
        · obtain ⟨a, c2, hd, hc1, hc2⟩ := edges_at k hlt
          have g1 : wr.cell? ⟨B, k * 2, none⟩ = some (.int .i32 a) := by rw [hb.cell (by show B < B + 1; omega), cell_of_row _ _ _ _ _ _ HE.out]; exact hc1
          have g2 : wr.cell? ⟨B, k * 2 + 1, none⟩ = some (.int .i64 c2) := by rw [hb.cell (by show B < B + 1; omega), cell_of_row _ _ _ _ _ _ HE.out]; exact hc2
          clear hc1 hc2
          have HD : Hid (edges.drop k = (a, c2) :: edges.drop (k + 1)) := hd
          clear hd
          have hsz := hb.size
          go_wp2_with fail
          · rename_i hra
            go_roundg (41 - (k + 1))
            case measure => omega
            case rel => exact ⟨k + 1, c2, by omega, by omega, by go_num, rfl, hb.alloc (by omega) _, by rw [← HL.out, HD.out]; simp only [edge]; rw [if_pos hra]⟩
          · rename_i hra
            go_roundg (41 - (k + 1))
            case measure => omega
            case rel => exact ⟨k + 1, c, by omega, by omega, by go_num, rfl, hb.alloc (by omega) _, by rw [← HL.out, HD.out]; simp only [edge]; rw [if_neg (by omega)]⟩
        · have : k = 41 := by omega
          subst this
          go_wp2_with fail
          go_ret
          exact ⟨ret_int (by rw [← HL.out]; rfl), by rw [HQ.out]; exact HB.out.trans (hb.mono (by omega))⟩
end Txt
end Go.Proofs.YtdmooeoklcjplaaDoor

/- Package keys: Check. (Written by gen_keyschk.py.) -/
namespace Go.Proofs.YtdmooeoklcjplaaDoor
open Go.ChangeShapes Go.WideShapes Go.ChangeAt Go.RowKit
namespace Kys
open Txt (wd)
theorem checkRune_any (k : Ky) (w : World) (hT : Txt.Tab w) (h0 : 0 ≤ k.held) (h7 : k.held ≤ 7) :
    Calls Tryd.prog 22 #[kyv k] w fun e w' => e = .returned (.bool (chkR k)) ∧ Below w.heap.size w w' := by
  obtain ⟨kind, r, n, held⟩ := k
  simp only at h0 h7
  obtain ⟨j, hj, rfl⟩ := held_cases (h := held) h0 h7
  have : j = 0 ∨ j = 1 ∨ j = 2 ∨ j = 3 ∨ j = 4 ∨ j = 5 ∨ j = 6 ∨ j = 7 := by omega
  rcases this with rfl | rfl | rfl | rfl | rfl | rfl | rfl | rfl
  · exact checkRune_0 kind r n w hT
  · exact checkRune_1 kind r n w hT
  · exact checkRune_2 kind r n w hT
  · exact checkRune_3 kind r n w hT
  · exact checkRune_4 kind r n w hT
  · exact checkRune_5 kind r n w hT
  · exact checkRune_6 kind r n w hT
  · exact checkRune_7 kind r n w hT
theorem andNot_two (h : Int) (h0 : 0 ≤ h) (h7 : h ≤ 7) : (bits BinOp.andNot IntKind.i64 h 2 == 0) = decide (h = 0 ∨ h = 2) := by
  obtain ⟨j, hj, rfl⟩ := held_cases (h := h) h0 h7
  have : j = 0 ∨ j = 1 ∨ j = 2 ∨ j = 3 ∨ j = 4 ∨ j = 5 ∨ j = 6 ∨ j = 7 := by omega
  rcases this with rfl | rfl | rfl | rfl | rfl | rfl | rfl | rfl <;> decide +kernel
theorem andNot_one (h : Int) (h0 : 0 ≤ h) (h7 : h ≤ 7) : (bits BinOp.andNot IntKind.i64 h 1 == 0) = decide (h = 0 ∨ h = 1) := by
  obtain ⟨j, hj, rfl⟩ := held_cases (h := h) h0 h7
  have : j = 0 ∨ j = 1 ∨ j = 2 ∨ j = 3 ∨ j = 4 ∨ j = 5 ∨ j = 6 ∨ j = 7 := by omega
  rcases this with rfl | rfl | rfl | rfl | rfl | rfl | rfl | rfl <;> decide +kernel
set_option maxHeartbeats 4000000 in
set_option maxRecDepth 100000 in
theorem check_rk (kind r n held : Int) (w : World) (h0 : 0 ≤ held) (h7 : held ≤ 7) (hr : ¬ r = 0) (hk : ¬ kind = 1) :
    Calls Tryd.prog 9 #[kyv ⟨kind, r, n, held⟩] w fun e w' => e = .returned (.bool (chk ⟨kind, r, n, held⟩)) ∧ Below w.heap.size w w' := by
  have g0 : ¬ held < 0 := Int.not_lt.2 h0
  have g7 : ¬ 7 < held := Int.not_lt.2 h7
  have e : chk ⟨kind, r, n, held⟩ = false := by unfold chk; rw [if_pos (by simp only; omega)]
  rw [e]
  clear e
  have xhr : (r == 0) = false := by rw [beq_eq_false_iff_ne]; exact hr
  have yhr : (r != 0) = true := by rw [bne_iff_ne]; exact hr
  have xhk : (kind == 1) = false := by rw [beq_eq_false_iff_ne]; exact hk
  have yhk : (kind != 1) = true := by rw [bne_iff_ne]; exact hk
  unfold kyv
  go_enter Tryd.func9, Tryd.ntmps9
  go_wp2_with fail
  all_goals go_ret
  all_goals exact ⟨rfl, (Below.refl _ _).alloc (Nat.le_refl _) _⟩
set_option maxHeartbeats 4000000 in
set_option maxRecDepth 100000 in
theorem check_rn (r n held : Int) (w : World) (h0 : 0 ≤ held) (h7 : held ≤ 7) (hr : ¬ r = 0) (hn : ¬ n = 0) :
    Calls Tryd.prog 9 #[kyv ⟨1, r, n, held⟩] w fun e w' => e = .returned (.bool (chk ⟨1, r, n, held⟩)) ∧ Below w.heap.size w w' := by
  have g0 : ¬ held < 0 := Int.not_lt.2 h0
  have g7 : ¬ 7 < held := Int.not_lt.2 h7
  have e : chk ⟨1, r, n, held⟩ = false := by unfold chk; rw [if_pos (by simp only; omega)]
  rw [e]
  clear e
  have xhr : (r == 0) = false := by rw [beq_eq_false_iff_ne]; exact hr
  have yhr : (r != 0) = true := by rw [bne_iff_ne]; exact hr
  have xhn : (n == 0) = false := by rw [beq_eq_false_iff_ne]; exact hn
  have yhn : (n != 0) = true := by rw [bne_iff_ne]; exact hn
  unfold kyv
  go_enter Tryd.func9, Tryd.ntmps9
  go_wp2_with fail
  all_goals go_ret
  all_goals exact ⟨rfl, (Below.refl _ _).alloc (Nat.le_refl _) _⟩
set_option maxHeartbeats 4000000 in
set_option maxRecDepth 100000 in
theorem check_rr (r held : Int) (w : World) (h0 : 0 ≤ held) (h7 : held ≤ 7) (hr : ¬ r = 0) (hT : Txt.Tab w) :
    Calls Tryd.prog 9 #[kyv ⟨1, r, 0, held⟩] w fun e w' => e = .returned (.bool (chk ⟨1, r, 0, held⟩)) ∧ Below w.heap.size w w' := by
  have g0 : ¬ held < 0 := Int.not_lt.2 h0
  have g7 : ¬ 7 < held := Int.not_lt.2 h7
  have xhr : (r == 0) = false := by rw [beq_eq_false_iff_ne]; exact hr
  have yhr : (r != 0) = true := by rw [bne_iff_ne]; exact hr
  have kb : Below w.heap.size w (w.alloc (.cells #[.int .i64 1, .int .i32 r, .int .i64 0, .int .i64 held] 23)) := (Below.refl _ _).alloc (Nat.le_refl _) _
  have HW := checkRune_any ⟨1, r, 0, held⟩ _ (Tab.alloc hT (.cells #[.int .i64 1, .int .i32 r, .int .i64 0, .int .i64 held] 23)) h0 h7
  have e : chk ⟨1, r, 0, held⟩ = chkR ⟨1, r, 0, held⟩ := by unfold chk; rw [if_neg (by simp only; omega), if_pos rfl]
  rw [e]
  clear e hT
  generalize chkR ⟨1, r, 0, held⟩ = d at *
  unfold kyv at HW ⊢
  go_enter Tryd.func9, Tryd.ntmps9
  go_wp2_with (go_at_call 22; refine HW.mono ?_; rintro e W1 ⟨rfl, b1⟩; replace kb := kb.trans (b1.mono kb.size))
  go_ret
  exact ⟨rfl, kb⟩
set_option maxHeartbeats 4000000 in
set_option maxRecDepth 100000 in
theorem check_nk (kind n held : Int) (w : World) (h0 : 0 ≤ held) (h7 : held ≤ 7) (hn : ¬ n = 0) (hk : ¬ kind = 15) :
    Calls Tryd.prog 9 #[kyv ⟨kind, 0, n, held⟩] w fun e w' => e = .returned (.bool (chk ⟨kind, 0, n, held⟩)) ∧ Below w.heap.size w w' := by
  have g0 : ¬ held < 0 := Int.not_lt.2 h0
  have g7 : ¬ 7 < held := Int.not_lt.2 h7
  have e : chk ⟨kind, 0, n, held⟩ = false := by unfold chk; rw [if_pos (by simp only; omega)]
  rw [e]
  clear e
  have xhn : (n == 0) = false := by rw [beq_eq_false_iff_ne]; exact hn
  have yhn : (n != 0) = true := by rw [bne_iff_ne]; exact hn
  have xhk : (kind == 15) = false := by rw [beq_eq_false_iff_ne]; exact hk
  have yhk : (kind != 15) = true := by rw [bne_iff_ne]; exact hk
  unfold kyv
  go_enter Tryd.func9, Tryd.ntmps9
  go_wp2_with fail
  all_goals go_ret
  all_goals exact ⟨rfl, (Below.refl _ _).alloc (Nat.le_refl _) _⟩
set_option maxHeartbeats 4000000 in
set_option maxRecDepth 100000 in
theorem check_f0 (n held : Int) (w : World) (h0 : 0 ≤ held) (h7 : held ≤ 7) (hn : ¬ n = 0) (h1 : ¬ 1 ≤ n) :
    Calls Tryd.prog 9 #[kyv ⟨15, 0, n, held⟩] w fun e w' => e = .returned (.bool (chk ⟨15, 0, n, held⟩)) ∧ Below w.heap.size w w' := by
  have g0 : ¬ held < 0 := Int.not_lt.2 h0
  have g7 : ¬ 7 < held := Int.not_lt.2 h7
  have e : chk ⟨15, 0, n, held⟩ = false := by unfold chk; rw [if_neg (by simp only; omega), if_neg (by simp), if_neg (by simp), if_neg (by simp), if_neg (by simp), if_pos rfl]; exact decide_eq_false (by simp only; omega)
  rw [e]
  clear e
  have xhn : (n == 0) = false := by rw [beq_eq_false_iff_ne]; exact hn
  have yhn : (n != 0) = true := by rw [bne_iff_ne]; exact hn
  unfold kyv
  go_enter Tryd.func9, Tryd.ntmps9
  go_wp2_with fail
  all_goals go_ret
  all_goals exact ⟨rfl, (Below.refl _ _).alloc (Nat.le_refl _) _⟩
set_option maxHeartbeats 4000000 in
set_option maxRecDepth 100000 in
theorem check_f1 (n held : Int) (w : World) (h0 : 0 ≤ held) (h7 : held ≤ 7) (hn : ¬ n = 0) (h1 : 1 ≤ n) (h2 : n ≤ 12) :
    Calls Tryd.prog 9 #[kyv ⟨15, 0, n, held⟩] w fun e w' => e = .returned (.bool (chk ⟨15, 0, n, held⟩)) ∧ Below w.heap.size w w' := by
  have g0 : ¬ held < 0 := Int.not_lt.2 h0
  have g7 : ¬ 7 < held := Int.not_lt.2 h7
  have e : chk ⟨15, 0, n, held⟩ = true := by unfold chk; rw [if_neg (by simp only; omega), if_neg (by simp), if_neg (by simp), if_neg (by simp), if_neg (by simp), if_pos rfl]; exact decide_eq_true (by simp only; omega)
  rw [e]
  clear e
  have xhn : (n == 0) = false := by rw [beq_eq_false_iff_ne]; exact hn
  have yhn : (n != 0) = true := by rw [bne_iff_ne]; exact hn
  unfold kyv
  go_enter Tryd.func9, Tryd.ntmps9
  go_wp2_with fail
  all_goals go_ret
  all_goals exact ⟨rfl, (Below.refl _ _).alloc (Nat.le_refl _) _⟩
set_option maxHeartbeats 4000000 in
set_option maxRecDepth 100000 in
theorem check_f2 (n held : Int) (w : World) (h0 : 0 ≤ held) (h7 : held ≤ 7) (hn : ¬ n = 0) (h1 : 1 ≤ n) (h2 : ¬ n ≤ 12) :
    Calls Tryd.prog 9 #[kyv ⟨15, 0, n, held⟩] w fun e w' => e = .returned (.bool (chk ⟨15, 0, n, held⟩)) ∧ Below w.heap.size w w' := by
  have g0 : ¬ held < 0 := Int.not_lt.2 h0
  have g7 : ¬ 7 < held := Int.not_lt.2 h7
  have e : chk ⟨15, 0, n, held⟩ = false := by unfold chk; rw [if_neg (by simp only; omega), if_neg (by simp), if_neg (by simp), if_neg (by simp), if_neg (by simp), if_pos rfl]; exact decide_eq_false (by simp only; omega)
  rw [e]
  clear e
  have xhn : (n == 0) = false := by rw [beq_eq_false_iff_ne]; exact hn
  have yhn : (n != 0) = true := by rw [bne_iff_ne]; exact hn
  unfold kyv
  go_enter Tryd.func9, Tryd.ntmps9
  go_wp2_with fail
  all_goals go_ret
  all_goals exact ⟨rfl, (Below.refl _ _).alloc (Nat.le_refl _) _⟩
set_option maxHeartbeats 4000000 in
set_option maxRecDepth 100000 in
theorem check_fz (held : Int) (w : World) (h0 : 0 ≤ held) (h7 : held ≤ 7) :
    Calls Tryd.prog 9 #[kyv ⟨15, 0, 0, held⟩] w fun e w' => e = .returned (.bool (chk ⟨15, 0, 0, held⟩)) ∧ Below w.heap.size w w' := by
  have g0 : ¬ held < 0 := Int.not_lt.2 h0
  have g7 : ¬ 7 < held := Int.not_lt.2 h7
  have e : chk ⟨15, 0, 0, held⟩ = false := by unfold chk; rw [if_neg (by simp only; omega), if_neg (by simp), if_neg (by simp), if_neg (by simp), if_neg (by simp), if_pos rfl]; rfl
  rw [e]
  clear e
  unfold kyv
  go_enter Tryd.func9, Tryd.ntmps9
  go_wp2_with fail
  all_goals go_ret
  all_goals exact ⟨rfl, (Below.refl _ _).alloc (Nat.le_refl _) _⟩
set_option maxHeartbeats 4000000 in
set_option maxRecDepth 100000 in
theorem check_r0 (held : Int) (w : World) (h0 : 0 ≤ held) (h7 : held ≤ 7) (hT : Txt.Tab w) :
    Calls Tryd.prog 9 #[kyv ⟨1, 0, 0, held⟩] w fun e w' => e = .returned (.bool (chk ⟨1, 0, 0, held⟩)) ∧ Below w.heap.size w w' := by
  have g0 : ¬ held < 0 := Int.not_lt.2 h0
  have g7 : ¬ 7 < held := Int.not_lt.2 h7
  have kb : Below w.heap.size w (w.alloc (.cells #[.int .i64 1, .int .i32 0, .int .i64 0, .int .i64 held] 23)) := (Below.refl _ _).alloc (Nat.le_refl _) _
  have HW := checkRune_any ⟨1, 0, 0, held⟩ _ (Tab.alloc hT (.cells #[.int .i64 1, .int .i32 0, .int .i64 0, .int .i64 held] 23)) h0 h7
  have e : chk ⟨1, 0, 0, held⟩ = chkR ⟨1, 0, 0, held⟩ := by unfold chk; rw [if_neg (by simp only; omega), if_pos rfl]
  rw [e]
  clear e hT
  generalize chkR ⟨1, 0, 0, held⟩ = d at *
  unfold kyv at HW ⊢
  go_enter Tryd.func9, Tryd.ntmps9
  go_wp2_with (go_at_call 22; refine HW.mono ?_; rintro e W1 ⟨rfl, b1⟩; replace kb := kb.trans (b1.mono kb.size))
  go_ret
  exact ⟨rfl, kb⟩
set_option maxHeartbeats 4000000 in
set_option maxRecDepth 100000 in
theorem check_k2y (held : Int) (w : World) (h0 : 0 ≤ held) (h7 : held ≤ 7) (hc : (held = 0 ∨ held = 2)) :
    Calls Tryd.prog 9 #[kyv ⟨2, 0, 0, held⟩] w fun e w' => e = .returned (.bool (chk ⟨2, 0, 0, held⟩)) ∧ Below w.heap.size w w' := by
  have g0 : ¬ held < 0 := Int.not_lt.2 h0
  have g7 : ¬ 7 < held := Int.not_lt.2 h7
  have e : chk ⟨2, 0, 0, held⟩ = true := by unfold chk; rw [if_neg (by simp only; omega), if_neg (by simp), if_pos (by simp)]; exact decide_eq_true hc
  rw [e]
  clear e
  have hb : (bits BinOp.andNot IntKind.i64 held 2 == 0) = true := by rw [andNot_two held h0 h7]; exact decide_eq_true hc
  unfold kyv
  go_enter Tryd.func9, Tryd.ntmps9
  go_wp2_with fail
  all_goals go_ret
  all_goals exact ⟨rfl, (Below.refl _ _).alloc (Nat.le_refl _) _⟩
set_option maxHeartbeats 4000000 in
set_option maxRecDepth 100000 in
theorem check_k2n (held : Int) (w : World) (h0 : 0 ≤ held) (h7 : held ≤ 7) (hc : ¬ (held = 0 ∨ held = 2)) :
    Calls Tryd.prog 9 #[kyv ⟨2, 0, 0, held⟩] w fun e w' => e = .returned (.bool (chk ⟨2, 0, 0, held⟩)) ∧ Below w.heap.size w w' := by
  have g0 : ¬ held < 0 := Int.not_lt.2 h0
  have g7 : ¬ 7 < held := Int.not_lt.2 h7
  have e : chk ⟨2, 0, 0, held⟩ = false := by unfold chk; rw [if_neg (by simp only; omega), if_neg (by simp), if_pos (by simp)]; exact decide_eq_false hc
  rw [e]
  clear e
  have hb : (bits BinOp.andNot IntKind.i64 held 2 == 0) = false := by rw [andNot_two held h0 h7]; exact decide_eq_false hc
  unfold kyv
  go_enter Tryd.func9, Tryd.ntmps9
  go_wp2_with fail
  all_goals go_ret
  all_goals exact ⟨rfl, (Below.refl _ _).alloc (Nat.le_refl _) _⟩
set_option maxHeartbeats 4000000 in
set_option maxRecDepth 100000 in
theorem check_k4y (held : Int) (w : World) (h0 : 0 ≤ held) (h7 : held ≤ 7) (hc : (held = 0 ∨ held = 2)) :
    Calls Tryd.prog 9 #[kyv ⟨4, 0, 0, held⟩] w fun e w' => e = .returned (.bool (chk ⟨4, 0, 0, held⟩)) ∧ Below w.heap.size w w' := by
  have g0 : ¬ held < 0 := Int.not_lt.2 h0
  have g7 : ¬ 7 < held := Int.not_lt.2 h7
  have e : chk ⟨4, 0, 0, held⟩ = true := by unfold chk; rw [if_neg (by simp only; omega), if_neg (by simp), if_pos (by simp)]; exact decide_eq_true hc
  rw [e]
  clear e
  have hb : (bits BinOp.andNot IntKind.i64 held 2 == 0) = true := by rw [andNot_two held h0 h7]; exact decide_eq_true hc
  unfold kyv
  go_enter Tryd.func9, Tryd.ntmps9
  go_wp2_with fail
  all_goals go_ret
  all_goals exact ⟨rfl, (Below.refl _ _).alloc (Nat.le_refl _) _⟩
set_option maxHeartbeats 4000000 in
set_option maxRecDepth 100000 in
theorem check_k4n (held : Int) (w : World) (h0 : 0 ≤ held) (h7 : held ≤ 7) (hc : ¬ (held = 0 ∨ held = 2)) :
    Calls Tryd.prog 9 #[kyv ⟨4, 0, 0, held⟩] w fun e w' => e = .returned (.bool (chk ⟨4, 0, 0, held⟩)) ∧ Below w.heap.size w w' := by
  have g0 : ¬ held < 0 := Int.not_lt.2 h0
  have g7 : ¬ 7 < held := Int.not_lt.2 h7
  have e : chk ⟨4, 0, 0, held⟩ = false := by unfold chk; rw [if_neg (by simp only; omega), if_neg (by simp), if_pos (by simp)]; exact decide_eq_false hc
  rw [e]
  clear e
  have hb : (bits BinOp.andNot IntKind.i64 held 2 == 0) = false := by rw [andNot_two held h0 h7]; exact decide_eq_false hc
  unfold kyv
  go_enter Tryd.func9, Tryd.ntmps9
  go_wp2_with fail
  all_goals go_ret
  all_goals exact ⟨rfl, (Below.refl _ _).alloc (Nat.le_refl _) _⟩
set_option maxHeartbeats 4000000 in
set_option maxRecDepth 100000 in
theorem check_k3y (held : Int) (w : World) (h0 : 0 ≤ held) (h7 : held ≤ 7) (hc : (held = 0 ∨ held = 1)) :
    Calls Tryd.prog 9 #[kyv ⟨3, 0, 0, held⟩] w fun e w' => e = .returned (.bool (chk ⟨3, 0, 0, held⟩)) ∧ Below w.heap.size w w' := by
  have g0 : ¬ held < 0 := Int.not_lt.2 h0
  have g7 : ¬ 7 < held := Int.not_lt.2 h7
  have e : chk ⟨3, 0, 0, held⟩ = true := by unfold chk; rw [if_neg (by simp only; omega), if_neg (by simp), if_neg (by simp), if_pos rfl]; exact decide_eq_true hc
  rw [e]
  clear e
  have hb : (bits BinOp.andNot IntKind.i64 held 1 == 0) = true := by rw [andNot_one held h0 h7]; exact decide_eq_true hc
  unfold kyv
  go_enter Tryd.func9, Tryd.ntmps9
  go_wp2_with fail
  all_goals go_ret
  all_goals exact ⟨rfl, (Below.refl _ _).alloc (Nat.le_refl _) _⟩
set_option maxHeartbeats 4000000 in
set_option maxRecDepth 100000 in
theorem check_k3n (held : Int) (w : World) (h0 : 0 ≤ held) (h7 : held ≤ 7) (hc : ¬ (held = 0 ∨ held = 1)) :
    Calls Tryd.prog 9 #[kyv ⟨3, 0, 0, held⟩] w fun e w' => e = .returned (.bool (chk ⟨3, 0, 0, held⟩)) ∧ Below w.heap.size w w' := by
  have g0 : ¬ held < 0 := Int.not_lt.2 h0
  have g7 : ¬ 7 < held := Int.not_lt.2 h7
  have e : chk ⟨3, 0, 0, held⟩ = false := by unfold chk; rw [if_neg (by simp only; omega), if_neg (by simp), if_neg (by simp), if_pos rfl]; exact decide_eq_false hc
  rw [e]
  clear e
  have hb : (bits BinOp.andNot IntKind.i64 held 1 == 0) = false := by rw [andNot_one held h0 h7]; exact decide_eq_false hc
  unfold kyv
  go_enter Tryd.func9, Tryd.ntmps9
  go_wp2_with fail
  all_goals go_ret
  all_goals exact ⟨rfl, (Below.refl _ _).alloc (Nat.le_refl _) _⟩
set_option maxHeartbeats 4000000 in
set_option maxRecDepth 100000 in
theorem check_k5y (held : Int) (w : World) (h0 : 0 ≤ held) (h7 : held ≤ 7) (hc : held = 0) :
    Calls Tryd.prog 9 #[kyv ⟨5, 0, 0, held⟩] w fun e w' => e = .returned (.bool (chk ⟨5, 0, 0, held⟩)) ∧ Below w.heap.size w w' := by
  have g0 : ¬ held < 0 := Int.not_lt.2 h0
  have g7 : ¬ 7 < held := Int.not_lt.2 h7
  have e : chk ⟨5, 0, 0, held⟩ = true := by unfold chk; rw [if_neg (by simp only; omega), if_neg (by simp), if_neg (by simp), if_neg (by simp), if_pos rfl]; exact decide_eq_true hc
  rw [e]
  clear e
  unfold kyv
  go_enter Tryd.func9, Tryd.ntmps9
  go_wp2_with fail
  all_goals go_ret
  all_goals exact ⟨rfl, (Below.refl _ _).alloc (Nat.le_refl _) _⟩
set_option maxHeartbeats 4000000 in
set_option maxRecDepth 100000 in
theorem check_k5n (held : Int) (w : World) (h0 : 0 ≤ held) (h7 : held ≤ 7) (hc : ¬ held = 0) :
    Calls Tryd.prog 9 #[kyv ⟨5, 0, 0, held⟩] w fun e w' => e = .returned (.bool (chk ⟨5, 0, 0, held⟩)) ∧ Below w.heap.size w w' := by
  have g0 : ¬ held < 0 := Int.not_lt.2 h0
  have g7 : ¬ 7 < held := Int.not_lt.2 h7
  have e : chk ⟨5, 0, 0, held⟩ = false := by unfold chk; rw [if_neg (by simp only; omega), if_neg (by simp), if_neg (by simp), if_neg (by simp), if_pos rfl]; exact decide_eq_false hc
  rw [e]
  clear e
  have xhc : (held == 0) = false := by rw [beq_eq_false_iff_ne]; exact hc
  have yhc : (held != 0) = true := by rw [bne_iff_ne]; exact hc
  unfold kyv
  go_enter Tryd.func9, Tryd.ntmps9
  go_wp2_with fail
  all_goals go_ret
  all_goals exact ⟨rfl, (Below.refl _ _).alloc (Nat.le_refl _) _⟩
set_option maxHeartbeats 4000000 in
set_option maxRecDepth 100000 in
theorem check_o0 (kind held : Int) (w : World) (h0 : 0 ≤ held) (h7 : held ≤ 7) (a1 : ¬ kind = 1) (a2 : ¬ kind = 2) (a4 : ¬ kind = 4) (a3 : ¬ kind = 3) (a5 : ¬ kind = 5) (a15 : ¬ kind = 15) (h1 : ¬ 6 ≤ kind) :
    Calls Tryd.prog 9 #[kyv ⟨kind, 0, 0, held⟩] w fun e w' => e = .returned (.bool (chk ⟨kind, 0, 0, held⟩)) ∧ Below w.heap.size w w' := by
  have g0 : ¬ held < 0 := Int.not_lt.2 h0
  have g7 : ¬ 7 < held := Int.not_lt.2 h7
  have e : chk ⟨kind, 0, 0, held⟩ = false := by unfold chk; rw [if_neg (by simp only; omega), if_neg (by simp only; omega), if_neg (by simp only; omega), if_neg (by simp only; omega), if_neg (by simp only; omega), if_neg (by simp only; omega)]; exact decide_eq_false (by simp only; omega)
  rw [e]
  clear e
  have xa1 : (kind == 1) = false := by rw [beq_eq_false_iff_ne]; exact a1
  have ya1 : (kind != 1) = true := by rw [bne_iff_ne]; exact a1
  have xa2 : (kind == 2) = false := by rw [beq_eq_false_iff_ne]; exact a2
  have ya2 : (kind != 2) = true := by rw [bne_iff_ne]; exact a2
  have xa4 : (kind == 4) = false := by rw [beq_eq_false_iff_ne]; exact a4
  have ya4 : (kind != 4) = true := by rw [bne_iff_ne]; exact a4
  have xa3 : (kind == 3) = false := by rw [beq_eq_false_iff_ne]; exact a3
  have ya3 : (kind != 3) = true := by rw [bne_iff_ne]; exact a3
  have xa5 : (kind == 5) = false := by rw [beq_eq_false_iff_ne]; exact a5
  have ya5 : (kind != 5) = true := by rw [bne_iff_ne]; exact a5
  have xa15 : (kind == 15) = false := by rw [beq_eq_false_iff_ne]; exact a15
  have ya15 : (kind != 15) = true := by rw [bne_iff_ne]; exact a15
  unfold kyv
  go_enter Tryd.func9, Tryd.ntmps9
  go_wp2_with fail
  all_goals go_ret
  all_goals exact ⟨rfl, (Below.refl _ _).alloc (Nat.le_refl _) _⟩
set_option maxHeartbeats 4000000 in
set_option maxRecDepth 100000 in
theorem check_o1 (kind held : Int) (w : World) (h0 : 0 ≤ held) (h7 : held ≤ 7) (a1 : ¬ kind = 1) (a2 : ¬ kind = 2) (a4 : ¬ kind = 4) (a3 : ¬ kind = 3) (a5 : ¬ kind = 5) (a15 : ¬ kind = 15) (h1 : 6 ≤ kind) (h2 : kind ≤ 14) :
    Calls Tryd.prog 9 #[kyv ⟨kind, 0, 0, held⟩] w fun e w' => e = .returned (.bool (chk ⟨kind, 0, 0, held⟩)) ∧ Below w.heap.size w w' := by
  have g0 : ¬ held < 0 := Int.not_lt.2 h0
  have g7 : ¬ 7 < held := Int.not_lt.2 h7
  have e : chk ⟨kind, 0, 0, held⟩ = true := by unfold chk; rw [if_neg (by simp only; omega), if_neg (by simp only; omega), if_neg (by simp only; omega), if_neg (by simp only; omega), if_neg (by simp only; omega), if_neg (by simp only; omega)]; exact decide_eq_true (by simp only; omega)
  rw [e]
  clear e
  have xa1 : (kind == 1) = false := by rw [beq_eq_false_iff_ne]; exact a1
  have ya1 : (kind != 1) = true := by rw [bne_iff_ne]; exact a1
  have xa2 : (kind == 2) = false := by rw [beq_eq_false_iff_ne]; exact a2
  have ya2 : (kind != 2) = true := by rw [bne_iff_ne]; exact a2
  have xa4 : (kind == 4) = false := by rw [beq_eq_false_iff_ne]; exact a4
  have ya4 : (kind != 4) = true := by rw [bne_iff_ne]; exact a4
  have xa3 : (kind == 3) = false := by rw [beq_eq_false_iff_ne]; exact a3
  have ya3 : (kind != 3) = true := by rw [bne_iff_ne]; exact a3
  have xa5 : (kind == 5) = false := by rw [beq_eq_false_iff_ne]; exact a5
  have ya5 : (kind != 5) = true := by rw [bne_iff_ne]; exact a5
  have xa15 : (kind == 15) = false := by rw [beq_eq_false_iff_ne]; exact a15
  have ya15 : (kind != 15) = true := by rw [bne_iff_ne]; exact a15
  unfold kyv
  go_enter Tryd.func9, Tryd.ntmps9
  go_wp2_with fail
  all_goals go_ret
  all_goals exact ⟨rfl, (Below.refl _ _).alloc (Nat.le_refl _) _⟩
set_option maxHeartbeats 4000000 in
set_option maxRecDepth 100000 in
theorem check_o2 (kind held : Int) (w : World) (h0 : 0 ≤ held) (h7 : held ≤ 7) (a1 : ¬ kind = 1) (a2 : ¬ kind = 2) (a4 : ¬ kind = 4) (a3 : ¬ kind = 3) (a5 : ¬ kind = 5) (a15 : ¬ kind = 15) (h1 : 6 ≤ kind) (h2 : ¬ kind ≤ 14) :
    Calls Tryd.prog 9 #[kyv ⟨kind, 0, 0, held⟩] w fun e w' => e = .returned (.bool (chk ⟨kind, 0, 0, held⟩)) ∧ Below w.heap.size w w' := by
  have g0 : ¬ held < 0 := Int.not_lt.2 h0
  have g7 : ¬ 7 < held := Int.not_lt.2 h7
  have e : chk ⟨kind, 0, 0, held⟩ = false := by unfold chk; rw [if_neg (by simp only; omega), if_neg (by simp only; omega), if_neg (by simp only; omega), if_neg (by simp only; omega), if_neg (by simp only; omega), if_neg (by simp only; omega)]; exact decide_eq_false (by simp only; omega)
  rw [e]
  clear e
  have xa1 : (kind == 1) = false := by rw [beq_eq_false_iff_ne]; exact a1
  have ya1 : (kind != 1) = true := by rw [bne_iff_ne]; exact a1
  have xa2 : (kind == 2) = false := by rw [beq_eq_false_iff_ne]; exact a2
  have ya2 : (kind != 2) = true := by rw [bne_iff_ne]; exact a2
  have xa4 : (kind == 4) = false := by rw [beq_eq_false_iff_ne]; exact a4
  have ya4 : (kind != 4) = true := by rw [bne_iff_ne]; exact a4
  have xa3 : (kind == 3) = false := by rw [beq_eq_false_iff_ne]; exact a3
  have ya3 : (kind != 3) = true := by rw [bne_iff_ne]; exact a3
  have xa5 : (kind == 5) = false := by rw [beq_eq_false_iff_ne]; exact a5
  have ya5 : (kind != 5) = true := by rw [bne_iff_ne]; exact a5
  have xa15 : (kind == 15) = false := by rw [beq_eq_false_iff_ne]; exact a15
  have ya15 : (kind != 15) = true := by rw [bne_iff_ne]; exact a15
  unfold kyv
  go_enter Tryd.func9, Tryd.ntmps9
  go_wp2_with fail
  all_goals go_ret
  all_goals exact ⟨rfl, (Below.refl _ _).alloc (Nat.le_refl _) _⟩
set_option maxHeartbeats 4000000 in
set_option maxRecDepth 100000 in
theorem check_lo (k : Ky) (w : World) (h : k.held < 0) :
    Calls Tryd.prog 9 #[kyv k] w fun e w' => e = .returned (.bool false) ∧ Below w.heap.size w w' := by
  unfold kyv
  go_enter Tryd.func9, Tryd.ntmps9
  go_wp2_with fail
  go_ret
  exact ⟨rfl, (Below.refl _ _).alloc (Nat.le_refl _) _⟩
set_option maxHeartbeats 4000000 in
set_option maxRecDepth 100000 in
theorem check_hi (k : Ky) (w : World) (h : 7 < k.held) :
    Calls Tryd.prog 9 #[kyv k] w fun e w' => e = .returned (.bool false) ∧ Below w.heap.size w w' := by
  unfold kyv
  have h' : ¬ k.held < 0 := by omega
  go_enter Tryd.func9, Tryd.ntmps9
  go_wp2_with fail
  go_ret
  exact ⟨rfl, (Below.refl _ _).alloc (Nat.le_refl _) _⟩
theorem check_any (k : Ky) (w : World) (hT : Txt.Tab w) :
    Calls Tryd.prog 9 #[kyv k] w fun e w' => e = .returned (.bool (chk k)) ∧ Below w.heap.size w w' := by
  by_cases hl : k.held < 0
  · rw [show chk k = false by unfold chk; rw [if_pos (by omega)]]
    exact check_lo k w hl
  · by_cases hh : 7 < k.held
    · rw [show chk k = false by unfold chk; rw [if_pos (by omega)]]
      exact check_hi k w hh
    · obtain ⟨kind, r, n, held⟩ := k
      simp only at hl hh
      have h0 : 0 ≤ held := by omega
      have h7 : held ≤ 7 := by omega
      by_cases hr : r = 0
      · subst hr
        by_cases hn : n = 0
        · subst hn
          by_cases a1 : kind = 1
          · subst a1; exact check_r0 held w h0 h7 hT
          by_cases a2 : kind = 2
          · subst a2
            by_cases hc : held = 0 ∨ held = 2
            · exact check_k2y held w h0 h7 hc
            · exact check_k2n held w h0 h7 hc
          by_cases a4 : kind = 4
          · subst a4
            by_cases hc : held = 0 ∨ held = 2
            · exact check_k4y held w h0 h7 hc
            · exact check_k4n held w h0 h7 hc
          by_cases a3 : kind = 3
          · subst a3
            by_cases hc : held = 0 ∨ held = 1
            · exact check_k3y held w h0 h7 hc
            · exact check_k3n held w h0 h7 hc
          by_cases a5 : kind = 5
          · subst a5
            by_cases hc : held = 0
            · exact check_k5y held w h0 h7 hc
            · exact check_k5n held w h0 h7 hc
          by_cases a15 : kind = 15
          · subst a15; exact check_fz held w h0 h7
          by_cases h1 : 6 ≤ kind
          · by_cases h2 : kind ≤ 14
            · exact check_o1 kind held w h0 h7 a1 a2 a4 a3 a5 a15 h1 h2
            · exact check_o2 kind held w h0 h7 a1 a2 a4 a3 a5 a15 h1 h2
          · exact check_o0 kind held w h0 h7 a1 a2 a4 a3 a5 a15 h1
        · by_cases hk : kind = 15
          · subst hk
            by_cases h1 : 1 ≤ n
            · by_cases h2 : n ≤ 12
              · exact check_f1 n held w h0 h7 hn h1 h2
              · exact check_f2 n held w h0 h7 hn h1 h2
            · exact check_f0 n held w h0 h7 hn h1
          · exact check_nk kind n held w h0 h7 hn hk
      · by_cases hk : kind = 1
        · subst hk
          by_cases hn : n = 0
          · subst hn; exact check_rr r held w h0 h7 hr hT
          · exact check_rn r n held w h0 h7 hr hn
        · exact check_rk kind r n held w h0 h7 hr hk
end Kys
end Go.Proofs.YtdmooeoklcjplaaDoor

/- Package keys: the writers of one kind each. -/

namespace Go.Proofs.YtdmooeoklcjplaaDoor
open Go.ChangeShapes Go.WideShapes Go.ChangeAt Go.RowKit
namespace Kys
open Txt (wd bs)
set_option maxHeartbeats 4000000 in
theorem altAhead_0 (kind r n : Int) (w : World) : Calls Tryd.prog 55 #[kyv ⟨kind, r, n, 0⟩] w fun e w' => e = .returned (.string ⟨#[]⟩) ∧ Below w.heap.size w w' := by
  have hb : bits BinOp.and IntKind.i64 0 2 = 0 := by kernel_rfl
  unfold kyv
  go_enter Tryd.func55, Tryd.ntmps55
  go_wp2_with fail
  go_ret
  exact ⟨rfl, (Below.refl _ _).alloc (Nat.le_refl _) _⟩
set_option maxHeartbeats 4000000 in
theorem altAhead_2 (kind r n : Int) (w : World) : Calls Tryd.prog 55 #[kyv ⟨kind, r, n, 2⟩] w fun e w' => e = .returned (.string ⟨#[27]⟩) ∧ Below w.heap.size w w' := by
  have hb : bits BinOp.and IntKind.i64 2 2 = 2 := by kernel_rfl
  unfold kyv
  go_enter Tryd.func55, Tryd.ntmps55
  go_wp2_with fail
  go_ret
  exact ⟨rfl, (Below.refl _ _).alloc (Nat.le_refl _) _⟩
set_option maxHeartbeats 4000000 in
theorem altAhead_4 (kind r n : Int) (w : World) : Calls Tryd.prog 55 #[kyv ⟨kind, r, n, 4⟩] w fun e w' => e = .returned (.string ⟨#[]⟩) ∧ Below w.heap.size w w' := by
  have hb : bits BinOp.and IntKind.i64 4 2 = 0 := by kernel_rfl
  unfold kyv
  go_enter Tryd.func55, Tryd.ntmps55
  go_wp2_with fail
  go_ret
  exact ⟨rfl, (Below.refl _ _).alloc (Nat.le_refl _) _⟩
set_option maxHeartbeats 4000000 in
theorem altAhead_6 (kind r n : Int) (w : World) : Calls Tryd.prog 55 #[kyv ⟨kind, r, n, 6⟩] w fun e w' => e = .returned (.string ⟨#[27]⟩) ∧ Below w.heap.size w w' := by
  have hb : bits BinOp.and IntKind.i64 6 2 = 2 := by kernel_rfl
  unfold kyv
  go_enter Tryd.func55, Tryd.ntmps55
  go_wp2_with fail
  go_ret
  exact ⟨rfl, (Below.refl _ _).alloc (Nat.le_refl _) _⟩
theorem altAhead_any (k : Ky) (h : k.held = 0 ∨ k.held = 2 ∨ k.held = 4 ∨ k.held = 6) (w : World) : Calls Tryd.prog 55 #[kyv k] w fun e w' => e = .returned (.string (bs (altA k.held))) ∧ Below w.heap.size w w' := by
  obtain ⟨kind, r, n, held⟩ := k
  simp only at h
  rcases h with rfl | rfl | rfl | rfl
  · exact altAhead_0 kind r n w
  · exact altAhead_2 kind r n w
  · exact altAhead_4 kind r n w
  · exact altAhead_6 kind r n w
theorem bs_size (l : List UInt8) : (bs l).size = l.length := by simp [bs, ByteArray.size]
set_option maxHeartbeats 4000000 in
theorem writeEnter_any (k : Ky) (kp : Bool) (h : k.held = 0 ∨ k.held = 2) (w : World) : Calls Tryd.prog 32 #[kyv k, .bool kp] w fun e w' => e = .returned (.string (bs (altA k.held ++ [13]))) ∧ Below w.heap.size w w' := by
  have kb : Below w.heap.size w (w.alloc (.cells #[.int .i64 k.kind, .int .i32 k.r, .int .i64 k.n, .int .i64 k.held] 23)) := (Below.refl _ _).alloc (Nat.le_refl _) _
  have HW := altAhead_any k (by omega) (w.alloc (.cells #[.int .i64 k.kind, .int .i32 k.r, .int .i64 k.n, .int .i64 k.held] 23))
  have hl : (altA k.held).length ≤ 1 := by unfold altA; split <;> simp
  have he : bs (altA k.held ++ [13]) = bs (altA k.held) ++ ⟨#[13]⟩ := (Txt.bs_append _ _).symm
  have hs : ¬ 9223372036854775807 < (bs (altA k.held)).size + 1 := by rw [bs_size]; omega
  rw [he]
  clear he hl
  generalize bs (altA k.held) = t at *
  unfold kyv at HW ⊢
  go_enter Tryd.func32, Tryd.ntmps32
  go_wp2_with (go_at_call 55; refine HW.mono ?_; rintro e W1 ⟨rfl, b1⟩; replace kb := kb.trans (b1.mono kb.size))
  go_ret
  exact ⟨rfl, kb⟩
set_option maxHeartbeats 4000000 in
theorem writeBack_any (k : Ky) (kp : Bool) (h : k.held = 0 ∨ k.held = 2) (w : World) : Calls Tryd.prog 34 #[kyv k, .bool kp] w fun e w' => e = .returned (.string (bs (altA k.held ++ [127]))) ∧ Below w.heap.size w w' := by
  have kb : Below w.heap.size w (w.alloc (.cells #[.int .i64 k.kind, .int .i32 k.r, .int .i64 k.n, .int .i64 k.held] 23)) := (Below.refl _ _).alloc (Nat.le_refl _) _
  have HW := altAhead_any k (by omega) (w.alloc (.cells #[.int .i64 k.kind, .int .i32 k.r, .int .i64 k.n, .int .i64 k.held] 23))
  have hl : (altA k.held).length ≤ 1 := by unfold altA; split <;> simp
  have he : bs (altA k.held ++ [127]) = bs (altA k.held) ++ ⟨#[127]⟩ := (Txt.bs_append _ _).symm
  have hs : ¬ 9223372036854775807 < (bs (altA k.held)).size + 1 := by rw [bs_size]; omega
  rw [he]
  clear he hl
  generalize bs (altA k.held) = t at *
  unfold kyv at HW ⊢
  go_enter Tryd.func34, Tryd.ntmps34
  go_wp2_with (go_at_call 55; refine HW.mono ?_; rintro e W1 ⟨rfl, b1⟩; replace kb := kb.trans (b1.mono kb.size))
  go_ret
  exact ⟨rfl, kb⟩
set_option maxHeartbeats 4000000 in
theorem writeTab_any (k : Ky) (kp : Bool) (w : World) : Calls Tryd.prog 33 #[kyv k, .bool kp] w fun e w' => e = .returned (.string (bs (if k.held ≠ 0 then [27, 91, 90] else [9]))) ∧ Below w.heap.size w w' := by
  obtain ⟨kind, r, n, held⟩ := k
  unfold kyv
  simp only
  by_cases h : held = 0
  · subst h
    go_enter Tryd.func33, Tryd.ntmps33
    go_wp2_with fail
    go_ret
    exact ⟨rfl, (Below.refl _ _).alloc (Nat.le_refl _) _⟩
  · rw [if_pos h]
    have hb : (held == 0) = false := by rw [beq_eq_false_iff_ne]; exact h
    go_enter Tryd.func33, Tryd.ntmps33
    go_wp2_with fail
    go_ret
    exact ⟨rfl, (Below.refl _ _).alloc (Nat.le_refl _) _⟩
set_option maxHeartbeats 4000000 in
theorem writeEsc_any (k : Ky) (kp : Bool) (w : World) : Calls Tryd.prog 35 #[kyv k, .bool kp] w fun e w' => e = .returned (.string (bs [27])) ∧ Below w.heap.size w w' := by
  unfold kyv
  go_enter Tryd.func35, Tryd.ntmps35
  go_wp2_with fail
  go_ret
  first | exact ⟨rfl, (Below.refl _ _).alloc (Nat.le_refl _) _⟩ | exact ⟨rfl, Below.refl _ _⟩
theorem dig_small : ∀ j ∈ List.range 8, j ≠ 0 → Lib.decDigits (j + 1) = [UInt8.ofNat (49 + j)] := by decide +kernel
set_option maxHeartbeats 4000000 in
theorem heldBehind_any (k : Ky) (h0 : 0 ≤ k.held) (h7 : k.held ≤ 7) (w : World) : Calls Tryd.prog 56 #[kyv k] w fun e w' => e = .returned (.string (bs (heldB k.held))) ∧ Below w.heap.size w w' := by
  obtain ⟨kind, r, n, held⟩ := k
  simp only at h0 h7
  obtain ⟨j, hj, rfl⟩ := held_cases (h := held) h0 h7
  clear h0 h7
  unfold kyv
  simp only
  by_cases hz : j = 0
  · subst hz
    go_enter Tryd.func56, Tryd.ntmps56
    go_wp2_with fail
    go_ret
    exact ⟨rfl, (Below.refl _ _).alloc (Nat.le_refl _) _⟩
  · have kb : Below w.heap.size w (w.alloc (.cells #[.int .i64 kind, .int .i32 r, .int .i64 n, .int .i64 (j : Int)] 23)) := (Below.refl _ _).alloc (Nat.le_refl _) _
    have HI := Tryd.strconv_Itoa_small (j + 1) (by omega) (w.alloc (.cells #[.int .i64 kind, .int .i32 r, .int .i64 n, .int .i64 (j : Int)] 23))
    rw [dig_small j (List.mem_range.2 hj) hz] at HI
    have e : bs (heldB (j : Int)) = ⟨#[59]⟩ ++ bs [UInt8.ofNat (49 + j)] := by
      unfold heldB
      rw [if_neg (by omega), Int.toNat_natCast]
      exact (Txt.bs_append [59] [UInt8.ofNat (49 + j)]).symm
    rw [e]
    clear e
    rw [show (⟨[UInt8.ofNat (49 + j)].toArray⟩ : ByteArray) = bs [UInt8.ofNat (49 + j)] from rfl] at HI
    have hs : (bs [UInt8.ofNat (49 + j)]).size = 1 := by rw [bs_size]; rfl
    have hs2 : ¬ 9223372036854775807 < 1 + (bs [UInt8.ofNat (49 + j)]).size := by omega
    generalize bs [UInt8.ofNat (49 + j)] = t at *
    have hc : ((j + 1 : Nat) : Int) = (j : Int) + 1 := by omega
    rw [hc] at HI
    clear hc
    have hw : wrap64 ((j : Int) + 1) = (j : Int) + 1 := by unfold wrap64; omega
    have hb : ((j : Int) == 0) = false := by rw [beq_eq_false_iff_ne]; omega
    go_enter Tryd.func56, Tryd.ntmps56
    go_wp2_with (go_at_call 23; refine HI.mono ?_; rintro e W1 ⟨rfl, hW⟩; subst hW)
    go_ret
    exact ⟨rfl, kb⟩
set_option maxHeartbeats 4000000 in
theorem writeLetter_6 (r n held : Int) (kp : Bool) (h0 : 0 ≤ held) (h7 : held ≤ 7) (w : World) : Calls Tryd.prog 36 #[kyv ⟨6, r, n, held⟩, .bool kp] w fun e w' => e = .returned (.string (bs (wr ⟨6, r, n, held⟩ kp))) ∧ Below w.heap.size w w' := by
  have kb : Below w.heap.size w (w.alloc (.cells #[.int .i64 6, .int .i32 r, .int .i64 n, .int .i64 held] 23)) := (Below.refl _ _).alloc (Nat.le_refl _) _
  have hen : Utf8.encode (((⟨#[65, 66, 67, 68, 72, 70]⟩ : ByteArray)[0]'(by decide)).toNat : Int) = ⟨#[65]⟩ := by kernel_rfl
  by_cases hz : held = 0
  · subst hz
    clear h0 h7
    unfold kyv
    cases kp
    · have e : bs (wr ⟨6, r, n, 0⟩ false) = ⟨#[27, 91]⟩ ++ ⟨#[65]⟩ := (Txt.bs_append [27, 91] [65]).symm
      rw [e]
      clear e
      go_enter Tryd.func36, Tryd.ntmps36
      go_wp2_with fail
      go_ret
      exact ⟨rfl, kb⟩
    · have e : bs (wr ⟨6, r, n, 0⟩ true) = ⟨#[27, 79]⟩ ++ ⟨#[65]⟩ := (Txt.bs_append [27, 79] [65]).symm
      rw [e]
      clear e
      go_enter Tryd.func36, Tryd.ntmps36
      go_wp2_with fail
      go_ret
      exact ⟨rfl, kb⟩
  · have HH := heldBehind_any ⟨6, r, n, held⟩ h0 h7 (w.alloc (.cells #[.int .i64 6, .int .i32 r, .int .i64 n, .int .i64 held] 23))
    have e : bs (wr ⟨6, r, n, held⟩ kp) = ⟨#[27, 91, 49]⟩ ++ bs (heldB held) ++ ⟨#[65]⟩ := by
      have : wr ⟨6, r, n, held⟩ kp = [27, 91, 49] ++ heldB held ++ [65] := by simp [wr, hz, letB, lettersL]
      rw [this]
      exact ((Txt.bs_append ([27, 91, 49] ++ heldB held) [65]).symm).trans (congrArg (· ++ bs [65]) (Txt.bs_append [27, 91, 49] (heldB held)).symm)
    rw [e]
    clear e
    have hl : (bs (heldB held)).size ≤ 2 := by rw [bs_size]; unfold heldB; split <;> simp
    simp only at HH
    generalize bs (heldB held) = t at *
    have hs1 : ¬ 9223372036854775807 < 3 + t.size := by omega
    have hs2 : ¬ 9223372036854775807 < 3 + t.size + 1 := by omega
    have hb : (held == 0) = false := by rw [beq_eq_false_iff_ne]; exact hz
    have hb2 : (held != 0) = true := by rw [bne_iff_ne]; exact hz
    unfold kyv at HH ⊢
    go_enter Tryd.func36, Tryd.ntmps36
    go_wp2_with (go_at_call 56; refine HH.mono ?_; rintro e W1 ⟨rfl, b1⟩; replace kb := kb.trans (b1.mono kb.size))
    go_ret
    exact ⟨rfl, kb⟩
set_option maxHeartbeats 4000000 in
theorem writeLetter_7 (r n held : Int) (kp : Bool) (h0 : 0 ≤ held) (h7 : held ≤ 7) (w : World) : Calls Tryd.prog 36 #[kyv ⟨7, r, n, held⟩, .bool kp] w fun e w' => e = .returned (.string (bs (wr ⟨7, r, n, held⟩ kp))) ∧ Below w.heap.size w w' := by
  have kb : Below w.heap.size w (w.alloc (.cells #[.int .i64 7, .int .i32 r, .int .i64 n, .int .i64 held] 23)) := (Below.refl _ _).alloc (Nat.le_refl _) _
  have hen : Utf8.encode (((⟨#[65, 66, 67, 68, 72, 70]⟩ : ByteArray)[1]'(by decide)).toNat : Int) = ⟨#[66]⟩ := by kernel_rfl
  by_cases hz : held = 0
  · subst hz
    clear h0 h7
    unfold kyv
    cases kp
    · have e : bs (wr ⟨7, r, n, 0⟩ false) = ⟨#[27, 91]⟩ ++ ⟨#[66]⟩ := (Txt.bs_append [27, 91] [66]).symm
      rw [e]
      clear e
      go_enter Tryd.func36, Tryd.ntmps36
      go_wp2_with fail
      go_ret
      exact ⟨rfl, kb⟩
    · have e : bs (wr ⟨7, r, n, 0⟩ true) = ⟨#[27, 79]⟩ ++ ⟨#[66]⟩ := (Txt.bs_append [27, 79] [66]).symm
      rw [e]
      clear e
      go_enter Tryd.func36, Tryd.ntmps36
      go_wp2_with fail
      go_ret
      exact ⟨rfl, kb⟩
  · have HH := heldBehind_any ⟨7, r, n, held⟩ h0 h7 (w.alloc (.cells #[.int .i64 7, .int .i32 r, .int .i64 n, .int .i64 held] 23))
    have e : bs (wr ⟨7, r, n, held⟩ kp) = ⟨#[27, 91, 49]⟩ ++ bs (heldB held) ++ ⟨#[66]⟩ := by
      have : wr ⟨7, r, n, held⟩ kp = [27, 91, 49] ++ heldB held ++ [66] := by simp [wr, hz, letB, lettersL]
      rw [this]
      exact ((Txt.bs_append ([27, 91, 49] ++ heldB held) [66]).symm).trans (congrArg (· ++ bs [66]) (Txt.bs_append [27, 91, 49] (heldB held)).symm)
    rw [e]
    clear e
    have hl : (bs (heldB held)).size ≤ 2 := by rw [bs_size]; unfold heldB; split <;> simp
    simp only at HH
    generalize bs (heldB held) = t at *
    have hs1 : ¬ 9223372036854775807 < 3 + t.size := by omega
    have hs2 : ¬ 9223372036854775807 < 3 + t.size + 1 := by omega
    have hb : (held == 0) = false := by rw [beq_eq_false_iff_ne]; exact hz
    have hb2 : (held != 0) = true := by rw [bne_iff_ne]; exact hz
    unfold kyv at HH ⊢
    go_enter Tryd.func36, Tryd.ntmps36
    go_wp2_with (go_at_call 56; refine HH.mono ?_; rintro e W1 ⟨rfl, b1⟩; replace kb := kb.trans (b1.mono kb.size))
    go_ret
    exact ⟨rfl, kb⟩
set_option maxHeartbeats 4000000 in
theorem writeLetter_8 (r n held : Int) (kp : Bool) (h0 : 0 ≤ held) (h7 : held ≤ 7) (w : World) : Calls Tryd.prog 36 #[kyv ⟨8, r, n, held⟩, .bool kp] w fun e w' => e = .returned (.string (bs (wr ⟨8, r, n, held⟩ kp))) ∧ Below w.heap.size w w' := by
  have kb : Below w.heap.size w (w.alloc (.cells #[.int .i64 8, .int .i32 r, .int .i64 n, .int .i64 held] 23)) := (Below.refl _ _).alloc (Nat.le_refl _) _
  have hen : Utf8.encode (((⟨#[65, 66, 67, 68, 72, 70]⟩ : ByteArray)[2]'(by decide)).toNat : Int) = ⟨#[67]⟩ := by kernel_rfl
  by_cases hz : held = 0
  · subst hz
    clear h0 h7
    unfold kyv
    cases kp
    · have e : bs (wr ⟨8, r, n, 0⟩ false) = ⟨#[27, 91]⟩ ++ ⟨#[67]⟩ := (Txt.bs_append [27, 91] [67]).symm
      rw [e]
      clear e
      go_enter Tryd.func36, Tryd.ntmps36
      go_wp2_with fail
      go_ret
      exact ⟨rfl, kb⟩
    · have e : bs (wr ⟨8, r, n, 0⟩ true) = ⟨#[27, 79]⟩ ++ ⟨#[67]⟩ := (Txt.bs_append [27, 79] [67]).symm
      rw [e]
      clear e
      go_enter Tryd.func36, Tryd.ntmps36
      go_wp2_with fail
      go_ret
      exact ⟨rfl, kb⟩
  · have HH := heldBehind_any ⟨8, r, n, held⟩ h0 h7 (w.alloc (.cells #[.int .i64 8, .int .i32 r, .int .i64 n, .int .i64 held] 23))
    have e : bs (wr ⟨8, r, n, held⟩ kp) = ⟨#[27, 91, 49]⟩ ++ bs (heldB held) ++ ⟨#[67]⟩ := by
      have : wr ⟨8, r, n, held⟩ kp = [27, 91, 49] ++ heldB held ++ [67] := by simp [wr, hz, letB, lettersL]
      rw [this]
      exact ((Txt.bs_append ([27, 91, 49] ++ heldB held) [67]).symm).trans (congrArg (· ++ bs [67]) (Txt.bs_append [27, 91, 49] (heldB held)).symm)
    rw [e]
    clear e
    have hl : (bs (heldB held)).size ≤ 2 := by rw [bs_size]; unfold heldB; split <;> simp
    simp only at HH
    generalize bs (heldB held) = t at *
    have hs1 : ¬ 9223372036854775807 < 3 + t.size := by omega
    have hs2 : ¬ 9223372036854775807 < 3 + t.size + 1 := by omega
    have hb : (held == 0) = false := by rw [beq_eq_false_iff_ne]; exact hz
    have hb2 : (held != 0) = true := by rw [bne_iff_ne]; exact hz
    unfold kyv at HH ⊢
    go_enter Tryd.func36, Tryd.ntmps36
    go_wp2_with (go_at_call 56; refine HH.mono ?_; rintro e W1 ⟨rfl, b1⟩; replace kb := kb.trans (b1.mono kb.size))
    go_ret
    exact ⟨rfl, kb⟩
set_option maxHeartbeats 4000000 in
theorem writeLetter_9 (r n held : Int) (kp : Bool) (h0 : 0 ≤ held) (h7 : held ≤ 7) (w : World) : Calls Tryd.prog 36 #[kyv ⟨9, r, n, held⟩, .bool kp] w fun e w' => e = .returned (.string (bs (wr ⟨9, r, n, held⟩ kp))) ∧ Below w.heap.size w w' := by
  have kb : Below w.heap.size w (w.alloc (.cells #[.int .i64 9, .int .i32 r, .int .i64 n, .int .i64 held] 23)) := (Below.refl _ _).alloc (Nat.le_refl _) _
  have hen : Utf8.encode (((⟨#[65, 66, 67, 68, 72, 70]⟩ : ByteArray)[3]'(by decide)).toNat : Int) = ⟨#[68]⟩ := by kernel_rfl
  by_cases hz : held = 0
  · subst hz
    clear h0 h7
    unfold kyv
    cases kp
    · have e : bs (wr ⟨9, r, n, 0⟩ false) = ⟨#[27, 91]⟩ ++ ⟨#[68]⟩ := (Txt.bs_append [27, 91] [68]).symm
      rw [e]
      clear e
      go_enter Tryd.func36, Tryd.ntmps36
      go_wp2_with fail
      go_ret
      exact ⟨rfl, kb⟩
    · have e : bs (wr ⟨9, r, n, 0⟩ true) = ⟨#[27, 79]⟩ ++ ⟨#[68]⟩ := (Txt.bs_append [27, 79] [68]).symm
      rw [e]
      clear e
      go_enter Tryd.func36, Tryd.ntmps36
      go_wp2_with fail
      go_ret
      exact ⟨rfl, kb⟩
  · have HH := heldBehind_any ⟨9, r, n, held⟩ h0 h7 (w.alloc (.cells #[.int .i64 9, .int .i32 r, .int .i64 n, .int .i64 held] 23))
    have e : bs (wr ⟨9, r, n, held⟩ kp) = ⟨#[27, 91, 49]⟩ ++ bs (heldB held) ++ ⟨#[68]⟩ := by
      have : wr ⟨9, r, n, held⟩ kp = [27, 91, 49] ++ heldB held ++ [68] := by simp [wr, hz, letB, lettersL]
      rw [this]
      exact ((Txt.bs_append ([27, 91, 49] ++ heldB held) [68]).symm).trans (congrArg (· ++ bs [68]) (Txt.bs_append [27, 91, 49] (heldB held)).symm)
    rw [e]
    clear e
    have hl : (bs (heldB held)).size ≤ 2 := by rw [bs_size]; unfold heldB; split <;> simp
    simp only at HH
    generalize bs (heldB held) = t at *
    have hs1 : ¬ 9223372036854775807 < 3 + t.size := by omega
    have hs2 : ¬ 9223372036854775807 < 3 + t.size + 1 := by omega
    have hb : (held == 0) = false := by rw [beq_eq_false_iff_ne]; exact hz
    have hb2 : (held != 0) = true := by rw [bne_iff_ne]; exact hz
    unfold kyv at HH ⊢
    go_enter Tryd.func36, Tryd.ntmps36
    go_wp2_with (go_at_call 56; refine HH.mono ?_; rintro e W1 ⟨rfl, b1⟩; replace kb := kb.trans (b1.mono kb.size))
    go_ret
    exact ⟨rfl, kb⟩
set_option maxHeartbeats 4000000 in
theorem writeLetter_10 (r n held : Int) (kp : Bool) (h0 : 0 ≤ held) (h7 : held ≤ 7) (w : World) : Calls Tryd.prog 36 #[kyv ⟨10, r, n, held⟩, .bool kp] w fun e w' => e = .returned (.string (bs (wr ⟨10, r, n, held⟩ kp))) ∧ Below w.heap.size w w' := by
  have kb : Below w.heap.size w (w.alloc (.cells #[.int .i64 10, .int .i32 r, .int .i64 n, .int .i64 held] 23)) := (Below.refl _ _).alloc (Nat.le_refl _) _
  have hen : Utf8.encode (((⟨#[65, 66, 67, 68, 72, 70]⟩ : ByteArray)[4]'(by decide)).toNat : Int) = ⟨#[72]⟩ := by kernel_rfl
  by_cases hz : held = 0
  · subst hz
    clear h0 h7
    unfold kyv
    cases kp
    · have e : bs (wr ⟨10, r, n, 0⟩ false) = ⟨#[27, 91]⟩ ++ ⟨#[72]⟩ := (Txt.bs_append [27, 91] [72]).symm
      rw [e]
      clear e
      go_enter Tryd.func36, Tryd.ntmps36
      go_wp2_with fail
      go_ret
      exact ⟨rfl, kb⟩
    · have e : bs (wr ⟨10, r, n, 0⟩ true) = ⟨#[27, 79]⟩ ++ ⟨#[72]⟩ := (Txt.bs_append [27, 79] [72]).symm
      rw [e]
      clear e
      go_enter Tryd.func36, Tryd.ntmps36
      go_wp2_with fail
      go_ret
      exact ⟨rfl, kb⟩
  · have HH := heldBehind_any ⟨10, r, n, held⟩ h0 h7 (w.alloc (.cells #[.int .i64 10, .int .i32 r, .int .i64 n, .int .i64 held] 23))
    have e : bs (wr ⟨10, r, n, held⟩ kp) = ⟨#[27, 91, 49]⟩ ++ bs (heldB held) ++ ⟨#[72]⟩ := by
      have : wr ⟨10, r, n, held⟩ kp = [27, 91, 49] ++ heldB held ++ [72] := by simp [wr, hz, letB, lettersL]
      rw [this]
      exact ((Txt.bs_append ([27, 91, 49] ++ heldB held) [72]).symm).trans (congrArg (· ++ bs [72]) (Txt.bs_append [27, 91, 49] (heldB held)).symm)
    rw [e]
    clear e
    have hl : (bs (heldB held)).size ≤ 2 := by rw [bs_size]; unfold heldB; split <;> simp
    simp only at HH
    generalize bs (heldB held) = t at *
    have hs1 : ¬ 9223372036854775807 < 3 + t.size := by omega
    have hs2 : ¬ 9223372036854775807 < 3 + t.size + 1 := by omega
    have hb : (held == 0) = false := by rw [beq_eq_false_iff_ne]; exact hz
    have hb2 : (held != 0) = true := by rw [bne_iff_ne]; exact hz
    unfold kyv at HH ⊢
    go_enter Tryd.func36, Tryd.ntmps36
    go_wp2_with (go_at_call 56; refine HH.mono ?_; rintro e W1 ⟨rfl, b1⟩; replace kb := kb.trans (b1.mono kb.size))
    go_ret
    exact ⟨rfl, kb⟩
set_option maxHeartbeats 4000000 in
theorem writeLetter_11 (r n held : Int) (kp : Bool) (h0 : 0 ≤ held) (h7 : held ≤ 7) (w : World) : Calls Tryd.prog 36 #[kyv ⟨11, r, n, held⟩, .bool kp] w fun e w' => e = .returned (.string (bs (wr ⟨11, r, n, held⟩ kp))) ∧ Below w.heap.size w w' := by
  have kb : Below w.heap.size w (w.alloc (.cells #[.int .i64 11, .int .i32 r, .int .i64 n, .int .i64 held] 23)) := (Below.refl _ _).alloc (Nat.le_refl _) _
  have hen : Utf8.encode (((⟨#[65, 66, 67, 68, 72, 70]⟩ : ByteArray)[5]'(by decide)).toNat : Int) = ⟨#[70]⟩ := by kernel_rfl
  by_cases hz : held = 0
  · subst hz
    clear h0 h7
    unfold kyv
    cases kp
    · have e : bs (wr ⟨11, r, n, 0⟩ false) = ⟨#[27, 91]⟩ ++ ⟨#[70]⟩ := (Txt.bs_append [27, 91] [70]).symm
      rw [e]
      clear e
      go_enter Tryd.func36, Tryd.ntmps36
      go_wp2_with fail
      go_ret
      exact ⟨rfl, kb⟩
    · have e : bs (wr ⟨11, r, n, 0⟩ true) = ⟨#[27, 79]⟩ ++ ⟨#[70]⟩ := (Txt.bs_append [27, 79] [70]).symm
      rw [e]
      clear e
      go_enter Tryd.func36, Tryd.ntmps36
      go_wp2_with fail
      go_ret
      exact ⟨rfl, kb⟩
  · have HH := heldBehind_any ⟨11, r, n, held⟩ h0 h7 (w.alloc (.cells #[.int .i64 11, .int .i32 r, .int .i64 n, .int .i64 held] 23))
    have e : bs (wr ⟨11, r, n, held⟩ kp) = ⟨#[27, 91, 49]⟩ ++ bs (heldB held) ++ ⟨#[70]⟩ := by
      have : wr ⟨11, r, n, held⟩ kp = [27, 91, 49] ++ heldB held ++ [70] := by simp [wr, hz, letB, lettersL]
      rw [this]
      exact ((Txt.bs_append ([27, 91, 49] ++ heldB held) [70]).symm).trans (congrArg (· ++ bs [70]) (Txt.bs_append [27, 91, 49] (heldB held)).symm)
    rw [e]
    clear e
    have hl : (bs (heldB held)).size ≤ 2 := by rw [bs_size]; unfold heldB; split <;> simp
    simp only at HH
    generalize bs (heldB held) = t at *
    have hs1 : ¬ 9223372036854775807 < 3 + t.size := by omega
    have hs2 : ¬ 9223372036854775807 < 3 + t.size + 1 := by omega
    have hb : (held == 0) = false := by rw [beq_eq_false_iff_ne]; exact hz
    have hb2 : (held != 0) = true := by rw [bne_iff_ne]; exact hz
    unfold kyv at HH ⊢
    go_enter Tryd.func36, Tryd.ntmps36
    go_wp2_with (go_at_call 56; refine HH.mono ?_; rintro e W1 ⟨rfl, b1⟩; replace kb := kb.trans (b1.mono kb.size))
    go_ret
    exact ⟨rfl, kb⟩
end Kys
end Go.Proofs.YtdmooeoklcjplaaDoor

/- Package keys: Write, by kinds. -/
namespace Go.Proofs.YtdmooeoklcjplaaDoor
open Go.ChangeShapes Go.WideShapes Go.ChangeAt Go.RowKit
open Go.Sort
namespace Kys
open Txt (wd bs)
def wsA : Array Value := #[.nilFunc, .func (.func 31) #[] #[], .func (.func 32) #[] #[], .func (.func 33) #[] #[], .func (.func 34) #[] #[], .func (.func 35) #[] #[], .func (.func 36) #[] #[], .func (.func 36) #[] #[], .func (.func 36) #[] #[], .func (.func 36) #[] #[], .func (.func 36) #[] #[], .func (.func 36) #[] #[], .func (.func 37) #[] #[], .func (.func 37) #[] #[], .func (.func 37) #[] #[], .func (.func 37) #[] #[]]
set_option maxHeartbeats 1000000 in
set_option maxRecDepth 100000 in
theorem writers_any (w : World) : Calls Tryd.prog 17 #[] w fun e w' => e = .returned (.agg wsA) ∧ Below w.heap.size w w' := by
  go_enter Tryd.func17, Tryd.ntmps17
  go_wp2_with (refine wpList_store_row rfl 43 (.tmp 0) _ rfl w.heap.size wsA rfl rfl _ _ (heap_alloc_new w _) (by kernel_rfl) rfl (by simp [wsA, Value.oneCell']) ?_)
  (try simp only [Exit.inBlock, Exit.then])
  refine bodyPost_ret (v := .agg wsA) ?_ rfl ⟨rfl, below_setRow ((Below.refl _ _).alloc (Nat.le_refl _) _) (Nat.le_refl _) _⟩
  exact results_cell_row rfl _ _ w.heap.size _ _ _ _ rfl (setRow_heap _ _ _ _ _ _ (heap_alloc_new w _)) Tryd.underlying43 rfl (by kernel_rfl)
theorem und_ws : Tryd.prog.underlying 43 = some (.array 16 29) := by kernel_rfl
theorem idx6 (w : World) : (Instr.index 43 (.agg wsA) (.int .i64 6)).run Tryd.prog w = .ok (.func (.func 36) #[] #[]) w := by
  unfold wsA
  simp [Instr.index, run_underlying und_ws, asIntOf, go_sem]
theorem four_cells {W : World} {b : Nat} {p q r z : Value} {t : TypeId} (h : W.heap[b]? = some (.cells #[p, q, r, z] t (0, 0))) : (W.cell? ⟨b, 0, none⟩ = some p ∧ W.cell? ⟨b, 1, none⟩ = some q ∧ W.cell? ⟨b, 2, none⟩ = some r ∧ W.cell? ⟨b, 3, none⟩ = some z) ∧ True := by
  unfold World.cell?
  rw [h]
  exact ⟨⟨rfl, rfl, rfl, rfl⟩, trivial⟩
set_option maxHeartbeats 4000000 in
theorem write_6 (r n held : Int) (kp : Bool) (w : World) (hT : Txt.Tab w) (hk : chk ⟨6, r, n, held⟩ = true) (h0 : 0 ≤ held) (h7 : held ≤ 7) : Calls Tryd.prog 6 #[kyv ⟨6, r, n, held⟩, .bool kp] w fun e w' => e = .returned (.tuple #[.string (bs (wr ⟨6, r, n, held⟩ kp)), .int .i64 0]) ∧ Below w.heap.size w w' := by
  have kb : Below w.heap.size w (w.alloc (.cells #[.int .i64 6, .int .i32 r, .int .i64 n, .int .i64 held] 23)) := (Below.refl _ _).alloc (Nat.le_refl _) _
  have HC := check_any ⟨6, r, n, held⟩ _ (Tab.alloc hT (.cells #[.int .i64 6, .int .i32 r, .int .i64 n, .int .i64 held] 23))
  rw [hk] at HC
  clear hk hT
  have HF := fun W => writeLetter_6 r n held kp h0 h7 W
  generalize bs (wr ⟨6, r, n, held⟩ kp) = res at *
  unfold kyv at HC HF ⊢
  go_enter Tryd.func6, Tryd.ntmps6
  go_wp2_with (go_at_call 9; refine HC.mono ?_; rintro e W1 ⟨rfl, b1⟩)
  have z1 := held_block b1
  have k1 := kb.trans (b1.mono kb.size)
  clear b1 kb HC
  obtain ⟨⟨c0, c1, c2, c3⟩, _⟩ := four_cells z1
  have g0 := fun d os => cell_regrown c0 d os
  have g1 := fun d os => cell_regrown c1 d os
  have g2 := fun d os => cell_regrown c2 d os
  have g3 := fun d os => cell_regrown c3 d os
  have HWr := fun d os => Calls.regrown_of (writers_any (grow (redrawn W1 d) os))
  have HFr := fun d os => Calls.regrown_of (HF (grow (redrawn W1 d) os))
  have hix := idx6
  clear HF c0 c1 c2 c3 z1
  refine wp_region_quiet_below (by kernel_rfl) (by kernel_rfl) ?_
  repeat (first | go_big_quiet_skip | quiet_step (first | (go_at_call 17; exact HWr _ _) | (go_at_call 36; exact HFr _ _)))
  refine wpQuiet_nil ?_
  intro _ hw'
  obtain ⟨⟨dq, os⟩, hw''⟩ := hw'
  subst hw''
  have kR := below_regrown W1 dq os
  have kw := k1.trans (kR.mono k1.size)
  clear g0 g1 g2 g3 HWr HFr kR
  generalize grow (redrawn W1 dq) os = V at *
  go_wp2_with fail
  go_ret2
  exact ⟨rfl, kw⟩
end Kys
end Go.Proofs.YtdmooeoklcjplaaDoor

/- The reference's IsKey. (Written by gen_keysrefi.py.) -/
namespace Go.Proofs.YtdmooeoklcjplaaDoor
open Go.ChangeShapes Go.WideShapes Go.ChangeAt Go.RowKit Go.Maps
namespace Kys
open Txt (wd bs)
theorem seqT_wf : ∀ p ∈ seqT, Wf p.1 := by decide +kernel
theorem sq_run {W : World} {b : Nat} (h : SeqAt W b seqT) (kind r n : Int) (hk : Wf ⟨kind, r, n, 0⟩) :
    (Instr.lookup 45 (.map (some b)) (.agg #[.int .i64 kind, .int .i32 r, .int .i64 n, .int .i64 0]) false).run Tryd.prog W = .ok (.string (bs (sq ⟨kind, r, n, 0⟩))) W := h.lookup seqT_wf ⟨kind, r, n, 0⟩ hk
theorem by_drew {W W' : World} {b : Nat} {o : Obj} (h : W.heap[b]? = some o) (hb : Below W.drew.heap.size W.drew W') : W'.heap[b]? = some o := by_block (W := W.drew) h hb
theorem below_drew {w W W' : World} (h : Below w.heap.size w W) (hb : Below W.drew.heap.size W.drew W') : Below w.heap.size w W' := h.drew.trans (hb.mono (show w.heap.size ≤ W.drew.heap.size from h.size))
theorem wf_bare {k : Ky} (h : Wf k) : Wf ⟨k.kind, k.r, k.n, 0⟩ := ⟨h.1, h.2.1, h.2.2.1, by show -9223372036854775808 ≤ (0 : Int) ∧ (0 : Int) ≤ 9223372036854775807; decide⟩
theorem bs_ne {l : List UInt8} (h : l ≠ []) : (bs l).toList.isEmpty = false := by
  rw [Lib.toList_data]
  cases l with
  | nil => exact absurd rfl h
  | cons a r => rfl
theorem him (r : Int) (h1 : 97 ≤ r) (h2 : r ≤ 122) : (decide (0 ≤ Lib.indexByte [104, 105, 109] r.toNat.toUInt8)) = decide (r = 104 ∨ r = 105 ∨ r = 109) := by
  have : ∀ i ∈ List.range 128, (decide (0 ≤ Lib.indexByte [104, 105, 109] i.toUInt8)) = decide ((i : Int) = 104 ∨ (i : Int) = 105 ∨ (i : Int) = 109) := by decide +kernel
  have := this r.toNat (List.mem_range.2 (by omega))
  rwa [show ((r.toNat : Nat) : Int) = r by omega] at this
/-- What lies in memory where the table is asked. -/
theorem two_blocks (w : World) (a b : Array Value) (t : TypeId) :
    Below w.heap.size w ((w.alloc (.cells a t)).alloc (.cells b t)) ∧ ((w.alloc (.cells a t)).alloc (.cells b t)).heap[w.heap.size]? = some (.cells a t (0, 0)) ∧ ((w.alloc (.cells a t)).alloc (.cells b t)).heap[w.heap.size + 1]? = some (.cells b t (0, 0)) := by
  refine ⟨((Below.refl _ _).alloc (Nat.le_refl _) _).alloc (by simp) _, by_block (heap_alloc_new w (.cells a t)) ((Below.refl _ _).alloc (Nat.le_refl _) _), ?_⟩
  rw [show w.heap.size + 1 = (w.alloc (.cells a t)).heap.size by simp]
  exact heap_alloc_new _ _
set_option maxHeartbeats 4000000 in
set_option maxRecDepth 100000 in
theorem isKey_low (kind r n held : Int) (w : World) (h : held < 0) :
    Calls Tryd.prog 7 #[kyv ⟨kind, r, n, held⟩] w fun e w' => e = .returned (.bool false) ∧ Below w.heap.size w w' := by
  unfold kyv
  go_enter Tryd.func7, Tryd.ntmps7
  go_wp2_with fail
  all_goals go_ret
  all_goals exact ⟨rfl, (Below.refl _ _).alloc (Nat.le_refl _) _⟩
set_option maxHeartbeats 4000000 in
set_option maxRecDepth 100000 in
theorem isKey_high (kind r n held : Int) (w : World) (h : 7 < held) :
    Calls Tryd.prog 7 #[kyv ⟨kind, r, n, held⟩] w fun e w' => e = .returned (.bool false) ∧ Below w.heap.size w w' := by
  have h0 : ¬ held < 0 := by omega
  unfold kyv
  go_enter Tryd.func7, Tryd.ntmps7
  go_wp2_with fail
  all_goals go_ret
  all_goals exact ⟨rfl, (Below.refl _ _).alloc (Nat.le_refl _) _⟩
set_option maxHeartbeats 4000000 in
set_option maxRecDepth 100000 in
theorem isKey_sq (kind r n held : Int) (w : World) (hk : Wf ⟨kind, r, n, held⟩) (h0 : 0 ≤ held) (h7 : held ≤ 7) (hs : isSq ⟨kind, r, n, held⟩) :
    Calls Tryd.prog 7 #[kyv ⟨kind, r, n, held⟩] w fun e w' => e = .returned (.bool true) ∧ Below w.heap.size w w' := by
  have hne := bs_ne (sq_ne ⟨kind, r, n, 0⟩ hs)
  have HL := fun (W : World) (b : Nat) (h : SeqAt W b seqT) => sq_run h kind r n (wf_bare hk)
  clear hk hs
  generalize bs (sq ⟨kind, r, n, 0⟩) = sb at *
  have hd0 : ¬ held < 0 := by omega
  have hd7 : ¬ 7 < held := by omega
  unfold kyv
  go_enter Tryd.func7, Tryd.ntmps7
  go_upto_region 5 with fail
  obtain ⟨kb0, z0, z1⟩ := two_blocks w #[.int .i64 kind, .int .i32 r, .int .i64 n, .int .i64 held] #[.int .i64 kind, .int .i32 r, .int .i64 n, .int .i64 0] 23
  generalize (w.alloc (.cells #[.int .i64 kind, .int .i32 r, .int .i64 n, .int .i64 held] 23)).alloc (.cells #[.int .i64 kind, .int .i32 r, .int .i64 n, .int .i64 0] 23) = W0 at *
  obtain ⟨⟨c0, c1, c2, c3⟩, _⟩ := four_cells z1
  go_region_with (go_at_call 18; refine (sequences_any _).mono ?_; rintro e W1 ⟨rfl, hS, hB, hlt⟩; have y0 := by_drew z1 hB; obtain ⟨⟨d0, d1, d2, d3⟩, _⟩ := four_cells y0; have hl := HL W1 W0.heap.size hS)
  all_goals have zz := by_drew z0 hB
  all_goals obtain ⟨⟨e0, e1, e2, e3⟩, _⟩ := four_cells zz
  all_goals have kb1 := below_drew kb0 hB
  all_goals clear c0 c1 c2 c3 d0 d1 d2 d3 hS hB hlt HL y0 z0 z1 hl kb0
  all_goals go_wp2_with fail
  all_goals go_ret
  all_goals exact ⟨rfl, kb1⟩
set_option maxHeartbeats 4000000 in
set_option maxRecDepth 100000 in
theorem isKey_n (kind r n held : Int) (w : World) (hk : Wf ⟨kind, r, n, held⟩) (h0 : 0 ≤ held) (h7 : held ≤ 7) (hs : ¬ isSq ⟨kind, r, n, held⟩) (hn : n ≠ 0) :
    Calls Tryd.prog 7 #[kyv ⟨kind, r, n, held⟩] w fun e w' => e = .returned (.bool false) ∧ Below w.heap.size w w' := by
  have HL := fun (W : World) (b : Nat) (h : SeqAt W b seqT) => sq_run h kind r n (wf_bare hk)
  rw [show sq ⟨kind, r, n, 0⟩ = [] from sq_no _ (fun h => hs h), show bs ([] : List UInt8) = ⟨#[]⟩ from rfl] at HL
  clear hk
  have hd0 : ¬ held < 0 := by omega
  have hd7 : ¬ 7 < held := by omega
  have hn1 : (n != 0) = true := by simpa using hn
  clear hs hn
  unfold kyv
  go_enter Tryd.func7, Tryd.ntmps7
  go_upto_region 5 with fail
  obtain ⟨kb0, z0, z1⟩ := two_blocks w #[.int .i64 kind, .int .i32 r, .int .i64 n, .int .i64 held] #[.int .i64 kind, .int .i32 r, .int .i64 n, .int .i64 0] 23
  generalize (w.alloc (.cells #[.int .i64 kind, .int .i32 r, .int .i64 n, .int .i64 held] 23)).alloc (.cells #[.int .i64 kind, .int .i32 r, .int .i64 n, .int .i64 0] 23) = W0 at *
  obtain ⟨⟨c0, c1, c2, c3⟩, _⟩ := four_cells z1
  go_region_with (go_at_call 18; refine (sequences_any _).mono ?_; rintro e W1 ⟨rfl, hS, hB, hlt⟩; have y0 := by_drew z1 hB; obtain ⟨⟨d0, d1, d2, d3⟩, _⟩ := four_cells y0; have hl := HL W1 W0.heap.size hS)
  all_goals have zz := by_drew z0 hB
  all_goals obtain ⟨⟨e0, e1, e2, e3⟩, _⟩ := four_cells zz
  all_goals have kb1 := below_drew kb0 hB
  all_goals clear c0 c1 c2 c3 d0 d1 d2 d3 hS hB hlt HL y0 z0 z1 hl kb0
  all_goals go_wp2_with fail
  all_goals go_ret
  all_goals exact ⟨rfl, kb1⟩
set_option maxHeartbeats 4000000 in
set_option maxRecDepth 100000 in
theorem isKey_r (kind r held : Int) (w : World) (hk : Wf ⟨kind, r, 0, held⟩) (h0 : 0 ≤ held) (h7 : held ≤ 7) (h1 : kind ≠ 1) (hr : r ≠ 0) :
    Calls Tryd.prog 7 #[kyv ⟨kind, r, 0, held⟩] w fun e w' => e = .returned (.bool false) ∧ Below w.heap.size w w' := by
  have HL := fun (W : World) (b : Nat) (h : SeqAt W b seqT) => sq_run h kind r 0 (wf_bare hk)
  rw [show sq ⟨kind, r, 0, 0⟩ = [] from sq_no _ (fun h => by unfold isSq at h; simp only at h; omega), show bs ([] : List UInt8) = ⟨#[]⟩ from rfl] at HL
  clear hk
  have hd0 : ¬ held < 0 := by omega
  have hd7 : ¬ 7 < held := by omega
  have hk1 : (kind != 1) = true := by simpa using h1
  have hr1 : (r != 0) = true := by simpa using hr
  clear h1 hr
  unfold kyv
  go_enter Tryd.func7, Tryd.ntmps7
  go_upto_region 5 with fail
  obtain ⟨kb0, z0, z1⟩ := two_blocks w #[.int .i64 kind, .int .i32 r, .int .i64 0, .int .i64 held] #[.int .i64 kind, .int .i32 r, .int .i64 0, .int .i64 0] 23
  generalize (w.alloc (.cells #[.int .i64 kind, .int .i32 r, .int .i64 0, .int .i64 held] 23)).alloc (.cells #[.int .i64 kind, .int .i32 r, .int .i64 0, .int .i64 0] 23) = W0 at *
  obtain ⟨⟨c0, c1, c2, c3⟩, _⟩ := four_cells z1
  go_region_with (go_at_call 18; refine (sequences_any _).mono ?_; rintro e W1 ⟨rfl, hS, hB, hlt⟩; have y0 := by_drew z1 hB; obtain ⟨⟨d0, d1, d2, d3⟩, _⟩ := four_cells y0; have hl := HL W1 W0.heap.size hS)
  all_goals have zz := by_drew z0 hB
  all_goals obtain ⟨⟨e0, e1, e2, e3⟩, _⟩ := four_cells zz
  all_goals have kb1 := below_drew kb0 hB
  all_goals clear c0 c1 c2 c3 d0 d1 d2 d3 hS hB hlt HL y0 z0 z1 hl kb0
  all_goals go_wp2_with fail
  all_goals go_ret
  all_goals exact ⟨rfl, kb1⟩
end Kys
end Go.Proofs.YtdmooeoklcjplaaDoor

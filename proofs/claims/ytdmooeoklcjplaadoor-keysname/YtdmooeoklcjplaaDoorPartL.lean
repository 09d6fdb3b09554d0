/- The walk of the law KeysName: no key has that name, and the key can be told. (Written by gen_keysnamel.py.) -/
import Derived.Test.YtdmooeoklcjplaaDoorPartK
import Derived.LaidLaws
import Derived.Test.YtdmooeoklcjplaaDoorRows
namespace Go.Proofs.YtdmooeoklcjplaaDoor
open Go.ChangeShapes Go.WideShapes Go.ChangeAt Go.RowKit Go.Maps
namespace Kys
open Txt (wd bs dec)
set_option maxHeartbeats 4000000 in
set_option maxRecDepth 100000 in
theorem name_law_tf (k : Ky) (s : ByteArray) (hs : s.size ≤ 140737488351232) (w : World) (hE : AllT w) (hf : Wf k) (hk : chk k = true) (hn : named s.data.toList = none) : Calls Tryd.prog 5 #[kyv k, .string s] w fun e w' => e = .returned (.bool true) ∧ Below w.heap.size w w' := by
  have HEV : Hid (∀ W, Below w.heap.size w W → AllT W) := fun W h => hE.below h
  have HND := fun W (h : AllT W) => named_any s hs W h.1 h.2.1 h.2.2.1
  rw [hn] at HND
  simp only [Option.getD_none, Option.isSome_none, Bool.false_eq_true, if_false, zk] at HND
  have HNE : Hid (∀ a b c d, Wf ⟨a, b, c, d⟩ → NoName s a b c d) := fun a b c d hy => no_name s hn a b c d hy
  clear hn
  have HNm := fun W (h : AllT W) => name_any k hk W h.1.tab h.2.1 h.2.2.1
  have HKN := fun W (h : AllT W) => keyName_any k hk W h.2.2.2
  generalize bs (nameL k) = tk at *
  have HI := fun W => isKey_any k W hf
  rw [hk] at HI
  clear hE hk hf
  obtain ⟨kd, rr, nn, hh⟩ := k
  have kb : Below w.heap.size w (w.alloc (.cells #[.int .i64 kd, .int .i32 rr, .int .i64 nn, .int .i64 hh] 23)) := (Below.refl _ _).alloc (Nat.le_refl _) _
  unfold kyv at HNm HI HND ⊢ HKN
  simp only at HNm HI HND ⊢ HKN
  go_enter Tryd.func5, Tryd.ntmps5
  go_wp2_with (go_at_call 14; refine (HNm _ (HEV.out _ kb)).mono ?_; rintro e W1 ⟨rfl, b1⟩; have k1 := kb.trans (b1.mono kb.size); have y1 := held_block b1; clear HNm)
  refine (HND W1 (HEV.out _ k1)).mono ?_
  rintro e W2 ⟨rfl, b2⟩
  have k2 := k1.trans (b2.mono k1.size)
  have y2 := by_block y1 b2
  clear HND
  go_wp2_with fail
  have k3 := k2.alloc k2.size (.cells #[.int .i64 0, .int .i32 0, .int .i64 0, .int .i64 0] 23)
  have x3 := heap_alloc_new W2 (.cells #[.int .i64 0, .int .i32 0, .int .i64 0, .int .i64 0] 23)
  have y3 := by_block y2 ((Below.refl _ _).alloc (Nat.le_refl _) (.cells #[.int .i64 0, .int .i32 0, .int .i64 0, .int .i64 0] 23))
  have HS := struck_any _ (HEV.out _ k3).1
  refine HS.mono ?_
  rintro e W4 ⟨rfl, b4⟩
  have k4 := k3.trans (b4.mono k3.size)
  have y4 := by_block y3 b4
  have x4 := by_block x3 b4
  obtain ⟨⟨c0, c1, c2, c3⟩, _⟩ := four_cells y4
  generalize W2.heap.size = X at *
  clear HS k3 x3 y3 b4 b1 b2 k1 k2 y1 y2 kb
  go_wp2_with fail
  refine (HI W4).mono ?_
  rintro e W5 ⟨rfl, b5⟩
  have k5 := k4.trans (b5.mono k4.size)
  have y5 := by_block y4 b5
  have x5 := by_block x4 b5
  obtain ⟨⟨g0, g1, g2, g3⟩, _⟩ := four_cells x5
  clear HI c0 c1 c2 c3 x4 y4 b5 k4
  obtain ⟨⟨q0, q1, q2, q3⟩, _⟩ := four_cells y5
  go_wp2_with fail
  refine (HKN W5 (HEV.out _ k5)).mono ?_
  rintro e W6 ⟨rfl, b6⟩
  replace k5 := k5.trans (b6.mono k5.size)
  replace x5 := by_block x5 b6
  replace y5 := by_block y5 b6
  clear HKN b6 g0 g1 g2 g3 q0 q1 q2 q3
  obtain ⟨⟨g0, g1, g2, g3⟩, _⟩ := four_cells x5
  go_wp2_with fail
  clear y5 x5 g0 g1 g2 g3
  have HSZ : Hid (s.size ≤ 140737488351232) := hs
  clear hs
  go_loopg [62] 8 (fun g v wr => ∃ i : Nat, i ≤ 8 ∧ 8 - i ≤ g ∧ v = .int .i64 (i : Int) ∧ Below w.heap.size w wr)
  case atStart => exact ⟨0, by omega, by omega, rfl, k5⟩
  case round =>
    obtain ⟨i, hi, hg, rfl, kr⟩ := hrel
    clear k5
    by_cases h8 : i = 8
    · subst h8
      go_wp2_with fail
      go_ret
      exact ⟨rfl, kr⟩
    · have hi8 : (i : Int) < 8 := by omega
      go_wp2_with fail
      go_loopg [10] 14 (fun g v wr => ∃ q : Nat, 2 ≤ q ∧ q ≤ 16 ∧ 16 - q ≤ g ∧ v = .int .i64 (q : Int) ∧ Below w.heap.size w wr)
      case atStart => exact ⟨2, by omega, by omega, by omega, rfl, kr⟩
      case round =>
        obtain ⟨q, q2, q16, hg2, rfl, kq⟩ := hrel
        clear kr
        by_cases h16 : q = 16
        · have hq16 : (15 : Int) < (q : Int) := by omega
          clear h16
          have hcat : ¬ 9223372036854775807 < s.size + 1 := by have := HSZ.out; omega
          have hwi : wrap64 ((i : Int) + 1) = (i : Int) + 1 := by unfold wrap64; omega
          go_wp2_with fail
          have it0 : (wr.iter (s ++ ⟨#[32]⟩) 0).heap[wr.heap.size]? = some (.stringIter (s ++ ⟨#[32]⟩) 0) := World.iter_heap wr _ 0
          have kb0 : Below w.heap.size w (wr.iter (s ++ ⟨#[32]⟩) 0) := kq.alloc kq.size _
          have hIT : w.heap.size ≤ wr.heap.size := kq.size
          generalize wr.iter (s ++ ⟨#[32]⟩) 0 = V0 at *
          generalize wr.heap.size = IT at *
          have hts : (s ++ ⟨#[32]⟩ : ByteArray).size ≤ 281474976710656 := by rw [ByteArray.size_append]; show s.size + 1 ≤ _; have := HSZ.out; omega
          generalize (s ++ ⟨#[32]⟩ : ByteArray) = t at *
          clear kq
          go_loopw [14] (fun _ wv => ∃ pos : Nat, wv.heap[IT]? = some (.stringIter t pos) ∧ Below w.heap.size w wv ∧ pos ≤ t.size) (fun _ wv => t.size - wv.iterPos IT)
          case atStart => exact ⟨0, it0, kb0, Nat.zero_le _⟩
          case round =>
            obtain ⟨pos, hit, kv, hps⟩ := hrel
            clear it0 kb0
            have hsz : IT < wr.heap.size := (Array.getElem?_eq_some_iff.1 hit).1
            by_cases hp : pos < t.size
            · have hnx : ∀ ty, (Instr.next (.pointer (some ⟨IT, 0, none⟩)) true ty).run Tryd.prog wr = _ := fun ty => Lib.run_next_any_at wr IT t pos ty hit hp
              have hwd := Txt.width_pos t pos hp
              have hfit := Txt.decode_fits t pos hp
              have hrn := rune_le t pos
              have hit2 := Lib.iterAt_heap wr IT t pos (pos + (Utf8.decode t pos).2) hit
              have kv2 := Lib.below_iterAt kv (k := IT) hIT t (pos + (Utf8.decode t pos).2)
              have hsz2 : IT < (wr.iterAt IT t (pos + (Utf8.decode t pos).2)).heap.size := by rw [Lib.iterAt_size]; exact hsz
              have HIP : Hid (wr.iterPos IT = pos) := by simp only [Hid, World.iterPos, hit]
              clear hit
              generalize Utf8.decode t pos = d at *
              have ka := kv2.alloc kv2.size (.cells #[.int .i64 1, .int .i32 (d.1 : Int), .int .i64 0, .int .i64 (i : Int)] 23)
              have hit3 := by_block hit2 ((Below.refl _ _).alloc (Nat.le_refl _) (.cells #[.int .i64 1, .int .i32 (d.1 : Int), .int .i64 0, .int .i64 (i : Int)] 23))
              rcases HNE.out 1 (d.1 : Int) 0 (i : Int) (wf_rune d.1 i hrn hi) with HIy | ⟨HIy, ty, HKy, hne⟩
              · go_wp2_with fail
                refine (HIy _).mono ?_
                rintro e V1 ⟨rfl, b1⟩
                have ka1 := ka.trans (b1.mono ka.size)
                have hit4 := by_block hit3 b1
                clear HIy
                go_wp2_with fail
                go_roundw
                case rel => exact ⟨pos + d.2, hit4, ka1, by omega⟩
                case measure =>
                  rw [HIP.out]
                  simp only [World.iterPos, hit4]
                  omega
              · go_wp2_with fail
                refine (HIy _).mono ?_
                rintro e V1 ⟨rfl, b1⟩
                have z1 := held_block b1
                obtain ⟨⟨c0, c1, c2, c3⟩, _⟩ := four_cells z1
                have ka1 := ka.trans (b1.mono ka.size)
                have hit4 := by_block hit3 b1
                clear HIy
                go_wp2_with fail
                refine (HKy _ (HEV.out _ ka1)).mono ?_
                rintro e V2 ⟨rfl, b2⟩
                have ka2 := ka1.trans (b2.mono ka1.size)
                have hit5 := by_block hit4 b2
                clear HKy c0 c1 c2 c3
                go_wp2_with fail
                go_roundw
                case rel => exact ⟨pos + d.2, hit5, ka2, by omega⟩
                case measure =>
                  rw [HIP.out]
                  simp only [World.iterPos, hit5]
                  omega
            · have hnx : ∀ ty, (Instr.next (.pointer (some ⟨IT, 0, none⟩)) true ty).run Tryd.prog wr = _ := fun ty => Lib.run_next_end_at wr IT t pos ty hit hp
              go_wp2_with fail
              go_roundg (8 - (i + 1))
              case measure => omega
              case rel => exact ⟨i + 1, by omega, by omega, by go_num, kv⟩
        · have hq15 : ¬ (15 : Int) < (q : Int) := by omega
          go_wp2_with fail
          go_loopg [69] 13 (fun g v wr => ∃ f : Nat, f ≤ 13 ∧ 13 - f ≤ g ∧ v = .int .i64 (f : Int) ∧ Below w.heap.size w wr)
          case atStart => exact ⟨0, by omega, by omega, rfl, kq⟩
          case round =>
            obtain ⟨f, f13, hg3, rfl, kf⟩ := hrel
            clear kq
            by_cases h13 : f = 13
            · subst h13
              have hwq : wrap64 ((q : Int) + 1) = (q : Int) + 1 := by unfold wrap64; omega
              go_wp2_with fail
              go_roundg (16 - (q + 1))
              case measure => omega
              case rel => exact ⟨q + 1, by omega, by omega, by omega, by go_num, kf⟩
            · have hf13 : (f : Int) < 13 := by omega
              have hwf : wrap64 ((f : Int) + 1) = (f : Int) + 1 := by unfold wrap64; omega
              have ka := kf.alloc kf.size (.cells #[.int .i64 (q : Int), .int .i32 0, .int .i64 (f : Int), .int .i64 (i : Int)] 23)
              rcases HNE.out (q : Int) 0 (f : Int) (i : Int) (wf_small q f i q16 f13 hi) with HIy | ⟨HIy, ty, HKy, hne⟩
              · go_wp2_with fail
                refine (HIy _).mono ?_
                rintro e V1 ⟨rfl, b1⟩
                have ka1 := ka.trans (b1.mono ka.size)
                clear HIy
                go_wp2_with fail
                go_roundg (13 - (f + 1))
                case measure => omega
                case rel => exact ⟨f + 1, by omega, by omega, by go_num, ka1⟩
              · go_wp2_with fail
                refine (HIy _).mono ?_
                rintro e V1 ⟨rfl, b1⟩
                have z1 := held_block b1
                obtain ⟨⟨c0, c1, c2, c3⟩, _⟩ := four_cells z1
                have ka1 := ka.trans (b1.mono ka.size)
                clear HIy
                go_wp2_with fail
                refine (HKy _ (HEV.out _ ka1)).mono ?_
                rintro e V2 ⟨rfl, b2⟩
                have ka2 := ka1.trans (b2.mono ka1.size)
                clear HKy c0 c1 c2 c3
                go_wp2_with fail
                go_roundg (13 - (f + 1))
                case measure => omega
                case rel => exact ⟨f + 1, by omega, by omega, by go_num, ka2⟩
end Kys
end Go.Proofs.YtdmooeoklcjplaaDoor

/- The walk of the law KeysName: a key has that name. (Written by gen_keysnamel.py.) -/
namespace Go.Proofs.YtdmooeoklcjplaaDoor
open Go.ChangeShapes Go.WideShapes Go.ChangeAt Go.RowKit Go.Maps
namespace Kys
open Txt (wd bs dec)
theorem named_some {s : List UInt8} {x : Ky} (h : named s = some x) : chk x = true ∧ nameL x = s := by
  unfold named at h
  split at h
  · rename_i hc
    obtain rfl := Option.some.inj h
    exact hc
  · cases h
set_option maxHeartbeats 4000000 in
set_option maxRecDepth 100000 in
theorem name_law_ft (k : Ky) (s : ByteArray) (hs : s.size ≤ 140737488351232) (w : World) (hE : AllT w) (hf : Wf k) (hk : chk k = false) (x : Ky) (hn : named s.data.toList = some x) (hx : Wf x) : Calls Tryd.prog 5 #[kyv k, .string s] w fun e w' => e = .returned (.bool true) ∧ Below w.heap.size w w' := by
  have HEV : Hid (∀ W, Below w.heap.size w W → AllT W) := fun W h => hE.below h
  have HND := fun W (h : AllT W) => named_any s hs W h.1 h.2.1 h.2.2.1
  rw [hn] at HND
  simp only [Option.getD_some, Option.isSome_some, if_true] at HND
  obtain ⟨hcx, hnx⟩ := named_some hn
  have HIx := fun W => isKey_any x W hx
  have HKx := fun W (h : AllT W) => keyName_any x hcx W h.2.2.2
  rw [hcx] at HIx
  rw [str_eq hnx] at HKx
  clear hn hcx hnx hx
  obtain ⟨xa, xb, xc, xd⟩ := x
  unfold kyv at HIx HKx
  simp only at HIx HKx
  have HNm := fun W (h : AllT W) => name_no k hk W h.1.tab
  have HI := fun W => isKey_any k W hf
  rw [hk] at HI
  clear hE hk hf
  obtain ⟨kd, rr, nn, hh⟩ := k
  have kb : Below w.heap.size w (w.alloc (.cells #[.int .i64 kd, .int .i32 rr, .int .i64 nn, .int .i64 hh] 23)) := (Below.refl _ _).alloc (Nat.le_refl _) _
  unfold kyv at HNm HI HND ⊢
  simp only at HNm HI HND ⊢
  go_enter Tryd.func5, Tryd.ntmps5
  go_wp2_with (go_at_call 14; refine (HNm _ (HEV.out _ kb)).mono ?_; rintro e W1 ⟨rfl, b1⟩; have k1 := kb.trans (b1.mono kb.size); have y1 := held_block b1; clear HNm)
  refine (HND W1 (HEV.out _ k1)).mono ?_
  rintro e W2 ⟨rfl, b2⟩
  have k2 := k1.trans (b2.mono k1.size)
  have y2 := by_block y1 b2
  clear HND
  go_wp2_with fail
  have k3 := k2.alloc k2.size (.cells #[.int .i64 xa, .int .i32 xb, .int .i64 xc, .int .i64 xd] 23)
  have x3 := heap_alloc_new W2 (.cells #[.int .i64 xa, .int .i32 xb, .int .i64 xc, .int .i64 xd] 23)
  have y3 := by_block y2 ((Below.refl _ _).alloc (Nat.le_refl _) (.cells #[.int .i64 xa, .int .i32 xb, .int .i64 xc, .int .i64 xd] 23))
  have HS := struck_any _ (HEV.out _ k3).1
  refine HS.mono ?_
  rintro e W4 ⟨rfl, b4⟩
  have k4 := k3.trans (b4.mono k3.size)
  have y4 := by_block y3 b4
  have x4 := by_block x3 b4
  obtain ⟨⟨c0, c1, c2, c3⟩, _⟩ := four_cells y4
  generalize W2.heap.size = X at *
  clear HS k3 x3 y3 b4 b1 b2 k1 k2 y1 y2 kb
  go_wp2_with fail
  refine (HI W4).mono ?_
  rintro e W5 ⟨rfl, b5⟩
  have k5 := k4.trans (b5.mono k4.size)
  have y5 := by_block y4 b5
  have x5 := by_block x4 b5
  obtain ⟨⟨g0, g1, g2, g3⟩, _⟩ := four_cells x5
  clear HI c0 c1 c2 c3 x4 y4 b5 k4
  go_wp2_with fail
  refine (HIx _).mono ?_
  rintro e V1 ⟨rfl, b1⟩
  have l1 := k5.trans (b1.mono k5.size)
  have x6 := by_block x5 b1
  clear HIx g0 g1 g2 g3
  obtain ⟨⟨g0, g1, g2, g3⟩, _⟩ := four_cells x6
  go_wp2_with fail
  refine (HKx _ (HEV.out _ l1)).mono ?_
  rintro e V2 ⟨rfl, b2⟩
  have l2 := l1.trans (b2.mono l1.size)
  clear HKx g0 g1 g2 g3
  go_wp2_with fail
  go_ret
  exact ⟨rfl, l2⟩
set_option maxHeartbeats 4000000 in
set_option maxRecDepth 100000 in
theorem name_law_tt (k : Ky) (s : ByteArray) (hs : s.size ≤ 140737488351232) (w : World) (hE : AllT w) (hf : Wf k) (hk : chk k = true) (x : Ky) (hn : named s.data.toList = some x) (hx : Wf x) : Calls Tryd.prog 5 #[kyv k, .string s] w fun e w' => e = .returned (.bool true) ∧ Below w.heap.size w w' := by
  have HEV : Hid (∀ W, Below w.heap.size w W → AllT W) := fun W h => hE.below h
  have HND := fun W (h : AllT W) => named_any s hs W h.1 h.2.1 h.2.2.1
  rw [hn] at HND
  simp only [Option.getD_some, Option.isSome_some, if_true] at HND
  obtain ⟨hcx, hnx⟩ := named_some hn
  have HIx := fun W => isKey_any x W hx
  have HKx := fun W (h : AllT W) => keyName_any x hcx W h.2.2.2
  rw [hcx] at HIx
  rw [str_eq hnx] at HKx
  clear hn hcx hnx hx
  obtain ⟨xa, xb, xc, xd⟩ := x
  unfold kyv at HIx HKx
  simp only at HIx HKx
  have HNm := fun W (h : AllT W) => name_any k hk W h.1.tab h.2.1 h.2.2.1
  have HKN := fun W (h : AllT W) => keyName_any k hk W h.2.2.2
  generalize bs (nameL k) = tk at *
  have HI := fun W => isKey_any k W hf
  rw [hk] at HI
  clear hE hk hf
  obtain ⟨kd, rr, nn, hh⟩ := k
  have kb : Below w.heap.size w (w.alloc (.cells #[.int .i64 kd, .int .i32 rr, .int .i64 nn, .int .i64 hh] 23)) := (Below.refl _ _).alloc (Nat.le_refl _) _
  unfold kyv at HNm HI HND ⊢ HKN
  simp only at HNm HI HND ⊢ HKN
  go_enter Tryd.func5, Tryd.ntmps5
  go_wp2_with (go_at_call 14; refine (HNm _ (HEV.out _ kb)).mono ?_; rintro e W1 ⟨rfl, b1⟩; have k1 := kb.trans (b1.mono kb.size); have y1 := held_block b1; clear HNm)
  refine (HND W1 (HEV.out _ k1)).mono ?_
  rintro e W2 ⟨rfl, b2⟩
  have k2 := k1.trans (b2.mono k1.size)
  have y2 := by_block y1 b2
  clear HND
  go_wp2_with fail
  have k3 := k2.alloc k2.size (.cells #[.int .i64 xa, .int .i32 xb, .int .i64 xc, .int .i64 xd] 23)
  have x3 := heap_alloc_new W2 (.cells #[.int .i64 xa, .int .i32 xb, .int .i64 xc, .int .i64 xd] 23)
  have y3 := by_block y2 ((Below.refl _ _).alloc (Nat.le_refl _) (.cells #[.int .i64 xa, .int .i32 xb, .int .i64 xc, .int .i64 xd] 23))
  have HS := struck_any _ (HEV.out _ k3).1
  refine HS.mono ?_
  rintro e W4 ⟨rfl, b4⟩
  have k4 := k3.trans (b4.mono k3.size)
  have y4 := by_block y3 b4
  have x4 := by_block x3 b4
  obtain ⟨⟨c0, c1, c2, c3⟩, _⟩ := four_cells y4
  generalize W2.heap.size = X at *
  clear HS k3 x3 y3 b4 b1 b2 k1 k2 y1 y2 kb
  go_wp2_with fail
  refine (HI W4).mono ?_
  rintro e W5 ⟨rfl, b5⟩
  have k5 := k4.trans (b5.mono k4.size)
  have y5 := by_block y4 b5
  have x5 := by_block x4 b5
  obtain ⟨⟨g0, g1, g2, g3⟩, _⟩ := four_cells x5
  clear HI c0 c1 c2 c3 x4 y4 b5 k4
  obtain ⟨⟨q0, q1, q2, q3⟩, _⟩ := four_cells y5
  go_wp2_with fail
  refine (HKN W5 (HEV.out _ k5)).mono ?_
  rintro e W6 ⟨rfl, b6⟩
  replace k5 := k5.trans (b6.mono k5.size)
  replace x5 := by_block x5 b6
  replace y5 := by_block y5 b6
  clear HKN b6 g0 g1 g2 g3 q0 q1 q2 q3
  obtain ⟨⟨g0, g1, g2, g3⟩, _⟩ := four_cells x5
  go_wp2_with fail
  refine (HIx _).mono ?_
  rintro e V1 ⟨rfl, b1⟩
  have l1 := k5.trans (b1.mono k5.size)
  have x6 := by_block x5 b1
  clear HIx g0 g1 g2 g3
  obtain ⟨⟨g0, g1, g2, g3⟩, _⟩ := four_cells x6
  go_wp2_with fail
  refine (HKx _ (HEV.out _ l1)).mono ?_
  rintro e V2 ⟨rfl, b2⟩
  have l2 := l1.trans (b2.mono l1.size)
  clear HKx g0 g1 g2 g3
  go_wp2_with fail
  go_ret
  exact ⟨rfl, l2⟩
end Kys
end Go.Proofs.YtdmooeoklcjplaaDoor

/- The walk of the law KeysName, whole. -/
namespace Go.Proofs.YtdmooeoklcjplaaDoor
open Go.ChangeShapes Go.WideShapes Go.ChangeAt Go.RowKit Go.Maps
namespace Kys
open Txt (wd bs dec)
theorem chk_wf (k : Ky) (h : chk k = true) : Wf k := by
  rcases chk_cases k h with h1 | ⟨h1, _⟩ | ⟨h1, h2, h3, h4⟩
  · have : ∀ k ∈ plainKeys, Wf k := by decide +kernel
    exact this k h1
  · have : ∀ k ∈ ctrlKeys, Wf k := by decide +kernel
    exact this k h1
  · have hb := (wd_bounds k.r h3).1
    unfold Txt.okRune at hb
    unfold Wf
    omega
theorem keysName_walk (k : Ky) (s : ByteArray) (hs : s.size ≤ 140737488351232) (w : World) (hE : AllT w) (hf : Wf k) : Calls Tryd.prog 5 #[kyv k, .string s] w fun e w' => e = .returned (.bool true) ∧ Below w.heap.size w w' := by
  cases hn : named s.data.toList with
  | none =>
    cases hk : chk k with
    | true => exact name_law_tf k s hs w hE hf hk hn
    | false => exact name_law_ff k s hs w hE hf hk hn
  | some x =>
    have hx := chk_wf x (named_some hn).1
    cases hk : chk k with
    | true => exact name_law_tt k s hs w hE hf hk x hn hx
    | false => exact name_law_ft k s hs w hE hf hk x hn hx
end Kys
end Go.Proofs.YtdmooeoklcjplaaDoor

/- That the places of a long list of variables are all different, told by one number's bits. -/
namespace Go.Proofs.YtdmooeoklcjplaaDoor
namespace Fast
def code : MemPlace → Nat
  | .cell b off => 2 * (b * 1000 + off)
  | .map b => 2 * b + 1
def once : List Nat → Nat → Bool
  | [], _ => true
  | c :: l, seen => !seen.testBit c && once l (seen ||| 2 ^ c)
theorem once_sound : ∀ (l : List Nat) (seen : Nat), once l seen = true → l.Nodup ∧ ∀ d ∈ l, seen.testBit d = false
  | [], _, _ => ⟨List.nodup_nil, fun d hd => by cases hd⟩
  | c :: l, seen, h => by
    unfold once at h
    rw [Bool.and_eq_true] at h
    obtain ⟨h1, h2⟩ := once_sound l _ h.2
    have hc : seen.testBit c = false := by simpa using h.1
    refine ⟨List.nodup_cons.2 ⟨fun hm => ?_, h1⟩, fun d hd => ?_⟩
    · have := h2 c hm
      rw [Nat.testBit_or, Nat.testBit_two_pow_self] at this
      simp at this
    · rcases List.mem_cons.1 hd with rfl | hd
      · exact hc
      · have := h2 d hd
        rw [Nat.testBit_or, Bool.or_eq_false_iff] at this
        exact this.1
theorem nodup_map {α β : Type} (f : α → β) : ∀ l : List α, (l.map f).Nodup → l.Nodup
  | [], _ => List.nodup_nil
  | a :: l, h => by
    rw [List.map_cons, List.nodup_cons] at h
    exact List.nodup_cons.2 ⟨fun hm => h.1 (List.mem_map.2 ⟨a, hm, rfl⟩), nodup_map f l h.2⟩
theorem laid {P : Program} {w : World} {l : List (String × DataW Unit)} (fuel : Nat) (h : (DataW.laidRun P w fuel (l.map (·.1))).map (·.1) = some l)
    (hr : (DataW.laidRun P w fuel (l.map (·.1))).map (fun x => once (x.2.map code) 0 && laidRowsB P w x.2) = some true) : laidMet P l w := by
  cases hx : DataW.laidRun P w fuel (l.map (·.1)) with
  | none => simp [hx] at h
  | some x =>
    obtain ⟨l', ps⟩ := x
    simp only [hx, Option.map_some, Option.some.injEq] at h hr
    subst h
    simp only [Bool.and_eq_true] at hr
    exact laidMet_of_run fuel hx (decide_eq_true (nodup_map code ps (once_sound _ _ hr.1).1)) hr.2
end Fast
end Go.Proofs.YtdmooeoklcjplaaDoor

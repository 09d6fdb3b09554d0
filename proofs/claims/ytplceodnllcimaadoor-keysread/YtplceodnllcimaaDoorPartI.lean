/- The reference's keyOf, of numbers. (Written by gen_keysrefo.py.) -/
import Derived.Test.YtplceodnllcimaaDoorPartH
import Derived.Deep.LoopGhost
import Derived.Test.YtplceodnllcimaaDoorPartG
import Derived.Shelf.Vars
import Derived.Lib.LaidTab
import Derived.Test.YtplceodnllcimaaDoorPartD
import Derived.Great.Walk
namespace Go.Proofs.YtplceodnllcimaaDoor
open Go.ChangeShapes Go.WideShapes Go.ChangeAt Go.RowKit Go.Maps
namespace Kys
open Txt (wd bs)

def tailR (n : List Int) (fin : UInt8) : Option Ky := if fin = 90 then (if n = [] then some ⟨3, 0, 0, 1⟩ else none)
    else if n.length = 2 ∧ ¬ (1 ≤ n.getD 1 0 ∧ n.getD 1 0 ≤ 8) then none
    else (seqT.find? fun p => hitR n fin p.2).map fun p => { p.1 with held := if n.length = 2 then n.getD 1 0 - 1 else 0 }
theorem keyOfL_tail (s : List UInt8) (fin : UInt8) (hs : s ≠ []) : keyOfL s fin = (numsF (Lib.split s [59])).bind fun n => tailR n fin := by
  unfold keyOfL numsR
  rw [if_neg hs]
  cases numsF (Lib.split s [59]) <;> rfl
set_option maxHeartbeats 16000000 in
set_option maxRecDepth 100000 in
theorem keyOf_s (s : ByteArray) (fin : UInt8) (hs0 : 0 < s.size) (hs : s.size ≤ 1000) (hd : ∀ c ∈ s.data.toList, isNum c = true) (w : World) (hER : Errs w) (hP : P10 w) (m : Int) (hm : w.cell? ⟨4, 0, none⟩ = some (.int .i64 m)) : Calls Tryd.prog 23 #[.string s, .int .u8 fin.toNat] w fun e w' => ∃ k', e = .returned (.tuple #[kyv k', .bool (keyOfL s.data.toList fin).isSome]) ∧ (∀ k, keyOfL s.data.toList fin = some k → k' = k) ∧ Below w.heap.size w w' := by
  obtain ⟨i0, hi, hzz⟩ := Option.map_eq_some_iff.1 info_int
  simp only [Prod.mk.injEq] at hzz
  obtain ⟨hzz0, hzz1, hzz2⟩ := hzz
  have kb := kb_z w
  have Z := hz w
  have HPP : Hid (∀ W, Below w.heap.size w W → P10 W) := fun W h => hP.below h
  have HEE : Hid (∀ W, Below w.heap.size w W → Errs W) := fun W h => hER.below h
  have hne : s.data.toList ≠ [] := by intro h; have := congrArg List.length h; rw [Array.length_toList] at this; exact absurd this (by show ¬ s.size = 0; omega)
  have hst : (s.toList == []) = false := by rw [beq_eq_false_iff_ne, Lib.toList_data]; exact hne
  have hSP := Tryd.strings_Split s ⟨#[59]⟩ m _ (by omega) ((kb.cell (Txt.lt_of_cell hm)).trans hm) (by decide)
  obtain ⟨LB, hLB⟩ : ∃ LB, Lib.splitB ⟨#[59]⟩ 0 (Lib.countB s ⟨#[59]⟩) s = LB := ⟨_, rfl⟩
  have hlen := Lib.splitB_all ⟨#[59]⟩ (by decide) 0 _ s rfl
  have hmap := Lib.splitB_data ⟨#[59]⟩ 0 (Lib.countB s ⟨#[59]⟩) s
  have hcnt : Lib.countB s ⟨#[59]⟩ ≤ s.size := Lib.countB_le _ (by decide) _ s (Nat.le_refl _)
  have hLL : LB.map (·.data.toList) = Lib.split s.data.toList [59] := by rw [← hLB, hmap]; rfl
  rw [hLB] at hSP hlen
  obtain ⟨res, hres⟩ : ∃ res, keyOfL s.data.toList fin = res := ⟨_, rfl⟩
  have HR : Hid ((numsF (LB.map (·.data.toList))).bind (fun n => tailR n fin) = res) := by rw [hLL]; exact (keyOfL_tail _ fin hne).symm.trans hres
  rw [hres]
  have HD : Hid (∀ t ∈ LB, t.size ≤ 281474976710656 ∧ ∀ c ∈ t.data.toList, isNum c = true) := by
    intro t ht
    have h1 : t.data.toList ∈ Lib.split s.data.toList [59] := by rw [← hLL]; exact List.mem_map.2 ⟨t, ht, rfl⟩
    have h2 := split_part _ _ h1
    refine ⟨?_, fun c hc => hd c (h2.1 c hc)⟩
    have := h2.2
    rw [Array.length_toList, Array.length_toList] at this
    show t.data.size ≤ _
    have h3 : s.data.size ≤ 1000 := hs
    omega
  have hKL : Hid (LB.length ≤ 100000) := by unfold Hid; omega
  clear hres hLL hmap hLB hd hne hs0 hER hP hm hcnt
  generalize Lib.countB s ⟨#[59]⟩ = KK at *
  have HLEN : Hid (LB.length = KK + 1) := hlen
  clear hlen
  go_enter Tryd.func23, Tryd.ntmps23
  go_wp2_with (go_at_call 39; refine hSP.mono ?_; rintro e W0 ⟨rfl, hW0⟩)
  have kw0 := kb.alloc kb.size (.cells (LB.map Value.string).toArray 9)
  have zw0 := by_block Z ((Below.refl _ _).alloc (Nat.le_refl _) (.cells (LB.map Value.string).toArray 9))
  have yw0 := heap_alloc_new (w.alloc (.cells #[.int .i64 0, .int .i32 0, .int .i64 0, .int .i64 0] 31)) (.cells (LB.map Value.string).toArray 9)
  rw [World.size_alloc] at yw0
  have hPS : w.heap.size + 1 + 1 ≤ ((w.alloc (.cells #[.int .i64 0, .int .i32 0, .int .i64 0, .int .i64 0] 31)).alloc (.cells (LB.map Value.string).toArray 9)).heap.size := by rw [World.size_alloc, World.size_alloc]; exact Nat.le_refl _
  generalize (w.alloc (.cells #[.int .i64 0, .int .i32 0, .int .i64 0, .int .i64 0] 31)).alloc (.cells (LB.map Value.string).toArray 9) = W0' at *
  clear hSP hW0 Z kb
  go_loopg [6, 19] (KK + 1) (fun gg v6 v19 wr => ∃ (i : Nat) (n : List Int), v19 = .int .i64 (i : Int) ∧ i ≤ KK + 1 ∧ KK + 1 - i ≤ gg ∧ n.length = i ∧ wr.ownsRow (w.heap.size + 1 + 1) 3 1 v6 n.length (n.map (Value.int .i64)) ∧ numsF (LB.map (·.data.toList)) = (numsF ((LB.map (·.data.toList)).drop i)).map (n ++ ·) ∧ (∀ x ∈ n, 0 ≤ x ∧ x ≤ 9223372036854775807) ∧ Below w.heap.size w wr ∧ w.heap.size + 1 + 1 ≤ wr.heap.size ∧ wr.heap[w.heap.size]? = some (.cells #[.int .i64 0, .int .i32 0, .int .i64 0, .int .i64 0] 31 (0, 0)) ∧ wr.heap[w.heap.size + 1]? = some (.cells (LB.map Value.string).toArray 9 (0, 0)))
  case atStart => exact ⟨0, [], rfl, by omega, by omega, rfl, World.ownsRow_nil _ _ _ _, by simp, by simp, kw0, hPS, zw0, yw0⟩
  case round =>
    obtain ⟨i, n, rfl, hi1, hgg, hni, hown, hnf, hnn, k0, hps, z0, hy⟩ := hrel
    have HO : Hid (wr.ownsRow (w.heap.size + 1 + 1) 3 1 _ n.length (n.map (Value.int .i64))) := hown
    have HNF : Hid (numsF (LB.map (·.data.toList)) = (numsF ((LB.map (·.data.toList)).drop i)).map (n ++ ·)) := hnf
    have HNN : Hid (∀ x ∈ n, 0 ≤ x ∧ x ≤ 9223372036854775807) := hnn
    have HNI : Hid (n.length = i) := hni
    clear hown hnf hnn hni kw0 hPS zw0 yw0
    by_cases hik : i = KK + 1
    · have iex : ¬ (i : Int) < (KK : Int) + 1 := by omega
      have hfull : numsF (LB.map (·.data.toList)) = some n := by
        rw [HNF.out, List.drop_of_length_le (by rw [List.length_map, HLEN.out]; omega)]
        simp [numsF]
      have hne : n ≠ [] := by intro h; have := HNI.out; rw [h] at this; simp at this; omega
      have hrt : tailR n fin = res := by rw [← HR.out, hfull]; rfl
      obtain ⟨g, c, cur, rfl, hbg, y0, hcur⟩ := nat_open HO.out hne
      clear hfull HR HNF HO hy HD HEE
      by_cases h90 : fin = 90
      · have j90 : ((fin.toNat : Int) == 90) = true := by rw [show (90 : Int) = ((90 : UInt8).toNat : Int) from rfl, u8_is, decide_eq_true h90]
        have e : res = none := by rw [← hrt]; unfold tailR; rw [if_pos h90, if_neg hne]
        have hnl : ((n.length : Int) == 0) = false := by rw [beq_eq_false_iff_ne]; have := HNI.out; omega
        subst e
        clear h90 hrt hne HNN HNI hcur hik
        generalize n.length = q at *
        go_wp2_with (refine wpList_store_row rfl 31 (.tmp 4) (.tmp 38) rfl w.heap.size #[.int .i64 3, .int .i32 0, .int .i64 0, .int .i64 1] rfl rfl _ _ z0 (by kernel_rfl) rfl (one4 _ _ _ _) ?_)
        (try simp only [Exit.inBlock, Exit.then])
        refine bodyPost_ret (v := .tuple #[.agg #[.int .i64 3, .int .i32 0, .int .i64 0, .int .i64 1], .bool false]) ?_ rfl (by first | exact ⟨⟨3, 0, 0, 1⟩, rfl, (fun k h => by cases h), below_setRow k0 (Nat.le_refl _) _⟩ | exact ⟨⟨⟨3, 0, 0, 1⟩, rfl⟩, below_setRow k0 (Nat.le_refl _) _⟩)
        exact results_key_tmp rfl _ _ w.heap.size _ _ _ _ rfl (setRow_heap _ _ _ _ _ _ z0) Tryd.underlying31 rfl (by kernel_rfl) _ rfl
      · have j90 : ((fin.toNat : Int) == 90) = false := by rw [show (90 : Int) = ((90 : UInt8).toNat : Int) from rfl, u8_is, decide_eq_false h90]
        match n, hne with
        | [xv], _ =>
          have HR : Hid ((seqT.find? fun p => hitR [xv] fin p.2).map (fun p => ({ p.1 with held := 0 } : Ky)) = res) := by
            rw [← hrt]
            unfold Hid tailR
            rw [if_neg h90, if_neg (c := ([xv] : List Int).length = 2 ∧ _) (by simp)]
            rfl
          have hxlo0 := (HNN.out xv (by simp)).1
          have hxlo : -9223372036854775808 ≤ xv := by omega
          have hxhi := (HNN.out xv (by simp)).2
          have hc0 := hcur 0 xv rfl
          have hcat : ¬ 9223372036854775807 < (bs (Lib.itoa xv)).size + 1 := by rw [bs_sz', show (Lib.itoa xv).length = (Lib.itoa xv).length from rfl]; have := Lib.itoa_length_le xv hxlo hxhi; omega
          clear h90 hrt HNN HNI hcur hik hbg hgg hi1 hps HLEN hKL
          simp only [List.length_cons, List.length_nil]
          go_wp2_with (first | (go_at_call 41; refine (sequences_any _).mono ?_; rintro e W1 ⟨rfl, hS, hB, hlt⟩; obtain ⟨n0, hn0, hown⟩ := hS) | (at_range; refine wpList_range_own _ rfl _ 70 rfl 31 9 ky_law ky_map _ _ n0 (litsS seqT) rfl hown ?_; intro W2 hrg0 hg0 hs0))
          go_frame
          have z1 := by_block z0 hB
          have k1 := k0.trans (hB.mono k0.size)
          have y1 := by_block y0 hB
          have hk2 := k1.grown hg0 k1.size (fun j hj => by cases hj)
          have z2 := heap_grown2 z1 hg0
          have y2 := heap_grown2 y1 hg0
          have hrz : w.heap.size ≠ W1.heap.size := by have := (Array.getElem?_eq_some_iff.1 z1).1; omega
          have hrB : W1.heap.size ≠ wr.heap.size := by omega
          have hrg : g ≠ W1.heap.size := by have := (Array.getElem?_eq_some_iff.1 y1).1; omega
          have hrw : w.heap.size ≤ W1.heap.size := k1.size
          generalize W1.heap.size = r at *
          generalize wr.heap.size = B at *
          clear hg0 hs0 hown z1 k1 hlt z0 k0 hB y0 y1
          have hst : Hid (∀ q ∈ seqT, Maps.has (litsS seqT) (klOf q.1) = false → hitR [xv] fin q.2 = false) := has_start [xv] fin
          go_loopw [13] (fun _ wr => ∃ left cnt, wr.ranges Tryd.prog 31 (plainElem Tryd.prog 9) B r n0 (litsS seqT) left cnt ∧ (∀ q ∈ seqT, left (klOf q.1) = false → hitR [xv] fin q.2 = false) ∧ wr.heap[w.heap.size]? = some (.cells #[.int .i64 0, .int .i32 0, .int .i64 0, .int .i64 0] 31 (0, 0)) ∧ Below w.heap.size w wr ∧ wr.heap[g]? = some (.cells cur 3 (0, 0))) (fun _ wr => wr.rangeLeft B r)
          case atStart => exact ⟨_, _, hrg0, hst.out, z2, hk2, y2⟩
          case round =>
            obtain ⟨left, cnt, hrg1, hno, hz0, kr, hy0⟩ := hrel
            have HN : Hid (∀ q ∈ seqT, left (klOf q.1) = false → hitR [xv] fin q.2 = false) := hno
            clear hno hst hrg0 z2 hk2 y2
            go_wp2_with (at_next; refine wpList_next_ranges _ rfl _ rfl 31 ky_law (plainElem Tryd.prog 9) (fun x : Value => x) (fun x : Value => x) (fun key kl _ => ⟨key, rfl⟩) (fun v y _ => ⟨v, rfl⟩) B r n0 (litsS seqT) left cnt rfl hrg1 ?_ ?_; refine Hid.out ?_; refine Hid.out ?_)
            · unfold Hid
              intro _ hl
              have e : res = none := by rw [← HR.out, find_no [xv] fin left hl HN.out]; rfl
              subst e
              clear HR HN hrg1 hl
              go_wp2_with (refine wpList_store_row rfl 31 (.tmp 4) (.tmp 107) rfl w.heap.size #[.int .i64 0, .int .i32 0, .int .i64 0, .int .i64 0] rfl rfl _ _ hz0 (by kernel_rfl) rfl (one4 _ _ _ _) ?_)
              (try simp only [Exit.inBlock, Exit.then])
              refine bodyPost_ret (v := .tuple #[.agg #[.int .i64 0, .int .i32 0, .int .i64 0, .int .i64 0], .bool false]) ?_ rfl (by first | exact ⟨⟨0, 0, 0, 0⟩, rfl, (fun k h => by cases h), below_setRow kr (Nat.le_refl _) _⟩ | exact ⟨⟨⟨0, 0, 0, 0⟩, rfl⟩, below_setRow kr (Nat.le_refl _) _⟩)
              exact results_key_tmp rfl _ _ w.heap.size _ _ _ _ rfl (setRow_heap _ _ _ _ _ _ hz0) Tryd.underlying31 rfl (by kernel_rfl) _ rfl
            · intro x c kl ya yb w1 cnt1 hkey hlx hv hat hrg2 hlt1 hg1 hs1 hen
              obtain ⟨p, hp, rfl, rfl, hkl⟩ := seq_entry hkey hv hat
              have hz1 := heap_grown hz0 hg1 hrz
              have hy1 := heap_grown hy0 hg1 hrg
              have k1 := kr.grown hg1 kr.size (fun j hj => by cases hj; exact hrw)
              have HS : Hid (hitR [xv] fin p.2 = false → ∀ q ∈ seqT, (left (klOf q.1) && !(klOf q.1).sameKey kl) = false → hitR [xv] fin q.2 = false) := fun hn => left_step hp hkl hn HN.out
              have hE : Hid (wr.rangeLeft B r = cnt) := hrg1.left_eq
              have HP : Hid (p ∈ seqT) := hp
              clear hkey hlx hv hat hg1 hs1 HN kr hz0 hrg1 hkl hy0
              rcases seq_shape p hp with ⟨a, ha, hne⟩ | ⟨a, ha⟩ | ⟨a, b, ha⟩
              · by_cases hf : a = fin
                · have h126 : fin ≠ 126 := fun e => hne (hf.trans e)
                  have hct : ((((⟨#[a]⟩ : ByteArray)[0]'(show 0 < 1 by omega)).toNat : Int) != fin.toNat) = false := by rw [bne, u8_is]; rw [show (⟨#[a]⟩ : ByteArray)[0]'(show 0 < 1 by omega) = a from rfl, decide_eq_true hf]; rfl
                  have j126 : ((fin.toNat : Int) != 126) = true := by rw [bne, show (126 : Int) = ((126 : UInt8).toNat : Int) from rfl, u8_is, decide_eq_false h126]; rfl
                  have hS := HS.out (by rw [ha]; exact hitn_l h126 (by simp) (by simp))
                  have HSS : Hid (∀ q ∈ seqT, (left (klOf q.1) && !(klOf q.1).sameKey kl) = false → hitR [xv] fin q.2 = false) := hS
                  rw [ha, show bs [a] = ⟨#[a]⟩ from rfl] at hen ⊢
                  obtain ⟨⟨kd, rr, nn, hh⟩, t⟩ := p
                  unfold kyv at hen ⊢
                  simp only at hen ha ⊢
                  have ka := (Below.refl w1.heap.size w1).alloc (Nat.le_refl _) (.cells #[.int .i64 kd, .int .i32 rr, .int .i64 nn, .int .i64 0] 31)
                  have hz2 := by_block hz1 ka
                  have hy2 := by_block hy1 ka
                  have g0 := cell_of hy2 hc0
                  have k2 := k1.trans (ka.mono k1.size)
                  clear hf
                  clear hS HS HP HR ha hp hz1 k1 ka hy1
                  go_wp2_with fail
                  refine ⟨⟨_, _, hrg2.alloc _, HSS.out, hz2, k2, hy2⟩, ?_⟩
                  rw [(hrg2.alloc _).left_eq, hE.out]; exact hlt1
                · skip
                  have hct : ((((⟨#[a]⟩ : ByteArray)[0]'(show 0 < 1 by omega)).toNat : Int) != fin.toNat) = true := by rw [bne, u8_is]; rw [show (⟨#[a]⟩ : ByteArray)[0]'(show 0 < 1 by omega) = a from rfl, decide_eq_false hf]; rfl
                  have hS := HS.out (by rw [ha]; exact hitn_last (l := [a]) hf)
                  have HSS : Hid (∀ q ∈ seqT, (left (klOf q.1) && !(klOf q.1).sameKey kl) = false → hitR [xv] fin q.2 = false) := hS
                  rw [ha, show bs [a] = ⟨#[a]⟩ from rfl] at hen ⊢
                  obtain ⟨⟨kd, rr, nn, hh⟩, t⟩ := p
                  unfold kyv at hen ⊢
                  simp only at hen ha ⊢
                  have ka := (Below.refl w1.heap.size w1).alloc (Nat.le_refl _) (.cells #[.int .i64 kd, .int .i32 rr, .int .i64 nn, .int .i64 hh] 31)
                  have hz2 := by_block hz1 ka
                  have hy2 := by_block hy1 ka
                  have g0 := cell_of hy2 hc0
                  have k2 := k1.trans (ka.mono k1.size)
                  clear hf
                  clear hS HS HP HR ha hp hz1 k1 ka hy1
                  go_wp2_with fail
                  refine ⟨⟨_, _, hrg2.alloc _, HSS.out, hz2, k2, hy2⟩, ?_⟩
                  rw [(hrg2.alloc _).left_eq, hE.out]; exact hlt1
              · by_cases hf : (126 : UInt8) = fin
                · skip
                  have hct : ((((⟨#[a, 126]⟩ : ByteArray)[1]'(show 1 < 2 by omega)).toNat : Int) != fin.toNat) = false := by rw [bne, u8_is]; rw [show (⟨#[a, 126]⟩ : ByteArray)[1]'(show 1 < 2 by omega) = 126 from rfl, decide_eq_true hf]; rfl
                  have j126 : ((fin.toNat : Int) != 126) = false := by rw [bne, show (126 : Int) = ((126 : UInt8).toNat : Int) from rfl, u8_is, decide_eq_true hf.symm]; rfl
                  by_cases hx : Lib.decDigits xv.toNat ++ [126] = [a, 126]
                  · have ix : ((bs (Lib.itoa xv) ++ ⟨#[126]⟩ : ByteArray).toList == [a, 126]) = true := itoa_is hxlo0 hx
                    have e : res = some { p.1 with held := 0 } := by rw [← HR.out, find_hit [xv] fin p HP.out (by rw [ha]; exact hit_n hf (by simp) (by simp) hx)]; rfl
                    rw [ha, show bs [a, 126] = ⟨#[a, 126]⟩ from rfl] at hen ⊢
                    obtain ⟨⟨kd, rr, nn, hh⟩, t⟩ := p
                    unfold kyv at hen ⊢
                    simp only at hen ha ⊢
                    subst e
                    have ka := (Below.refl w1.heap.size w1).alloc (Nat.le_refl _) (.cells #[.int .i64 kd, .int .i32 rr, .int .i64 nn, .int .i64 0] 31)
                    have hz2 := by_block hz1 ka
                    have hy2 := by_block hy1 ka
                    have g0 := cell_of hy2 hc0
                    have k2 := k1.trans (ka.mono k1.size)
                    have HI := itoa_any xv _ hxlo hxhi (HPP.out _ k2)
                    clear hf hx
                    clear HS HP HR ha hp hz1 k1 ka hy1
                    go_wp2_with fail
                    refine HI.mono ?_
                    rintro e W5 ⟨rfl, b5⟩
                    have hz3 := by_block hz2 b5
                    have hy3 := by_block hy2 b5
                    have k3 := k2.trans (b5.mono k2.size)
                    obtain ⟨⟨d0, d1, d2, d3⟩, _⟩ := four_cells1 (held_block b5)
                    clear HI hz2 hy2 g0
                    go_wp2_with (refine wpList_store_row rfl 31 (.tmp 4) (.tmp 106) rfl w.heap.size #[.int .i64 kd, .int .i32 rr, .int .i64 nn, .int .i64 0] rfl rfl _ _ hz3 (by kernel_rfl) rfl (one4 _ _ _ _) ?_)
                    (try simp only [Exit.inBlock, Exit.then])
                    refine bodyPost_ret (v := .tuple #[.agg #[.int .i64 kd, .int .i32 rr, .int .i64 nn, .int .i64 0], .bool true]) ?_ rfl (by first | exact ⟨⟨kd, rr, nn, 0⟩, rfl, (by first | rfl | exact fun k h => Option.some.inj h), below_setRow k3 (Nat.le_refl _) _⟩ | exact ⟨⟨⟨kd, rr, nn, 0⟩, rfl⟩, below_setRow k3 (Nat.le_refl _) _⟩)
                    exact results_key_tmp rfl _ _ w.heap.size _ _ _ _ rfl (setRow_heap _ _ _ _ _ _ hz3) Tryd.underlying31 rfl (by kernel_rfl) _ rfl
                  · have ix : ((bs (Lib.itoa xv) ++ ⟨#[126]⟩ : ByteArray).toList == [a, 126]) = false := itoa_not hxlo0 hx
                    have hS := HS.out (by rw [ha]; exact hitn_d hf hx)
                    have HSS : Hid (∀ q ∈ seqT, (left (klOf q.1) && !(klOf q.1).sameKey kl) = false → hitR [xv] fin q.2 = false) := hS
                    rw [ha, show bs [a, 126] = ⟨#[a, 126]⟩ from rfl] at hen ⊢
                    obtain ⟨⟨kd, rr, nn, hh⟩, t⟩ := p
                    unfold kyv at hen ⊢
                    simp only at hen ha ⊢
                    have ka := (Below.refl w1.heap.size w1).alloc (Nat.le_refl _) (.cells #[.int .i64 kd, .int .i32 rr, .int .i64 nn, .int .i64 0] 31)
                    have hz2 := by_block hz1 ka
                    have hy2 := by_block hy1 ka
                    have g0 := cell_of hy2 hc0
                    have k2 := k1.trans (ka.mono k1.size)
                    have HI := itoa_any xv _ hxlo hxhi (HPP.out _ k2)
                    clear hf hx
                    clear hS HS HP HR ha hp hz1 k1 ka hy1
                    go_wp2_with fail
                    refine HI.mono ?_
                    rintro e W5 ⟨rfl, b5⟩
                    have hz3 := by_block hz2 b5
                    have hy3 := by_block hy2 b5
                    have k3 := k2.trans (b5.mono k2.size)
                    obtain ⟨⟨d0, d1, d2, d3⟩, _⟩ := four_cells1 (held_block b5)
                    clear HI hz2 hy2 g0
                    go_wp2_with fail
                    refine ⟨⟨_, _, ranges_below (hrg2.alloc _) b5, HSS.out, hz3, k3, hy3⟩, ?_⟩
                    rw [(ranges_below (hrg2.alloc _) b5).left_eq, hE.out]; exact hlt1
                · skip
                  have hct : ((((⟨#[a, 126]⟩ : ByteArray)[1]'(show 1 < 2 by omega)).toNat : Int) != fin.toNat) = true := by rw [bne, u8_is]; rw [show (⟨#[a, 126]⟩ : ByteArray)[1]'(show 1 < 2 by omega) = 126 from rfl, decide_eq_false hf]; rfl
                  have hS := HS.out (by rw [ha]; exact hitn_last (l := [a, 126]) hf)
                  have HSS : Hid (∀ q ∈ seqT, (left (klOf q.1) && !(klOf q.1).sameKey kl) = false → hitR [xv] fin q.2 = false) := hS
                  rw [ha, show bs [a, 126] = ⟨#[a, 126]⟩ from rfl] at hen ⊢
                  obtain ⟨⟨kd, rr, nn, hh⟩, t⟩ := p
                  unfold kyv at hen ⊢
                  simp only at hen ha ⊢
                  have ka := (Below.refl w1.heap.size w1).alloc (Nat.le_refl _) (.cells #[.int .i64 kd, .int .i32 rr, .int .i64 nn, .int .i64 hh] 31)
                  have hz2 := by_block hz1 ka
                  have hy2 := by_block hy1 ka
                  have g0 := cell_of hy2 hc0
                  have k2 := k1.trans (ka.mono k1.size)
                  clear hf
                  clear hS HS HP HR ha hp hz1 k1 ka hy1
                  go_wp2_with fail
                  refine ⟨⟨_, _, hrg2.alloc _, HSS.out, hz2, k2, hy2⟩, ?_⟩
                  rw [(hrg2.alloc _).left_eq, hE.out]; exact hlt1
              · by_cases hf : (126 : UInt8) = fin
                · skip
                  have hct : ((((⟨#[a, b, 126]⟩ : ByteArray)[2]'(show 2 < 3 by omega)).toNat : Int) != fin.toNat) = false := by rw [bne, u8_is]; rw [show (⟨#[a, b, 126]⟩ : ByteArray)[2]'(show 2 < 3 by omega) = 126 from rfl, decide_eq_true hf]; rfl
                  have j126 : ((fin.toNat : Int) != 126) = false := by rw [bne, show (126 : Int) = ((126 : UInt8).toNat : Int) from rfl, u8_is, decide_eq_true hf.symm]; rfl
                  by_cases hx : Lib.decDigits xv.toNat ++ [126] = [a, b, 126]
                  · have ix : ((bs (Lib.itoa xv) ++ ⟨#[126]⟩ : ByteArray).toList == [a, b, 126]) = true := itoa_is hxlo0 hx
                    have e : res = some { p.1 with held := 0 } := by rw [← HR.out, find_hit [xv] fin p HP.out (by rw [ha]; exact hit_n hf (by simp) (by simp) hx)]; rfl
                    rw [ha, show bs [a, b, 126] = ⟨#[a, b, 126]⟩ from rfl] at hen ⊢
                    obtain ⟨⟨kd, rr, nn, hh⟩, t⟩ := p
                    unfold kyv at hen ⊢
                    simp only at hen ha ⊢
                    subst e
                    have ka := (Below.refl w1.heap.size w1).alloc (Nat.le_refl _) (.cells #[.int .i64 kd, .int .i32 rr, .int .i64 nn, .int .i64 0] 31)
                    have hz2 := by_block hz1 ka
                    have hy2 := by_block hy1 ka
                    have g0 := cell_of hy2 hc0
                    have k2 := k1.trans (ka.mono k1.size)
                    have HI := itoa_any xv _ hxlo hxhi (HPP.out _ k2)
                    clear hf hx
                    clear HS HP HR ha hp hz1 k1 ka hy1
                    go_wp2_with fail
                    refine HI.mono ?_
                    rintro e W5 ⟨rfl, b5⟩
                    have hz3 := by_block hz2 b5
                    have hy3 := by_block hy2 b5
                    have k3 := k2.trans (b5.mono k2.size)
                    obtain ⟨⟨d0, d1, d2, d3⟩, _⟩ := four_cells1 (held_block b5)
                    clear HI hz2 hy2 g0
                    go_wp2_with (refine wpList_store_row rfl 31 (.tmp 4) (.tmp 106) rfl w.heap.size #[.int .i64 kd, .int .i32 rr, .int .i64 nn, .int .i64 0] rfl rfl _ _ hz3 (by kernel_rfl) rfl (one4 _ _ _ _) ?_)
                    (try simp only [Exit.inBlock, Exit.then])
                    refine bodyPost_ret (v := .tuple #[.agg #[.int .i64 kd, .int .i32 rr, .int .i64 nn, .int .i64 0], .bool true]) ?_ rfl (by first | exact ⟨⟨kd, rr, nn, 0⟩, rfl, (by first | rfl | exact fun k h => Option.some.inj h), below_setRow k3 (Nat.le_refl _) _⟩ | exact ⟨⟨⟨kd, rr, nn, 0⟩, rfl⟩, below_setRow k3 (Nat.le_refl _) _⟩)
                    exact results_key_tmp rfl _ _ w.heap.size _ _ _ _ rfl (setRow_heap _ _ _ _ _ _ hz3) Tryd.underlying31 rfl (by kernel_rfl) _ rfl
                  · have ix : ((bs (Lib.itoa xv) ++ ⟨#[126]⟩ : ByteArray).toList == [a, b, 126]) = false := itoa_not hxlo0 hx
                    have hS := HS.out (by rw [ha]; exact hitn_d hf hx)
                    have HSS : Hid (∀ q ∈ seqT, (left (klOf q.1) && !(klOf q.1).sameKey kl) = false → hitR [xv] fin q.2 = false) := hS
                    rw [ha, show bs [a, b, 126] = ⟨#[a, b, 126]⟩ from rfl] at hen ⊢
                    obtain ⟨⟨kd, rr, nn, hh⟩, t⟩ := p
                    unfold kyv at hen ⊢
                    simp only at hen ha ⊢
                    have ka := (Below.refl w1.heap.size w1).alloc (Nat.le_refl _) (.cells #[.int .i64 kd, .int .i32 rr, .int .i64 nn, .int .i64 0] 31)
                    have hz2 := by_block hz1 ka
                    have hy2 := by_block hy1 ka
                    have g0 := cell_of hy2 hc0
                    have k2 := k1.trans (ka.mono k1.size)
                    have HI := itoa_any xv _ hxlo hxhi (HPP.out _ k2)
                    clear hf hx
                    clear hS HS HP HR ha hp hz1 k1 ka hy1
                    go_wp2_with fail
                    refine HI.mono ?_
                    rintro e W5 ⟨rfl, b5⟩
                    have hz3 := by_block hz2 b5
                    have hy3 := by_block hy2 b5
                    have k3 := k2.trans (b5.mono k2.size)
                    obtain ⟨⟨d0, d1, d2, d3⟩, _⟩ := four_cells1 (held_block b5)
                    clear HI hz2 hy2 g0
                    go_wp2_with fail
                    refine ⟨⟨_, _, ranges_below (hrg2.alloc _) b5, HSS.out, hz3, k3, hy3⟩, ?_⟩
                    rw [(ranges_below (hrg2.alloc _) b5).left_eq, hE.out]; exact hlt1
                · skip
                  have hct : ((((⟨#[a, b, 126]⟩ : ByteArray)[2]'(show 2 < 3 by omega)).toNat : Int) != fin.toNat) = true := by rw [bne, u8_is]; rw [show (⟨#[a, b, 126]⟩ : ByteArray)[2]'(show 2 < 3 by omega) = 126 from rfl, decide_eq_false hf]; rfl
                  have hS := HS.out (by rw [ha]; exact hitn_last (l := [a, b, 126]) hf)
                  have HSS : Hid (∀ q ∈ seqT, (left (klOf q.1) && !(klOf q.1).sameKey kl) = false → hitR [xv] fin q.2 = false) := hS
                  rw [ha, show bs [a, b, 126] = ⟨#[a, b, 126]⟩ from rfl] at hen ⊢
                  obtain ⟨⟨kd, rr, nn, hh⟩, t⟩ := p
                  unfold kyv at hen ⊢
                  simp only at hen ha ⊢
                  have ka := (Below.refl w1.heap.size w1).alloc (Nat.le_refl _) (.cells #[.int .i64 kd, .int .i32 rr, .int .i64 nn, .int .i64 hh] 31)
                  have hz2 := by_block hz1 ka
                  have hy2 := by_block hy1 ka
                  have g0 := cell_of hy2 hc0
                  have k2 := k1.trans (ka.mono k1.size)
                  clear hf
                  clear hS HS HP HR ha hp hz1 k1 ka hy1
                  go_wp2_with fail
                  refine ⟨⟨_, _, hrg2.alloc _, HSS.out, hz2, k2, hy2⟩, ?_⟩
                  rw [(hrg2.alloc _).left_eq, hE.out]; exact hlt1
        | [xv, yv], _ =>
          have hxlo0 := (HNN.out xv (by simp)).1
          have hxlo : -9223372036854775808 ≤ xv := by omega
          have hxhi := (HNN.out xv (by simp)).2
          have hylo0 := (HNN.out yv (by simp)).1
          have hyhi := (HNN.out yv (by simp)).2
          have hc0 := hcur 0 xv rfl
          have hc1 := hcur 1 yv rfl
          have q1 := cell_of y0 hc1
          have hw : wrap64 (yv - 1) = yv - 1 := by unfold wrap64; omega
          have hcat : ¬ 9223372036854775807 < (bs (Lib.itoa xv)).size + 1 := by rw [bs_sz']; have := Lib.itoa_length_le xv hxlo hxhi; omega
          by_cases hy1 : 1 ≤ yv
          · by_cases hy8 : yv ≤ 8
            · have HR : Hid ((seqT.find? fun p => hitR [xv, yv] fin p.2).map (fun p => ({ p.1 with held := yv - 1 } : Ky)) = res) := by
                rw [← hrt]
                unfold Hid tailR
                rw [if_neg h90, if_neg (c := ([xv, yv] : List Int).length = 2 ∧ ¬ (1 ≤ ([xv, yv] : List Int).getD 1 0 ∧ ([xv, yv] : List Int).getD 1 0 ≤ 8)) (fun h => h.2 ⟨hy1, hy8⟩)]
                rfl
              have iy0 : ¬ yv - 1 < 0 := by omega
              have iy7 : ¬ 7 < yv - 1 := by omega
              clear h90 hrt HNN HNI hcur hik hbg hgg hi1 hps HLEN hKL hc1 hylo0 hyhi hy1 hy8
              simp only [List.length_cons, List.length_nil]
              go_wp2_with (first | (go_at_call 41; refine (sequences_any _).mono ?_; rintro e W1 ⟨rfl, hS, hB, hlt⟩; obtain ⟨n0, hn0, hown⟩ := hS) | (at_range; refine wpList_range_own _ rfl _ 70 rfl 31 9 ky_law ky_map _ _ n0 (litsS seqT) rfl hown ?_; intro W2 hrg0 hg0 hs0))
              go_frame
              have z1 := by_block z0 hB
              have k1 := k0.trans (hB.mono k0.size)
              have y1 := by_block y0 hB
              have hk2 := k1.grown hg0 k1.size (fun j hj => by cases hj)
              have z2 := heap_grown2 z1 hg0
              have y2 := heap_grown2 y1 hg0
              have hrz : w.heap.size ≠ W1.heap.size := by have := (Array.getElem?_eq_some_iff.1 z1).1; omega
              have hrB : W1.heap.size ≠ wr.heap.size := by omega
              have hrg : g ≠ W1.heap.size := by have := (Array.getElem?_eq_some_iff.1 y1).1; omega
              have hrw : w.heap.size ≤ W1.heap.size := k1.size
              generalize W1.heap.size = r at *
              generalize wr.heap.size = B at *
              clear hg0 hs0 hown z1 k1 hlt z0 k0 hB y0 y1
              have hst : Hid (∀ q ∈ seqT, Maps.has (litsS seqT) (klOf q.1) = false → hitR [xv, yv] fin q.2 = false) := has_start [xv, yv] fin
              go_loopw [13] (fun _ wr => ∃ left cnt, wr.ranges Tryd.prog 31 (plainElem Tryd.prog 9) B r n0 (litsS seqT) left cnt ∧ (∀ q ∈ seqT, left (klOf q.1) = false → hitR [xv, yv] fin q.2 = false) ∧ wr.heap[w.heap.size]? = some (.cells #[.int .i64 0, .int .i32 0, .int .i64 0, .int .i64 0] 31 (0, 0)) ∧ Below w.heap.size w wr ∧ wr.heap[g]? = some (.cells cur 3 (0, 0))) (fun _ wr => wr.rangeLeft B r)
              case atStart => exact ⟨_, _, hrg0, hst.out, z2, hk2, y2⟩
              case round =>
                obtain ⟨left, cnt, hrg1, hno, hz0, kr, hy0⟩ := hrel
                have HN : Hid (∀ q ∈ seqT, left (klOf q.1) = false → hitR [xv, yv] fin q.2 = false) := hno
                clear hno hst hrg0 z2 hk2 y2
                go_wp2_with (at_next; refine wpList_next_ranges _ rfl _ rfl 31 ky_law (plainElem Tryd.prog 9) (fun x : Value => x) (fun x : Value => x) (fun key kl _ => ⟨key, rfl⟩) (fun v y _ => ⟨v, rfl⟩) B r n0 (litsS seqT) left cnt rfl hrg1 ?_ ?_; refine Hid.out ?_; refine Hid.out ?_)
                · unfold Hid
                  intro _ hl
                  have e : res = none := by rw [← HR.out, find_no [xv, yv] fin left hl HN.out]; rfl
                  subst e
                  clear HR HN hrg1 hl
                  go_wp2_with (refine wpList_store_row rfl 31 (.tmp 4) (.tmp 107) rfl w.heap.size #[.int .i64 0, .int .i32 0, .int .i64 0, .int .i64 0] rfl rfl _ _ hz0 (by kernel_rfl) rfl (one4 _ _ _ _) ?_)
                  (try simp only [Exit.inBlock, Exit.then])
                  refine bodyPost_ret (v := .tuple #[.agg #[.int .i64 0, .int .i32 0, .int .i64 0, .int .i64 0], .bool false]) ?_ rfl (by first | exact ⟨⟨0, 0, 0, 0⟩, rfl, (fun k h => by cases h), below_setRow kr (Nat.le_refl _) _⟩ | exact ⟨⟨⟨0, 0, 0, 0⟩, rfl⟩, below_setRow kr (Nat.le_refl _) _⟩)
                  exact results_key_tmp rfl _ _ w.heap.size _ _ _ _ rfl (setRow_heap _ _ _ _ _ _ hz0) Tryd.underlying31 rfl (by kernel_rfl) _ rfl
                · intro x c kl ya yb w1 cnt1 hkey hlx hv hat hrg2 hlt1 hg1 hs1 hen
                  obtain ⟨p, hp, rfl, rfl, hkl⟩ := seq_entry hkey hv hat
                  have hz1 := heap_grown hz0 hg1 hrz
                  have hy1 := heap_grown hy0 hg1 hrg
                  have k1 := kr.grown hg1 kr.size (fun j hj => by cases hj; exact hrw)
                  have HS : Hid (hitR [xv, yv] fin p.2 = false → ∀ q ∈ seqT, (left (klOf q.1) && !(klOf q.1).sameKey kl) = false → hitR [xv, yv] fin q.2 = false) := fun hn => left_step hp hkl hn HN.out
                  have hE : Hid (wr.rangeLeft B r = cnt) := hrg1.left_eq
                  have HP : Hid (p ∈ seqT) := hp
                  clear hkey hlx hv hat hg1 hs1 HN kr hz0 hrg1 hkl hy0
                  rcases seq_shape p hp with ⟨a, ha, hne⟩ | ⟨a, ha⟩ | ⟨a, b, ha⟩
                  · by_cases hf : a = fin
                    · have h126 : fin ≠ 126 := fun e => hne (hf.trans e)
                      have hct : ((((⟨#[a]⟩ : ByteArray)[0]'(show 0 < 1 by omega)).toNat : Int) != fin.toNat) = false := by rw [bne, u8_is]; rw [show (⟨#[a]⟩ : ByteArray)[0]'(show 0 < 1 by omega) = a from rfl, decide_eq_true hf]; rfl
                      have j126 : ((fin.toNat : Int) != 126) = true := by rw [bne, show (126 : Int) = ((126 : UInt8).toNat : Int) from rfl, u8_is, decide_eq_false h126]; rfl
                      by_cases hx : xv = 1
                      · have ix : (xv == 1) = true := by rw [beq_iff_eq]; exact hx
                        have e : res = some { p.1 with held := (yv - 1) } := by rw [← HR.out, find_hit [xv, yv] fin p HP.out (by rw [ha]; exact hit_l hf h126 (.inr ⟨rfl, hx⟩))]; rfl
                        rw [ha, show bs [a] = ⟨#[a]⟩ from rfl] at hen ⊢
                        obtain ⟨⟨kd, rr, nn, hh⟩, t⟩ := p
                        unfold kyv at hen ⊢
                        simp only at hen ha ⊢
                        subst e
                        have ka := (Below.refl w1.heap.size w1).alloc (Nat.le_refl _) (.cells #[.int .i64 kd, .int .i32 rr, .int .i64 nn, .int .i64 (yv - 1)] 31)
                        have hz2 := by_block hz1 ka
                        have hy2 := by_block hy1 ka
                        have g0 := cell_of hy2 hc0
                        have k2 := k1.trans (ka.mono k1.size)
                        clear hf hx
                        clear HS HP HR ha hp hz1 k1 ka hy1
                        go_wp2_with (refine wpList_store_row rfl 31 (.tmp 4) (.tmp 88) rfl w.heap.size #[.int .i64 kd, .int .i32 rr, .int .i64 nn, .int .i64 (yv - 1)] rfl rfl _ _ hz2 (by kernel_rfl) rfl (one4 _ _ _ _) ?_)
                        (try simp only [Exit.inBlock, Exit.then])
                        refine bodyPost_ret (v := .tuple #[.agg #[.int .i64 kd, .int .i32 rr, .int .i64 nn, .int .i64 (yv - 1)], .bool true]) ?_ rfl (by first | exact ⟨⟨kd, rr, nn, (yv - 1)⟩, rfl, (by first | rfl | exact fun k h => Option.some.inj h), below_setRow k2 (Nat.le_refl _) _⟩ | exact ⟨⟨⟨kd, rr, nn, (yv - 1)⟩, rfl⟩, below_setRow k2 (Nat.le_refl _) _⟩)
                        exact results_key_tmp rfl _ _ w.heap.size _ _ _ _ rfl (setRow_heap _ _ _ _ _ _ hz2) Tryd.underlying31 rfl (by kernel_rfl) _ rfl
                      · have ix : (xv == 1) = false := by rw [beq_eq_false_iff_ne]; exact hx
                        have hS := HS.out (by rw [ha]; exact hitn_l2 h126 (by simp) hx)
                        have HSS : Hid (∀ q ∈ seqT, (left (klOf q.1) && !(klOf q.1).sameKey kl) = false → hitR [xv, yv] fin q.2 = false) := hS
                        rw [ha, show bs [a] = ⟨#[a]⟩ from rfl] at hen ⊢
                        obtain ⟨⟨kd, rr, nn, hh⟩, t⟩ := p
                        unfold kyv at hen ⊢
                        simp only at hen ha ⊢
                        have ka := (Below.refl w1.heap.size w1).alloc (Nat.le_refl _) (.cells #[.int .i64 kd, .int .i32 rr, .int .i64 nn, .int .i64 (yv - 1)] 31)
                        have hz2 := by_block hz1 ka
                        have hy2 := by_block hy1 ka
                        have g0 := cell_of hy2 hc0
                        have k2 := k1.trans (ka.mono k1.size)
                        clear hf hx
                        clear hS HS HP HR ha hp hz1 k1 ka hy1
                        go_wp2_with fail
                        refine ⟨⟨_, _, hrg2.alloc _, HSS.out, hz2, k2, hy2⟩, ?_⟩
                        rw [(hrg2.alloc _).left_eq, hE.out]; exact hlt1
                    · skip
                      have hct : ((((⟨#[a]⟩ : ByteArray)[0]'(show 0 < 1 by omega)).toNat : Int) != fin.toNat) = true := by rw [bne, u8_is]; rw [show (⟨#[a]⟩ : ByteArray)[0]'(show 0 < 1 by omega) = a from rfl, decide_eq_false hf]; rfl
                      have hS := HS.out (by rw [ha]; exact hitn_last (l := [a]) hf)
                      have HSS : Hid (∀ q ∈ seqT, (left (klOf q.1) && !(klOf q.1).sameKey kl) = false → hitR [xv, yv] fin q.2 = false) := hS
                      rw [ha, show bs [a] = ⟨#[a]⟩ from rfl] at hen ⊢
                      obtain ⟨⟨kd, rr, nn, hh⟩, t⟩ := p
                      unfold kyv at hen ⊢
                      simp only at hen ha ⊢
                      have ka := (Below.refl w1.heap.size w1).alloc (Nat.le_refl _) (.cells #[.int .i64 kd, .int .i32 rr, .int .i64 nn, .int .i64 hh] 31)
                      have hz2 := by_block hz1 ka
                      have hy2 := by_block hy1 ka
                      have g0 := cell_of hy2 hc0
                      have k2 := k1.trans (ka.mono k1.size)
                      clear hf
                      clear hS HS HP HR ha hp hz1 k1 ka hy1
                      go_wp2_with fail
                      refine ⟨⟨_, _, hrg2.alloc _, HSS.out, hz2, k2, hy2⟩, ?_⟩
                      rw [(hrg2.alloc _).left_eq, hE.out]; exact hlt1
                  · by_cases hf : (126 : UInt8) = fin
                    · skip
                      have hct : ((((⟨#[a, 126]⟩ : ByteArray)[1]'(show 1 < 2 by omega)).toNat : Int) != fin.toNat) = false := by rw [bne, u8_is]; rw [show (⟨#[a, 126]⟩ : ByteArray)[1]'(show 1 < 2 by omega) = 126 from rfl, decide_eq_true hf]; rfl
                      have j126 : ((fin.toNat : Int) != 126) = false := by rw [bne, show (126 : Int) = ((126 : UInt8).toNat : Int) from rfl, u8_is, decide_eq_true hf.symm]; rfl
                      by_cases hx : Lib.decDigits xv.toNat ++ [126] = [a, 126]
                      · have ix : ((bs (Lib.itoa xv) ++ ⟨#[126]⟩ : ByteArray).toList == [a, 126]) = true := itoa_is hxlo0 hx
                        have e : res = some { p.1 with held := (yv - 1) } := by rw [← HR.out, find_hit [xv, yv] fin p HP.out (by rw [ha]; exact hit_n hf (by simp) (by simp) hx)]; rfl
                        rw [ha, show bs [a, 126] = ⟨#[a, 126]⟩ from rfl] at hen ⊢
                        obtain ⟨⟨kd, rr, nn, hh⟩, t⟩ := p
                        unfold kyv at hen ⊢
                        simp only at hen ha ⊢
                        subst e
                        have ka := (Below.refl w1.heap.size w1).alloc (Nat.le_refl _) (.cells #[.int .i64 kd, .int .i32 rr, .int .i64 nn, .int .i64 (yv - 1)] 31)
                        have hz2 := by_block hz1 ka
                        have hy2 := by_block hy1 ka
                        have g0 := cell_of hy2 hc0
                        have k2 := k1.trans (ka.mono k1.size)
                        have HI := itoa_any xv _ hxlo hxhi (HPP.out _ k2)
                        clear hf hx
                        clear HS HP HR ha hp hz1 k1 ka hy1
                        go_wp2_with fail
                        refine HI.mono ?_
                        rintro e W5 ⟨rfl, b5⟩
                        have hz3 := by_block hz2 b5
                        have hy3 := by_block hy2 b5
                        have k3 := k2.trans (b5.mono k2.size)
                        obtain ⟨⟨d0, d1, d2, d3⟩, _⟩ := four_cells1 (held_block b5)
                        clear HI hz2 hy2 g0
                        go_wp2_with (refine wpList_store_row rfl 31 (.tmp 4) (.tmp 106) rfl w.heap.size #[.int .i64 kd, .int .i32 rr, .int .i64 nn, .int .i64 (yv - 1)] rfl rfl _ _ hz3 (by kernel_rfl) rfl (one4 _ _ _ _) ?_)
                        (try simp only [Exit.inBlock, Exit.then])
                        refine bodyPost_ret (v := .tuple #[.agg #[.int .i64 kd, .int .i32 rr, .int .i64 nn, .int .i64 (yv - 1)], .bool true]) ?_ rfl (by first | exact ⟨⟨kd, rr, nn, (yv - 1)⟩, rfl, (by first | rfl | exact fun k h => Option.some.inj h), below_setRow k3 (Nat.le_refl _) _⟩ | exact ⟨⟨⟨kd, rr, nn, (yv - 1)⟩, rfl⟩, below_setRow k3 (Nat.le_refl _) _⟩)
                        exact results_key_tmp rfl _ _ w.heap.size _ _ _ _ rfl (setRow_heap _ _ _ _ _ _ hz3) Tryd.underlying31 rfl (by kernel_rfl) _ rfl
                      · have ix : ((bs (Lib.itoa xv) ++ ⟨#[126]⟩ : ByteArray).toList == [a, 126]) = false := itoa_not hxlo0 hx
                        have hS := HS.out (by rw [ha]; exact hitn_d hf hx)
                        have HSS : Hid (∀ q ∈ seqT, (left (klOf q.1) && !(klOf q.1).sameKey kl) = false → hitR [xv, yv] fin q.2 = false) := hS
                        rw [ha, show bs [a, 126] = ⟨#[a, 126]⟩ from rfl] at hen ⊢
                        obtain ⟨⟨kd, rr, nn, hh⟩, t⟩ := p
                        unfold kyv at hen ⊢
                        simp only at hen ha ⊢
                        have ka := (Below.refl w1.heap.size w1).alloc (Nat.le_refl _) (.cells #[.int .i64 kd, .int .i32 rr, .int .i64 nn, .int .i64 (yv - 1)] 31)
                        have hz2 := by_block hz1 ka
                        have hy2 := by_block hy1 ka
                        have g0 := cell_of hy2 hc0
                        have k2 := k1.trans (ka.mono k1.size)
                        have HI := itoa_any xv _ hxlo hxhi (HPP.out _ k2)
                        clear hf hx
                        clear hS HS HP HR ha hp hz1 k1 ka hy1
                        go_wp2_with fail
                        refine HI.mono ?_
                        rintro e W5 ⟨rfl, b5⟩
                        have hz3 := by_block hz2 b5
                        have hy3 := by_block hy2 b5
                        have k3 := k2.trans (b5.mono k2.size)
                        obtain ⟨⟨d0, d1, d2, d3⟩, _⟩ := four_cells1 (held_block b5)
                        clear HI hz2 hy2 g0
                        go_wp2_with fail
                        refine ⟨⟨_, _, ranges_below (hrg2.alloc _) b5, HSS.out, hz3, k3, hy3⟩, ?_⟩
                        rw [(ranges_below (hrg2.alloc _) b5).left_eq, hE.out]; exact hlt1
                    · skip
                      have hct : ((((⟨#[a, 126]⟩ : ByteArray)[1]'(show 1 < 2 by omega)).toNat : Int) != fin.toNat) = true := by rw [bne, u8_is]; rw [show (⟨#[a, 126]⟩ : ByteArray)[1]'(show 1 < 2 by omega) = 126 from rfl, decide_eq_false hf]; rfl
                      have hS := HS.out (by rw [ha]; exact hitn_last (l := [a, 126]) hf)
                      have HSS : Hid (∀ q ∈ seqT, (left (klOf q.1) && !(klOf q.1).sameKey kl) = false → hitR [xv, yv] fin q.2 = false) := hS
                      rw [ha, show bs [a, 126] = ⟨#[a, 126]⟩ from rfl] at hen ⊢
                      obtain ⟨⟨kd, rr, nn, hh⟩, t⟩ := p
                      unfold kyv at hen ⊢
                      simp only at hen ha ⊢
                      have ka := (Below.refl w1.heap.size w1).alloc (Nat.le_refl _) (.cells #[.int .i64 kd, .int .i32 rr, .int .i64 nn, .int .i64 hh] 31)
                      have hz2 := by_block hz1 ka
                      have hy2 := by_block hy1 ka
                      have g0 := cell_of hy2 hc0
                      have k2 := k1.trans (ka.mono k1.size)
                      clear hf
                      clear hS HS HP HR ha hp hz1 k1 ka hy1
                      go_wp2_with fail
                      refine ⟨⟨_, _, hrg2.alloc _, HSS.out, hz2, k2, hy2⟩, ?_⟩
                      rw [(hrg2.alloc _).left_eq, hE.out]; exact hlt1
                  · by_cases hf : (126 : UInt8) = fin
                    · skip
                      have hct : ((((⟨#[a, b, 126]⟩ : ByteArray)[2]'(show 2 < 3 by omega)).toNat : Int) != fin.toNat) = false := by rw [bne, u8_is]; rw [show (⟨#[a, b, 126]⟩ : ByteArray)[2]'(show 2 < 3 by omega) = 126 from rfl, decide_eq_true hf]; rfl
                      have j126 : ((fin.toNat : Int) != 126) = false := by rw [bne, show (126 : Int) = ((126 : UInt8).toNat : Int) from rfl, u8_is, decide_eq_true hf.symm]; rfl
                      by_cases hx : Lib.decDigits xv.toNat ++ [126] = [a, b, 126]
                      · have ix : ((bs (Lib.itoa xv) ++ ⟨#[126]⟩ : ByteArray).toList == [a, b, 126]) = true := itoa_is hxlo0 hx
                        have e : res = some { p.1 with held := (yv - 1) } := by rw [← HR.out, find_hit [xv, yv] fin p HP.out (by rw [ha]; exact hit_n hf (by simp) (by simp) hx)]; rfl
                        rw [ha, show bs [a, b, 126] = ⟨#[a, b, 126]⟩ from rfl] at hen ⊢
                        obtain ⟨⟨kd, rr, nn, hh⟩, t⟩ := p
                        unfold kyv at hen ⊢
                        simp only at hen ha ⊢
                        subst e
                        have ka := (Below.refl w1.heap.size w1).alloc (Nat.le_refl _) (.cells #[.int .i64 kd, .int .i32 rr, .int .i64 nn, .int .i64 (yv - 1)] 31)
                        have hz2 := by_block hz1 ka
                        have hy2 := by_block hy1 ka
                        have g0 := cell_of hy2 hc0
                        have k2 := k1.trans (ka.mono k1.size)
                        have HI := itoa_any xv _ hxlo hxhi (HPP.out _ k2)
                        clear hf hx
                        clear HS HP HR ha hp hz1 k1 ka hy1
                        go_wp2_with fail
                        refine HI.mono ?_
                        rintro e W5 ⟨rfl, b5⟩
                        have hz3 := by_block hz2 b5
                        have hy3 := by_block hy2 b5
                        have k3 := k2.trans (b5.mono k2.size)
                        obtain ⟨⟨d0, d1, d2, d3⟩, _⟩ := four_cells1 (held_block b5)
                        clear HI hz2 hy2 g0
                        go_wp2_with (refine wpList_store_row rfl 31 (.tmp 4) (.tmp 106) rfl w.heap.size #[.int .i64 kd, .int .i32 rr, .int .i64 nn, .int .i64 (yv - 1)] rfl rfl _ _ hz3 (by kernel_rfl) rfl (one4 _ _ _ _) ?_)
                        (try simp only [Exit.inBlock, Exit.then])
                        refine bodyPost_ret (v := .tuple #[.agg #[.int .i64 kd, .int .i32 rr, .int .i64 nn, .int .i64 (yv - 1)], .bool true]) ?_ rfl (by first | exact ⟨⟨kd, rr, nn, (yv - 1)⟩, rfl, (by first | rfl | exact fun k h => Option.some.inj h), below_setRow k3 (Nat.le_refl _) _⟩ | exact ⟨⟨⟨kd, rr, nn, (yv - 1)⟩, rfl⟩, below_setRow k3 (Nat.le_refl _) _⟩)
                        exact results_key_tmp rfl _ _ w.heap.size _ _ _ _ rfl (setRow_heap _ _ _ _ _ _ hz3) Tryd.underlying31 rfl (by kernel_rfl) _ rfl
                      · have ix : ((bs (Lib.itoa xv) ++ ⟨#[126]⟩ : ByteArray).toList == [a, b, 126]) = false := itoa_not hxlo0 hx
                        have hS := HS.out (by rw [ha]; exact hitn_d hf hx)
                        have HSS : Hid (∀ q ∈ seqT, (left (klOf q.1) && !(klOf q.1).sameKey kl) = false → hitR [xv, yv] fin q.2 = false) := hS
                        rw [ha, show bs [a, b, 126] = ⟨#[a, b, 126]⟩ from rfl] at hen ⊢
                        obtain ⟨⟨kd, rr, nn, hh⟩, t⟩ := p
                        unfold kyv at hen ⊢
                        simp only at hen ha ⊢
                        have ka := (Below.refl w1.heap.size w1).alloc (Nat.le_refl _) (.cells #[.int .i64 kd, .int .i32 rr, .int .i64 nn, .int .i64 (yv - 1)] 31)
                        have hz2 := by_block hz1 ka
                        have hy2 := by_block hy1 ka
                        have g0 := cell_of hy2 hc0
                        have k2 := k1.trans (ka.mono k1.size)
                        have HI := itoa_any xv _ hxlo hxhi (HPP.out _ k2)
                        clear hf hx
                        clear hS HS HP HR ha hp hz1 k1 ka hy1
                        go_wp2_with fail
                        refine HI.mono ?_
                        rintro e W5 ⟨rfl, b5⟩
                        have hz3 := by_block hz2 b5
                        have hy3 := by_block hy2 b5
                        have k3 := k2.trans (b5.mono k2.size)
                        obtain ⟨⟨d0, d1, d2, d3⟩, _⟩ := four_cells1 (held_block b5)
                        clear HI hz2 hy2 g0
                        go_wp2_with fail
                        refine ⟨⟨_, _, ranges_below (hrg2.alloc _) b5, HSS.out, hz3, k3, hy3⟩, ?_⟩
                        rw [(ranges_below (hrg2.alloc _) b5).left_eq, hE.out]; exact hlt1
                    · skip
                      have hct : ((((⟨#[a, b, 126]⟩ : ByteArray)[2]'(show 2 < 3 by omega)).toNat : Int) != fin.toNat) = true := by rw [bne, u8_is]; rw [show (⟨#[a, b, 126]⟩ : ByteArray)[2]'(show 2 < 3 by omega) = 126 from rfl, decide_eq_false hf]; rfl
                      have hS := HS.out (by rw [ha]; exact hitn_last (l := [a, b, 126]) hf)
                      have HSS : Hid (∀ q ∈ seqT, (left (klOf q.1) && !(klOf q.1).sameKey kl) = false → hitR [xv, yv] fin q.2 = false) := hS
                      rw [ha, show bs [a, b, 126] = ⟨#[a, b, 126]⟩ from rfl] at hen ⊢
                      obtain ⟨⟨kd, rr, nn, hh⟩, t⟩ := p
                      unfold kyv at hen ⊢
                      simp only at hen ha ⊢
                      have ka := (Below.refl w1.heap.size w1).alloc (Nat.le_refl _) (.cells #[.int .i64 kd, .int .i32 rr, .int .i64 nn, .int .i64 hh] 31)
                      have hz2 := by_block hz1 ka
                      have hy2 := by_block hy1 ka
                      have g0 := cell_of hy2 hc0
                      have k2 := k1.trans (ka.mono k1.size)
                      clear hf
                      clear hS HS HP HR ha hp hz1 k1 ka hy1
                      go_wp2_with fail
                      refine ⟨⟨_, _, hrg2.alloc _, HSS.out, hz2, k2, hy2⟩, ?_⟩
                      rw [(hrg2.alloc _).left_eq, hE.out]; exact hlt1
            · have e : res = none := by rw [← hrt]; unfold tailR; rw [if_neg h90, if_pos ⟨rfl, fun h => hy8 h.2⟩]
              subst e
              have iy0 : ¬ yv - 1 < 0 := by omega
              have iy7 : 7 < yv - 1 := by omega
              clear h90 hrt HNN HNI hcur hik hbg hgg hi1 hps HLEN hKL hc1 hylo0 hyhi hy1 hy8 hc0 hcat hxlo hxhi hxlo0
              simp only [List.length_cons, List.length_nil]
              go_wp2_with (refine wpList_store_row rfl 31 (.tmp 4) (.tmp 55) rfl w.heap.size #[.int .i64 0, .int .i32 0, .int .i64 0, .int .i64 0] rfl rfl _ _ z0 (by kernel_rfl) rfl (one4 _ _ _ _) ?_)
              (try simp only [Exit.inBlock, Exit.then])
              refine bodyPost_ret (v := .tuple #[.agg #[.int .i64 0, .int .i32 0, .int .i64 0, .int .i64 0], .bool false]) ?_ rfl (by first | exact ⟨⟨0, 0, 0, 0⟩, rfl, (fun k h => by cases h), below_setRow k0 (Nat.le_refl _) _⟩ | exact ⟨⟨⟨0, 0, 0, 0⟩, rfl⟩, below_setRow k0 (Nat.le_refl _) _⟩)
              exact results_key_tmp rfl _ _ w.heap.size _ _ _ _ rfl (setRow_heap _ _ _ _ _ _ z0) Tryd.underlying31 rfl (by kernel_rfl) _ rfl
          · have e : res = none := by rw [← hrt]; unfold tailR; rw [if_neg h90, if_pos ⟨rfl, fun h => hy1 h.1⟩]
            subst e
            have iy0 : yv - 1 < 0 := by omega
            clear h90 hrt HNN HNI hcur hik hbg hgg hi1 hps HLEN hKL hc1 hylo0 hyhi hy1 hc0 hcat hxlo hxhi hxlo0
            simp only [List.length_cons, List.length_nil]
            go_wp2_with (refine wpList_store_row rfl 31 (.tmp 4) (.tmp 55) rfl w.heap.size #[.int .i64 0, .int .i32 0, .int .i64 0, .int .i64 0] rfl rfl _ _ z0 (by kernel_rfl) rfl (one4 _ _ _ _) ?_)
            (try simp only [Exit.inBlock, Exit.then])
            refine bodyPost_ret (v := .tuple #[.agg #[.int .i64 0, .int .i32 0, .int .i64 0, .int .i64 0], .bool false]) ?_ rfl (by first | exact ⟨⟨0, 0, 0, 0⟩, rfl, (fun k h => by cases h), below_setRow k0 (Nat.le_refl _) _⟩ | exact ⟨⟨⟨0, 0, 0, 0⟩, rfl⟩, below_setRow k0 (Nat.le_refl _) _⟩)
            exact results_key_tmp rfl _ _ w.heap.size _ _ _ _ rfl (setRow_heap _ _ _ _ _ _ z0) Tryd.underlying31 rfl (by kernel_rfl) _ rfl
        | xv :: yv :: zv :: rest, _ =>
          obtain ⟨n, hn⟩ : ∃ n, xv :: yv :: zv :: rest = n := ⟨_, rfl⟩
          have HQ : Hid (3 ≤ n.length) := by unfold Hid; rw [← hn]; simp
          rw [hn] at hrt ⊢
          have HR : Hid ((seqT.find? fun p => hitR n fin p.2).map (fun p => ({ p.1 with held := 0 } : Ky)) = res) := by
            have := HQ.out
            rw [← hrt]
            unfold Hid tailR
            rw [if_neg h90, if_neg (c := n.length = 2 ∧ _) (fun h => by omega)]
            congr 1
            funext p
            rw [if_neg (by omega)]
          obtain ⟨q, hq⟩ : ∃ q, n.length = q := ⟨_, rfl⟩
          have hq3 : 3 ≤ q := by rw [← hq]; exact HQ.out
          rw [hq]
          have iq0 : ((q : Int) == 0) = false := by rw [beq_eq_false_iff_ne]; omega
          have iq2 : ((q : Int) == 2) = false := by rw [beq_eq_false_iff_ne]; omega
          have iq1 : (1 : Int) ≤ (q : Int) := by omega
          have iqn : ¬ (q : Int) ≤ 2 := by omega
          clear h90 hrt HNN HNI hcur hik hbg hgg hi1 hps HLEN hKL hn hq hq3 y0
          go_wp2_with (first | (go_at_call 41; refine (sequences_any _).mono ?_; rintro e W1 ⟨rfl, hS, hB, hlt⟩; obtain ⟨n0, hn0, hown⟩ := hS) | (at_range; refine wpList_range_own _ rfl _ 70 rfl 31 9 ky_law ky_map _ _ n0 (litsS seqT) rfl hown ?_; intro W2 hrg0 hg0 hs0))
          go_frame
          have z1 := by_block z0 hB
          have k1 := k0.trans (hB.mono k0.size)
          have hk2 := k1.grown hg0 k1.size (fun j hj => by cases hj)
          have z2 := heap_grown2 z1 hg0
          have hrz : w.heap.size ≠ W1.heap.size := by have := (Array.getElem?_eq_some_iff.1 z1).1; omega
          have hrB : W1.heap.size ≠ wr.heap.size := by omega
          have hrw : w.heap.size ≤ W1.heap.size := k1.size
          generalize W1.heap.size = r at *
          generalize wr.heap.size = B at *
          clear hg0 hs0 hown z1 k1 hlt z0 k0 hB
          have hst : Hid (∀ q ∈ seqT, Maps.has (litsS seqT) (klOf q.1) = false → hitR n fin q.2 = false) := has_start n fin
          go_loopw [13] (fun _ wr => ∃ left cnt, wr.ranges Tryd.prog 31 (plainElem Tryd.prog 9) B r n0 (litsS seqT) left cnt ∧ (∀ q ∈ seqT, left (klOf q.1) = false → hitR n fin q.2 = false) ∧ wr.heap[w.heap.size]? = some (.cells #[.int .i64 0, .int .i32 0, .int .i64 0, .int .i64 0] 31 (0, 0)) ∧ Below w.heap.size w wr) (fun _ wr => wr.rangeLeft B r)
          case atStart => exact ⟨_, _, hrg0, hst.out, z2, hk2⟩
          case round =>
            obtain ⟨left, cnt, hrg1, hno, hz0, kr⟩ := hrel
            have HN : Hid (∀ q ∈ seqT, left (klOf q.1) = false → hitR n fin q.2 = false) := hno
            clear hno hst hrg0 z2 hk2
            go_wp2_with (at_next; refine wpList_next_ranges _ rfl _ rfl 31 ky_law (plainElem Tryd.prog 9) (fun x : Value => x) (fun x : Value => x) (fun key kl _ => ⟨key, rfl⟩) (fun v y _ => ⟨v, rfl⟩) B r n0 (litsS seqT) left cnt rfl hrg1 ?_ ?_; refine Hid.out ?_; refine Hid.out ?_)
            · unfold Hid
              intro _ hl
              have e : res = none := by rw [← HR.out, find_no n fin left hl HN.out]; rfl
              subst e
              clear HR HN hrg1 hl
              go_wp2_with (refine wpList_store_row rfl 31 (.tmp 4) (.tmp 107) rfl w.heap.size #[.int .i64 0, .int .i32 0, .int .i64 0, .int .i64 0] rfl rfl _ _ hz0 (by kernel_rfl) rfl (one4 _ _ _ _) ?_)
              (try simp only [Exit.inBlock, Exit.then])
              refine bodyPost_ret (v := .tuple #[.agg #[.int .i64 0, .int .i32 0, .int .i64 0, .int .i64 0], .bool false]) ?_ rfl (by first | exact ⟨⟨0, 0, 0, 0⟩, rfl, (fun k h => by cases h), below_setRow kr (Nat.le_refl _) _⟩ | exact ⟨⟨⟨0, 0, 0, 0⟩, rfl⟩, below_setRow kr (Nat.le_refl _) _⟩)
              exact results_key_tmp rfl _ _ w.heap.size _ _ _ _ rfl (setRow_heap _ _ _ _ _ _ hz0) Tryd.underlying31 rfl (by kernel_rfl) _ rfl
            · intro x c kl ya yb w1 cnt1 hkey hlx hv hat hrg2 hlt1 hg1 hs1 hen
              obtain ⟨p, hp, rfl, rfl, hkl⟩ := seq_entry hkey hv hat
              have hz1 := heap_grown hz0 hg1 hrz
              have k1 := kr.grown hg1 kr.size (fun j hj => by cases hj; exact hrw)
              have HS : Hid (hitR n fin p.2 = false → ∀ q ∈ seqT, (left (klOf q.1) && !(klOf q.1).sameKey kl) = false → hitR n fin q.2 = false) := fun hn => left_step hp hkl hn HN.out
              have hE : Hid (wr.rangeLeft B r = cnt) := hrg1.left_eq
              have HP : Hid (p ∈ seqT) := hp
              clear hkey hlx hv hat hg1 hs1 HN kr hz0 hrg1 hkl
              rcases seq_shape p hp with ⟨a, ha, hne⟩ | ⟨a, ha⟩ | ⟨a, b, ha⟩
              · by_cases hf : a = fin
                · have h126 : fin ≠ 126 := fun e => hne (hf.trans e)
                  have hct : ((((⟨#[a]⟩ : ByteArray)[0]'(show 0 < 1 by omega)).toNat : Int) != fin.toNat) = false := by rw [bne, u8_is]; rw [show (⟨#[a]⟩ : ByteArray)[0]'(show 0 < 1 by omega) = a from rfl, decide_eq_true hf]; rfl
                  have j126 : ((fin.toNat : Int) != 126) = true := by rw [bne, show (126 : Int) = ((126 : UInt8).toNat : Int) from rfl, u8_is, decide_eq_false h126]; rfl
                  have hS := HS.out (by rw [ha]; exact hitn_l h126 (by have := HQ.out; omega) (by have := HQ.out; omega))
                  have HSS : Hid (∀ q ∈ seqT, (left (klOf q.1) && !(klOf q.1).sameKey kl) = false → hitR n fin q.2 = false) := hS
                  rw [ha, show bs [a] = ⟨#[a]⟩ from rfl] at hen ⊢
                  obtain ⟨⟨kd, rr, nn, hh⟩, t⟩ := p
                  unfold kyv at hen ⊢
                  simp only at hen ha ⊢
                  have ka := (Below.refl w1.heap.size w1).alloc (Nat.le_refl _) (.cells #[.int .i64 kd, .int .i32 rr, .int .i64 nn, .int .i64 0] 31)
                  have hz2 := by_block hz1 ka
                  have k2 := k1.trans (ka.mono k1.size)
                  clear hf
                  clear hS HS HP HR ha hp hz1 k1 ka
                  go_wp2_with fail
                  refine ⟨⟨_, _, hrg2.alloc _, HSS.out, hz2, k2⟩, ?_⟩
                  rw [(hrg2.alloc _).left_eq, hE.out]; exact hlt1
                · skip
                  have hct : ((((⟨#[a]⟩ : ByteArray)[0]'(show 0 < 1 by omega)).toNat : Int) != fin.toNat) = true := by rw [bne, u8_is]; rw [show (⟨#[a]⟩ : ByteArray)[0]'(show 0 < 1 by omega) = a from rfl, decide_eq_false hf]; rfl
                  have hS := HS.out (by rw [ha]; exact hitn_last (l := [a]) hf)
                  have HSS : Hid (∀ q ∈ seqT, (left (klOf q.1) && !(klOf q.1).sameKey kl) = false → hitR n fin q.2 = false) := hS
                  rw [ha, show bs [a] = ⟨#[a]⟩ from rfl] at hen ⊢
                  obtain ⟨⟨kd, rr, nn, hh⟩, t⟩ := p
                  unfold kyv at hen ⊢
                  simp only at hen ha ⊢
                  have ka := (Below.refl w1.heap.size w1).alloc (Nat.le_refl _) (.cells #[.int .i64 kd, .int .i32 rr, .int .i64 nn, .int .i64 hh] 31)
                  have hz2 := by_block hz1 ka
                  have k2 := k1.trans (ka.mono k1.size)
                  clear hf
                  clear hS HS HP HR ha hp hz1 k1 ka
                  go_wp2_with fail
                  refine ⟨⟨_, _, hrg2.alloc _, HSS.out, hz2, k2⟩, ?_⟩
                  rw [(hrg2.alloc _).left_eq, hE.out]; exact hlt1
              · by_cases hf : (126 : UInt8) = fin
                · skip
                  have hct : ((((⟨#[a, 126]⟩ : ByteArray)[1]'(show 1 < 2 by omega)).toNat : Int) != fin.toNat) = false := by rw [bne, u8_is]; rw [show (⟨#[a, 126]⟩ : ByteArray)[1]'(show 1 < 2 by omega) = 126 from rfl, decide_eq_true hf]; rfl
                  have j126 : ((fin.toNat : Int) != 126) = false := by rw [bne, show (126 : Int) = ((126 : UInt8).toNat : Int) from rfl, u8_is, decide_eq_true hf.symm]; rfl
                  have hS := HS.out (by rw [ha]; exact hitn_n hf (.inr (by have := HQ.out; omega)))
                  have HSS : Hid (∀ q ∈ seqT, (left (klOf q.1) && !(klOf q.1).sameKey kl) = false → hitR n fin q.2 = false) := hS
                  rw [ha, show bs [a, 126] = ⟨#[a, 126]⟩ from rfl] at hen ⊢
                  obtain ⟨⟨kd, rr, nn, hh⟩, t⟩ := p
                  unfold kyv at hen ⊢
                  simp only at hen ha ⊢
                  have ka := (Below.refl w1.heap.size w1).alloc (Nat.le_refl _) (.cells #[.int .i64 kd, .int .i32 rr, .int .i64 nn, .int .i64 0] 31)
                  have hz2 := by_block hz1 ka
                  have k2 := k1.trans (ka.mono k1.size)
                  clear hf
                  clear hS HS HP HR ha hp hz1 k1 ka
                  go_wp2_with fail
                  refine ⟨⟨_, _, hrg2.alloc _, HSS.out, hz2, k2⟩, ?_⟩
                  rw [(hrg2.alloc _).left_eq, hE.out]; exact hlt1
                · skip
                  have hct : ((((⟨#[a, 126]⟩ : ByteArray)[1]'(show 1 < 2 by omega)).toNat : Int) != fin.toNat) = true := by rw [bne, u8_is]; rw [show (⟨#[a, 126]⟩ : ByteArray)[1]'(show 1 < 2 by omega) = 126 from rfl, decide_eq_false hf]; rfl
                  have hS := HS.out (by rw [ha]; exact hitn_last (l := [a, 126]) hf)
                  have HSS : Hid (∀ q ∈ seqT, (left (klOf q.1) && !(klOf q.1).sameKey kl) = false → hitR n fin q.2 = false) := hS
                  rw [ha, show bs [a, 126] = ⟨#[a, 126]⟩ from rfl] at hen ⊢
                  obtain ⟨⟨kd, rr, nn, hh⟩, t⟩ := p
                  unfold kyv at hen ⊢
                  simp only at hen ha ⊢
                  have ka := (Below.refl w1.heap.size w1).alloc (Nat.le_refl _) (.cells #[.int .i64 kd, .int .i32 rr, .int .i64 nn, .int .i64 hh] 31)
                  have hz2 := by_block hz1 ka
                  have k2 := k1.trans (ka.mono k1.size)
                  clear hf
                  clear hS HS HP HR ha hp hz1 k1 ka
                  go_wp2_with fail
                  refine ⟨⟨_, _, hrg2.alloc _, HSS.out, hz2, k2⟩, ?_⟩
                  rw [(hrg2.alloc _).left_eq, hE.out]; exact hlt1
              · by_cases hf : (126 : UInt8) = fin
                · skip
                  have hct : ((((⟨#[a, b, 126]⟩ : ByteArray)[2]'(show 2 < 3 by omega)).toNat : Int) != fin.toNat) = false := by rw [bne, u8_is]; rw [show (⟨#[a, b, 126]⟩ : ByteArray)[2]'(show 2 < 3 by omega) = 126 from rfl, decide_eq_true hf]; rfl
                  have j126 : ((fin.toNat : Int) != 126) = false := by rw [bne, show (126 : Int) = ((126 : UInt8).toNat : Int) from rfl, u8_is, decide_eq_true hf.symm]; rfl
                  have hS := HS.out (by rw [ha]; exact hitn_n hf (.inr (by have := HQ.out; omega)))
                  have HSS : Hid (∀ q ∈ seqT, (left (klOf q.1) && !(klOf q.1).sameKey kl) = false → hitR n fin q.2 = false) := hS
                  rw [ha, show bs [a, b, 126] = ⟨#[a, b, 126]⟩ from rfl] at hen ⊢
                  obtain ⟨⟨kd, rr, nn, hh⟩, t⟩ := p
                  unfold kyv at hen ⊢
                  simp only at hen ha ⊢
                  have ka := (Below.refl w1.heap.size w1).alloc (Nat.le_refl _) (.cells #[.int .i64 kd, .int .i32 rr, .int .i64 nn, .int .i64 0] 31)
                  have hz2 := by_block hz1 ka
                  have k2 := k1.trans (ka.mono k1.size)
                  clear hf
                  clear hS HS HP HR ha hp hz1 k1 ka
                  go_wp2_with fail
                  refine ⟨⟨_, _, hrg2.alloc _, HSS.out, hz2, k2⟩, ?_⟩
                  rw [(hrg2.alloc _).left_eq, hE.out]; exact hlt1
                · skip
                  have hct : ((((⟨#[a, b, 126]⟩ : ByteArray)[2]'(show 2 < 3 by omega)).toNat : Int) != fin.toNat) = true := by rw [bne, u8_is]; rw [show (⟨#[a, b, 126]⟩ : ByteArray)[2]'(show 2 < 3 by omega) = 126 from rfl, decide_eq_false hf]; rfl
                  have hS := HS.out (by rw [ha]; exact hitn_last (l := [a, b, 126]) hf)
                  have HSS : Hid (∀ q ∈ seqT, (left (klOf q.1) && !(klOf q.1).sameKey kl) = false → hitR n fin q.2 = false) := hS
                  rw [ha, show bs [a, b, 126] = ⟨#[a, b, 126]⟩ from rfl] at hen ⊢
                  obtain ⟨⟨kd, rr, nn, hh⟩, t⟩ := p
                  unfold kyv at hen ⊢
                  simp only at hen ha ⊢
                  have ka := (Below.refl w1.heap.size w1).alloc (Nat.le_refl _) (.cells #[.int .i64 kd, .int .i32 rr, .int .i64 nn, .int .i64 hh] 31)
                  have hz2 := by_block hz1 ka
                  have k2 := k1.trans (ka.mono k1.size)
                  clear hf
                  clear hS HS HP HR ha hp hz1 k1 ka
                  go_wp2_with fail
                  refine ⟨⟨_, _, hrg2.alloc _, HSS.out, hz2, k2⟩, ?_⟩
                  rw [(hrg2.alloc _).left_eq, hE.out]; exact hlt1
    · have iin : (i : Int) < (KK : Int) + 1 := by omega
      have hiL : i < LB.length := by rw [HLEN.out]; omega
      have hgi : (LB.map Value.string).toArray[i]? = some (.string LB[i]) := by simp [List.getElem?_eq_getElem hiL]
      have qi := cell_of hy hgi
      obtain ⟨hts, htd⟩ := HD.out _ (List.getElem_mem hiL)
      have hil' : i < (LB.map (·.data.toList)).length := by rw [List.length_map]; exact hiL
      have hnd := nums_drop hil' HNF.out
      rw [List.getElem_map] at hnd
      generalize LB[i] = t at *
      have hfrom := own_from1 HO.out
      cases hk : okN t.data.toList with
      | true =>
        obtain ⟨v, hv⟩ : ∃ v, Lib.atoiAll t.data.toList = .ok v := by
          unfold okN at hk
          split at hk
          · exact ⟨_, by assumption⟩
          · cases hk
        have HA := fun W => atoi_ok t hts W v hv
        rw [atoiO_some.2 hv] at hnd
        simp only at hnd
        have HND : Hid (numsF (LB.map (·.data.toList)) = (numsF ((LB.map (·.data.toList)).drop (i + 1))).map ((n ++ [v]) ++ ·)) := hnd
        have HV : Hid (0 ≤ v ∧ v ≤ 9223372036854775807) := ⟨(atoi_okn _ v htd hv).2.1, (atoi_max hv).2⟩
        have hnl : n.length + 1 ≤ 200000 := by have := hKL.out; have := HNI.out; omega
        have hilim : i < 100000 := by have := hKL.out; omega
        clear hnd hv hk hts htd hil' hgi HNF
        go_wp2_with (first | (go_at_call 40; refine (HA _).mono ?_; rintro e W2 ⟨rfl, b2⟩) | (at_builtin; refine wpList_append_own _ rfl _ _ 63 rfl (w.heap.size + 1 + 1) 3 i0 (.int .i64 0) 1 8 und_ints hi hzz0 hzz1 hzz2 rfl (by decide) _ _ _ rfl ((ownsRow_stays HO.out b2).alloc _) ⟨W2.heap.size, 0, none⟩ 1 1 [.int .i64 v] rfl rfl (cells_of_blk (heap_alloc_new W2 _)) (by intro u hu; simp at hu; rw [hu]; rfl) (by unfold maxLen; omega) (by omega) (by simp; have := b2.size; omega) ?_; intro v3 W3 hown3 hgrow hnil))
        have k2 := k0.trans (b2.mono k0.size)
        have k3 := k2.alloc k2.size (.cells #[.int .i64 v] 3)
        have hy2 := by_block hy b2
        have z2 := by_block z0 b2
        have ks := (Below.refl W2.heap.size W2).alloc (Nat.le_refl _) (.cells #[.int .i64 v] 3)
        have hy3 := by_block hy2 ks
        have z3 := by_block z2 ks
        have hsz3 := b2.size
        have hsz4 := ks.size
        have hsz5 := hgrow.size
        go_roundg (KK + 1 - (i + 1))
        case measure => omega
        case rel =>
          refine ⟨i + 1, n ++ [v], by go_num, by omega, by omega, by rw [List.length_append, HNI.out]; rfl, ?_, HND.out, ?_, k3.grown hgrow k3.size (fun q hq => by have := hfrom q hq; omega), by omega, heap_grown3 z3 hgrow (fun h => by have := hfrom _ h; omega), heap_grown3 hy3 hgrow (fun h => by have := hfrom _ h; omega)⟩
          · rw [List.length_append, List.map_append]; exact hown3
          · intro x hx
            rcases List.mem_append.1 hx with hx | hx
            · exact HNN.out x hx
            · rw [List.mem_singleton.1 hx]; exact HV.out
      | false =>
        have HA := fun W h => atoi_no t hts W h hk
        have hno : atoiO t.data.toList = none := by
          unfold okN at hk
          unfold atoiO
          split at hk
          · cases hk
          · rename_i hh
            split
            · rename_i v hv
              exact absurd hv (hh v)
            · rfl
        have e : res = none := by rw [← HR.out, hnd, hno]; rfl
        subst e
        clear hnd hk hts htd hil' hgi HNF HR HO
        go_wp2_with (first | (go_at_call 40; refine (HA _ (HEE.out _ k0)).mono ?_; rintro e W2 ⟨NN, rfl, b2⟩; have z2 := by_block z0 b2; have k2 := k0.trans (b2.mono k0.size)) | (refine wpList_store_row rfl 31 (.tmp 4) (.tmp 30) rfl w.heap.size #[.int .i64 0, .int .i32 0, .int .i64 0, .int .i64 0] rfl rfl _ _ z2 (by kernel_rfl) rfl (one4 _ _ _ _) ?_))
        (try simp only [Exit.inBlock, Exit.then])
        refine bodyPost_ret (v := .tuple #[.agg #[.int .i64 0, .int .i32 0, .int .i64 0, .int .i64 0], .bool false]) ?_ rfl (by first | exact ⟨⟨0, 0, 0, 0⟩, rfl, (fun k h => by cases h), below_setRow k2 (Nat.le_refl _) _⟩ | exact ⟨⟨⟨0, 0, 0, 0⟩, rfl⟩, below_setRow k2 (Nat.le_refl _) _⟩)
        exact results_key_tmp rfl _ _ w.heap.size _ _ _ _ rfl (setRow_heap _ _ _ _ _ _ z2) Tryd.underlying31 rfl (by kernel_rfl) _ rfl
end Kys
end Go.Proofs.YtplceodnllcimaaDoor

/- The reference's keyOf, of any numbers; a key of a rune. -/
namespace Go.Proofs.YtplceodnllcimaaDoor
open Go.ChangeShapes Go.WideShapes Go.ChangeAt Go.RowKit Go.Maps
namespace Kys
open Txt (wd bs dec)
/-- What the reference needs of a world. -/
structure EnvR (w : World) : Prop where
  env : Env w
  pow : P10 w
  max : ∃ m, w.cell? ⟨4, 0, none⟩ = some (.int .i64 m)
theorem EnvR.below {w w' : World} (h : EnvR w) (hb : Below w.heap.size w w') : EnvR w' := ⟨h.env.below hb, h.pow.below hb, by
  obtain ⟨m, hm⟩ := h.max
  exact ⟨m, (hb.cell (Txt.lt_of_cell hm)).trans hm⟩⟩
set_option maxHeartbeats 4000000 in
set_option maxRecDepth 100000 in
theorem keyOf_ez (w : World) : Calls Tryd.prog 23 #[.string ⟨#[]⟩, .int .u8 ((90 : UInt8).toNat : Nat)] w fun e w' => ∃ k', e = .returned (.tuple #[kyv k', .bool (keyOfL [] 90).isSome]) ∧ (∀ k, keyOfL [] 90 = some k → k' = k) ∧ Below w.heap.size w w' := by
  have k0 := kb_z w
  have z0 := hz w
  rw [show keyOfL [] 90 = some ⟨3, 0, 0, 1⟩ from rfl, show (((90 : UInt8).toNat : Nat) : Int) = 90 from rfl]
  go_enter Tryd.func23, Tryd.ntmps23
  go_wp2_with (refine wpList_store_row rfl 31 (.tmp 4) (.tmp 38) rfl w.heap.size #[.int .i64 3, .int .i32 0, .int .i64 0, .int .i64 1] rfl rfl _ _ z0 (by kernel_rfl) rfl (one4 _ _ _ _) ?_)
  (try simp only [Exit.inBlock, Exit.then])
  refine bodyPost_ret (v := .tuple #[.agg #[.int .i64 3, .int .i32 0, .int .i64 0, .int .i64 1], .bool true]) ?_ rfl ⟨⟨3, 0, 0, 1⟩, rfl, (by first | rfl | exact fun k h => Option.some.inj h), below_setRow k0 (Nat.le_refl _) _⟩
  exact results_key_tmp rfl _ _ w.heap.size _ _ _ _ rfl (setRow_heap _ _ _ _ _ _ z0) Tryd.underlying31 rfl (by kernel_rfl) _ rfl
theorem keyOf_any (t : ByteArray) (fin : UInt8) (ht : t.size ≤ 1000) (hd : ∀ c ∈ t.data.toList, isNum c = true) (w : World) (hE : EnvR w) : Calls Tryd.prog 23 #[.string t, .int .u8 fin.toNat] w fun e w' => ∃ k', e = .returned (.tuple #[kyv k', .bool (keyOfL t.data.toList fin).isSome]) ∧ (∀ k, keyOfL t.data.toList fin = some k → k' = k) ∧ Below w.heap.size w w' := by
  by_cases h0 : t.size = 0
  · have e : t = ⟨#[]⟩ := by
      apply ByteArray.ext
      exact Array.size_eq_zero_iff.1 h0
    subst e
    by_cases h90 : fin = 90
    · subst h90; exact keyOf_ez w
    · exact keyOf_e fin h90 w
  · obtain ⟨m, hm⟩ := hE.max
    exact keyOf_s t fin (by omega) ht hd w hE.env.errs hE.pow m hm
set_option maxHeartbeats 4000000 in
theorem rune1_any (r : Int) (w : World) : Calls Tryd.prog 18 #[.int .i32 r] w fun e w' => e = .returned (.agg #[.int .i64 1, .int .i32 r, .int .i64 0, .int .i64 0]) ∧ Below w.heap.size w w' := by
  go_enter Tryd.func18, Tryd.ntmps18
  go_wp2_with (refine wpList_store_row rfl 31 (.tmp 2) (.tmp 4) rfl w.heap.size #[.int .i64 1, .int .i32 r, .int .i64 0, .int .i64 0] rfl rfl _ _ (hz w) (by kernel_rfl) rfl (one4 _ _ _ _) ?_)
  (try simp only [Exit.inBlock, Exit.then])
  refine bodyPost_ret (v := .agg #[.int .i64 1, .int .i32 r, .int .i64 0, .int .i64 0]) ?_ rfl ⟨rfl, below_setRow (kb_z w) (Nat.le_refl _) _⟩
  exact results_cell_row rfl _ _ w.heap.size _ _ _ _ rfl (setRow_heap _ _ _ _ _ _ (hz w)) Tryd.underlying31 rfl (by kernel_rfl)
end Kys
end Go.Proofs.YtplceodnllcimaaDoor

/- What the row of KeysRead lists besides. -/
namespace Go.Proofs.YtplceodnllcimaaDoor
open Go.ChangeShapes Go.WideShapes Go.ChangeAt Go.RowKit
namespace Kys
theorem p10_of_reads {w : World} (h : Lib.VarReads Tryd.prog w "internal/strconv.uint64pow10" Rows.laid_internal_strconv_uint64pow10) : P10 w := by
  obtain ⟨g, t, cs, fuel, p, hg, hty, hvar, hd⟩ := h
  obtain rfl := Option.some.inj ((show Tryd.prog.globalNamed "internal/strconv.uint64pow10" = some 7 by kernel_rfl).symm.trans hg)
  obtain rfl := Option.some.inj ((show (Tryd.prog.globals[7]?).map (fun x => x.type) = some 113 by kernel_rfl).symm.trans hty)
  have hd2 : DataW.trod _ Tryd.prog w _ _ _ fuel 113 cs.toList = some (Lib.tabData .u64 Lib.pow10Tab, p) := hd.trans (by congr 2)
  have h := Lib.cells_of_tab Tryd.underlying113 Tryd.underlying96 (by kernel_rfl) (by kernel_rfl) hd2
  unfold P10 Lib.TabIs
  rw [hvar, ← h]
theorem max_of {w : World} (h : w.ShapedOpen Tryd.prog) : ∃ m, w.cell? ⟨4, 0, none⟩ = some (.int .i64 m) :=
  cell_of_shapedOpen_int (t := 3) (zero := #[.int .i64 0]) h (of_decide_eq_true (by kernel_rfl)) (by kernel_rfl) rfl (by kernel_rfl) (by kernel_rfl) (by kernel_rfl)
end Kys
end Go.Proofs.YtplceodnllcimaaDoor

/- The walk of the reference's WidthOf: it tells Txt.wd, for every int32. -/
namespace Go.Proofs.YtplceodnllcimaaDoor
open Go.ChangeShapes Go.WideShapes Go.ChangeAt Go.RowKit
namespace Txt

def cell2 (x : Int × Int) : List Value := [.int .i32 x.1, .int .i64 x.2]
def edgeCells : Array Value := (edges.flatMap cell2).toArray
theorem flat2 : ∀ (l : List (Int × Int)) (k : Nat) (x : Int × Int), l[k]? = some x → (l.flatMap cell2)[k * 2]? = some (.int .i32 x.1) ∧ (l.flatMap cell2)[k * 2 + 1]? = some (.int .i64 x.2)
  | [], k, x, h => by simp at h
  | y :: t, 0, x, h => by
    obtain rfl := Option.some.inj h
    exact ⟨rfl, rfl⟩
  | y :: t, k + 1, x, h => by
    have := flat2 t k x (by simpa using h)
    rw [show (k + 1) * 2 = k * 2 + 1 + 1 from by omega]
    simpa [List.flatMap_cons, cell2] using this
theorem edges_at (k : Nat) (hk : k < 41) : ∃ a c : Int, edges.drop k = (a, c) :: edges.drop (k + 1) ∧ edgeCells[k * 2]? = some (.int .i32 a) ∧ edgeCells[k * 2 + 1]? = some (.int .i64 c) := by
  match h : edges.drop k with
  | [] => have := congrArg List.length h; simp [edges] at this; omega
  | (a, c) :: t =>
    have hx : edges[k]? = some (a, c) := by
      have := congrArg (fun l => l[0]?) h
      simpa using this
    have hf := flat2 edges k (a, c) hx
    refine ⟨a, c, ?_, by simpa [edgeCells] using hf.1, by simpa [edgeCells] using hf.2⟩
    rw [← List.drop_drop, h]; rfl

set_option maxHeartbeats 4000000 in
theorem widthOf_any (r : Int) (w : World) :
    Calls Tryd.prog 21 #[.int .i32 r] w fun e w' => e = .returned (.int .i64 (wd r)) ∧ Below w.heap.size w w' := by
  by_cases h0 : r < 0
  · have hw : wd r = 0 := by unfold wd; rw [if_pos (Or.inl h0)]
    rw [hw]
    clear hw
    go_enter Tryd.func21, Tryd.ntmps21
    go_wp2
    go_ret
    exact ⟨rfl, Below.refl _ _⟩
  · by_cases h1 : 1114111 < r
    · have hw : wd r = 0 := by unfold wd; rw [if_pos (Or.inr h1)]
      rw [hw]
      clear hw
      go_enter Tryd.func21, Tryd.ntmps21
      go_wp2
      go_ret
      exact ⟨rfl, Below.refl _ _⟩
    · rw [wd_edge r (by omega) (by omega)]
      go_enter Tryd.func21, Tryd.ntmps21
      go_wp2_with (refine Great.wpList_buildSliceTo rfl 62 61 41 _ rfl _ rfl (some 53) rfl Tryd.underlying62 edgeCells (by kernel_rfl) ?_)
      have hb0 : Below (w.heap.size + 1) (w.alloc (.cells edgeCells 61)) (w.alloc (.cells edgeCells 61)) := Below.refl _ _
      have HB : Hid (Below w.heap.size w (w.alloc (.cells edgeCells 61))) := (Below.refl _ _).alloc (Nat.le_refl _) _
      have HE : Hid ((w.alloc (.cells edgeCells 61)).heap[w.heap.size]? = some (.cells edgeCells 61)) := heap_alloc_new _ _
      have hS : w.heap.size + 1 ≤ (w.alloc (.cells edgeCells 61)).heap.size := by simp
      generalize w.alloc (.cells edgeCells 61) = W at *
      generalize hB : w.heap.size = B at *
      have HQ : Hid (w.heap.size = B) := hB
      clear hB
      go_loopg [3, 55] 41 (fun g acc s wr => ∃ (k : Nat) (c : Int), k ≤ 41 ∧ 41 - k ≤ g ∧ s = .int .i64 k ∧ acc = .int .i64 c ∧ Below (B + 1) W wr ∧ edge r (edges.drop k) c = edge r edges 0)
      case atStart => exact ⟨0, 0, Nat.zero_le _, by omega, rfl, rfl, hb0, rfl⟩
      case round =>
        obtain ⟨k, c, hk, hg, rfl, rfl, hb, hl⟩ := hrel
        have HL : Hid (edge r (edges.drop k) c = edge r edges 0) := hl
        clear hl
        by_cases hlt : k < 41
        · obtain ⟨a, c2, hd, hc1, hc2⟩ := edges_at k hlt
          have g1 : wr.cell? ⟨B, k * 2, none⟩ = some (.int .i32 a) := by rw [hb.cell (by show B < B + 1; omega), cell_of_row _ _ _ _ _ _ HE.out]; exact hc1
          have g2 : wr.cell? ⟨B, k * 2 + 1, none⟩ = some (.int .i64 c2) := by rw [hb.cell (by show B < B + 1; omega), cell_of_row _ _ _ _ _ _ HE.out]; exact hc2
          clear hc1 hc2
          have HD : Hid (edges.drop k = (a, c2) :: edges.drop (k + 1)) := hd
          clear hd
          have hsz := hb.size
          go_wp2_with fail
          · rename_i hra
            go_roundg (41 - (k + 1))
            case measure => omega
            case rel => exact ⟨k + 1, c2, by omega, by omega, by go_num, rfl, hb.alloc (by omega) _, by rw [← HL.out, HD.out]; simp only [edge]; rw [if_pos hra]⟩
          · rename_i hra
            go_roundg (41 - (k + 1))
            case measure => omega
            case rel => exact ⟨k + 1, c, by omega, by omega, by go_num, rfl, hb.alloc (by omega) _, by rw [← HL.out, HD.out]; simp only [edge]; rw [if_neg (by omega)]⟩
        · have : k = 41 := by omega
          subst this
          go_wp2_with fail
          go_ret
          exact ⟨ret_int (by rw [← HL.out]; rfl), by rw [HQ.out]; exact HB.out.trans (hb.mono (by omega))⟩
end Txt
end Go.Proofs.YtplceodnllcimaaDoor

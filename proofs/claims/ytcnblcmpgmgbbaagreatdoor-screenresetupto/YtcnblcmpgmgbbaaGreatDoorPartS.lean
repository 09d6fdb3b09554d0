/- Parts of the proof, shortened by a program. -/
import Derived.Test.YtcnblcmpgmgbbaaGreatDoorPartR
import Derived.Test.YtcnblcmpgmgbbaaGreatDoorPartD
import Derived.Lib.IndexLaws
import Derived.Test.YtcnblcmpgmgbbaaGreatDoorPartQ
import Derived.Test.YtcnblcmpgmgbbaaGreatDoorProg
import Derived.Deep.RegionHeld3
namespace Go.Proofs.YtcnblcmpgmgbbaaGreatDoor
set_option linter.unusedVariables false
set_option linter.unusedSimpArgs false
set_option maxRecDepth 100000
open Go.ChangeShapes Go.WideShapes Go.ChangeAt Go.RowKit
namespace Prs
set_option maxHeartbeats 8000000 in
theorem qdh (s : St) (p : Option Addr) (c : Nat) (w : World) (hT : Tabs w) (hI : Qz w (.slice p s.ps.length c) s.ps) (hm : s.mid.size ≤ 9223372036854775807) (ht : s.txt.size ≤ 9223372036854775807) (h2 : s.at' = 2) (h0 : ¬ s.mark = 0) :
  Calls Tryz.prog 49 #[.agg (sAq s (.slice p s.ps.length c))] w fun e w' => e = .returned (.bool (parts s)) ∧ Below w.heap.size w w' := by
 have x0 := heap_alloc_new w (.cells (sAq s (.slice p s.ps.length c)) 35)
 have kb : Below w.heap.size w (w.alloc (.cells (sAq s (.slice p s.ps.length c)) 35)) := (Below.refl _ _).alloc (Nat.le_refl _) _
 obtain ⟨c0, c1, c2, c3, c4, c5, c6, cf⟩ := Xv x0
 have b2 : (s.at' == 2) = true := by rw [beq_iff_eq]; exact h2
 have b0 : (s.mark == 0) = false := by rw [beq_eq_false_iff_ne]; exact h0
 have HX0 : Hid ((w.alloc (.cells (sAq s (.slice p s.ps.length c)) 35)).heap[w.heap.size]? = some (.cells (sAq s (.slice p s.ps.length c)) 35 (0, 0))) := x0
 have HKB : Hid (Below w.heap.size w (w.alloc (.cells (sAq s (.slice p s.ps.length c)) 35))) := kb
 have HT : Hid (Tabs (w.alloc (.cells (sAq s (.slice p s.ps.length c)) 35))) := hT.next kb
 have HI : Hid (∀ W, Below w.heap.size w W → Qz W (.slice p s.ps.length c) s.ps) := fun W hb => hI.next hb
 have HPA : Hid (parts s = (!(decide (s.at' = 2) && decide (s.mid.size = 0)) && ((decide (s.left.size = 0) || !full s.left) && ((decide (s.mark = 0) || Z8 s.mark) && (decide (s.mid.size ≤ 2) && (G8 Zv s.mid && (decide (s.ps.length ≤ 16) && (!F9 s.ps && (decide (s.txt.size ≤ 64) && G8 high s.txt))))))))) := rfl
 have H2 : Hid (s.at' = 2) := h2
 have H0 : Hid (¬ s.mark = 0) := h0
 have HMT : Hid (s.mid.size ≤ 9223372036854775807 ∧ s.txt.size ≤ 9223372036854775807) := ⟨hm, ht⟩
 generalize parts s = res at HPA ⊢
 clear cf x0 kb hT hI h2 h0 hm ht
 go_enter Tryz.func49, Tryz.ntmps49
 go_wp2_with (first
  | (go_at_call 74; refine (Vv s.left _ HT.out).mono ?_; rintro e W1 ⟨rfl, b1⟩; obtain ⟨d0, d1, d2, d3, d4, d5, d6, df⟩ := Xv (stay HX0.out b1); have HK1 : Hid (Below w.heap.size w W1) := HKB.out.trans (b1.mono HKB.out.size); clear b1 df)
  | (go_at_call 75; refine (Gl _ _).mono ?_; rintro e W2 ⟨rfl, e2⟩; rw [e2]; clear e2 W2)
  | (go_at_call 78; refine (Yw s.ps _ _ (HI.out _ (by first | exact HK1.out | exact HKB.out)) (by omega)).mono ?_; rintro e W2 ⟨rfl, e2⟩; rw [e2]; clear e2 W2)
  | (go_at_call_of 76 s.mid; refine (qbb _ _ HMT.out.1).mono ?_; rintro e W2 ⟨rfl, e2⟩; rw [e2]; clear e2 W2)
  | (go_at_call_of 76 s.txt; refine (Fq _ _ HMT.out.2).mono ?_; rintro e W2 ⟨rfl, e2⟩; rw [e2]; clear e2 W2))
 all_goals (go_ret; refine ⟨Qi ?_, by first | exact HK1.out | exact HKB.out⟩)
 all_goals (have q2 := H2.out; have q0 := H0.out; rw [HPA.out]; clear HPA H2 H0 HT HI HMT HX0 HKB b2 b0 c0 c1 c2 c3 c4 c5 c6; (try simp only [ieT, ieF, qdu, le2, le16, le64, lt2, lt16, lt64] at *); simp only [*]; simp)
set_option maxHeartbeats 8000000 in
theorem qdp (s : St) (p : Option Addr) (c : Nat) (w : World) (hT : Tabs w) (hI : Qz w (.slice p s.ps.length c) s.ps) (hm : s.mid.size ≤ 9223372036854775807) (ht : s.txt.size ≤ 9223372036854775807) (h2 : s.at' = 2) (h0 : s.mark = 0) :
  Calls Tryz.prog 49 #[.agg (sAq s (.slice p s.ps.length c))] w fun e w' => e = .returned (.bool (parts s)) ∧ Below w.heap.size w w' := by
 have x0 := heap_alloc_new w (.cells (sAq s (.slice p s.ps.length c)) 35)
 have kb : Below w.heap.size w (w.alloc (.cells (sAq s (.slice p s.ps.length c)) 35)) := (Below.refl _ _).alloc (Nat.le_refl _) _
 obtain ⟨c0, c1, c2, c3, c4, c5, c6, cf⟩ := Xv x0
 have b2 : (s.at' == 2) = true := by rw [beq_iff_eq]; exact h2
 have b0 : (s.mark == 0) = true := by rw [beq_iff_eq]; exact h0
 have HX0 : Hid ((w.alloc (.cells (sAq s (.slice p s.ps.length c)) 35)).heap[w.heap.size]? = some (.cells (sAq s (.slice p s.ps.length c)) 35 (0, 0))) := x0
 have HKB : Hid (Below w.heap.size w (w.alloc (.cells (sAq s (.slice p s.ps.length c)) 35))) := kb
 have HT : Hid (Tabs (w.alloc (.cells (sAq s (.slice p s.ps.length c)) 35))) := hT.next kb
 have HI : Hid (∀ W, Below w.heap.size w W → Qz W (.slice p s.ps.length c) s.ps) := fun W hb => hI.next hb
 have HPA : Hid (parts s = (!(decide (s.at' = 2) && decide (s.mid.size = 0)) && ((decide (s.left.size = 0) || !full s.left) && ((decide (s.mark = 0) || Z8 s.mark) && (decide (s.mid.size ≤ 2) && (G8 Zv s.mid && (decide (s.ps.length ≤ 16) && (!F9 s.ps && (decide (s.txt.size ≤ 64) && G8 high s.txt))))))))) := rfl
 have H2 : Hid (s.at' = 2) := h2
 have H0 : Hid (s.mark = 0) := h0
 have HMT : Hid (s.mid.size ≤ 9223372036854775807 ∧ s.txt.size ≤ 9223372036854775807) := ⟨hm, ht⟩
 generalize parts s = res at HPA ⊢
 clear cf x0 kb hT hI h2 h0 hm ht
 go_enter Tryz.func49, Tryz.ntmps49
 go_wp2_with (first
  | (go_at_call 74; refine (Vv s.left _ HT.out).mono ?_; rintro e W1 ⟨rfl, b1⟩; obtain ⟨d0, d1, d2, d3, d4, d5, d6, df⟩ := Xv (stay HX0.out b1); have HK1 : Hid (Below w.heap.size w W1) := HKB.out.trans (b1.mono HKB.out.size); clear b1 df)
  | (go_at_call 75; refine (Gl _ _).mono ?_; rintro e W2 ⟨rfl, e2⟩; rw [e2]; clear e2 W2)
  | (go_at_call 78; refine (Yw s.ps _ _ (HI.out _ (by first | exact HK1.out | exact HKB.out)) (by omega)).mono ?_; rintro e W2 ⟨rfl, e2⟩; rw [e2]; clear e2 W2)
  | (go_at_call_of 76 s.mid; refine (qbb _ _ HMT.out.1).mono ?_; rintro e W2 ⟨rfl, e2⟩; rw [e2]; clear e2 W2)
  | (go_at_call_of 76 s.txt; refine (Fq _ _ HMT.out.2).mono ?_; rintro e W2 ⟨rfl, e2⟩; rw [e2]; clear e2 W2))
 all_goals (go_ret; refine ⟨Qi ?_, by first | exact HK1.out | exact HKB.out⟩)
 all_goals (have q2 := H2.out; have q0 := H0.out; rw [HPA.out]; clear HPA H2 H0 HT HI HMT HX0 HKB b2 b0 c0 c1 c2 c3 c4 c5 c6; (try simp only [ieT, ieF, qdu, le2, le16, le64, lt2, lt16, lt64] at *); simp only [*]; simp)
theorem qb0 (s : St) (p : Option Addr) (c : Nat) (w : World) (hT : Tabs w) (hI : Qz w (.slice p s.ps.length c) s.ps) (hm : s.mid.size ≤ 9223372036854775807) (ht : s.txt.size ≤ 9223372036854775807) :
  Calls Tryz.prog 49 #[.agg (sAq s (.slice p s.ps.length c))] w fun e w' => e = .returned (.bool (parts s)) ∧ Below w.heap.size w w' := by
 by_cases h2 : s.at' = 2
 ·by_cases h0 : s.mark = 0
  ·exact qdp s p c w hT hI hm ht h2 h0
  ·exact qdh s p c w hT hI hm ht h2 h0
 ·by_cases h0 : s.mark = 0
  ·exact qdd s p c w hT hI hm ht h2 h0
  ·exact qdy s p c w hT hI hm ht h2 h0
def q0j (mk : Int) (mid txt left : ByteArray) (n : Nat) (late : Bool) : Bool := decide (mk = 0) && (decide (mid.size = 0) && (decide (n = 0) && (decide (txt.size = 0) && (decide (left.size = 0) && !late))))
theorem qyo (a mk : Int) (mid txt left : ByteArray) (p : Option Addr) (n c : Nat) (late : Bool) (w : World) :
  Calls Tryz.prog 48 #[.agg #[.int .i64 a, .int .u8 mk, .string mid, .slice p n c, .string txt, .string left, .bool late]] w fun e w' => e = .returned (.bool (q0j mk mid txt left n late)) ∧ Below w.heap.size w w' := qoj a mk mid txt left p n c late w
theorem Qz.slice {w : World} {v : Value} {l : List Int} (h : Qz w v l) : ∃ p c, v = .slice p l.length c := by
 rcases h with ⟨rfl, p0, n0, rfl⟩ | ⟨b, o, c, rfl, hc⟩
 ·exact ⟨_, _, rfl⟩
 ·exact ⟨_, _, rfl⟩
set_option maxHeartbeats 8000000 in
theorem Xd (s : St) (pv : Value) (w : World) (hT : Tabs w) (hI : Qz w pv s.ps) (hm : s.mid.size ≤ 9223372036854775807) (ht : s.txt.size ≤ 9223372036854775807) :
  Calls Tryz.prog 27 #[.agg (sAq s pv)] w fun e w' => e = .returned (.bool (okS s)) ∧ Below w.heap.size w w' := by
 obtain ⟨p, c, rfl⟩ := hI.slice
 have z0 := heap_alloc_new w (.cells (sAq s (.slice p s.ps.length c)) 35)
 obtain ⟨a0, a1, a2, a3, a4, a5, a6, af⟩ := Xv z0
 have HZ : Hid (∀ o, ((w.alloc (.cells (sAq s (.slice p s.ps.length c)) 35)).alloc o).heap[w.heap.size]? = some (.cells (sAq s (.slice p s.ps.length c)) 35 (0, 0))) := fun o => qfz _ _ z0
 have HKK : Hid (∀ o, Below w.heap.size w ((w.alloc (.cells (sAq s (.slice p s.ps.length c)) 35)).alloc o)) := fun o => U5 w _ _
 clear z0 af
 have HT : Hid (Tabs w) := hT
 have HI : Hid (Qz w (.slice p s.ps.length c) s.ps) := hI
 have HMT : Hid (s.mid.size ≤ 9223372036854775807 ∧ s.txt.size ≤ 9223372036854775807) := ⟨hm, ht⟩
 have HOK : Hid (okS s = ((decide (0 ≤ s.at') && decide (s.at' ≤ 5)) && (q0j (G5 s).mark (G5 s).mid (G5 s).txt (G5 s).left (G5 s).ps.length (G5 s).late && parts s))) := rfl
 generalize okS s = res at HOK ⊢
 clear hT hI hm ht
 go_enter Tryz.func27, Tryz.ntmps27
 go_wp2_with (first
  | (go_at_call 48
     refine (qyo _ _ _ _ _ _ _ _ _ _).mono ?_
     rintro e W1 ⟨rfl, b1⟩
     obtain ⟨d0, d1, d2, d3, d4, d5, d6, df⟩ := Xv (stay (HZ.out _) b1)
     have HK1 : Hid (Below w.heap.size w W1) := (HKK.out _).trans (b1.mono (HKK.out _).size)
     clear b1 df)
  | (go_at_call 49
     refine (qb0 s p c _ (HT.out.next HK1.out) (HI.out.next HK1.out) HMT.out.1 HMT.out.2).mono ?_
     rintro e W2 ⟨rfl, b2⟩
     have HK2 : Hid (Below w.heap.size w W2) := HK1.out.trans (b2.mono HK1.out.size)
     clear b2))
 all_goals (go_ret; refine ⟨Qi ?_, by first | exact HK2.out | exact HK1.out | exact HKK.out _⟩)
 all_goals (rw [HOK.out]; clear HOK HZ HKK HT HI HMT a0 a1 a2 a3 a4 a5 a6)
 all_goals (try clear d0 d1 d2 d3 d4 d5 d6 HK1)
 all_goals (simp only [beq_iff_eq, beq_eq_false_iff_ne, ne_eq] at *)
 all_goals first
  | (simp only [G5, nt, *]; simp [*]; done)
  | (rw [show (decide (0 ≤ s.at') && decide (s.at' ≤ 5)) = false from by rw [← Bool.not_eq_true, Bool.and_eq_true, decide_eq_true_eq, decide_eq_true_eq]; omega]; rfl)
theorem qip {w : World} {b o : Nat} {l : List Int} (h : ∀ j u, (ints l)[j]? = some u → w.cell? ((⟨b, o, none⟩ : Addr).add j) = some u) : ∀ j, j < l.length → w.cell? ⟨b, o + j, none⟩ = some (.int .i64 (l.getD j 0)) := fun j hj => by
 have h1 := h j (.int .i64 l[j]) (by simp [ints, List.getElem?_eq_getElem hj])
 rw [Addr.add_mid] at h1
 rw [h1, List.getD_eq_getElem?_getD, List.getElem?_eq_getElem hj]
 rfl
end Prs
namespace Put
open Prs (Qz)
def par (ps : List Int) (i : Nat) (d : Int) : Int := if ps.length ≤ i then d else if ps.getD i 0 = -1 then d else ps.getD i 0
def Gz (m k : Int) : Int := if m = 0 ∧ k = 4 then 1 else if m ≠ 63 then 0 else if k = 1 then 16 else if k = 6 then 2 else if k = 7 then 4 else if k = 25 then 8 else if k = 2004 then 32 else 0
theorem qlz {w : World} {p : Option Addr} {m c : Nat} {l : List Int} (h : Qz w (.slice p m c) l) (j : Nat) (hj : j < l.length) : ∃ b o, p = some ⟨b, o, none⟩ ∧ w.cell? ⟨b, o + j, none⟩ = some (.int .i64 (l.getD j 0)) := by
 rcases h with ⟨rfl, _⟩ | ⟨b, o, c, hv, hc⟩
 ·exact absurd hj (Nat.not_lt_zero _)
 ·injection hv with h1 _ _
  exact ⟨b, o, h1, Prs.qip hc j hj⟩
set_option maxHeartbeats 2000000 in
theorem Vk (ps : List Int) (p : Option Addr) (c : Nat) (i : Nat) (d : Int) (w : World) (hI : Qz w (.slice p ps.length c) ps) : Calls Tryz.prog 101 #[.slice p ps.length c, .int .i64 (i : Int), .int .i64 d] w fun e w' => e = .returned (.int .i64 (par ps i d)) ∧ w = w' := by
 by_cases h : ps.length ≤ i
 ·have e : par ps i d = d := by unfold par; rw [if_pos h]
  rw [e]
  have h1 : (ps.length : Int) ≤ (i : Int) := by omega
  clear hI e
  generalize ps.length = K at *
  go_enter Tryz.func101, Tryz.ntmps101
  go_wp2_with fail
  go_ret
  exact ⟨rfl, rfl⟩
 ·obtain ⟨b, o, rfl, c1⟩ := qlz hI i (by omega)
  have h1 : ¬ (ps.length : Int) ≤ (i : Int) := by omega
  have h2 : (i : Int) < (ps.length : Int) := by omega
  have e : par ps i d = if ps.getD i 0 = -1 then d else ps.getD i 0 := by unfold par; rw [if_neg h]
  rw [e]
  clear hI e
  generalize ps.getD i 0 = y at *
  generalize ps.length = K at *
  by_cases h3 : y = -1
  ·rw [if_pos h3]
   have h4 : (y == -1) = true := by simp [h3]
   have H3 : Hid (y = -1) := h3
   clear h3
   go_enter Tryz.func101, Tryz.ntmps101
   go_wp2_with fail
   go_ret
   exact ⟨rfl, rfl⟩
  ·rw [if_neg h3]
   have h4 : (y == -1) = false := by simp [h3]
   go_enter Tryz.func101, Tryz.ntmps101
   go_wp2_with fail
   go_ret
   exact ⟨rfl, rfl⟩
set_option maxHeartbeats 2000000 in
theorem qqu (m k : Int) (w : World) : Calls Tryz.prog 144 #[.int .u8 m, .int .i64 k] w fun e w' => e = .returned (.int .i64 (Gz m k)) ∧ w = w' := by
 go_enter Tryz.func144, Tryz.ntmps144
 go_wp2_with fail
 all_goals go_ret
 all_goals exact ⟨by simp_all [Gz], rfl⟩
def cutN (t : ByteArray) : ByteArray := if Lib.indexByte t.data.toList 59 < 0 then t else t.extract 0 (Lib.indexByte t.data.toList 59).toNat
def cutT (t : ByteArray) : ByteArray := if Lib.indexByte t.data.toList 59 < 0 then ⟨#[]⟩ else t.extract ((Lib.indexByte t.data.toList 59).toNat + 1) t.size
theorem qwo (t : ByteArray) : (cutT t).size ≤ t.size := by
 unfold cutT
 split
 ·exact Nat.zero_le _
 ·rw [ByteArray.size_extract]
  omega
set_option maxHeartbeats 2000000 in
theorem qu8 (t : ByteArray) (ht : t.size ≤ 1048576) (w : World) : Calls Tryz.prog 168 #[.string t, .string ⟨#[59]⟩] w fun e w' => ∃ f, e = .returned (.tuple #[.string (cutN t), .string (cutT t), .bool f]) ∧ Below w.heap.size w w' := by
 have HI := Tryz.stringslite_Index_one t 59 w
 have hge := Lib.indexByte_ge t.data.toList 59
 by_cases h : Lib.indexByte t.data.toList 59 < 0
 ·have e1 : cutN t = t := by unfold cutN; rw [if_pos h]
  have e2 : cutT t = ⟨#[]⟩ := by unfold cutT; rw [if_pos h]
  rw [e1, e2]
  clear e1 e2
  generalize Lib.indexByte t.data.toList 59 = k at *
  have h1 : ¬ (0 ≤ k) := by omega
  go_enter Tryz.func168, Tryz.ntmps168
  go_wp2_with fail
  refine HI.mono ?_
  rintro e w' ⟨rfl, rfl⟩
  go_wp2_with fail
  go_ret3
  exact ⟨_, rfl, Below.refl _ _⟩
 ·obtain ⟨k, hk⟩ : ∃ k : Nat, Lib.indexByte t.data.toList 59 = (k : Int) := ⟨(Lib.indexByte t.data.toList 59).toNat, by omega⟩
  have hs := (Lib.indexByte_some hk).1
  have hlt : k < t.size := by
   have := (List.getElem?_eq_some_iff.1 hs).1
   rw [Array.length_toList] at this
   exact this
  have e1 : cutN t = t.extract 0 k := by unfold cutN; rw [if_neg h, hk]; rfl
  have e2 : cutT t = t.extract (k + 1) t.size := by unfold cutT; rw [if_neg h, hk]; rfl
  rw [e1, e2]
  rw [hk] at HI
  clear e1 e2 hk hs h hge
  have a1 : k ≤ t.size := by omega
  have a2 : k + 1 ≤ t.size := by omega
  have a3 : (k : Int) + 1 ≤ 9223372036854775807 := by omega
  have a4 : wrap64 ((k : Int) + 1) = (k : Int) + 1 := by
   unfold wrap64
   omega
  go_enter Tryz.func168, Tryz.ntmps168
  go_wp2_with fail
  refine HI.mono ?_
  rintro e w' ⟨rfl, rfl⟩
  go_wp2_with fail
  go_region
  go_wp2_with fail
  go_ret3
  exact ⟨_, rfl, (Below.refl _ _).drew⟩
set_option maxHeartbeats 2000000 in
theorem qzx (t : ByteArray) (ht : t.size ≤ 1048576) (w : World) : Calls Tryz.prog 104 #[.string t, .string ⟨#[59]⟩] w fun e w' => ∃ f, e = .returned (.tuple #[.string (cutN t), .string (cutT t), .bool f]) ∧ Below w.heap.size w w' := by
 have HI := qu8 t ht w
 go_enter Tryz.func104, Tryz.ntmps104
 go_wp2_with fail
 refine HI.mono ?_
 rintro e w' ⟨f, rfl, hb⟩
 go_wp2_with fail
 go_ret3
 exact ⟨_, rfl, hb⟩
end Put
namespace Put
open Grd (C SliceAt Qb Qf z0 Qx flat Qe)
def phId : Phi := fun _ _ s => s
theorem Kk : Xb phId := fun _ _ _ h => h
def Qt (fs : List Phi) : Phi := fun n hh s => fs.foldl (fun s f => f n hh s) s
theorem Fb (fs gs : List Phi) (n hh : Nat) (s : Scr) : Qt (fs ++ gs) n hh s = Qt gs n hh (Qt fs n hh s) := by
 unfold Qt
 rw [List.foldl_append]
theorem Jo : ∀ {fs : List Phi}, (∀ f, f ∈ fs → Xb f) → Xb (Qt fs)
 | [], _ => Kk
 | f :: fs, h => fun s n hh hR => Jo (fs := fs) (fun g hg => h g (List.mem_cons_of_mem _ hg)) _ n hh (h f List.mem_cons_self s n hh hR)
def prL (l : List Int) : List (Int × Nat) := l.map fun r => (r, 0)
def Zy (l : List Int) : Phi := fun n hh s => { (Vr n (s, Qe n s.cs hh) (prL l)).1 with cs := (Vr n (s, Qe n s.cs hh) (prL l)).2.flatten }
theorem PJ.prns {n hh : Nat} : ∀ (l : List (Int × Nat)) {s : Scr} {rows : List (List C)}, PJ n hh s rows → PJ n hh (Vr n (s, rows) l).1 (Vr n (s, rows) l).2
 | [], _, _, h => h
 | r :: l, _, _, h => PJ.prns l (h.print r.1)
theorem Ug (l : List Int) : Xb (Zy l) := fun _ _ _ h => ((PJ.start h).prns (prL l)).r
theorem qjx {n hh : Nat} {s : Scr} (h : Qg s n hh) (a b : List Int) : Zy b n hh (Zy a n hh s) = Zy (a ++ b) n hh s := by
 have hj := (PJ.start h).prns (prL a)
 have e : Qe n (Zy a n hh s).cs hh = (Vr n (s, Qe n s.cs hh) (prL a)).2 := hj.back
 have el : prL (a ++ b) = prL a ++ prL b := List.map_append
 have k : Vr n (Zy a n hh s, Qe n (Zy a n hh s).cs hh) (prL b) = ({ (Vr n (s, Qe n s.cs hh) (prL (a ++ b))).1 with cs := (Vr n (s, Qe n s.cs hh) (prL a)).2.flatten }, (Vr n (s, Qe n s.cs hh) (prL (a ++ b))).2) := by
  rw [e, el, qd8]
  exact qrs n _ (prL b) _ _
 show ({ (Vr n (Zy a n hh s, Qe n (Zy a n hh s).cs hh) (prL b)).1 with cs := (Vr n (Zy a n hh s, Qe n (Zy a n hh s).cs hh) (prL b)).2.flatten } : Scr) = _
 rw [k]
 rfl
theorem qi0 {n hh : Nat} {s : Scr} (h : Qg s n hh) : Zy [] n hh s = s := by
 show ({ s with cs := (Qe n s.cs hh).flatten } : Scr) = s
 rw [h.flatten]
def Yt (r : Int) : Phi := if r = 8 then qjc 1 else if r = 9 then qrt 1 else if r = 10 ∨ r = 11 ∨ r = 12 then qd1 else if r = 13 then Ku else phId
def Gq (f : Int) : Phi := if f = 55 then qkd else if f = 56 then qk1 else if f = 68 then qd1 else if f = 69 then Qt [Ku, qd1] else if f = 72 then qmd else if f = 77 then qvx else if f = 99 then qky else phId
def Xm (m : Int) (on : Bool) : List Int → List Phi
 | [] => []
 | k :: l => if Gz m k = 0 then Xm m on l else qen (Gz m k) (on != decide (Gz m k = 8)) :: Xm m on l
def Y6 (t : ByteArray) : Phi := if ((cutN t).toList ≠ [48] ∧ (cutN t).toList ≠ [50]) ∨ (cutT t).toList = [] then phId else qgv (cutT t)
def qfw (f : Int) (k : Int) : Option Phi := if f = 64 then some (q0x k) else if f = 65 then some (phUp k) else if f = 66 then some (qgb k) else if f = 67 then some (qkj k) else if f = 68 then some (qjc k) else if f = 71 then some (qfe k) else if f = 73 then some (qrt k) else if f = 76 then some (qwq k) else if f = 77 then some (qxw k) else if f = 80 then some (q0v k) else if f = 83 then some (q0q k) else if f = 84 then some (qr2 k) else if f = 88 then some (qr4 k) else if f = 90 then some (qid k) else if f = 96 then some (qfe k) else if f = 97 then some (qkj k) else if f = 98 then some (qro k) else if f = 100 then some (q0w k) else if f = 101 then some (qgb k) else none
def qci (f : Int) (k : Int) : Option Phi := if f = 74 then some (U0 k) else if f = 75 then some (qv1 k) else if f = 103 then some (qg3 k) else none
def Zt (f : Int) (ps : List Int) : Phi :=
 if f = 69 then Qt [qgb (par ps 0 1), Ku] else if f = 70 then Qt [phUp (par ps 0 1), Ku] else if f = 72 ∨ f = 102 then phTo (par ps 0 1) (par ps 1 1) else if f = 109 then qah (ps.map fun p => if p = -1 then 0 else p) else if f = 114 then qfu (par ps 0 0) (par ps 1 0) else if f = 115 then qkd else if f = 117 then qk1 else phId
def Xz (e : Prs.Ev) : Phi :=
 if e.fin = 104 ∨ e.fin = 108 then Qt (Xm e.mark (decide (e.fin = 104)) e.ps)
 else if e.mark ≠ 0 then phId
 else match qfw e.fin (par e.ps 0 1) with
  | some f => f
  | none => match qci e.fin (par e.ps 0 0) with
   | some f => f
   | none => Zt e.fin e.ps
theorem qfa : Plain 55 := fun _ _ => by kernel_rfl
theorem qex : Plain 56 := fun _ _ => by kernel_rfl
theorem qdn : Plain 57 := fun _ _ => by kernel_rfl
theorem qia (M : Nat) (w : World) (s : Scr) (rows : List (List C)) : Does 55 #[] M w s s rows rows := by
 intro W p hb hS
 have HS : Hid _ := hS
 clear hS
 go_enter Tryz.func55, Tryz.ntmps55
 go_wp2_with fail
 go_end0
 exact ⟨rfl, HS.out, Below.refl _ _⟩
theorem Yy : Ct 32 #[] phId := ⟨fun _ _ => by kernel_rfl, Kk, fun w0 w s cv tv gv n hh hm hR => by
  have hz := Yn hR
  have key := qna s s cv tv gv w0 w hm.m.t hm.m.v hm.m.b hm.m.f
  rw [hz] at key
  exact key fun W hW => Jn n hh s s (Qe n s.cs hh) cv tv gv _ qfa #[] w0 W hm.m.v (hm.m.b.trans (hW.mono hm.m.b.size)) hm.m.f hR.w hR.h hR.gz (fun w1 _ => qia _ w1 s _) (Ya hR s rfl) s.cs hR.flatten⟩
def I32V (w : World) (v : Value) (l : List Int) : Prop := (l = [] ∧ ∃ p c, v = .slice p 0 c) ∨ ∃ b o c, v = .slice (some ⟨b, o, none⟩) l.length c ∧ ∀ j, j < l.length → w.cell? ⟨b, o + j, none⟩ = some (.int .i32 (l.getD j 0))
theorem I32V.next {w w' : World} {v : Value} {l : List Int} (h : I32V w v l) (hb : Below w.heap.size w w') : I32V w' v l := by
 rcases h with h | ⟨b, o, c, hv, hc⟩
 ·exact .inl h
 ·exact .inr ⟨b, o, c, hv, fun j hj => Qa hb (hc j hj)⟩
theorem I32V.slice {w : World} {v : Value} {l : List Int} (h : I32V w v l) : ∃ p c, v = .slice p l.length c := by
 rcases h with ⟨rfl, p, c, rfl⟩ | ⟨b, o, c, rfl, -⟩
 ·exact ⟨_, _, rfl⟩
 ·exact ⟨_, _, rfl⟩
theorem I32V.at {w : World} {p : Option Addr} {n c : Nat} {l : List Int} (h : I32V w (.slice p n c) l) (j : Nat) (hj : j < l.length) : ∃ b o, p = some ⟨b, o, none⟩ ∧ w.cell? ⟨b, o + j, none⟩ = some (.int .i32 (l.getD j 0)) := by
 rcases h with ⟨rfl, _⟩ | ⟨b, o, c, hv, hc⟩
 ·exact absurd hj (Nat.not_lt_zero _)
 ·injection hv with h1 _ _
  exact ⟨b, o, h1, hc j hj⟩
def prS (n : Nat) (s : Scr) (rows : List (List C)) (l : List Int) (i : Nat) : Scr × List (List C) := Vr n (s, rows) (prL (l.take i))
theorem qxz (n : Nat) (s : Scr) (rows : List (List C)) (l : List Int) (i : Nat) (hi : i < l.length) : prS n s rows l (i + 1) = Ut n (prS n s rows l i).1 (prS n s rows l i).2 (l.getD i 0) := by
 unfold prS
 have e : l.take (i + 1) = l.take i ++ [l.getD i 0] := by
  rw [List.take_add_one, List.getD, List.getElem?_eq_getElem hi]
  rfl
 have e2 : prL (l.take i ++ [l.getD i 0]) = prL (l.take i) ++ [(l.getD i 0, 0)] := List.map_append
 rw [e, e2, qd8]
 rfl
set_option maxHeartbeats 2000000 in
theorem qoo {n hh : Nat} {s : Scr} {rows : List (List C)} (h : PJ n hh s rows) (l : List Int) (v : Value) (B M : Nat) (w : World) (hT : Txt.Tab w) (hB : w.cell? ⟨B, 0, none⟩ = some v) (hl : I32V w v l) (hn : l.length ≤ 1000000) :
  Does 57 #[.pointer (some ⟨B, 0, none⟩)] M w s (Vr n (s, rows) (prL l)).1 rows (Vr n (s, rows) (prL l)).2 := by
 intro W p hb hS
 obtain ⟨pa, pc, rfl⟩ := hl.slice
 have q0 := Qa hb hB
 have HL : Hid (∀ X, Below w.heap.size W X → ∀ i, i < l.length → ∃ b o, pa = some ⟨b, o, none⟩ ∧ X.cell? ⟨b, o + i, none⟩ = some (.int .i32 (l.getD i 0))) := fun X hX i hi => (hl.next (hb.trans hX)).at i hi
 have HPR : Hid (∀ i X, i < l.length → Below w.heap.size W X → ShAt 111 X M w.heap.size p (prS n s rows l i).1 (prS n s rows l i).2 → Calls Tryz.prog 38 #[.pointer (some ⟨p, 0, none⟩), .int .i32 (l.getD i 0)] X (Ran X M w.heap.size p (prS n s rows l (i + 1)).1 (prS n s rows l (i + 1)).2)) := fun i X hi hX hSX => by
  rw [qxz n s rows l i hi]
  exact Us (h.prns (prL (l.take i))).pi (l.getD i 0) X M w.heap.size p (Grd.Tab.next hT (hb.trans hX)) hT.pos hSX
 have HS : Hid (ShAt 111 W M w.heap.size p (prS n s rows l 0).1 (prS n s rows l 0).2) := hS
 have HE : Hid (prS n s rows l l.length = Vr n (s, rows) (prL l)) := by
  unfold Hid prS
  rw [List.take_length]
 clear hS hB h hl hT
 generalize Vr n (s, rows) (prL l) = fin at *
 generalize prS n s rows l = st at *
 obtain ⟨K, hK⟩ : ∃ K, l.length = K := ⟨_, rfl⟩
 rw [hK] at q0 HL HPR HE hn
 clear hK
 go_enter Tryz.func57, Tryz.ntmps57
 go_wp2_with fail
 go_loopg [7] K (fun q v wr => ∃ i : Nat, v = .int .i64 (i : Int) ∧ i ≤ K ∧ K - i ≤ q ∧ ShAt 111 wr M w.heap.size p (st i).1 (st i).2 ∧ Below w.heap.size W wr)
 case atStart => exact ⟨0, rfl, by omega, by omega, HS.out, Below.refl _ _⟩
 case round =>
  obtain ⟨i, rfl, hi, hq, hSi, hBi⟩ := hrel
  by_cases hlt : i < K
  ·have lt1 : (i : Int) < (K : Int) := by omega
   obtain ⟨b, o, rfl, c1⟩ := HL.out wr hBi i hlt
   have HP := HPR.out i wr hlt hBi hSi
   have HBI : Hid (Below w.heap.size W wr) := hBi
   clear hSi hBi
   generalize l.getD i 0 = r at *
   go_wp2_with fail
   refine HP.mono ?_
   rintro e V ⟨rfl, hV, bV, -⟩
   have HV : Hid _ := hV
   have HBV : Hid (Below w.heap.size W V) := HBI.out.trans bV
   clear hV bV HP c1
   go_wp2_with fail
   go_roundg (K - (i + 1))
   case measure => omega
   case rel => exact ⟨i + 1, by go_num, by omega, by omega, HV.out, HBV.out⟩
  ·have lt1 : ¬ (i : Int) < (K : Int) := by omega
   have e : i = K := by omega
   subst e
   have HSI : Hid _ := hSi
   have HBI : Hid (Below w.heap.size W wr) := hBi
   clear hSi hBi
   go_wp2_with fail
   go_end0
   have hs := HSI.out
   rw [HE.out] at hs
   exact ⟨rfl, hs, HBI.out⟩
theorem qfq (l : List Int) (W : World) (B : Nat) (v : Value) (h1 : W.cell? ⟨B, 0, none⟩ = some v) (hl : I32V W v l) (hn : l.length ≤ 1000000) : Jp W 56 #[.pointer (some ⟨B, 0, none⟩)] (Zy l) := by
 refine ⟨qex, Ug l, fun w0 w s cv tv gv n hh hw hm hR => ?_⟩
 have hz := Yn hR
 have hj := PJ.start hR
 have he := hj.prns (prL l)
 have key := qh0 s (Zy l n hh s) cv tv gv B w0 w hm.m.t hm.m.v hm.m.b hm.m.f
 rw [hz] at key
 refine key fun X hX => ?_
 refine Jn n hh s (Vr n (s, Qe n s.cs hh) (prL l)).1 (Vr n (s, Qe n s.cs hh) (prL l)).2 cv tv gv _ qdn _ w0 X hm.m.v (hm.m.b.trans (hX.mono hm.m.b.size)) hm.m.f hR.w hR.h hR.gz (fun w1 hw1 => ?_) (Fy hR _ _ he.rl (fun i hi => (he.rr i hi).1) (Nat.le_succ_of_le he.r.gl) (fun i hi => by have := he.r.Uh i hi; exact Nat.le_trans this (by omega))) _ rfl
 have hb := hw.trans ((hX.trans (hw1.mono hX.size)).mono hw.size)
 exact qoo hj l v B _ w1 (Grd.Tab.next (Grd.Tab.next hm.m.t hX) hw1) (Qa hb h1) (hl.next hb) hn
def Y3 (W : World) (v : Value) (fs : List Phi) : Prop := (fs = [] ∧ ∃ p c, v = .slice p 0 c) ∨ ∃ b o c, v = .slice (some ⟨b, o, none⟩) fs.length c ∧ ∀ j, j < fs.length → ∃ x, W.cell? ⟨b, o + j, none⟩ = some x ∧ Step W x (fs.getD j phId)
theorem Y3.next {W W' : World} {v : Value} {fs : List Phi} (h : Y3 W v fs) (hb : Below W.heap.size W W') : Y3 W' v fs := by
 rcases h with h | ⟨b, o, c, hv, hc⟩
 ·exact .inl h
 ·refine .inr ⟨b, o, c, hv, fun j hj => ?_⟩
  obtain ⟨x, h1, h2⟩ := hc j hj
  exact ⟨x, Qa hb h1, h2.next hb⟩
theorem Y3.slice {W : World} {v : Value} {fs : List Phi} (h : Y3 W v fs) : ∃ p c, v = .slice p fs.length c := by
 rcases h with ⟨rfl, p, c, rfl⟩ | ⟨b, o, c, rfl, -⟩
 ·exact ⟨_, _, rfl⟩
 ·exact ⟨_, _, rfl⟩
theorem Y3.at {W : World} {p : Option Addr} {n c : Nat} {fs : List Phi} (h : Y3 W (.slice p n c) fs) (j : Nat) (hj : j < fs.length) : ∃ b o fid caps, p = some ⟨b, o, none⟩ ∧ W.cell? ⟨b, o + j, none⟩ = some (.func (.func fid) #[] caps) ∧ Jp W fid caps (fs.getD j phId) := by
 rcases h with ⟨rfl, _⟩ | ⟨b, o, c, hv, hc⟩
 ·exact absurd hj (Nat.not_lt_zero _)
 ·injection hv with h1 _ _
  obtain ⟨x, h2, fid, caps, rfl, h3⟩ := hc j hj
  exact ⟨b, o, fid, caps, h1, h2, h3⟩
theorem qqe (fs : List Phi) (n hh : Nat) (s : Scr) (k : Nat) (hk : k < fs.length) : Qt (fs.take (k + 1)) n hh s = (fs.getD k phId) n hh (Qt (fs.take k) n hh s) := by
 have e : fs.take (k + 1) = fs.take k ++ [fs.getD k phId] := by
  rw [List.take_add_one, List.getD, List.getElem?_eq_getElem hk]
  rfl
 rw [e, Fb]
 rfl
theorem qoi : Plain 31 := fun _ _ => by kernel_rfl
section
attribute [local go_sem ↓] Jc Jj
attribute [local go_sem] Gj Xw X0
set_option maxHeartbeats 8000000 in
theorem qth (fs : List Phi) (hk : ∀ f, f ∈ fs → Xb f) (W : World) (B : Nat) (v : Value) (h1 : W.cell? ⟨B, 0, none⟩ = some v) (hS : Y3 W v fs) (hn : fs.length ≤ 1000000) : Jp W 31 #[.pointer (some ⟨B, 0, none⟩)] (Qt fs) := by
 refine ⟨qoi, Jo hk, fun w0 w s cv tv gv n hh hw hm hR => ?_⟩
 obtain ⟨ca, cc, rfl⟩ := hm.m.v.c.shape
 obtain ⟨ta, tc, rfl⟩ := hm.m.v.t.slice
 obtain ⟨ga, gc, rfl⟩ := hm.m.v.g.slice
 obtain ⟨pa, pc, rfl⟩ := hS.slice
 have hkb : Below w.heap.size w ((w.alloc (.cells (scS s ca cc ta tc ga gc) 32)).alloc (.cells zA 32)) := (((Below.refl _ _).alloc (by simp) _).alloc (by simp) _)
 have hx0 : ((w.alloc (.cells (scS s ca cc ta tc ga gc) 32)).alloc (.cells zA 32)).heap[w.heap.size]? = _ := (Below.heap_alloc _ _ _ (by simp)).trans (heap_alloc_new w (.cells (scS s ca cc ta tc ga gc) 32))
 have hx1 : ((w.alloc (.cells (scS s ca cc ta tc ga gc) 32)).alloc (.cells zA 32)).heap[w.heap.size + 1]? = _ := heap_alloc2_new w (.cells (scS s ca cc ta tc ga gc) 32) (.cells zA 32)
 have HX0 : Hid _ := hx0
 have HXR : Hid _ := hx1
 have HKB : Hid _ := hkb
 have hM0 := hm.m.b.size
 have HN : Hid (∀ w0 V cv tv gv, MetS w0 V s cv tv gv → Calls Tryz.prog 32 (#[.agg (scrA s cv tv gv)] ++ #[]) V (Made w0 V s 0)) := fun w0 V cv tv gv hm => Yy.runs w0 V s cv tv gv n hh hm hR
 have HC := HN.out w0 _ _ _ _ (hm.next hkb)
 have HBX : Hid (∀ V, Below w.heap.size w V → V.cell? ⟨B, 0, none⟩ = some (.slice pa fs.length pc)) := fun V hV => Qa (hw.trans (hV.mono hw.size)) h1
 have HCALL : Hid (∀ k, k < fs.length → ∀ V cv tv gv, Below w.heap.size w V → Zh V (Qt (fs.take k) n hh s) cv tv gv → ∃ b o fid caps, pa = some ⟨b, o, none⟩ ∧ V.cell? ⟨b, o + k, none⟩ = some (.func (.func fid) #[] caps) ∧ Plain fid ∧ Calls Tryz.prog fid (#[.agg (scrA (Qt (fs.take k) n hh s) cv tv gv)] ++ caps) V (Made V V (Qt (fs.take (k + 1)) n hh s) 0)) := fun k hlt V cv tv gv hV hv => by
  obtain ⟨b, o, fid, caps, e1, e2, e3⟩ := (hS.next (hw.trans (hV.mono hw.size))).at k hlt
  have hr := Jo (fs := fs.take k) (fun f hf => hk f (List.mem_of_mem_take hf)) s n hh hR
  refine ⟨b, o, fid, caps, e1, e2, e3.plain, ?_⟩
  rw [qqe fs n hh s k hlt]
  exact e3.runs V V _ cv tv gv n hh (Below.refl _ _) ⟨⟨Grd.Tab.next hm.m.t hV, hv, Below.refl _ _, hr.fits⟩, (hm.next hV).l⟩ hr
 have HE : Hid (Qt (fs.take fs.length) n hh s = Qt fs n hh s) := by
  unfold Hid
  rw [List.take_length]
 have HE0 : Hid (Qt (fs.take 0) n hh s = s) := rfl
 obtain ⟨K0, hK⟩ : ∃ K0, fs.length = K0 := ⟨_, rfl⟩
 rw [hK] at HBX HCALL HE hn
 clear hkb hw hm hx0 hx1 hR h1 hS hK HN
 generalize Qt fs n hh s = fin at *
 generalize hst : (fun k => Qt (fs.take k) n hh s) = st
 have hst' : ∀ k, Qt (fs.take k) n hh s = st k := fun k => by rw [← hst]
 simp only [hst'] at HCALL HE HE0
 clear hst hst' hk
 go_enter Tryz.func31, Tryz.ntmps31
 go_upto_region 1 with fail
 generalize ((w.alloc (.cells (scS s ca cc ta tc ga gc) 32)).alloc (.cells zA 32)) = V0 at *
 go_wp2_with (refine wpList_load_row rfl 32 (.tmp 2) rfl w.heap.size rfl _ _ _ _ HX0.out Tryz.underlying32 rfl (by kernel_rfl) ?_)
 refine HC.mono ?_
 rintro e V ⟨cv', tv', gv', rfl, hO, c2⟩
 obtain ⟨a1, n1, c1, a2, n2, c2', a3, n3, c3, rfl, rfl, rfl⟩ := hO.shapes
 have HO : Hid (Qo V 0 _ s _ _ _) := hO
 have HX : Hid (V.heap[w.heap.size]? = _) := Grd.carry HX0.out c2
 have HR : Hid (V.heap[w.heap.size + 1]? = _) := Grd.carry HXR.out c2
 have HB : Hid (Below w.heap.size w V) := HKB.out.trans (c2.mono HKB.out.size)
 have hle := HKB.out.size
 clear hO c2 HC HX0 HXR HKB
 go_wp2_with (refine wpList_store_row rfl 32 (.tmp 2) (.tmp 10) rfl w.heap.size (scT s a1 n1 c1 a2 n2 c2' a3 n3 c3) rfl rfl _ _ HX.out (by kernel_rfl) rfl (Qn _ _ _ _ _ _ _ _ _ _) ?_)
 go_loopg [5, 6] K0 (fun q e i wr => ∃ (k : Nat) (a1 : Option Addr) (n1 c1 : Nat) (a2 : Option Addr) (n2 c2 : Nat) (a3 : Option Addr) (n3 c3 : Nat), i = .int .i64 (k : Int) ∧ k ≤ K0 ∧ K0 - k ≤ q ∧ e = .int .i64 0 ∧ Below w.heap.size w wr ∧ wr.heap[w.heap.size]? = some (.cells (scrA (st k) (.slice a1 n1 c1) (.slice a2 n2 c2) (.slice a3 n3 c3)) 32 (0, 0)) ∧ Qo wr 0 w.heap.size (st k) (.slice a1 n1 c1) (.slice a2 n2 c2) (.slice a3 n3 c3) ∧ wr.heap[w.heap.size + 1]? = some (.cells zA 32 (0, 0)))
 case atStart =>
  refine ⟨0, a1, n1, c1, a2, n2, c2', a3, n3, c3, rfl, by omega, by omega, rfl, below_setRow HB.out (Nat.le_refl _) _, ?_, ?_, (setRow_other _ _ _ _ (by omega)).trans HR.out⟩
  ·rw [HE0.out]
   exact setRow_heap _ _ _ _ _ _ HX.out
  ·rw [HE0.out]
   exact (Qo.off HO.out HX.out Ql (Nat.zero_le _) fun k hk => setRow_other _ _ _ _ hk).mono hle
 case round =>
  obtain ⟨k, b1, m1, d1, b2, m2, d2, b3, m3, d3, rfl, hk, hq, rfl, hb, hy0, hOk, hy1⟩ := hrel
  clear HO HX HR HB HE0 hle
  by_cases hlt : k < K0
  ·have lt1 : (k : Int) < (K0 : Int) := by omega
   have HY0 : Hid (wr.drew.heap[w.heap.size]? = _) := hy0
   have HY1 : Hid (wr.drew.heap[w.heap.size + 1]? = _) := hy1
   have HBZ : Hid (Below w.heap.size w wr.drew) := hb.drew
   obtain ⟨b, o, fid, caps, rfl, f1, hpl, HC⟩ := HCALL.out k hlt wr.drew _ _ _ HBZ.out (hOk.scr.next (Below.refl _ _).drew)
   unfold Plain at hpl
   have f0 := HBX.out wr hb
   have f0' : wr.drew.cell? ⟨B, 0, none⟩ = some (.slice (some ⟨b, o, none⟩) K0 pc) := f0
   have sp := Qu HY0.out
   obtain ⟨sp1, sp2⟩ := sp
   clear hb hy0 hy1 hOk
   go_upto_region 5 with fail
   refine wp_region_held_drew (S := fun _ => True) (by kernel_rfl) trivial (fun hHeld => ?_)
   generalize wr.drew = Z0 at *
   clear f0
   refine wpAnyH_take (i := 1) (oi := _) (v := ?_) rfl (by kernel_rfl) (by kernel_rfl) (by kernel_rfl) (fun _ _ _ h => h) (Or.inl ⟨by rfl, ?_⟩) hHeld ?_
   rotate_left
   ·intro w hSw
    go_simp
    (try with_reducible rfl)
   (try simp only [Act.put, List.setIfInBounds_toArray, List.set_cons_zero, List.set_cons_succ])
   refine wpAnyH_ready (rs := [0, 4]) (by kernel_rfl) (by simp) ?_
   refine AllReadyH.cons (o := _) rfl (fun K hK => ?_) <| AllReadyH.cons (o := _) rfl (fun K hK => ?_) <| AllReadyH.nil
   ·go_simp
    refine hK.out _ _ trivial (fun hHeld => ?_)
    clear hK K
    (try simp only [Act.put, List.setIfInBounds_toArray, List.set_cons_zero, List.set_cons_succ])
    refine wpAnyH_take (i := 2) (oi := _) (v := ?_) rfl (by kernel_rfl) (by kernel_rfl) (by kernel_rfl) (fun _ _ _ h => h) (Or.inl ⟨by rfl, ?_⟩) hHeld ?_
    rotate_left
    ·intro w hSw
     go_simp
     (try with_reducible rfl)
    (try simp only [Act.put, List.setIfInBounds_toArray, List.set_cons_zero, List.set_cons_succ])
    refine wpAnyH_ready (rs := [3, 4]) (by kernel_rfl) (by simp) ?_
    refine AllReadyH.cons (o := _) rfl (fun K hK => ?_) <| AllReadyH.cons (o := _) rfl (fun K hK => ?_) <| AllReadyH.nil
    ·go_simp
     refine hK.out _ _ trivial (fun hHeld => ?_)
     clear hK K
     (try simp only [Act.put, List.setIfInBounds_toArray, List.set_cons_zero, List.set_cons_succ])
     refine wpAnyH_ready (rs := [4]) (by kernel_rfl) (by simp) ?_
     refine AllReadyH.cons (o := _) rfl (fun K hK => ?_) <| AllReadyH.nil
     rw [if_pos (by rfl)]
     refine wp_load_row 32 (.tmp 2) rfl w.heap.size rfl _ _ _ _ HY0.out Tryz.underlying32 rfl (by kernel_rfl) ?_
     refine hK.out _ _ trivial (fun hHeld => ?_)
     clear hK K
     (try simp only [Act.put, List.setIfInBounds_toArray, List.set_cons_zero, List.set_cons_succ])
     refine wpAnyH_ready (rs := [5]) (by kernel_rfl) (by simp) ?_
     refine AllReadyH.cons (o := _) rfl (fun K hK => ?_) <| AllReadyH.nil
     go_simp
     refine HC.mono ?_
     rintro e V ⟨cv', tv', gv', rfl, hO, c2⟩
     obtain ⟨a1, n1, c1, a2, n2, c2', a3, n3, c3, rfl, rfl, rfl⟩ := hO.shapes
     have HO : Hid (Qo V 0 _ _ _ _ _) := hO
     have HY : Hid (V.heap[w.heap.size]? = _) := Grd.carry HY0.out c2
     have HYR : Hid (V.heap[w.heap.size + 1]? = _) := Grd.carry HY1.out c2
     have HBV : Hid (Below w.heap.size w V) := HBZ.out.trans (c2.mono HBZ.out.size)
     have sp0 := Za HY.out rfl
     clear hO c2 HC
     go_wp2_with fail
     refine hK.out _ _ trivial (fun hHeld => ?_)
     clear hK K
     (try simp only [Act.put, List.setIfInBounds_toArray, List.set_cons_zero, List.set_cons_succ])
     refine wpAnyH_take (i := 6) (oi := _) (v := ?_) rfl (by kernel_rfl) (by kernel_rfl) (by kernel_rfl) (fun _ _ _ h => h) (Or.inl ⟨by rfl, ?_⟩) hHeld ?_
     rotate_left
     ·intro w hSw
      go_simp
      (try with_reducible rfl)
     (try simp only [Act.put, List.setIfInBounds_toArray, List.set_cons_zero, List.set_cons_succ])
     refine wpAnyH_take (i := 7) (oi := _) (v := ?_) rfl (by kernel_rfl) (by kernel_rfl) (by kernel_rfl) (fun _ _ _ h => h) (Or.inl ⟨by rfl, ?_⟩) hHeld ?_
     rotate_left
     ·intro w hSw
      go_simp
      (try with_reducible rfl)
     (try simp only [Act.put, List.setIfInBounds_toArray, List.set_cons_zero, List.set_cons_succ])
     refine wpAnyH_take (i := 8) (oi := _) (v := ?_) rfl (by kernel_rfl) (by kernel_rfl) (by kernel_rfl) (fun _ _ _ h => h) (Or.inl ⟨by rfl, ?_⟩) hHeld ?_
     rotate_left
     ·intro w hSw
      go_simp
      (try with_reducible rfl)
     (try simp only [Act.put, List.setIfInBounds_toArray, List.set_cons_zero, List.set_cons_succ])
     refine wpAnyH_ready (rs := [9]) (by kernel_rfl) (by simp) ?_
     refine AllReadyH.cons (o := _) rfl (fun K hK => ?_) <| AllReadyH.nil
     rw [if_pos (by rfl)]
     refine wp_store_row 32 (.tmp 2) (.tmp 29) rfl w.heap.size (scrA (st (k + 1)) (.slice a1 n1 c1) (.slice a2 n2 c2') (.slice a3 n3 c3)) rfl rfl _ _ HY.out (by kernel_rfl) rfl (Qn _ _ _ _ _ _ _ _ _ _) ?_
     refine hK.out _ _ trivial (fun hHeld => ?_)
     clear hK K
     (try simp only [Act.put, List.setIfInBounds_toArray, List.set_cons_zero, List.set_cons_succ])
     refine wpAnyH_take (i := 10) (oi := _) (v := ?_) rfl (by kernel_rfl) (by kernel_rfl) (by kernel_rfl) (fun _ _ _ h => h) (Or.inl ⟨by rfl, ?_⟩) hHeld ?_
     rotate_left
     ·intro w hSw
      go_simp
      (try with_reducible rfl)
     (try simp only [Act.put, List.setIfInBounds_toArray, List.set_cons_zero, List.set_cons_succ])
     refine wpAnyH_done (by kernel_rfl) ?_ _
     go_wp2_with fail
     go_roundg (K0 - (k + 1))
     case measure => omega
     case rel => exact ⟨k + 1, _, _, _, _, _, _, _, _, _, by go_num, by omega, by omega, rfl, below_setRow HBV.out (Nat.le_refl _) _, setRow_heap _ _ _ _ _ _ HY.out, (Qo.off HO.out HY.out Ql (Nat.zero_le _) fun k hk => setRow_other _ _ _ _ hk).mono HBZ.out.size, (setRow_other _ _ _ _ (by omega)).trans HYR.out⟩
    ·rw [if_pos (by rfl)]
     refine wp_load_row 32 (.tmp 2) rfl w.heap.size rfl _ _ _ _ HY0.out Tryz.underlying32 rfl (by kernel_rfl) ?_
     refine hK.out _ _ trivial (fun hHeld => ?_)
     clear hK K
     (try simp only [Act.put, List.setIfInBounds_toArray, List.set_cons_zero, List.set_cons_succ])
     refine wpAnyH_ready (rs := [3]) (by kernel_rfl) (by simp) ?_
     refine AllReadyH.cons (o := _) rfl (fun K hK => ?_) <| AllReadyH.nil
     go_simp
     refine hK.out _ _ trivial (fun hHeld => ?_)
     clear hK K
     (try simp only [Act.put, List.setIfInBounds_toArray, List.set_cons_zero, List.set_cons_succ])
     refine wpAnyH_ready (rs := [5]) (by kernel_rfl) (by simp) ?_
     refine AllReadyH.cons (o := _) rfl (fun K hK => ?_) <| AllReadyH.nil
     go_simp
     refine HC.mono ?_
     rintro e V ⟨cv', tv', gv', rfl, hO, c2⟩
     obtain ⟨a1, n1, c1, a2, n2, c2', a3, n3, c3, rfl, rfl, rfl⟩ := hO.shapes
     have HO : Hid (Qo V 0 _ _ _ _ _) := hO
     have HY : Hid (V.heap[w.heap.size]? = _) := Grd.carry HY0.out c2
     have HYR : Hid (V.heap[w.heap.size + 1]? = _) := Grd.carry HY1.out c2
     have HBV : Hid (Below w.heap.size w V) := HBZ.out.trans (c2.mono HBZ.out.size)
     have sp0 := Za HY.out rfl
     clear hO c2 HC
     go_wp2_with fail
     refine hK.out _ _ trivial (fun hHeld => ?_)
     clear hK K
     (try simp only [Act.put, List.setIfInBounds_toArray, List.set_cons_zero, List.set_cons_succ])
     refine wpAnyH_take (i := 6) (oi := _) (v := ?_) rfl (by kernel_rfl) (by kernel_rfl) (by kernel_rfl) (fun _ _ _ h => h) (Or.inl ⟨by rfl, ?_⟩) hHeld ?_
     rotate_left
     ·intro w hSw
      go_simp
      (try with_reducible rfl)
     (try simp only [Act.put, List.setIfInBounds_toArray, List.set_cons_zero, List.set_cons_succ])
     refine wpAnyH_take (i := 7) (oi := _) (v := ?_) rfl (by kernel_rfl) (by kernel_rfl) (by kernel_rfl) (fun _ _ _ h => h) (Or.inl ⟨by rfl, ?_⟩) hHeld ?_
     rotate_left
     ·intro w hSw
      go_simp
      (try with_reducible rfl)
     (try simp only [Act.put, List.setIfInBounds_toArray, List.set_cons_zero, List.set_cons_succ])
     refine wpAnyH_take (i := 8) (oi := _) (v := ?_) rfl (by kernel_rfl) (by kernel_rfl) (by kernel_rfl) (fun _ _ _ h => h) (Or.inl ⟨by rfl, ?_⟩) hHeld ?_
     rotate_left
     ·intro w hSw
      go_simp
      (try with_reducible rfl)
     (try simp only [Act.put, List.setIfInBounds_toArray, List.set_cons_zero, List.set_cons_succ])
     refine wpAnyH_ready (rs := [9]) (by kernel_rfl) (by simp) ?_
     refine AllReadyH.cons (o := _) rfl (fun K hK => ?_) <| AllReadyH.nil
     rw [if_pos (by rfl)]
     refine wp_store_row 32 (.tmp 2) (.tmp 29) rfl w.heap.size (scrA (st (k + 1)) (.slice a1 n1 c1) (.slice a2 n2 c2') (.slice a3 n3 c3)) rfl rfl _ _ HY.out (by kernel_rfl) rfl (Qn _ _ _ _ _ _ _ _ _ _) ?_
     refine hK.out _ _ trivial (fun hHeld => ?_)
     clear hK K
     (try simp only [Act.put, List.setIfInBounds_toArray, List.set_cons_zero, List.set_cons_succ])
     refine wpAnyH_take (i := 10) (oi := _) (v := ?_) rfl (by kernel_rfl) (by kernel_rfl) (by kernel_rfl) (fun _ _ _ h => h) (Or.inl ⟨by rfl, ?_⟩) hHeld ?_
     rotate_left
     ·intro w hSw
      go_simp
      (try with_reducible rfl)
     (try simp only [Act.put, List.setIfInBounds_toArray, List.set_cons_zero, List.set_cons_succ])
     refine wpAnyH_done (by kernel_rfl) ?_ _
     go_wp2_with fail
     go_roundg (K0 - (k + 1))
     case measure => omega
     case rel => exact ⟨k + 1, _, _, _, _, _, _, _, _, _, by go_num, by omega, by omega, rfl, below_setRow HBV.out (Nat.le_refl _) _, setRow_heap _ _ _ _ _ _ HY.out, (Qo.off HO.out HY.out Ql (Nat.zero_le _) fun k hk => setRow_other _ _ _ _ hk).mono HBZ.out.size, (setRow_other _ _ _ _ (by omega)).trans HYR.out⟩
   ·rw [if_pos (by rfl)]
    refine wp_load_row 32 (.tmp 2) rfl w.heap.size rfl _ _ _ _ HY0.out Tryz.underlying32 rfl (by kernel_rfl) ?_
    refine hK.out _ _ trivial (fun hHeld => ?_)
    clear hK K
    (try simp only [Act.put, List.setIfInBounds_toArray, List.set_cons_zero, List.set_cons_succ])
    refine wpAnyH_ready (rs := [0]) (by kernel_rfl) (by simp) ?_
    refine AllReadyH.cons (o := _) rfl (fun K hK => ?_) <| AllReadyH.nil
    go_simp
    refine hK.out _ _ trivial (fun hHeld => ?_)
    clear hK K
    (try simp only [Act.put, List.setIfInBounds_toArray, List.set_cons_zero, List.set_cons_succ])
    refine wpAnyH_take (i := 2) (oi := _) (v := ?_) rfl (by kernel_rfl) (by kernel_rfl) (by kernel_rfl) (fun _ _ _ h => h) (Or.inl ⟨by rfl, ?_⟩) hHeld ?_
    rotate_left
    ·intro w hSw
     go_simp
     (try with_reducible rfl)
    (try simp only [Act.put, List.setIfInBounds_toArray, List.set_cons_zero, List.set_cons_succ])
    refine wpAnyH_ready (rs := [3]) (by kernel_rfl) (by simp) ?_
    refine AllReadyH.cons (o := _) rfl (fun K hK => ?_) <| AllReadyH.nil
    go_simp
    refine hK.out _ _ trivial (fun hHeld => ?_)
    clear hK K
    (try simp only [Act.put, List.setIfInBounds_toArray, List.set_cons_zero, List.set_cons_succ])
    refine wpAnyH_ready (rs := [5]) (by kernel_rfl) (by simp) ?_
    refine AllReadyH.cons (o := _) rfl (fun K hK => ?_) <| AllReadyH.nil
    go_simp
    refine HC.mono ?_
    rintro e V ⟨cv', tv', gv', rfl, hO, c2⟩
    obtain ⟨a1, n1, c1, a2, n2, c2', a3, n3, c3, rfl, rfl, rfl⟩ := hO.shapes
    have HO : Hid (Qo V 0 _ _ _ _ _) := hO
    have HY : Hid (V.heap[w.heap.size]? = _) := Grd.carry HY0.out c2
    have HYR : Hid (V.heap[w.heap.size + 1]? = _) := Grd.carry HY1.out c2
    have HBV : Hid (Below w.heap.size w V) := HBZ.out.trans (c2.mono HBZ.out.size)
    have sp0 := Za HY.out rfl
    clear hO c2 HC
    go_wp2_with fail
    refine hK.out _ _ trivial (fun hHeld => ?_)
    clear hK K
    (try simp only [Act.put, List.setIfInBounds_toArray, List.set_cons_zero, List.set_cons_succ])
    refine wpAnyH_take (i := 6) (oi := _) (v := ?_) rfl (by kernel_rfl) (by kernel_rfl) (by kernel_rfl) (fun _ _ _ h => h) (Or.inl ⟨by rfl, ?_⟩) hHeld ?_
    rotate_left
    ·intro w hSw
     go_simp
     (try with_reducible rfl)
    (try simp only [Act.put, List.setIfInBounds_toArray, List.set_cons_zero, List.set_cons_succ])
    refine wpAnyH_take (i := 7) (oi := _) (v := ?_) rfl (by kernel_rfl) (by kernel_rfl) (by kernel_rfl) (fun _ _ _ h => h) (Or.inl ⟨by rfl, ?_⟩) hHeld ?_
    rotate_left
    ·intro w hSw
     go_simp
     (try with_reducible rfl)
    (try simp only [Act.put, List.setIfInBounds_toArray, List.set_cons_zero, List.set_cons_succ])
    refine wpAnyH_take (i := 8) (oi := _) (v := ?_) rfl (by kernel_rfl) (by kernel_rfl) (by kernel_rfl) (fun _ _ _ h => h) (Or.inl ⟨by rfl, ?_⟩) hHeld ?_
    rotate_left
    ·intro w hSw
     go_simp
     (try with_reducible rfl)
    (try simp only [Act.put, List.setIfInBounds_toArray, List.set_cons_zero, List.set_cons_succ])
    refine wpAnyH_ready (rs := [9]) (by kernel_rfl) (by simp) ?_
    refine AllReadyH.cons (o := _) rfl (fun K hK => ?_) <| AllReadyH.nil
    rw [if_pos (by rfl)]
    refine wp_store_row 32 (.tmp 2) (.tmp 29) rfl w.heap.size (scrA (st (k + 1)) (.slice a1 n1 c1) (.slice a2 n2 c2') (.slice a3 n3 c3)) rfl rfl _ _ HY.out (by kernel_rfl) rfl (Qn _ _ _ _ _ _ _ _ _ _) ?_
    refine hK.out _ _ trivial (fun hHeld => ?_)
    clear hK K
    (try simp only [Act.put, List.setIfInBounds_toArray, List.set_cons_zero, List.set_cons_succ])
    refine wpAnyH_take (i := 10) (oi := _) (v := ?_) rfl (by kernel_rfl) (by kernel_rfl) (by kernel_rfl) (fun _ _ _ h => h) (Or.inl ⟨by rfl, ?_⟩) hHeld ?_
    rotate_left
    ·intro w hSw
     go_simp
     (try with_reducible rfl)
    (try simp only [Act.put, List.setIfInBounds_toArray, List.set_cons_zero, List.set_cons_succ])
    refine wpAnyH_done (by kernel_rfl) ?_ _
    go_wp2_with fail
    go_roundg (K0 - (k + 1))
    case measure => omega
    case rel => exact ⟨k + 1, _, _, _, _, _, _, _, _, _, by go_num, by omega, by omega, rfl, below_setRow HBV.out (Nat.le_refl _) _, setRow_heap _ _ _ _ _ _ HY.out, (Qo.off HO.out HY.out Ql (Nat.zero_le _) fun k hk => setRow_other _ _ _ _ hk).mono HBZ.out.size, (setRow_other _ _ _ _ (by omega)).trans HYR.out⟩
  ·have lt1 : ¬ (k : Int) < (K0 : Int) := by omega
   have e : k = K0 := by omega
   subst e
   have HY0 : Hid (wr.heap[w.heap.size]? = _) := hy0
   have HY1 : Hid (wr.heap[w.heap.size + 1]? = _) := hy1
   have HBZ : Hid (Below w.heap.size w wr) := hb
   have f0 := HBX.out wr hb
   have HOK : Hid (Qo wr 0 w.heap.size (st k) _ _ _) := hOk
   rw [HE.out] at HY0 HOK
   clear hb hy0 hy1 hOk
   go_wp2_with (first | (refine wpList_load_row rfl 32 (.tmp 2) rfl w.heap.size rfl _ _ _ _ HY0.out Tryz.underlying32 rfl (by kernel_rfl) ?_) | (refine wpList_store_row rfl 32 (.tmp 3) (.tmp 31) rfl (w.heap.size + 1) (scT fin b1 m1 d1 b2 m2 d2 b3 m3 d3) rfl rfl _ _ HY1.out (by kernel_rfl) rfl (Qn _ _ _ _ _ _ _ _ _ _) ?_))
   (try simp only [Exit.inBlock, Exit.then])
   refine bodyPost_ret (v := .tuple #[.agg (scT fin b1 m1 d1 b2 m2 d2 b3 m3 d3), .int .i64 0]) ?_ rfl ⟨_, _, _, rfl, ?_, below_setRow HBZ.out (by omega) _⟩
   ·exact Grd.Qd rfl _ _ (w.heap.size + 1) _ _ _ _ rfl (setRow_heap _ _ _ _ _ _ HY1.out) Tryz.underlying32 rfl (by kernel_rfl) _ rfl
   ·exact Qo.off HOK.out HY1.out Ql (Nat.zero_le _) fun k hk => setRow_other _ _ _ _ hk
end
def Xc (w w' W : World) : Prop := w'.heap.size ≤ W.heap.size ∧ ∀ k, w.heap.size ≤ k → k < w'.heap.size → W.heap[k]? = w'.heap[k]?
theorem Xc.refl (w w' : World) : Xc w w' w' := ⟨Nat.le_refl _, fun _ _ _ => rfl⟩
theorem Xc.inner {w w1 w2 w3 W : World} (h : Xc w w3 W) (h1 : w.heap.size ≤ w1.heap.size) (h2 : Below w2.heap.size w2 w3) : Xc w1 w2 W :=
 ⟨Nat.le_trans h2.size h.1, fun k hk hl => (h.2 k (Nat.le_trans h1 hk) (Nat.lt_of_lt_of_le hl h2.size)).trans (h2.block k hl)⟩
theorem Xc.blk {w w' W : World} (h : Xc w w' W) {B : Nat} {o : Obj} (hB : w.heap.size ≤ B) (ho : w'.heap[B]? = some o) : W.heap[B]? = some o := by
 rw [h.2 B hB (Array.getElem?_eq_some_iff.1 ho).1]
 exact ho
theorem Xc.on {w w' W W' : World} (h : Xc w w' W) (hb : Below W.heap.size W W') : Xc w w' W' :=
 ⟨Nat.le_trans h.1 hb.size, fun k hk hl => (hb.block k (Nat.lt_of_lt_of_le hl h.1)).trans (h.2 k hk hl)⟩
def Zk (E : World → Prop) (w : World) (f : Phi) (e : Ending) (w' : World) : Prop := ∃ fid caps, e = .returned (.func (.func fid) #[] caps) ∧ Xb f ∧ (∀ W, Xc w w' W → E W → Jp W fid caps f) ∧ Below w.heap.size w w'
def Any1 : World → Prop := fun _ => True
theorem Zk.weak {E E' : World → Prop} {w : World} {f : Phi} {e : Ending} {w' : World} (h : Zk E w f e w') (hE : ∀ W, E' W → E W) : Zk E' w f e w' := by
 obtain ⟨fid, caps, h1, hk, h2, h3⟩ := h
 exact ⟨fid, caps, h1, hk, fun W hf he => h2 W hf (hE W he), h3⟩
theorem Ct.makes {fid : FuncId} {f : Phi} (h : Ct fid #[] f) (E : World → Prop) {w w' : World} (hb : Below w.heap.size w w') : Zk E w f (.returned (.func (.func fid) #[] #[])) w' := ⟨fid, #[], rfl, h.keeps, fun W _ _ => ⟨h.plain, h.keeps, fun w0 w s cv tv gv n hh _ hm hR => h.runs w0 w s cv tv gv n hh hm hR⟩, hb⟩
theorem Ct.q02 {fid : FuncId} {f : Phi} (h : Ct fid #[] f) (W : World) : Jp W fid #[] f := ⟨h.plain, h.keeps, fun w0 w s cv tv gv n hh _ hm hR => h.runs w0 w s cv tv gv n hh hm hR⟩
set_option maxHeartbeats 2000000 in
theorem by_m (fid : FuncId) (k : Int) (f : Phi) (h : Ct fid #[.int .i64 k] f) (E : World → Prop) (w : World) : Calls Tryz.prog 90 #[.func (.func fid) #[] #[], .int .i64 k] w (Zk E w f) := by
 have hkb : Below w.heap.size w ((w.alloc (.cells #[.func (.func fid) #[] #[]] 128)).alloc (.cells #[.int .i64 k] 3)) := (((Below.refl _ _).alloc (by simp) _).alloc (by simp) _)
 have hx0 : ((w.alloc (.cells #[.func (.func fid) #[] #[]] 128)).alloc (.cells #[.int .i64 k] 3)).heap[w.heap.size]? = _ := (Below.heap_alloc _ _ _ (by simp)).trans (heap_alloc_new w (.cells #[.func (.func fid) #[] #[]] 128))
 have hx1 := heap_alloc2_new w (.cells #[.func (.func fid) #[] #[]] 128) (.cells #[.int .i64 k] 3)
 have HS : Hid (∀ W, Xc w ((w.alloc (.cells #[.func (.func fid) #[] #[]] 128)).alloc (.cells #[.int .i64 k] 3)) W → E W → Jp W _ _ f) := fun W hf _ => qxx fid k f h W w.heap.size (w.heap.size + 1) (Zl (hf.blk (Nat.le_refl _) hx0)) (Zl (hf.blk (Nat.le_succ _) hx1))
 have HKB : Hid _ := hkb
 have HK : Hid _ := h.keeps
 clear hkb hx0 hx1 h
 go_enter Tryz.func90, Tryz.ntmps90
 go_wp2_with fail
 go_ret
 exact ⟨_, _, rfl, HK.out, HS.out, HKB.out⟩
set_option maxHeartbeats 2000000 in
theorem qff (l : List Int) (p : Option Addr) (c : Nat) (w : World) (hn : l.length ≤ 1000000) : Calls Tryz.prog 34 #[.slice p l.length c] w (Zk (fun W => I32V W (.slice p l.length c) l) w (Zy l)) := by
 have hkb : Below w.heap.size w (w.alloc (.cells #[.slice p l.length c] 79)) := (Below.refl _ _).alloc (by simp) _
 have hx0 := heap_alloc_new w (.cells #[.slice p l.length c] 79)
 have HS : Hid (∀ W, Xc w (w.alloc (.cells #[.slice p l.length c] 79)) W → I32V W (.slice p l.length c) l → Jp W _ _ (Zy l)) := fun W hf hE => qfq l W w.heap.size _ (Zl (hf.blk (Nat.le_refl _) hx0)) hE hn
 have HKB : Hid _ := hkb
 clear hkb hx0
 go_enter Tryz.func34, Tryz.ntmps34
 go_wp2_with fail
 go_ret
 exact ⟨_, _, rfl, Ug l, HS.out, HKB.out⟩
set_option maxHeartbeats 2000000 in
theorem qlr (fs : List Phi) (hk : ∀ f, f ∈ fs → Xb f) (p : Option Addr) (c : Nat) (w : World) (hn : fs.length ≤ 1000000) : Calls Tryz.prog 12 #[.slice p fs.length c] w (Zk (fun W => Y3 W (.slice p fs.length c) fs) w (Qt fs)) := by
 have hkb : Below w.heap.size w (w.alloc (.cells #[.slice p fs.length c] 53)) := (Below.refl _ _).alloc (by simp) _
 have hx0 := heap_alloc_new w (.cells #[.slice p fs.length c] 53)
 have HS : Hid (∀ W, Xc w (w.alloc (.cells #[.slice p fs.length c] 53)) W → Y3 W (.slice p fs.length c) fs → Jp W _ _ (Qt fs)) := fun W hf hE => qth fs hk W w.heap.size _ (Zl (hf.blk (Nat.le_refl _) hx0)) hE hn
 have HKB : Hid _ := hkb
 have HK : Hid _ := Jo hk
 clear hkb hx0
 go_enter Tryz.func12, Tryz.ntmps12
 go_wp2_with fail
 go_ret
 exact ⟨_, _, rfl, HK.out, HS.out, HKB.out⟩
theorem qpy {W : World} {b c : Nat} {x y : Value} {t : TypeId} {f g : Phi} (h : W.heap[b]? = some (.cells #[x, y] t (0, 0))) (hx : Step W x f) (hy : Step W y g) : Y3 W (.slice (some ⟨b, 0, none⟩) 2 c) [f, g] := by
 refine .inr ⟨b, 0, c, rfl, fun j hj => ?_⟩
 have h2 : j < 2 := hj
 have hc := Prs.cells_of_block (W := W) (g := b) (L := [x, y]) (t := t) h
 match j, h2 with
 | 0, _ => exact ⟨x, hc 0 x rfl, hx⟩
 | 1, _ => exact ⟨y, hc 1 y rfl, hy⟩
theorem qpz {f g : Phi} {E : World → Prop} (hkf : Xb f) (gid : FuncId) (hg : Ct gid #[] g) (fid : FuncId) (caps : Array Value) (w w1 w2 : World) (h1 : ∀ W, Xc w w1 W → E W → Jp W fid caps f) (hb1 : Below w.heap.size w w1) (hw2 : w2 = w1.alloc (.cells #[.func (.func fid) #[] caps, .func (.func gid) #[] #[]] 51)) : Calls Tryz.prog 12 #[.slice (some ⟨w1.heap.size, 0, none⟩) 2 2] w2 (Zk E w (Qt [f, g])) := by
 have hb2 : Below w1.heap.size w1 w2 := by
  rw [hw2]
  exact (Below.refl _ _).alloc (Nat.le_refl _) _
 have hx : w2.heap[w1.heap.size]? = some (.cells #[.func (.func fid) #[] caps, .func (.func gid) #[] #[]] 51 (0, 0)) := by
  rw [hw2]
  exact heap_alloc_new _ _
 refine (qlr [f, g] (fun z hz => by
  rcases List.mem_cons.1 hz with rfl | hz
  ·exact hkf
  ·rw [List.mem_singleton.1 hz]
   exact hg.keeps) (some ⟨w1.heap.size, 0, none⟩) 2 w2 (by show 2 ≤ 1000000; omega)).mono ?_
 rintro e w3 ⟨fid3, caps3, rfl, hk, h3, hb3⟩
 refine ⟨fid3, caps3, rfl, hk, fun W hf hE => ?_, hb1.trans ((hb2.trans (hb3.mono hb2.size)).mono hb1.size)⟩
 refine h3 W (hf.inner (Nat.le_trans hb1.size hb2.size) (Below.refl _ _)) (qpy (hf.blk hb1.size (Grd.carry hx hb3)) ⟨_, _, rfl, h1 W (hf.inner (Nat.le_refl _) (hb2.trans (hb3.mono hb2.size))) hE⟩ ⟨_, _, rfl, hg.q02 W⟩)
set_option maxHeartbeats 4000000 in
theorem Ud (r : Int) (w : World) : Calls Tryz.prog 58 #[.int .i32 r] w (Zk Any1 w (Yt r)) := by
 by_cases h8 : r = 8
 ·subst h8
  have HB := by_m 89 1 (qjc 1) (qq6 1) Any1 w
  go_enter Tryz.func58, Tryz.ntmps58
  go_wp2_with fail
  refine HB.mono ?_
  rintro e W ⟨fid, caps, rfl, hF⟩
  have HF : Hid _ := hF
  clear hF HB
  go_wp2_with fail
  go_ret
  exact ⟨_, _, rfl, HF.out⟩
 by_cases h9 : r = 9
 ·subst h9
  have HB := by_m 91 1 (qrt 1) (qwg 1) Any1 w
  go_enter Tryz.func58, Tryz.ntmps58
  go_wp2_with fail
  refine HB.mono ?_
  rintro e W ⟨fid, caps, rfl, hF⟩
  have HF : Hid _ := hF
  clear hF HB
  go_wp2_with fail
  go_ret
  exact ⟨_, _, rfl, HF.out⟩
 by_cases h10 : r = 10 ∨ r = 11 ∨ r = 12
 ·have e : Yt r = qd1 := by
   unfold Yt
   rw [if_neg h8, if_neg h9, if_pos h10]
  rw [e]
  clear e
  rcases h10 with rfl | rfl | rfl
  all_goals
   go_enter Tryz.func58, Tryz.ntmps58
   go_wp2_with fail
   go_ret
   exact qdr.makes _ (Below.refl _ _)
 by_cases h13 : r = 13
 ·subst h13
  go_enter Tryz.func58, Tryz.ntmps58
  go_wp2_with fail
  go_ret
  exact Vo.makes _ (Below.refl _ _)
 ·have e : Yt r = phId := by
   unfold Yt
   rw [if_neg h8, if_neg h9, if_neg h10, if_neg h13]
  rw [e]
  clear e
  have g10 : r ≠ 10 := fun e => h10 (.inl e)
  have g11 : r ≠ 11 := fun e => h10 (.inr (.inl e))
  have g12 : r ≠ 12 := fun e => h10 (.inr (.inr e))
  clear h10
  go_enter Tryz.func58, Tryz.ntmps58
  go_wp2_with fail
  go_ret
  exact Yy.makes _ (Below.refl _ _)
set_option maxHeartbeats 4000000 in
theorem qpd (r : Int) (w : World) : Calls Tryz.prog 59 #[.int .u8 r] w (Zk Any1 w (Gq r)) := by
 by_cases h55 : r = 55
 ·subst h55
  go_enter Tryz.func59, Tryz.ntmps59
  go_wp2_with fail
  go_ret
  exact qka.makes _ (Below.refl _ _)
 by_cases h56 : r = 56
 ·subst h56
  go_enter Tryz.func59, Tryz.ntmps59
  go_wp2_with fail
  go_ret
  exact qk5.makes _ (Below.refl _ _)
 by_cases h68 : r = 68
 ·subst h68
  go_enter Tryz.func59, Tryz.ntmps59
  go_wp2_with fail
  go_ret
  exact qdr.makes _ (Below.refl _ _)
 by_cases h69 : r = 69
 ·subst h69
  have HA := qpz (f := Ku) (g := qd1) (E := Any1) Vo.keeps 92 qdr 93 #[] w w _ (fun W _ _ => Vo.q02 W) (Below.refl _ _) rfl
  go_enter Tryz.func59, Tryz.ntmps59
  go_wp2_with fail
  refine HA.mono ?_
  rintro e W ⟨fid, caps, rfl, hF⟩
  have HF : Hid _ := hF
  clear hF HA
  go_wp2_with fail
  go_ret
  exact ⟨_, _, rfl, HF.out⟩
 by_cases h72 : r = 72
 ·subst h72
  go_enter Tryz.func59, Tryz.ntmps59
  go_wp2_with fail
  go_ret
  exact qnq.makes _ (Below.refl _ _)
 by_cases h77 : r = 77
 ·subst h77
  go_enter Tryz.func59, Tryz.ntmps59
  go_wp2_with fail
  go_ret
  exact qxr.makes _ (Below.refl _ _)
 by_cases h99 : r = 99
 ·subst h99
  go_enter Tryz.func59, Tryz.ntmps59
  go_wp2_with fail
  go_ret
  exact qjw.makes _ (Below.refl _ _)
 ·have e : Gq r = phId := by
   unfold Gq
   rw [if_neg h55, if_neg h56, if_neg h68, if_neg h69, if_neg h72, if_neg h77, if_neg h99]
  rw [e]
  clear e
  go_enter Tryz.func59, Tryz.ntmps59
  go_wp2_with fail
  go_ret
  exact Yy.makes _ (Below.refl _ _)
set_option maxHeartbeats 4000000 in
theorem qqf (t : ByteArray) (ht : t.size ≤ 1048576) (w : World) : Calls Tryz.prog 61 #[.string t] w (Zk Any1 w (Y6 t)) := by
 have HC := qzx t ht w
 have hts := qwo t
 have HN : Hid (∀ W, (((cutN t).toList ≠ [48] ∧ (cutN t).toList ≠ [50]) ∨ (cutT t).toList = []) → Below w.heap.size w W → Zk Any1 w (Y6 t) (.returned (.func (.func 32) #[] #[])) W) := fun W hc hb => by
  unfold Y6
  rw [if_pos hc]
  exact Yy.makes _ hb
 have HY : Hid (∀ W, ¬ (((cutN t).toList ≠ [48] ∧ (cutN t).toList ≠ [50]) ∨ (cutT t).toList = []) → Below w.heap.size w W → Zk Any1 w (Y6 t) (.returned (.func (.func 105) #[] #[.pointer (some ⟨W.heap.size, 0, none⟩)])) (W.alloc (.cells #[.string (cutT t)] 9))) := fun W hc hb => by
  unfold Y6
  rw [if_neg hc]
  exact ⟨_, _, rfl, (qp4 (cutT t) (by omega)).keeps, fun X hf _ => qj0 (cutT t) (by omega) X W.heap.size (Zl (hf.blk hb.size (heap_alloc_new W (.cells #[.string (cutT t)] 9)))), hb.alloc hb.size _⟩
 clear hts
 generalize cutN t = nn at *
 generalize cutT t = tt at *
 generalize Y6 t = ph at *
 go_enter Tryz.func61, Tryz.ntmps61
 go_wp2_with fail
 refine HC.mono ?_
 rintro e W ⟨f, rfl, hb⟩
 have HB : Hid (Below w.heap.size w W) := hb
 clear HC hb
 go_wp2_with fail
 all_goals go_ret
 all_goals (first | refine HN.out _ ?_ (HB.out.alloc HB.out.size _) | refine HY.out W ?_ HB.out)
 all_goals simp_all
end Put
theorem Xl {P : Program} {md : Region.Mode} {l : List Oper} {Q : Exit → Act → World → Prop} {S : World → Prop} {i : Nat} {oi : Oper} {rest : List Oper} {v : Value} {fuel : Nat} {listed : Array Bool} {a : Act} {w : World} (hi : l.drop i = oi :: rest)
  (hs : Region.noSelect l.toArray = true) (hf : Region.free md l.toArray listed i = true) (hr : (Region.ready md l.toArray listed).contains i = true)
  (hQ : ∀ c a w, Q (.panic c) (a.put oi.dst v) w → Q (.panic c) a w) (hy : YieldsIf P l.toArray S oi v a) (hS : S w)
  (h : wpAnyH P md l.toArray Q S fuel (listed.setIfInBounds i true) (a.put oi.dst v) w) : wpAnyH P md l.toArray Q S (fuel + 1) listed a w :=
 wpAnyH_take (by
  have h1 : l[i]? = some oi := by rw [← List.head?_drop, hi]; rfl
  simpa using h1) hs hf hr hQ hy hS h
theorem Jr {P : Program} {md : Region.Mode} {l : List Oper} {Q : Exit → Act → World → Prop} {S : World → Prop} {fuel : Nat} {listed : Array Bool} {a : Act} {w : World} {i : Nat} {o : Oper} {rest : List Oper} {rs : List Nat} (hi : l.drop i = o :: rest)
  (h : ∀ K' : Act → World → Prop, Shut (∀ a w, S w → (S w → wpAnyH P md l.toArray Q S fuel (listed.setIfInBounds i true) a w) → K' a w) → if Region.wanted o (yielded l.toArray a.tmps) = true then Oper.wp P o a w K' Q else K' (a.put o.dst undef) w)
  (hs : AllReadyH P md l.toArray Q S fuel listed a w rs) : AllReadyH P md l.toArray Q S fuel listed a w (i :: rs) :=
 AllReadyH.cons (by
  have h1 : l[i]? = some o := by rw [← List.head?_drop, hi]; rfl
  simpa using h1) h hs
namespace Put
open Grd (C SliceAt Qb Qf z0 Qx flat Qe)
open Prs (Qz)
theorem ql9 : Plain 213 := fun _ _ => by kernel_rfl
section
attribute [local go_sem ↓] Jc Jj
attribute [local go_sem] Gj Xw X0
set_option maxHeartbeats 8000000 in
theorem qp6 (fid : FuncId) (ps : List Int) (d : Int) (p : Option Addr) (pc : Nat) (f : Phi) (h : Ct fid #[.int .i64 (par ps 0 d), .int .i64 (par ps 1 d)] f) (W : World) (B1 B2 B3 : Nat) (h1 : W.cell? ⟨B1, 0, none⟩ = some (.func (.func fid) #[] #[])) (h2 : W.cell? ⟨B2, 0, none⟩ = some (.slice p ps.length pc)) (h3 : W.cell? ⟨B3, 0, none⟩ = some (.int .i64 d)) (hI : Qz W (.slice p ps.length pc) ps) : Jp W 213 #[.pointer (some ⟨B1, 0, none⟩), .pointer (some ⟨B2, 0, none⟩), .pointer (some ⟨B3, 0, none⟩)] f := by
 refine ⟨ql9, h.keeps, fun w0 w s cv tv gv n hh hw hm hR => ?_⟩
 obtain ⟨ca, cc, rfl⟩ := hm.m.v.c.shape
 obtain ⟨ta, tc, rfl⟩ := hm.m.v.t.slice
 obtain ⟨ga, gc, rfl⟩ := hm.m.v.g.slice
 have hkb : Below w.heap.size w ((w.alloc (.cells (scS s ca cc ta tc ga gc) 32)).alloc (.cells zA 32)) := (((Below.refl _ _).alloc (by simp) _).alloc (by simp) _)
 have hx0 : ((w.alloc (.cells (scS s ca cc ta tc ga gc) 32)).alloc (.cells zA 32)).heap[w.heap.size]? = _ := (Below.heap_alloc _ _ _ (by simp)).trans (heap_alloc_new w (.cells (scS s ca cc ta tc ga gc) 32))
 have hx1 : ((w.alloc (.cells (scS s ca cc ta tc ga gc) 32)).alloc (.cells zA 32)).heap[w.heap.size + 1]? = _ := heap_alloc2_new w (.cells (scS s ca cc ta tc ga gc) 32) (.cells zA 32)
 have HX0 : Hid _ := hx0
 have HX1 : Hid _ := hx1
 have HKB : Hid _ := hkb
 have HQ : Hid (∀ V, Below w.heap.size w V → V.cell? ⟨B1, 0, none⟩ = some (.func (.func fid) #[] #[]) ∧ V.cell? ⟨B2, 0, none⟩ = some (.slice p ps.length pc) ∧ V.cell? ⟨B3, 0, none⟩ = some (.int .i64 d)) := fun V hV => ⟨Qa (hw.trans (hV.mono hw.size)) h1, Qa (hw.trans (hV.mono hw.size)) h2, Qa (hw.trans (hV.mono hw.size)) h3⟩
 have HP0 : Hid (∀ V, Below w.heap.size w V → Calls Tryz.prog 101 #[.slice p ps.length pc, .int .i64 0, .int .i64 d] V fun e w' => e = .returned (.int .i64 (par ps 0 d)) ∧ V = w') := fun V hV => Vk ps p pc 0 d V (hI.next (hw.trans (hV.mono hw.size)))
 have HP1 : Hid (∀ V, Below w.heap.size w V → Calls Tryz.prog 101 #[.slice p ps.length pc, .int .i64 1, .int .i64 d] V fun e w' => e = .returned (.int .i64 (par ps 1 d)) ∧ V = w') := fun V hV => Vk ps p pc 1 d V (hI.next (hw.trans (hV.mono hw.size)))
 have HC : Hid (∀ V, Below w.heap.size w V → Calls Tryz.prog fid (#[.agg (scS s ca cc ta tc ga gc)] ++ #[.int .i64 (par ps 0 d), .int .i64 (par ps 1 d)]) V (Made w0 V (f n hh s) 0)) := fun V hV => h.runs w0 V s _ _ _ n hh (hm.next hV) hR
 have hpl := h.plain
 unfold Plain at hpl
 clear hkb hw hm hx0 hx1 hR h h1 h2 h3 hI
 generalize f n hh s = s' at *
 generalize par ps 0 d = x0 at *
 generalize par ps 1 d = x1 at *
 generalize ps.length = K0 at *
 go_enter Tryz.func213, Tryz.ntmps213
 go_upto_region 1 with fail
 generalize ((w.alloc (.cells (scS s ca cc ta tc ga gc) 32)).alloc (.cells zA 32)) = X at *
 have SK : Hid (∀ w', Below X.heap.size X w' → (fun w' => Below w.heap.size w w' ∧ Zg w' (.pointer (some ⟨w.heap.size, 0, none⟩)) ∧ Z5 w' (.pointer (some ⟨w.heap.size, 0, none⟩)) = (scS s ca cc ta tc ga gc) ∧ Zc w' (.pointer (some ⟨w.heap.size + 1, 0, none⟩))) w') := fun w' hb => by
  have h0 := Grd.carry HX0.out hb
  exact ⟨HKB.out.trans (hb.mono HKB.out.size), (Qu h0).1, (Qu h0).2, Za (Grd.carry HX1.out hb) rfl⟩
 have b0 : Below X.heap.size X X.drew := (Below.refl _ _).drew
 refine wp_region_held_drew (S := (fun w' => Below w.heap.size w w' ∧ Zg w' (.pointer (some ⟨w.heap.size, 0, none⟩)) ∧ Z5 w' (.pointer (some ⟨w.heap.size, 0, none⟩)) = (scS s ca cc ta tc ga gc) ∧ Zc w' (.pointer (some ⟨w.heap.size + 1, 0, none⟩)))) (by kernel_rfl) (SK.out _ b0) (fun hHeld => ?_)
 generalize X.drew = Z0 at *
 refine Xl (i := 0) (v := ?_) rfl (by kernel_rfl) (by kernel_rfl) (by kernel_rfl) (fun _ _ _ h => h) (Or.inl ⟨by rfl, ?_⟩) hHeld ?_
 rotate_left
 ·intro w' hSw
  obtain ⟨y0, y1, y2, y3⟩ := hSw
  obtain ⟨z1, z2, z3⟩ := HQ.out w' y0
  go_simp
  (try with_reducible rfl)
 (try simp only [Act.put, List.setIfInBounds_toArray, List.set_cons_zero, List.set_cons_succ])
 refine Xl (i := 1) (v := .agg (scS s ca cc ta tc ga gc)) rfl (by kernel_rfl) (by kernel_rfl) (by kernel_rfl) (fun _ _ _ h => h) (Or.inl ⟨by rfl, ?_⟩) hHeld ?_
 ·intro w' hSw
  obtain ⟨y0, y1, y2, y3⟩ := hSw
  refine (Jc _ _ _ _ _ _ _ w' ?_).trans ?_
  ·exact y1
  ·exact congrArg (fun z => Result.ok (Next.value (.agg z)) w') y2
 (try simp only [Act.put, List.setIfInBounds_toArray, List.set_cons_zero, List.set_cons_succ])
 refine Xl (i := 2) (v := ?_) rfl (by kernel_rfl) (by kernel_rfl) (by kernel_rfl) (fun _ _ _ h => h) (Or.inl ⟨by rfl, ?_⟩) hHeld ?_
 rotate_left
 ·intro w' hSw
  obtain ⟨y0, y1, y2, y3⟩ := hSw
  obtain ⟨z1, z2, z3⟩ := HQ.out w' y0
  go_simp
  (try with_reducible rfl)
 (try simp only [Act.put, List.setIfInBounds_toArray, List.set_cons_zero, List.set_cons_succ])
 refine Xl (i := 3) (v := ?_) rfl (by kernel_rfl) (by kernel_rfl) (by kernel_rfl) (fun _ _ _ h => h) (Or.inl ⟨by rfl, ?_⟩) hHeld ?_
 rotate_left
 ·intro w' hSw
  obtain ⟨y0, y1, y2, y3⟩ := hSw
  obtain ⟨z1, z2, z3⟩ := HQ.out w' y0
  go_simp
  (try with_reducible rfl)
 (try simp only [Act.put, List.setIfInBounds_toArray, List.set_cons_zero, List.set_cons_succ])
 refine Xl (i := 5) (v := ?_) rfl (by kernel_rfl) (by kernel_rfl) (by kernel_rfl) (fun _ _ _ h => h) (Or.inl ⟨by rfl, ?_⟩) hHeld ?_
 rotate_left
 ·intro w' hSw
  obtain ⟨y0, y1, y2, y3⟩ := hSw
  obtain ⟨z1, z2, z3⟩ := HQ.out w' y0
  go_simp
  (try with_reducible rfl)
 (try simp only [Act.put, List.setIfInBounds_toArray, List.set_cons_zero, List.set_cons_succ])
 refine Xl (i := 6) (v := ?_) rfl (by kernel_rfl) (by kernel_rfl) (by kernel_rfl) (fun _ _ _ h => h) (Or.inl ⟨by rfl, ?_⟩) hHeld ?_
 rotate_left
 ·intro w' hSw
  obtain ⟨y0, y1, y2, y3⟩ := hSw
  obtain ⟨z1, z2, z3⟩ := HQ.out w' y0
  go_simp
  (try with_reducible rfl)
 (try simp only [Act.put, List.setIfInBounds_toArray, List.set_cons_zero, List.set_cons_succ])
 refine wpAnyH_ready (rs := [4]) (by kernel_rfl) (by simp) ?_
 refine Jr rfl (fun K hK => ?_) <| AllReadyH.nil
 ·go_simp
  refine (HP0.out _ (SK.out _ b0).1).mono ?_
  rintro e V ⟨rfl, rfl⟩
  go_wp2_with fail
  refine hK.out _ _ (SK.out _ b0) (fun hHeld => ?_)
  clear hK K
  (try simp only [Act.put, List.setIfInBounds_toArray, List.set_cons_zero, List.set_cons_succ])
  refine wpAnyH_ready (rs := [7]) (by kernel_rfl) (by simp) ?_
  refine Jr rfl (fun K hK => ?_) <| AllReadyH.nil
  ·go_simp
   refine (HP1.out _ (SK.out _ b0).1).mono ?_
   rintro e V ⟨rfl, rfl⟩
   go_wp2_with fail
   refine hK.out _ _ (SK.out _ b0) (fun hHeld => ?_)
   clear hK K
   (try simp only [Act.put, List.setIfInBounds_toArray, List.set_cons_zero, List.set_cons_succ])
   refine wpAnyH_ready (rs := [8]) (by kernel_rfl) (by simp) ?_
   refine Jr rfl (fun K hK => ?_) <| AllReadyH.nil
   ·go_simp
    refine (HC.out _ (SK.out _ b0).1).mono ?_
    rintro e V ⟨cv', tv', gv', rfl, hO, c2⟩
    obtain ⟨a1, n1, c1, a2, n2, c2', a3, n3, c3, rfl, rfl, rfl⟩ := hO.shapes
    have b2 := b0.trans (c2.mono b0.size)
    have HO : Hid (Qo V 0 _ s' _ _ _) := hO
    have HR : Hid (V.heap[w.heap.size + 1]? = _) := Grd.carry HX1.out b2
    have KF : Hid _ := qsa (s' := s') (cv' := .slice a1 n1 c1) (tv' := .slice a2 n2 c2') (gv' := .slice a3 n3 c3) (SK.out _ b2).1 (Grd.carry HX0.out b2) HR.out
    have sp0 := Za HR.out rfl
    have hle := (SK.out _ b0).1.size
    clear c2 hO
    go_wp2_with fail
    refine hK.out _ _ (SK.out _ b2) (fun hHeld => ?_)
    clear hK K
    (try simp only [Act.put, List.setIfInBounds_toArray, List.set_cons_zero, List.set_cons_succ])
    refine Xl (i := 9) (v := ?_) rfl (by kernel_rfl) (by kernel_rfl) (by kernel_rfl) (fun _ _ _ h => h) (Or.inl ⟨by rfl, ?_⟩) hHeld ?_
    rotate_left
    ·intro w' hSw
     obtain ⟨y0, y1, y2, y3⟩ := hSw
     obtain ⟨z1, z2, z3⟩ := HQ.out w' y0
     go_simp
     (try with_reducible rfl)
    (try simp only [Act.put, List.setIfInBounds_toArray, List.set_cons_zero, List.set_cons_succ])
    refine Xl (i := 10) (v := ?_) rfl (by kernel_rfl) (by kernel_rfl) (by kernel_rfl) (fun _ _ _ h => h) (Or.inl ⟨by rfl, ?_⟩) hHeld ?_
    rotate_left
    ·intro w' hSw
     obtain ⟨y0, y1, y2, y3⟩ := hSw
     obtain ⟨z1, z2, z3⟩ := HQ.out w' y0
     go_simp
     (try with_reducible rfl)
    (try simp only [Act.put, List.setIfInBounds_toArray, List.set_cons_zero, List.set_cons_succ])
    refine wpAnyH_ready (rs := [11]) (by kernel_rfl) (by simp) ?_
    refine Jr rfl (fun K hK => ?_) <| AllReadyH.nil
    ·rw [if_pos (by rfl)]
     refine wp_store_row 32 (.tmp 5) (.tmp 16) rfl (w.heap.size + 1) (scT s' a1 n1 c1 a2 n2 c2' a3 n3 c3) rfl rfl _ _ HR.out (by kernel_rfl) rfl (Qn _ _ _ _ _ _ _ _ _ _) ?_
     refine hK.out _ _ KF.out (fun hHeld => ?_)
     clear hK K
     (try simp only [Act.put, List.setIfInBounds_toArray, List.set_cons_zero, List.set_cons_succ])
     refine Xl (i := 12) (v := ?_) rfl (by kernel_rfl) (by kernel_rfl) (by kernel_rfl) (fun _ _ _ h => h) (Or.inl ⟨by rfl, ?_⟩) hHeld ?_
     rotate_left
     ·intro w' hSw
      obtain ⟨y0, y1, y2, y3⟩ := hSw
      obtain ⟨z1, z2, z3⟩ := HQ.out w' y0
      go_simp
      (try with_reducible rfl)
     (try simp only [Act.put, List.setIfInBounds_toArray, List.set_cons_zero, List.set_cons_succ])
     refine wpAnyH_done (by kernel_rfl) ?_ _
     go_wp2_with fail
     (try simp only [Exit.inBlock, Exit.then])
     refine bodyPost_ret (v := .tuple #[.agg (scT s' a1 n1 c1 a2 n2 c2' a3 n3 c3), .int .i64 0]) ?_ rfl ⟨_, _, _, rfl, ?_, KF.out.1⟩
     ·exact Grd.Qd rfl _ _ (w.heap.size + 1) _ _ _ _ rfl (setRow_heap _ _ _ _ _ _ HR.out) Tryz.underlying32 rfl (by kernel_rfl) _ rfl
     ·exact (Qo.off HO.out HR.out Ql (Nat.zero_le _) fun k hk => setRow_other _ _ _ _ hk).mono hle
end
set_option maxHeartbeats 2000000 in
theorem qns (fid : FuncId) (ps : List Int) (d : Int) (p : Option Addr) (pc : Nat) (f : Phi) (h : Ct fid #[.int .i64 (par ps 0 d), .int .i64 (par ps 1 d)] f) (w : World) : Calls Tryz.prog 164 #[.func (.func fid) #[] #[], .slice p ps.length pc, .int .i64 d] w (Zk (fun W => Qz W (.slice p ps.length pc) ps) w f) := by
 have hkb : Below w.heap.size w (((w.alloc (.cells #[.func (.func fid) #[] #[]] 165)).alloc (.cells #[.slice p ps.length pc] 33)).alloc (.cells #[.int .i64 d] 3)) := ((((Below.refl _ _).alloc (by first | (simp; done) | (simp; omega)) _).alloc (by first | (simp; done) | (simp; omega)) _).alloc (by first | (simp; done) | (simp; omega)) _)
 have hk1 : Below w.heap.size w ((w.alloc (.cells #[.func (.func fid) #[] #[]] 165)).alloc (.cells #[.slice p ps.length pc] 33)) := (((Below.refl _ _).alloc (by first | (simp; done) | (simp; omega)) _).alloc (by first | (simp; done) | (simp; omega)) _)
 have hx0 : (((w.alloc (.cells #[.func (.func fid) #[] #[]] 165)).alloc (.cells #[.slice p ps.length pc] 33)).alloc (.cells #[.int .i64 d] 3)).heap[w.heap.size]? = _ := (Below.heap_alloc _ _ _ (by first | (simp; done) | (simp; omega))).trans ((Below.heap_alloc _ _ _ (by first | (simp; done) | (simp; omega))).trans (heap_alloc_new w (.cells #[.func (.func fid) #[] #[]] 165)))
 have hx1 : (((w.alloc (.cells #[.func (.func fid) #[] #[]] 165)).alloc (.cells #[.slice p ps.length pc] 33)).alloc (.cells #[.int .i64 d] 3)).heap[w.heap.size + 1]? = _ := (Below.heap_alloc _ _ _ (by first | (simp; done) | (simp; omega))).trans (heap_alloc2_new w (.cells #[.func (.func fid) #[] #[]] 165) (.cells #[.slice p ps.length pc] 33))
 have hx2 := heap_alloc2_new (w.alloc (.cells #[.func (.func fid) #[] #[]] 165)) (.cells #[.slice p ps.length pc] 33) (.cells #[.int .i64 d] 3)
 have e2 : (w.alloc (.cells #[.func (.func fid) #[] #[]] 165)).heap.size + 1 = w.heap.size + 1 + 1 := by simp
 rw [e2] at hx2
 have HS : Hid (∀ W, Xc w (((w.alloc (.cells #[.func (.func fid) #[] #[]] 165)).alloc (.cells #[.slice p ps.length pc] 33)).alloc (.cells #[.int .i64 d] 3)) W → Qz W (.slice p ps.length pc) ps → Jp W _ _ f) := fun W hf hE => qp6 fid ps d p pc f h W w.heap.size (w.heap.size + 1) (w.heap.size + 1 + 1) (Zl (hf.blk (Nat.le_refl _) hx0)) (Zl (hf.blk (Nat.le_succ _) hx1)) (Zl (hf.blk (Nat.le_succ_of_le (Nat.le_succ _)) hx2)) hE
 have HK : Hid _ := h.keeps
 have HKB : Hid _ := hkb
 clear hkb hk1 hx0 hx1 hx2 h e2
 go_enter Tryz.func164, Tryz.ntmps164
 go_wp2_with fail
 go_ret
 exact ⟨_, _, rfl, HK.out, HS.out, HKB.out⟩
end Put
namespace Prs
theorem qdf {P : Program} {fn : Func} {p u v : Tmp} {ty : TypeId} (h : fn.results = #[.cell p ty, .tmp u, .tmp v]) (tmps : Array Value) (w : World) (g : Nat) (t : TypeId) (cs : Array Value) (fr : Nat × Nat) (d : TypeDesc)
  (hp : tmps.getD p undef = .pointer (some ⟨g, 0, none⟩)) (hg : w.heap[g]? = some (.cells cs t fr))
  (hu : P.underlying ty = some d) (hd : (match d with | .struct _ | .array _ _ => true | _ => false) = true) (hi : (P.info? ty).map (·.size) = some cs.size) (x y : Value) (hx : tmps.getD u undef = x) (hy : tmps.getD v undef = y) :
  (results fn tmps).run P w = .ok (.tuple #[.agg cs, x, y]) w := by
 have hp' : tmps[p]?.getD undef = .pointer (some ⟨g, 0, none⟩) := by simpa using hp
 have hx' : tmps[u]?.getD undef = x := by simpa using hx
 have hy' : tmps[v]?.getD undef = y := by simpa using hy
 simp [results, h, hp', hx', hy', asAddr, run_loadVar_row w g t ty cs fr d hg hu hd hi]
theorem set7 (W : World) (g : Nat) (a b c d e f h : Value) : ((((((W.setCell ⟨g, 0, none⟩ a).setCell ⟨g, 1, none⟩ b).setCell ⟨g, 2, none⟩ c).setCell ⟨g, 3, none⟩ d).setCell ⟨g, 4, none⟩ e).setCell ⟨g, 5, none⟩ f).setCell ⟨g, 6, none⟩ h = W.setCells g 0 [a, b, c, d, e, f, h] := rfl
def stV (s : St) (pv : Value) : Value := .agg (sAq s pv)
def EvsV (w : World) (base : Nat) (v : Value) (es : List Ev) : Prop := ∃ eqs : List (Ev × Value), w.ownsRow base 74 7 v es.length (Fu eqs) ∧ eqs.map (·.1) = es ∧ ∀ x, x ∈ eqs → w.ownsRow base 3 1 x.2 x.1.ps.length (ints x.1.ps)
theorem qtj (s : St) (b : ByteArray) (k : Nat) (hk : k < b.size) : feed s (b.data.toList.take (k + 1)) = ((take (feed s (b.data.toList.take k)).1 b[k]).1, (feed s (b.data.toList.take k)).2 ++ (take (feed s (b.data.toList.take k)).1 b[k]).2) := by
 have hl : k < b.data.toList.length := by rw [Array.length_toList]; exact hk
 rw [List.take_succ_eq_append_getElem hl, qva]
 rfl
set_option maxHeartbeats 8000000 in
theorem q0g (s : St) (pv : Value) (b : ByteArray) (w : World) (hT : Tabs w) (hI : Qz w pv s.ps) (hF : Fit s) (hm : s.mid.size ≤ 1000) (ht : s.txt.size ≤ 1000) (hl : s.left.size ≤ 1000) (hb : b.size ≤ 4000)
  (HCK : ∀ W, Below w.heap.size w W → Calls Tryz.prog 27 #[stV s pv] W fun e W' => e = .returned (.bool true) ∧ Below W.heap.size W W') :
  Calls Tryz.prog 11 #[stV s pv, .string b] w fun e w' => ∃ pv' tv', e = .returned (.tuple #[stV (feed s b.data.toList).1 pv', tv', .int .i64 0]) ∧ w'.ownsRow w.heap.size 3 1 pv' (feed s b.data.toList).1.ps.length (ints (feed s b.data.toList).1.ps) ∧ EvsV w' w.heap.size tv' (feed s b.data.toList).2 ∧ Below w.heap.size w w' := by
 unfold stV at HCK ⊢
 have x0 : ((w.alloc (.cells (sAq s pv) 35)).alloc (.cells zSq 35)).heap[w.heap.size]? = some (.cells (sAq s pv) 35 (0, 0)) := qfz _ _ (heap_alloc_new w _)
 have x1 := qjg w (.cells (sAq s pv) 35) (.cells zSq 35)
 have kk := U5 w (.cells (sAq s pv) 35) (.cells zSq 35)
 generalize hW0 : ((w.alloc (.cells (sAq s pv) 35)).alloc (.cells zSq 35)) = W0 at x0 x1 kk
 have HW0 : Hid (_ = W0) := hW0
 have HI : Hid (Qz w pv s.ps) := hI
 have HF : Hid (Fit s) := hF
 have HT : Hid (Tabs w) := hT
 have HK : Hid (∀ W, Below w.heap.size w W → Calls Tryz.prog 27 #[.agg (sAq s pv)] W fun e W' => e = .returned (.bool true) ∧ Below W.heap.size W W') := HCK
 have h16 : s.ps.length ≤ 16 := hF.2.2.2.1
 have hb1 : ¬ (4000 : Int) < (b.size : Int) := by omega
 clear hW0 hI hF hT HCK
 go_enter Tryz.func11, Tryz.ntmps11
 go_wp2_with fail
 rw [HW0.out]
 refine (HK.out _ kk).mono ?_
 rintro e W2 ⟨rfl, b2⟩
 have y0 := stay x0 b2
 have y1 := stay x1 b2
 have k2 := kk.trans (b2.mono kk.size)
 clear x0 x1 kk HW0 b2
 have kT : Below W2.heap.size W2 (W2.alloc (.cells #[.slice none 0 0] 47)) := (Below.refl _ _).alloc (Nat.le_refl _) _
 obtain ⟨c0, c1, c2, c3, c4, c5, c6, cf⟩ := Xv (stay y0 kT)
 have HCP := qow s pv (W2.alloc (.cells #[.slice none 0 0] 47)) (by
  rcases HI.out with h | ⟨b', o', c', hv, hc⟩
  ·exact .inl h
  ·refine .inr ⟨b', o', c', hv, fun j u hj => ?_⟩
   have h1 := hc j u hj
   rw [Addr.add_mid] at h1 ⊢
   exact Qa (k2.trans (kT.mono k2.size)) h1) h16 hm ht hl
 have HTc : Hid (W2.alloc (.cells #[.slice none 0 0] 47) = W2.alloc (.cells #[.slice none 0 0] 47)) := rfl
 have hTn := heap_alloc_new W2 (.cells #[.slice none 0 0] 47)
 have sT : (W2.alloc (.cells #[.slice none 0 0] 47)).heap.size = W2.heap.size + 1 := by simp
 have y1T := stay y1 kT
 clear y0
 go_wp2_with fail
 refine HCP.mono ?_
 rintro e W3 ⟨pv3, rfl, own3, b3⟩
 obtain ⟨pa, pc, rfl⟩ := K9 own3
 have hT3 := stay hTn b3
 have y3 := stay y1T b3
 have k3 : Below W2.heap.size W2 W3 := kT.trans (b3.mono kT.size)
 have HOW : Hid (W3.ownsRow (W2.alloc (.cells #[.slice none 0 0] 47)).heap.size 3 1 (.slice pa s.ps.length pc) s.ps.length (ints s.ps)) := own3
 clear c0 c1 c2 c3 c4 c5 c6 cf HCP own3 hTn y1T
 go_wp2_with (refine wpList_store_row rfl 77 (.tmp 8) _ rfl W3.heap.size #[.int .i64 s.at', .int .u8 s.mark, .string s.mid, .slice pa s.ps.length pc, .string s.txt, .string s.left, .bool s.late, .func (.func 29) #[] #[.pointer (some ⟨W2.heap.size, 0, none⟩)]] rfl rfl _ _ (heap_alloc_new W3 _) (by kernel_rfl) rfl (by simp [Value.oneCell']) ?_
              have hX := setRow_heap (W3.alloc (.cells #[.int .i64 0, .int .u8 0, .string ⟨#[]⟩, .slice none 0 0, .string ⟨#[]⟩, .string ⟨#[]⟩, .bool false, .nilFunc] 77)) W3.heap.size _ #[.int .i64 s.at', .int .u8 s.mark, .string s.mid, .slice pa s.ps.length pc, .string s.txt, .string s.left, .bool s.late, .func (.func 29) #[] #[.pointer (some ⟨W2.heap.size, 0, none⟩)]] _ _ (heap_alloc_new W3 _)
              have kX : Below W3.heap.size W3 ((W3.alloc (.cells #[.int .i64 0, .int .u8 0, .string ⟨#[]⟩, .slice none 0 0, .string ⟨#[]⟩, .string ⟨#[]⟩, .bool false, .nilFunc] 77)).setRow W3.heap.size #[.int .i64 s.at', .int .u8 s.mark, .string s.mid, .slice pa s.ps.length pc, .string s.txt, .string s.left, .bool s.late, .func (.func 29) #[] #[.pointer (some ⟨W2.heap.size, 0, none⟩)]]) := below_setRow ((Below.refl _ _).alloc (Nat.le_refl _) _) (Nat.le_refl _) _
              generalize ((W3.alloc (.cells #[.int .i64 0, .int .u8 0, .string ⟨#[]⟩, .slice none 0 0, .string ⟨#[]⟩, .string ⟨#[]⟩, .bool false, .nilFunc] 77)).setRow W3.heap.size #[.int .i64 s.at', .int .u8 s.mark, .string s.mid, .slice pa s.ps.length pc, .string s.txt, .string s.left, .bool s.late, .func (.func 29) #[] #[.pointer (some ⟨W2.heap.size, 0, none⟩)]]) = X at *)
 have hRd : Rd W2 W3.heap.size W2.heap.size s [] X W2.heap.size (.slice pa s.ps.length pc) (.slice none 0 0) [] := by
  refine ⟨k3.trans (kX.mono k3.size), k3.size, Nat.le_refl _, hX, stay hT3 kX, ?_, World.ownsRow_nil _ _ _ _, rfl, fun x hx => absurd hx (by simp), Nat.le_refl _, Nat.le_trans k3.size kX.size⟩
  refine qg6 (Jd HOW.out fun g hg => ?_) (by omega)
  obtain ⟨A, hA⟩ := Xx HOW.out hg
  exact kX.block g (Xf hA)
 have HR : Hid (Rd W2 W3.heap.size W2.heap.size s [] X W2.heap.size (.slice pa s.ps.length pc) (.slice none 0 0) []) := hRd
 have HT2 : Hid (Tabs W2) := HT.out.next k2
 have HY : Hid (W2.heap[w.heap.size + 1]? = _) := y1
 have hyl := Xf y1
 have HK2 : Hid (Below w.heap.size w W2) := k2
 clear hX kX hT3 y3 k3 HOW hRd b3 kT y1 k2 HTc
 go_loopg [24] b.size (fun q i wr => ∃ k : Nat, i = .int .i64 (k : Int) ∧ k ≤ b.size ∧ b.size - k ≤ q ∧ RdE W2 W3.heap.size W2.heap.size (feed s (b.data.toList.take k)).1 (feed s (b.data.toList.take k)).2 wr ∧ Fit (feed s (b.data.toList.take k)).1 ∧ (feed s (b.data.toList.take k)).2.length + (feed s (b.data.toList.take k)).1.left.size ≤ k + s.left.size)
 case atStart => exact ⟨0, rfl, by omega, by omega, ⟨_, _, _, _, HR.out⟩, HF.out, by simp [feed]⟩
 case round =>
  obtain ⟨k, rfl, hk, hq, hRE, hFit, hlen⟩ := hrel
  by_cases hlt : k < b.size
  ·have lt1 : ((k : Int) < (b.size : Int)) := by omega
   have HN := qtj s b k hlt
   have HTK := qv7 (b[k]) HT2.out hRE (by omega) hFit
   have htot := qm3 (feed s (b.data.toList.take k)).1 b[k]
   have hfit2 := qv6 (feed s (b.data.toList.take k)).1 b[k] hFit
   have HNX : Hid (Fit (feed s (b.data.toList.take (k + 1))).1 ∧ (feed s (b.data.toList.take (k + 1))).2.length + (feed s (b.data.toList.take (k + 1))).1.left.size ≤ k + 1 + s.left.size) := by
    rw [HN]
    exact ⟨hfit2, by simp only [List.length_append]; omega⟩
   have HTK2 : Hid (Calls Tryz.prog 30 #[.pointer (some ⟨W3.heap.size, 0, none⟩), .int .u8 (b[k].toNat : Int)] wr fun e W' => e = .returned (.tuple #[]) ∧ RdE W2 W3.heap.size W2.heap.size (feed s (b.data.toList.take (k + 1))).1 (feed s (b.data.toList.take (k + 1))).2 W') := by
    rw [HN]
    exact HTK
   clear hRE hFit hlen HN HTK htot hfit2 HR
   go_wp2_with fail
   refine HTK2.out.mono ?_
   rintro e W5 ⟨rfl, h5⟩
   go_wp2_with fail
   go_roundg (b.size - (k + 1))
   case measure => omega
   case rel => exact ⟨k + 1, rfl, by omega, by omega, h5, HNX.out.1, HNX.out.2⟩
  ·have lt1 : ¬ ((k : Int) < (b.size : Int)) := by omega
   have hkb : b.data.toList.take k = b.data.toList := List.take_of_length_le (by rw [Array.length_toList]; show b.size ≤ k; omega)
   rw [hkb] at hRE
   have HGoal : ∀ s' es', feed s b.data.toList = (s', es') → True := fun _ _ _ => trivial
   obtain ⟨s', es', hfe⟩ : ∃ s' es', feed s b.data.toList = (s', es') := ⟨_, _, rfl⟩
   rw [hfe] at hRE
   have HFE : Hid (feed s b.data.toList = (s', es')) := hfe
   obtain ⟨N, pv', tv', eqs', hR⟩ := hRE
   (try simp only at hR)
   obtain ⟨c0, c1, c2, c3, c4, c5, c6, c7, cf⟩ := hR.cells
   have ct := (cell1 hR.t).1
   have hy : wr.heap[w.heap.size + 1]? = _ := (hR.low.block _ hyl).trans HY.out
   obtain ⟨d0, d1, d2, d3, d4, d5, d6, df⟩ := Xv hy
   have df0 := df 0
   have df1 := df 1
   have df2 := df 2
   have df3 := df 3
   have df4 := df 4
   have df5 := df 5
   have df6 := df 6
   obtain ⟨pa', pc', rfl⟩ := K9 hR.p
   obtain ⟨ta', tc', rfl⟩ := K9 hR.e
   have HYR : Hid (wr.heap[w.heap.size + 1]? = _) := hy
   have HRR : Hid (Rd W2 W3.heap.size W2.heap.size s' es' wr N _ _ eqs') := hR
   clear hR hFit hlen HR hlt HGoal hfe hkb
   have hYr : (wr.setCells (w.heap.size + 1) 0 [.int .i64 s'.at', .int .u8 s'.mark, .string s'.mid, .slice pa' s'.ps.length pc', .string s'.txt, .string s'.left, .bool s'.late]).heap[w.heap.size + 1]? = some (.cells #[.int .i64 s'.at', .int .u8 s'.mark, .string s'.mid, .slice pa' s'.ps.length pc', .string s'.txt, .string s'.left, .bool s'.late] 35 (0, 0)) := Uj (w.heap.size + 1) 35 [.int .i64 s'.at', .int .u8 s'.mark, .string s'.mid, .slice pa' s'.ps.length pc', .string s'.txt, .string s'.left, .bool s'.late] 0 wr _ HYR.out (by simp)
   have hks := HK2.out.size
   have hrow : ∀ {base : Nat} {e : TypeId} {size : Nat} {v : Value} {n : Nat} {xs : List Value}, wr.ownsRow base e size v n xs → e ≠ 35 → w.heap.size ≤ base → (wr.setCells (w.heap.size + 1) 0 [.int .i64 s'.at', .int .u8 s'.mark, .string s'.mid, .slice pa' s'.ps.length pc', .string s'.txt, .string s'.left, .bool s'.late]).ownsRow w.heap.size e size v n xs := fun ho hne hbase => by
    refine qg6 (Jd ho fun g hg => ?_) hbase
    obtain ⟨A, hA⟩ := Xx ho hg
    refine Zx _ _ (fun e1 => ?_) _ _ _
    rw [e1, HYR.out] at hA
    injection hA with hA
    injection hA with _ hA
    exact hne hA.symm
   have hlow : Below w.heap.size w (wr.setCells (w.heap.size + 1) 0 [.int .i64 s'.at', .int .u8 s'.mark, .string s'.mid, .slice pa' s'.ps.length pc', .string s'.txt, .string s'.left, .bool s'.late]) := Zo (by omega) _ _ _ (HK2.out.trans (HRR.out.low.mono hks))
   obtain ⟨Y, hY⟩ : ∃ Y, wr.setCells (w.heap.size + 1) 0 [.int .i64 s'.at', .int .u8 s'.mark, .string s'.mid, .slice pa' s'.ps.length pc', .string s'.txt, .string s'.left, .bool s'.late] = Y := ⟨_, rfl⟩
   rw [hY] at hYr hlow
   have HP : Hid (Y.ownsRow w.heap.size 3 1 (.slice pa' s'.ps.length pc') s'.ps.length (ints s'.ps)) := by
    have q := hrow HRR.out.p (by decide) (Nat.le_trans hks HRR.out.n0)
    rw [hY] at q
    exact q
   have HE : Hid (EvsV Y w.heap.size (.slice ta' es'.length tc') es') := by
    refine ⟨eqs', ?_, HRR.out.es, fun x hx => ?_⟩
    ·have q := hrow HRR.out.e (by decide) hks
     rw [hY] at q
     exact q
    ·have q := hrow (HRR.out.q x hx).1 (by decide) hks
     rw [hY] at q
     exact q
   have HYY : Hid (_ = Y) := hY
   have HLO : Hid (Below w.heap.size w Y) := hlow
   have HYC : Hid (Y.heap[w.heap.size + 1]? = _) := hYr
   clear hY hlow hYr hrow HRR HYR
   go_wp2_with fail
   go_region
   go_wp2_with fail
   (try simp only [Exit.inBlock, Exit.then])
   rw [set7, HYY.out, HFE.out]
   refine bodyPost_ret (v := .tuple #[.agg #[.int .i64 s'.at', .int .u8 s'.mark, .string s'.mid, .slice pa' s'.ps.length pc', .string s'.txt, .string s'.left, .bool s'.late], .slice ta' es'.length tc', .int .i64 0]) ?_ rfl ⟨_, _, rfl, HP.out, HE.out, HLO.out.drew⟩
   exact qdf rfl _ Y.drew (w.heap.size + 1) _ _ _ _ rfl (show Y.drew.heap[w.heap.size + 1]? = _ from HYC.out) Tryz.underlying35 rfl (by kernel_rfl) _ _ rfl rfl
end Prs
end Go.Proofs.YtcnblcmpgmgbbaaGreatDoor

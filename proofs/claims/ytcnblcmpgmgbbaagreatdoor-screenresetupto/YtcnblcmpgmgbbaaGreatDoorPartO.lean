/- Parts of the proof, shortened by a program. -/
import Derived.Test.YtcnblcmpgmgbbaaGreatDoorPartN
import Derived.Deep.RegionHeld3
import Derived.BigRegion
import Derived.BigQuiet
import Derived.Test.YtcnblcmpgmgbbaaGreatDoorPartG
import Derived.Deep.RegionWith
import Derived.Test.YtcnblcmpgmgbbaaGreatDoorPartD
import Derived.Lib.RuneBytes
import Derived.Test.YtcnblcmpgmgbbaaGreatDoorPartE
import Derived.Laws.Cover4
import Derived.Lib.RuneCount
import Derived.Laws.IdiomStrings
import Derived.Test.YtcnblcmpgmgbbaaGreatDoorPartF
import Derived.Test.YtcnblcmpgmgbbaaGreatDoorPartK
import Derived.Deep.Cut
import Derived.Deep.CutRange
import Derived.Test.YtcnblcmpgmgbbaaGreatDoorPartM
namespace Go.Proofs.YtcnblcmpgmgbbaaGreatDoor
set_option linter.unusedVariables false
set_option linter.unusedSimpArgs false
open Go.ChangeShapes Go.WideShapes Go.ChangeAt Go.RowKit
namespace Put
open Grd (C)
section
attribute [local go_sem ↓] qw1 qvd qpd
attribute [local go_sem] qy4 qzd qj5 qc7 qgk
set_option maxHeartbeats 4000000 in
theorem qtc (M : Nat) (w : World) (s : Scr) (rows : List (List C)) :
  Does 136 #[] M w s (qd7 s) rows rows := by
 intro W p hb hS
 have hlo := hS.lo
 have HK : Hid (ShAt 111 (W.drew.setCells p 13 [.int .i64 s.x, .int .i64 s.y, .int .i64 s.sf, .int .i64 s.sb, .int .i64 s.sx, .int .i64 (bits .and .i64 s.modes 6)]) M w.heap.size p (qd7 s) rows) := hS.drew.kept Qp _ _ _ _ _ _
 have HB : Hid (Below w.heap.size W (W.drew.setCells p 13 [.int .i64 s.x, .int .i64 s.y, .int .i64 s.sf, .int .i64 s.sb, .int .i64 s.sx, .int .i64 (bits .and .i64 s.modes 6)]) ) := Zp (Below.refl _ _).drew hlo _ _
 obtain ⟨c0, c1, c3, c4, c5, c9, c10, c11, c19, f⟩ := hS.words
 obtain ⟨cv, tv, gv, rv, hblk⟩ := hS.drew.block
 obtain ⟨l1, l2⟩ := qvm hblk
 have l3 := qyb hblk 6 13 (by omega)
 clear hS c0 c1 c5 c9 c10 c19 f hblk hb
 show Calls _ _ #[.pointer (some ⟨p, 0, none⟩)] _ _
 go_enter Tryz.func136, Tryz.ntmps136
 go_upto_region 0 with fail
 go_region
 all_goals go_end0
 all_goals exact ⟨rfl, HK.out, HB.out⟩
set_option maxHeartbeats 4000000 in
theorem qk1 (M : Nat) (w : World) (s : Scr) (rows : List (List C)) :
  Does 137 #[] M w s (qec s) rows rows := by
 intro W p hb hS
 have hlo := hS.lo
 have hD := hS.drew
 have k1 : ShAt 111 (W.setCell ⟨p, 3, none⟩ (.int .i64 s.kx)) M w.heap.size p { s with x := s.kx } rows := hS.set Qp 3 _ (fun _ _ _ _ => rfl) rfl rfl
 have k2' : ShAt 111 ((W.setCell ⟨p, 3, none⟩ (.int .i64 s.kx)).setCell ⟨p, 4, none⟩ (.int .i64 s.ky)) M w.heap.size p { s with x := s.kx, y := s.ky } rows := k1.set Qp 4 _ (fun _ _ _ _ => rfl) rfl rfl
 have k2 := k2'.drew
 clear k2'
 have k3 : ShAt 111 (((W.setCell ⟨p, 3, none⟩ (.int .i64 s.kx)).setCell ⟨p, 4, none⟩ (.int .i64 s.ky)).drew.setCells p 6 [.int .i64 s.kf, .int .i64 s.kb, .int .i64 s.kbits]) M w.heap.size p { s with x := s.kx, y := s.ky, sf := s.kf, sb := s.kb, sx := s.kbits } rows := k2.look Qp s.kf s.kb s.kbits
 have k4 : ShAt 111 ((((W.setCell ⟨p, 3, none⟩ (.int .i64 s.kx)).setCell ⟨p, 4, none⟩ (.int .i64 s.ky)).drew.setCells p 6 [.int .i64 s.kf, .int .i64 s.kb, .int .i64 s.kbits]).setCell ⟨p, 5, none⟩ (.bool false)) M w.heap.size p { s with x := s.kx, y := s.ky, sf := s.kf, sb := s.kb, sx := s.kbits, late := false } rows := k3.set Qp 5 _ (fun _ _ _ _ => rfl) rfl rfl
 have HB : Hid (Below w.heap.size W ((((W.setCell ⟨p, 3, none⟩ (.int .i64 s.kx)).setCell ⟨p, 4, none⟩ (.int .i64 s.ky)).drew.setCells p 6 [.int .i64 s.kf, .int .i64 s.kb, .int .i64 s.kbits]).setCell ⟨p, 5, none⟩ (.bool false))) := (Zp (((Below.refl _ _).setCell hlo _).setCell hlo _).drew hlo _ _).setCell hlo _
 have HK : Hid _ := k4
 obtain ⟨c0, c1, c3, c4, c5, c9, c10, c11, c19, f⟩ := hS.words
 have f3 := f 3
 have f4 := (ShAt.words k1).2.2.2.2.2.2.2.2.2 4
 have c4' := (ShAt.words k1).2.2.2.1
 have f5 := (ShAt.words k3).2.2.2.2.2.2.2.2.2 5
 have c5' := (ShAt.words k3).2.2.2.2.1
 dsimp only at c4' c5'
 obtain ⟨cv, tv, gv, rv, hblk⟩ := hD.block
 obtain ⟨cv2, tv2, gv2, rv2, hblk2⟩ := k2.block
 obtain ⟨l1, l2⟩ := qye hblk
 have l3 := qyb hblk2 3 6 (by omega)
 obtain ⟨cv3, tv3, gv3, rv3, hblk3⟩ := hS.block
 obtain ⟨-, ⟨-, -, c13, c14, -⟩, -⟩ := Qr hblk3
 clear hS hD hblk3 k1 k2 k3 k4 c0 c1 c4 c5 c9 c10 c11 c19 f hblk hblk2 hb
 show Calls _ _ #[.pointer (some ⟨p, 0, none⟩)] _ _
 go_enter Tryz.func137, Tryz.ntmps137
 go_upto_region 0 with fail
 go_region
 all_goals (
  generalize ((((W.setCell ⟨p, 3, none⟩ (.int .i64 s.kx)).setCell ⟨p, 4, none⟩ (.int .i64 s.ky)).drew.setCells p 6 [.int .i64 s.kf, .int .i64 s.kb, .int .i64 s.kbits]).setCell ⟨p, 5, none⟩ (.bool false)) = Y at *
  clear c3 f3 f4 c4' f5 c5' l1 l2 l3 c13 c14
  obtain ⟨c0, c1, c3, c4, c5, c9, c10, c11, c19, f⟩ := ShAt.words (ShAt.drew HK.out)
  have f11 := f 11
  obtain ⟨cv, tv, gv, rv, hblk⟩ := ShAt.block (ShAt.drew HK.out)
  obtain ⟨-, ⟨-, -, -, -, -, -, -, c18, -⟩, -⟩ := Qr hblk
  dsimp only at c11 c18
  have HK2 : Hid (ShAt 111 (Y.drew.setCell ⟨p, 11, none⟩ (.int .i64 (bits .or .i64 (bits .andNot .i64 s.modes 6) s.km))) M w.heap.size p (qec s) rows) := ShAt.set Qp (ShAt.drew HK.out) 11 _ (fun _ _ _ _ => rfl) rfl rfl
  have HB2 : Hid (Below w.heap.size W (Y.drew.setCell ⟨p, 11, none⟩ (.int .i64 (bits .or .i64 (bits .andNot .i64 s.modes 6) s.km)))) := HB.out.drew.setCell hlo _
  clear HK HB f c0 c1 c3 c4 c5 c9 c10 c19 hblk
  go_upto_region 1 with fail
  go_region
  all_goals go_end0
  all_goals exact ⟨rfl, HK2.out, HB2.out⟩)
end
end Put
namespace Put
open Grd (C SliceAt Qb Qf z0 Qy flat Qe)
theorem qpe : Plain 185 := by
 intro args W
 kernel_rfl
theorem qy3 (s' : Scr) (cs : List C) (h : cs = s'.cs) : ({ s' with cs := cs } : Scr) = s' := by
 subst h
 rfl
theorem qw7 {w0 w : World} {s : Scr} {cv tv gv : Value} {n hh : Nat} (h : Met w0 w s cv tv gv) (hR : Qg s n hh) (b : Int) (on : Bool) : Calls Tryz.prog 146 #[.agg (scrA s cv tv gv), .int .i64 b, .bool on] w (Made w0 w (setS s (bits .and .i64 b 63) on) 0) :=
 qhn s _ cv tv gv b on 0 w0 w h.v h.b.size fun W B1 B2 hW hB1 l1 l2 hB2 => by
  have hs := qu1 s (bits .and .i64 b 63) on
  have := qa4 (h.next hW) hR _ qpe #[.pointer (some ⟨B1, 0, none⟩), .pointer (some ⟨B2, 0, none⟩)] (Qe n s.cs hh) _ (fun w1 hw1 => qw3 (bits .and .i64 b 63) on B1 B2 _ w1 s _ (Qa hw1 hB1) (Qa hw1 hB2) (Nat.lt_of_lt_of_le l1 hw1.size) (Nat.lt_of_lt_of_le l2 hw1.size)) (Yd hR _ hs.1) rfl
  rwa [qy3 _ _ (by rw [hs.2.2.1]; exact hR.flatten)] at this
end Put
namespace Put
open Grd (C)
def qcx (s : Scr) (xs : List Int) : Scr := { s with sf := (Stl.Yc (s.sf, s.sb, s.sx) xs).1, sb := (Stl.Yc (s.sf, s.sb, s.sx) xs).2.1, sx := (Stl.Yc (s.sf, s.sb, s.sx) xs).2.2 }
theorem qaq {w w' : World} (h : Stl.Tab w) (hb : Below w.heap.size w w') : Stl.Tab w' := by
 obtain ⟨t, fr, h⟩ := h
 exact ⟨t, fr, (hb.block _ (Qc h)).trans h⟩
section
set_option maxHeartbeats 4000000 in
theorem qt4 (B1 M : Nat) (w : World) (s : Scr) (rows : List (List C)) (pl : Option Addr) (nl cl : Nat) (xs : List Int) (hB1 : w.cell? ⟨B1, 0, none⟩ = some (.slice pl nl cl)) (hT : Stl.Tab w) (hI : Stl.qbq w (.slice pl nl cl) xs) (hlen : xs.length ≤ 140737488355328) (hw : ∀ x ∈ xs, x ≤ 9223372036854775807) :
  Does 232 #[.pointer (some ⟨B1, 0, none⟩)] M w s (qcx s xs) rows rows := by
 intro W p hb hS
 have hlo := hS.lo
 have q1 := Qa hb hB1
 have HAP : Hid (∀ V, Below W.heap.size W V → Calls Tryz.prog 233 #[.agg #[.int .i64 s.sf, .int .i64 s.sb, .int .i64 s.sx], .slice pl nl cl] V fun e w' => e = .returned (.agg #[.int .i64 (Stl.Yc (s.sf, s.sb, s.sx) xs).1, .int .i64 (Stl.Yc (s.sf, s.sb, s.sx) xs).2.1, .int .i64 (Stl.Yc (s.sf, s.sb, s.sx) xs).2.2]) ∧ Below V.heap.size V w') := fun V h => by
  have hbv := hb.trans (h.mono hb.size)
  exact Stl.qtp (s.sf, s.sb, s.sx) _ xs V (qaq hT hbv) (hI.below hbv) hlen hw
 have HLS : Hid (qcx s xs = { s with sf := (Stl.Yc (s.sf, s.sb, s.sx) xs).1, sb := (Stl.Yc (s.sf, s.sb, s.sx) xs).2.1, sx := (Stl.Yc (s.sf, s.sb, s.sx) xs).2.2 }) := rfl
 generalize qcx s xs = s' at *
 generalize (Stl.Yc (s.sf, s.sb, s.sx) xs).1 = a1 at *
 generalize (Stl.Yc (s.sf, s.sb, s.sx) xs).2.1 = a2 at *
 generalize (Stl.Yc (s.sf, s.sb, s.sx) xs).2.2 = a3 at *
 have HS : Hid (ShAt 111 W M w.heap.size p s rows) := hS
 have SK : Hid (∀ V, Below W.heap.size W V → V.cell? ⟨B1, 0, none⟩ = some (.slice pl nl cl) ∧ V.cell? ⟨p, 6, none⟩ = some (.int .i64 s.sf) ∧ V.cell? ⟨p, 7, none⟩ = some (.int .i64 s.sb) ∧ V.cell? ⟨p, 8, none⟩ = some (.int .i64 s.sx) ∧ ∀ i, V.frozen? ⟨p, i, none⟩ = false) := fun V h => by
  obtain ⟨cv, tv, gv, rv, hblk⟩ := (ShAt.next HS.out h).block
  obtain ⟨⟨-, -, -, -, -, -, c6, c7, c8, -⟩, -, fz⟩ := Qr hblk
  exact ⟨Qa h q1, c6, c7, c8, fz⟩
 have HF : Hid (∀ V, Below W.heap.size W V → ShAt 111 (V.setCells p 6 [.int .i64 a1, .int .i64 a2, .int .i64 a3]) M w.heap.size p s' rows ∧ Below w.heap.size W (V.setCells p 6 [.int .i64 a1, .int .i64 a2, .int .i64 a3])) := fun V h => by
  rw [HLS.out]
  exact ⟨(ShAt.next HS.out h).look Qp a1 a2 a3, Zp (h.mono hb.size) hlo _ _⟩
 have b0 : Below W.heap.size W W.drew := (Below.refl _ _).drew
 obtain ⟨u1, u2, u3, u4, u5⟩ := SK.out _ (Below.refl _ _)
 clear hS hB1 hT hI hlen hw u5 q1
 show Calls _ _ #[.pointer (some ⟨p, 0, none⟩), .pointer (some ⟨B1, 0, none⟩)] _ _
 go_enter Tryz.func232, Tryz.ntmps232
 go_upto_region 0 with fail
 go_region_with (first | (go_at_call 233; refine (HAP.out _ b0).mono ?_; rintro e V ⟨rfl, bV⟩; have k1 : Below W.heap.size W V := b0.trans (bV.mono b0.size); obtain ⟨v1, v2, v3, v4, v5⟩ := SK.out _ k1; have f6 := v5 6; have f7 := v5 7; have f8 := v5 8; clear v1 v5))
 all_goals go_end0
 all_goals exact ⟨rfl, HF.out _ k1⟩
end
end Put
namespace Txt
def Vf (r : Int) : Prop := (0 ≤ r ∧ r < 55296) ∨ (57343 < r ∧ r ≤ 1114111)
theorem qy8 (n b0 b1 b2 b3 : Nat) : Vf (Lib.decodeN n b0 b1 b2 b3).1 := by
 unfold Vf Lib.decodeN
 repeat' split
 all_goals simp
 all_goals omega
theorem q05 (l : List UInt8) : Vf (dec l).1 := qy8 _ _ _ _ _
theorem qwq (n c b2 b3 : Nat) (hn : 2 ≤ n) (h0 : 128 ≤ c) (h1 : c ≤ 2047) : Lib.decodeN n (192 + c / 64) (128 + c % 64) b2 b3 = (c, 2) := by
 unfold Lib.decodeN
 rw [if_neg (by omega), if_pos ⟨by omega, by omega, by omega⟩, if_pos (by omega)]
 congr 1; omega
theorem qrc (n c b3 : Nat) (hn : 3 ≤ n) (h : (2048 ≤ c ∧ c < 55296) ∨ (57343 < c ∧ c ≤ 65535)) : Lib.decodeN n (224 + c / 4096) (128 + c / 64 % 64) (128 + c % 64) b3 = (c, 3) := by
 unfold Lib.decodeN
 have e : (224 + c / 4096) % 16 * 4096 + (128 + c / 64 % 64) % 64 * 64 + (128 + c % 64) % 64 = c := by omega
 rw [if_neg (by omega), if_neg (by omega), if_pos ⟨by omega, ⟨by omega, by omega⟩, by omega, by omega⟩, e, if_pos (by omega)]
theorem qub (n c : Nat) (hn : 4 ≤ n) (h0 : 65536 ≤ c) (h1 : c ≤ 1114111) : Lib.decodeN n (240 + c / 262144) (128 + c / 4096 % 64) (128 + c / 64 % 64) (128 + c % 64) = (c, 4) := by
 unfold Lib.decodeN
 have e : (240 + c / 262144) % 8 * 262144 + (128 + c / 4096 % 64) % 64 * 4096 + (128 + c / 64 % 64) % 64 * 64 + (128 + c % 64) % 64 = c := by omega
 rw [if_neg (by omega), if_neg (by omega), if_neg (by omega), if_pos ⟨by omega, ⟨by omega, by omega⟩, ⟨by omega, by omega⟩, by omega, by omega⟩, e, if_pos (by omega)]
theorem byte_toNat (n : Nat) (h : n < 256) : (n.toUInt8).toNat = n := by
 rw [Nat.toUInt8, UInt8.toNat_ofNat']; omega
theorem qo6 (r : Int) (h : Vf r) (b : List UInt8) : dec (Lib.encodeRune r ++ b) = (r.toNat, (Lib.encodeRune r).length) := by
 obtain ⟨c, rfl⟩ := Int.eq_ofNat_of_zero_le (show 0 ≤ r by unfold Vf at h; omega)
 unfold Vf at h
 unfold Lib.encodeRune
 by_cases h1 : c ≤ 127
 ·rw [Lib.encodeRuneZ_one (by omega) (by omega)]
  simp only [List.map_cons, List.map_nil, List.cons_append, List.nil_append, dec, List.getD_cons_zero, Int.toNat_natCast, byte_toNat c (by omega)]
  rw [qpp _ _ _ _ _ (by omega)]
  rfl
 ·by_cases h2 : c ≤ 2047
  ·rw [Lib.encodeRuneZ_two (by omega) (by omega)]
   simp only [List.map_cons, List.map_nil, List.cons_append, List.nil_append, dec, List.getD_cons_zero, List.getD_cons_succ, Int.toNat_natCast]
   rw [show (192 + (c : Int) / 64).toNat = 192 + c / 64 by omega, show (128 + (c : Int) % 64).toNat = 128 + c % 64 by omega, byte_toNat _ (by omega), byte_toNat _ (by omega)]
   exact qwq _ c _ _ (by simp) (by omega) (by omega)
  ·by_cases h3 : c ≤ 65535
   ·rw [Lib.encodeRuneZ_three (by omega)]
    simp only [List.map_cons, List.map_nil, List.cons_append, List.nil_append, dec, List.getD_cons_zero, List.getD_cons_succ, Int.toNat_natCast]
    rw [show (224 + (c : Int) / 4096).toNat = 224 + c / 4096 by omega, show (128 + (c : Int) / 64 % 64).toNat = 128 + c / 64 % 64 by omega, show (128 + (c : Int) % 64).toNat = 128 + c % 64 by omega, byte_toNat _ (by omega), byte_toNat _ (by omega), byte_toNat _ (by omega)]
    exact qrc _ c _ (by simp) (by omega)
   ·rw [Lib.encodeRuneZ_four (by omega) (by omega)]
    simp only [List.map_cons, List.map_nil, List.cons_append, List.nil_append, dec, List.getD_cons_zero, List.getD_cons_succ, Int.toNat_natCast]
    rw [show (240 + (c : Int) / 262144).toNat = 240 + c / 262144 by omega, show (128 + (c : Int) / 4096 % 64).toNat = 128 + c / 4096 % 64 by omega, show (128 + (c : Int) / 64 % 64).toNat = 128 + c / 64 % 64 by omega, show (128 + (c : Int) % 64).toNat = 128 + c % 64 by omega, byte_toNat _ (by omega), byte_toNat _ (by omega), byte_toNat _ (by omega), byte_toNat _ (by omega)]
    exact qub _ c (by simp) (by omega) (by omega)
theorem qs5 (r : Int) : Lib.encodeRune r ≠ [] := by
 intro e
 have := Lib.encodeRuneZ_length r
 have h := congrArg List.length e
 simp only [Lib.encodeRune, List.length_map, List.length_nil] at h
 omega
theorem qid (r : Int) (h : Vf r) (b : List UInt8) : rn (Lib.encodeRune r ++ b) = (r, (Lib.encodeRune r).length) :: rn b := by
 rw [qro _ (by simp [qs5]), qo6 r h b]
 have h0 : 0 ≤ r := by unfold Vf at h; omega
 simp only [List.drop_left, Int.toNat_of_nonneg h0]
theorem q0p : ∀ (f : Nat) (l : List UInt8), ∀ x ∈ rl f l, Vf x.1
 | 0, _, x, hx => by simp [rl] at hx
 | f + 1, l, x, hx => by
  by_cases hl : l = []
  ·subst hl; rw [qo1] at hx; cases hx
  ·rw [qe2 f l hl] at hx
   rcases List.mem_cons.1 hx with rfl | hx
   ·exact q05 l
   ·exact q0p f _ x hx
def anew : List (Int × Nat) → List (Int × Nat)
 | [] => []
 | x :: t => if 0 < wd x.1 then (x.1, (Lib.encodeRune x.1).length) :: anew t else anew t
theorem qnw : ∀ L : List (Int × Nat), (∀ x ∈ L, Vf x.1) → rn (Xn L) = anew L
 | [], _ => rfl
 | x :: t, h => by
  have ht := qnw t (fun y hy => h y (by simp [hy]))
  unfold Xn anew
  split
  ·rw [qid x.1 (h x (by simp)), ht]
  ·simpa using ht
def enc (l : List (Int × Nat)) : List UInt8 := l.flatMap fun x => Lib.encodeRune x.1
theorem qrn : ∀ (L : List (Int × Nat)), (∀ x ∈ L, Vf x.1) → ∀ x ∈ anew L, Vf x.1 ∧ 0 < wd x.1 ∧ x.2 = (Lib.encodeRune x.1).length
 | [], _ => by simp [anew]
 | x :: t, h => by
  have ih := qrn t (fun y hy => h y (by simp [hy]))
  intro y hy
  unfold anew at hy
  split at hy
  ·rename_i h0
   rcases List.mem_cons.1 hy with e | e
   ·subst e
    exact ⟨h x (by simp), h0, rfl⟩
   ·exact ih y e
  ·exact ih y hy
theorem qaa : ∀ (l : List Int) (a : List UInt8), l.foldl (fun r n => r ++ Utf8.encode n) (bs a) = bs (a ++ l.flatMap Lib.encodeRune)
 | [], a => by simp
 | x :: t, a => by
  have ih := qaa t (a ++ Lib.encodeRune x)
  show t.foldl (fun r n => r ++ Utf8.encode n) (bs a ++ Utf8.encode x) = _
  rw [encode_eq, que, ih, List.flatMap_cons, List.append_assoc]
theorem qgn (l : List Int) : runesBytes l = bs (l.flatMap Lib.encodeRune) := by
 have h := qaa l []
 rw [List.nil_append] at h
 exact h
theorem qw8 : ∀ l : List Int, (∀ x ∈ l, Vf x) → rn (l.flatMap Lib.encodeRune) = l.map fun x => (x, (Lib.encodeRune x).length)
 | [], _ => rfl
 | x :: t, h => by
  have ih := qw8 t (fun y hy => h y (by simp [hy]))
  rw [List.flatMap_cons, qid x (h x (by simp)), ih]
  rfl
theorem qg4 : ∀ l : List Int, (∀ x ∈ l, 0 < wd x) → Xn (l.map fun x => (x, (Lib.encodeRune x).length)) = l.flatMap Lib.encodeRune
 | [], _ => rfl
 | x :: t, h => by
  have ih := qg4 t (fun y hy => h y (by simp [hy]))
  have hx := h x (by simp)
  rw [List.map_cons, List.flatMap_cons]
  show (if 0 < wd x then Lib.encodeRune x else []) ++ _ = _
  rw [if_pos hx, ih]
theorem qif (s : ByteArray) : ∀ f pos : Nat, Lib.runeCountFrom s f pos = (rs s f pos).length
 | 0, _ => rfl
 | f + 1, pos => by
  unfold Lib.runeCountFrom rs
  split
  ·rw [qif s f]
   simp [Nat.add_comm]
  ·rfl
theorem qcc (s : ByteArray) : Lib.runeCount s = (runes s).length := qif s _ _
end Txt
namespace Put
open Grd (C)
def Jw (t : ByteArray) : List Int := (Txt.runes t).map (·.1)
def qsl (t : ByteArray) : ByteArray := runesBytes ((Jw t).take (min (Jw t).length 20))
def qa9 (t : ByteArray) : ByteArray := qsl (Txt.bs (Txt.Xn (Txt.runes t)))
def qb8 (s : Scr) (t : ByteArray) : Scr := { s with title := qa9 t }
theorem qxh (t : ByteArray) : J8 (qa9 t) = true := by
 have hok : ∀ x ∈ Txt.runes t, Txt.Vf x.1 := by
  intro x hx
  rw [Txt.qb5] at hx
  exact Txt.q0p _ _ x hx
 have hA := Txt.qrn (Txt.runes t) hok
 have hR : Txt.runes (Txt.bs (Txt.Xn (Txt.runes t))) = Txt.anew (Txt.runes t) := by rw [Txt.qb5, Txt.qsj]; exact Txt.qnw _ hok
 obtain ⟨l, hl⟩ : ∃ l, l = (Jw (Txt.bs (Txt.Xn (Txt.runes t)))).take (min (Jw (Txt.bs (Txt.Xn (Txt.runes t)))).length 20) := ⟨_, rfl⟩
 have hm : ∀ x ∈ l, Txt.Vf x ∧ 0 < Txt.wd x := fun x hx => by
  rw [hl] at hx
  have h1 := List.mem_of_mem_take hx
  unfold Jw at h1
  rw [hR] at h1
  obtain ⟨y, hy, e⟩ := List.mem_map.1 h1
  have h2 := hA y hy
  rw [← e]
  exact ⟨h2.1, h2.2.1⟩
 have hlen : l.length ≤ 20 := by rw [hl, List.length_take]; omega
 have ht : qa9 t = Txt.bs (l.flatMap Lib.encodeRune) := by
  unfold qa9 qsl
  rw [← hl, Txt.qgn]
 have hrn : Txt.runes (qa9 t) = l.map fun x => (x, (Lib.encodeRune x).length) := by rw [ht, Txt.qb5, Txt.qsj, Txt.qw8 l fun x hx => (hm x hx).1]
 unfold J8
 rw [hrn, Txt.qg4 l fun x hx => (hm x hx).2, ← ht, Txt.qcc, hrn, List.length_map]
 simp [hlen]
theorem qg7 {s : Scr} {n hh : Nat} (h : Qg s n hh) (t : ByteArray) : Qg (qb8 s t) n hh :=
 ⟨h.w, h.h, h.n1, h.n2, h.h1, h.h2, h.cl, h.gz, h.x0, h.x1, h.y0, h.y1, h.kx0, h.kx1, h.ky0, h.ky1, h.t0, h.t1, h.t2, h.t3, h.late, h.looks, h.tl, h.la, qxh t, h.gl, h.gr⟩
end Put
theorem Txt.qbd : ∀ L : List (Int × Nat), (Txt.Xn L).length ≤ 4 * L.length
 | [] => by simp [Txt.Xn]
 | x :: t => by
  have h1 := Txt.qbd t
  have h2 := (Txt.Ug x.1).2
  unfold Txt.Xn
  rw [List.length_append, List.length_cons]
  split
  ·omega
  ·simp
   omega
namespace Put
open Grd (C)
theorem qck (s : ByteArray) : ∀ (f i : Nat) (acc : Array Value), Conv.runesFrom s f i acc = acc ++ ((Txt.rs s f i).map (fun x => Value.int .i32 x.1)).toArray
 | 0, _, acc => by simp [Conv.runesFrom, Txt.rs]
 | f + 1, i, acc => by
  unfold Conv.runesFrom Txt.rs
  by_cases h : i < s.size
  ·rw [if_pos h, if_pos h]
   simp only []
   rw [qck s f]
   simp
  ·rw [if_neg h, if_neg h]
   simp
theorem qn8 (t : ByteArray) : Conv.runesFrom t t.size 0 #[] = ((Jw t).map (Value.int .i32)).toArray := by
 rw [qck]
 unfold Jw Txt.runes
 simp
theorem qpj (s : ByteArray) : ∀ (f i : Nat), (Txt.rs s f i).length ≤ f
 | 0, _ => by simp [Txt.rs]
 | f + 1, i => by
  unfold Txt.rs
  split
  ·have := qpj s f (i + (Utf8.decode s i).2)
   simp
   exact this
  ·simp
theorem q1c (t : ByteArray) : (Jw t).length ≤ t.size := by
 unfold Jw Txt.runes
 rw [List.length_map]
 exact qpj t _ _
def Ke (W : World) (zs : List Int) : World := W.drew.alloc (.cells ((zs.map (Value.int .i32)).toArray ++ Array.replicate (grownCap W zs.length 0 21 - zs.length) (.int .i32 0)) 21)
theorem qm5 (t : ByteArray) (ht : t.size ≤ 70368744177664) (W : World) : (convert 9 79 (.string t)).run Tryz.prog W = .ok (.slice (some ⟨W.heap.size, 0, none⟩) (Jw t).length (grownCap W (Jw t).length 0 21)) (Ke W (Jw t)) := by
 have hz := q1c t
 have hs : (Conv.runesFrom t t.size 0 #[]).size = (Jw t).length := by rw [qn8]; simp
 have h := run_runes_of_string (P := Tryz.prog) W 9 79 21 t (by kernel_rfl) (by kernel_rfl) (by kernel_rfl) (by omega)
 rw [h, hs, qn8]
 rfl
theorem qkj (W : World) (zs : List Int) : Below W.heap.size W (Ke W zs) := ((Below.refl _ W).drew).alloc (Nat.le_refl _) _
theorem qm7 (W : World) (zs : List Int) (j : Nat) (hj : j < zs.length) : (Ke W zs).cell? ((⟨W.heap.size, 0, none⟩ : Addr).add j) = some (.int .i32 (zs.getD j 0)) := by
 have h := heap_alloc_new W.drew (.cells ((zs.map (Value.int .i32)).toArray ++ Array.replicate (grownCap W zs.length 0 21 - zs.length) (.int .i32 0)) 21)
 have h2 : (Ke W zs).heap[W.heap.size]? = some (.cells ((zs.map (Value.int .i32)).toArray ++ Array.replicate (grownCap W zs.length 0 21 - zs.length) (.int .i32 0)) 21 (0, 0)) := h
 rw [Addr.add_mid, Nat.zero_add]
 unfold World.cell?
 rw [h2]
 have hl : j < (zs.map (Value.int .i32)).toArray.size := by simpa using hj
 simp only []
 rw [Array.getElem?_append_left hl]
 simp [List.getD, hj]
theorem qtt (W : World) (zs : List Int) (k cap : Nat) (hk : k ≤ zs.length) : (convert 79 9 (.slice (some ⟨W.heap.size, 0, none⟩) k cap)).run Tryz.prog (Ke W zs) = .ok (.string (runesBytes (zs.take k))) (Ke W zs) :=
 run_convert_runes (P := Tryz.prog) (Ke W zs) 79 9 21 ⟨W.heap.size, 0, none⟩ k cap zs hk (by kernel_rfl) (by kernel_rfl) (by kernel_rfl) (qm7 W zs)
theorem qwg (W : World) (zs : List Int) : zs.length ≤ grownCap W zs.length 0 21 := grownCap_ge W zs.length 0 21
set_option maxHeartbeats 4000000 in
theorem qtq (B1 M : Nat) (w : World) (s : Scr) (rows : List (List C)) (t : ByteArray) (hB1 : w.cell? ⟨B1, 0, none⟩ = some (.string t)) (hT : Txt.Tab w) (ht : t.size ≤ 1048576) :
  Does 169 #[.pointer (some ⟨B1, 0, none⟩)] M w s (qb8 s t) rows rows := by
 intro W p hb hS
 have hlo := hS.lo
 have q1 := Qa hb hB1
 obtain ⟨u, hu⟩ : ∃ u, u = Txt.bs (Txt.Xn (Txt.runes t)) := ⟨_, rfl⟩
 have hus : u.size ≤ 70368744177664 := by
  have h1 := Txt.qbd (Txt.runes t)
  have h2 := qpj t t.size 0
  rw [hu, Txt.qzk]
  unfold Txt.runes at h1 ⊢
  omega
 have HCL : Hid (∀ V, Below W.heap.size W V → Calls Tryz.prog 43 #[.string t] V fun e w' => e = .returned (.string u) ∧ Below V.heap.size V w') := fun V h => by
  rw [hu]
  exact Txt.qi4 t V (Grd.Tab.next hT (hb.trans (h.mono hb.size))) (by omega)
 have HNS : Hid (qb8 s t = { s with title := qsl u }) := by unfold Hid qb8 qa9; rw [hu]
 generalize qb8 s t = s' at *
 have HCT : Hid (qsl u = runesBytes ((Jw u).take (min (Jw u).length 20))) := rfl
 have HS : Hid (ShAt 111 W M w.heap.size p s rows) := hS
 have SK : Hid (∀ V, Below W.heap.size W V → V.cell? ⟨p, 20, none⟩ = some (.string s.title) ∧ V.frozen? ⟨p, 20, none⟩ = false) := fun V h => by
  obtain ⟨cv, tv, gv, rv, hblk⟩ := (ShAt.next HS.out h).block
  obtain ⟨-, ⟨-, -, -, -, -, -, -, -, -, c20, -⟩, fz⟩ := Qr hblk
  exact ⟨c20, fz 20⟩
 have HF : Hid (∀ V, Below W.heap.size W V → ShAt 111 (V.setCell ⟨p, 20, none⟩ (.string (runesBytes ((Jw u).take (min (Jw u).length 20))))) M w.heap.size p s' rows ∧ Below w.heap.size W (V.setCell ⟨p, 20, none⟩ (.string (runesBytes ((Jw u).take (min (Jw u).length 20)))))) := fun V h => by
  rw [HNS.out, HCT.out]
  exact ⟨ShAt.set Qp (ShAt.next HS.out h) 20 _ (fun _ _ _ _ => rfl) rfl rfl, (h.mono hb.size).setCell hlo _⟩
 have HCV : Hid (∀ V : World, (convert 9 79 (.string u)).run Tryz.prog V = .ok (.slice (some ⟨V.heap.size, 0, none⟩) (Jw u).length (grownCap V (Jw u).length 0 21)) (Ke V (Jw u))) := qm5 u hus
 have HBC : Hid (∀ V cap, (convert 79 9 (.slice (some ⟨V.heap.size, 0, none⟩) (min (Jw u).length 20) cap)).run Tryz.prog (Ke V (Jw u)) = .ok (.string (runesBytes ((Jw u).take (min (Jw u).length 20)))) (Ke V (Jw u))) := fun V cap => qtt V _ _ cap (Nat.min_le_left _ _)
 have HGE : Hid (∀ V, (Jw u).length ≤ grownCap V (Jw u).length 0 21) := fun V => qwg V (Jw u)
 have hm2 := Grd.min2 ((Jw u).length : Int) 20
 have hmk : min ((Jw u).length : Int) 20 = ((min (Jw u).length 20 : Nat) : Int) := by omega
 have hkl := Nat.min_le_left (Jw u).length 20
 rw [hmk] at hm2
 clear hmk
 generalize runesBytes ((Jw u).take (min (Jw u).length 20)) = res at *
 generalize min (Jw u).length 20 = k at *
 generalize Jw u = zs at *
 have HRB : Hid (∀ V, Below V.heap.size V (Ke V zs)) := fun V => qkj V zs
 clear hS hB1 ht hu hus HCT HNS
 show Calls _ _ #[.pointer (some ⟨p, 0, none⟩), .pointer (some ⟨B1, 0, none⟩)] _ _
 go_enter Tryz.func169, Tryz.ntmps169
 go_wp2_with fail
 refine (HCL.out _ (Below.refl _ _)).mono ?_
 rintro e V ⟨rfl, bV⟩
 have cv := HCV.out V
 have cb := HBC.out V
 have hge := HGE.out V
 generalize grownCap V zs.length 0 21 = cap at *
 have kR : Below W.heap.size W (Ke V zs) := bV.trans ((HRB.out V).mono bV.size)
 obtain ⟨c20, f20⟩ := SK.out _ kR
 have HFI : Hid _ := HF.out _ kR
 have hkc : (k : Int) ≤ (cap : Int) := by omega
 have cb' := cb cap
 clear HCL HCV HBC HGE SK HF bV q1 hge kR HRB cb
 generalize Ke V zs = R at *
 go_wp2_with fail
 go_end0
 exact ⟨rfl, HFI.out⟩
end Put
namespace Put
open Grd (C SliceAt Qb Qf z0 Qy Qe RowsAt Jv flat)
def Gj (W : World) (N : Nat) (v : Value) (n : Nat) (vs : List Value) : Prop :=
 vs.length = n ∧ ((n = 0 ∧ ∃ a c, v = .slice a 0 c) ∨ ∃ g o cap A, v = .slice (some ⟨g, o, none⟩) n cap ∧ N ≤ g ∧ n ≤ cap ∧ cap ≤ 9223372036854775807 ∧ W.heap[g]? = some (.cells A 22 (0, 0)) ∧ ∀ j, j < n → A[o + j]? = some (vs.getD j Qy))
theorem Gj.of {W : World} {N : Nat} {v : Value} {n : Nat} {vs : List Value} (h : W.ownsRow N 22 1 v n vs) : Gj W N v n vs := by
 obtain ⟨h0, ⟨rfl, rfl⟩ | ⟨g, cap, cur, rfl, hg, hh, hc, hm, hs, htk⟩⟩ := h
 ·exact ⟨by simpa using h0, .inl ⟨rfl, none, 0, rfl⟩⟩
 ·refine ⟨by simpa using h0, .inr ⟨g, 0, cap, cur, rfl, hg, hc, by unfold maxLen at hm; omega, hh, fun j hj => ?_⟩⟩
  have hl : vs.length = n := by simpa using h0
  rw [Nat.zero_add]
  have e : cur[j]? = vs[j]? := by rw [← htk, ← Array.getElem?_toList, List.getElem?_take_of_lt (by omega)]
  rw [e]
  simp [List.getD, List.getElem?_eq_getElem (show j < vs.length by omega)]
theorem Gj.next {W W' : World} {N : Nat} {v : Value} {n : Nat} {vs : List Value} (h : Gj W N v n vs) (hb : Below W.heap.size W W') : Gj W' N v n vs := by
 obtain ⟨h0, h | ⟨g, o, cap, A, hv, h1, h2, h3, h4, h5⟩⟩ := h
 ·exact ⟨h0, .inl h⟩
 ·exact ⟨h0, .inr ⟨g, o, cap, A, hv, h1, h2, h3, Grd.carry h4 hb, h5⟩⟩
theorem Gj.q1y {W : World} {N : Nat} {v : Value} {rows : List (List C)} {vs : List Value} (h : Gj W N v rows.length vs) (hr : F8 W vs rows) : Vt W v rows := by
 obtain ⟨h0, ⟨hn, a, c, hv⟩ | ⟨g, o, cap, A, hv, h1, h2, h3, h4, h5⟩⟩ := h
 ·exact .inl ⟨List.eq_nil_of_length_eq_zero hn, a, c, hv⟩
 ·refine .inr ⟨g, o, cap, hv, h2, h3, fun j hj => ⟨vs.getD j Qy, ?_, hr.2 j hj⟩⟩
  simp only [World.cell?, h4]
  rw [h5 j hj]
  rfl
end Put
namespace Put
open Grd (C SliceAt Qb Qf z0 Qy flat Qe Y9 Jv RowsAt)
set_option maxHeartbeats 2000000 in
theorem qul {N : Nat} (v : Value) (n : Nat) (vs : List Value) (w : World) (hV : Gj w N v n vs) (hs : ∀ u, u ∈ vs → IsSl u) (hl : n ≤ 1048576) :
  Calls Tryz.prog 110 #[v] w fun e w' => ∃ a c, e = .returned (.slice a n c) ∧ w'.ownsRow w.heap.size 22 1 (.slice a n c) n vs ∧ Below w.heap.size w w' := by
 obtain ⟨i0, hi, hzz⟩ := Option.map_eq_some_iff.1 qa0
 simp only [Prod.mk.injEq] at hzz
 obtain ⟨hz0, hz1, hz2⟩ := hzz
 have qn : ∀ (w : World) (a : Option Addr) (n c n' c' : Nat), (binOp .eql 30 (.slice a n c) (.slice none n' c')).run Tryz.prog w = .ok (.bool a.isNone) w := fun w a n c n' c' => Lib.run_eql_slice_nil w _ _ a n c n' c' Je
 have kb : Below w.heap.size w (w.alloc (.cells #[] 22)) := (Below.refl _ _).alloc (Nat.le_refl _) _
 obtain ⟨hvl, ⟨rfl, p, c, rfl⟩ | ⟨b, o, c, A, rfl, hN, hc, hm, hA, hC⟩⟩ := hV
 ·have hnil : vs = [] := List.eq_nil_of_length_eq_zero hvl
  subst hnil
  cases p with
  | none =>
   go_enter Tryz.func110, Tryz.ntmps110
   go_wp2_with fail
   go_ret
   exact ⟨_, _, rfl, World.ownsRow_nil _ _ _ _, Below.refl _ _⟩
  | some ad =>
   go_enter Tryz.func110, Tryz.ntmps110
   go_wp2_with (at_builtin; refine wpList_append_own _ rfl _ _ 30 rfl w.heap.size 22 i0 (.slice none 0 0) 1 24 Je hi hz0 hz1 hz2 rfl (by decide) _ _ _ rfl (World.ownsRow_made w #[] 0 (Nat.le_refl _) (Nat.zero_le _) rfl) ad 0 c [] rfl rfl (by simp) (by simp) (by unfold maxLen; omega) (by omega) (by simp) ?_)
   intro v' w1 hown hgrow hnil
   obtain ⟨va, vc, rfl⟩ := Qw hown
   go_wp2_with fail
   go_ret
   exact ⟨va, vc, rfl, hown, ((Below.refl _ w).alloc (Nat.le_refl _) _).grown hgrow (by simp) (by intro k hk; simp [Value.ownBlock] at hk; omega)⟩
 ·have HF : Hid (vs.length = n * 1) := by rw [Nat.mul_one]; exact hvl
  have HO : Hid (∀ u ∈ vs, u.oneCell' = true) := fun u hu => by obtain ⟨x, rfl⟩ := hs u hu; rfl
  have HS : Hid (∀ j u, vs[j]? = some u → (w.alloc (.cells #[] 22)).cell? ((⟨b, o, none⟩ : Addr).add j) = some u) := fun j u hj => by
   rw [Addr.add_lit]
   refine Qa kb ?_
   have hlt := (List.getElem?_eq_some_iff.1 hj).1
   have e := hC j (by omega)
   have e2 : vs.getD j Qy = u := by simp [List.getD, hj]
   simp only [World.cell?, hA]
   rw [e2] at e
   simp only [Option.isSome_none, Bool.false_eq_true, if_false]
   exact e
  clear hC hA hs
  go_enter Tryz.func110, Tryz.ntmps110
  go_wp2_with (at_builtin; refine wpList_append_own _ rfl _ _ 30 rfl w.heap.size 22 i0 (.slice none 0 0) 1 24 Je hi hz0 hz1 hz2 rfl (by decide) _ _ _ rfl (World.ownsRow_made w #[] 0 (Nat.le_refl _) (Nat.zero_le _) rfl) ⟨b, o, none⟩ n c vs rfl HF.out HS.out HO.out (by unfold maxLen; omega) (by omega) (by simp) ?_)
  intro v' w1 hown hgrow hnil
  obtain ⟨va, vc, rfl⟩ := Qw hown
  go_wp2_with fail
  go_ret
  exact ⟨va, vc, rfl, hown, ((Below.refl _ w).alloc (Nat.le_refl _) _).grown hgrow (by simp) (by intro k hk; simp [Value.ownBlock] at hk; omega)⟩
end Put
namespace Put
open Grd (C SliceAt Qb Qf z0 Qy flat Qe)
section
attribute [local go_sem ↓] Jd qiu
attribute [local go_sem] qyl qha qai
set_option maxHeartbeats 4000000 in
theorem qw9 (M n hh : Nat) (s : Scr) (cv tv gv : Value) (gvs : List Value) (w0 w : World) (hM : M ≤ w0.heap.size) (hSt : ∀ b o m c, cv = .slice (some ⟨b, o, none⟩) m c → Still w0 M b) (hG : Gj w0 0 gv s.gone.length gvs) (hGI : RowsIn w0 M gvs s.gone) (hSl : ∀ v, v ∈ gvs → IsSl v) (hV : Zh w0 s cv tv gv) (hb0 : Below w0.heap.size w0 w) (hF : Fits s) (hw : s.w = n) (hh' : s.h = hh) (hz : Qf n hh s.cs = 0) :
  Calls Tryz.prog 62 #[.agg (scrA s cv tv gv)] w fun e W' => ∃ p, e = .returned (.pointer (some ⟨p, 0, none⟩)) ∧ ShAt 111 W' M w.heap.size p s (Qe n s.cs hh) ∧ Below w.heap.size w W' := by
 have hzz := (Grd.Zc n hh s.cs).1 hz
 obtain ⟨hsz, hL, -⟩ := hzz
 have hsz' : 1 ≤ (n : Int) ∧ (n : Int) ≤ 120 ∧ 1 ≤ (hh : Int) ∧ (hh : Int) ≤ 60 := by simpa [Grd.Zi] using hsz
 obtain ⟨w1, w2, w3, w4⟩ := hsz'
 have hne : s.cs ≠ [] := by
  intro e
  rw [e] at hL
  have : 1 ≤ n * hh := Nat.mul_pos (by omega) (by omega)
  simp at hL
  omega
 rcases hV.c with ⟨he, -⟩ | ⟨-, b, o, cap, rfl, hc1, hc2, hC⟩
 ·exact absurd he hne
 have HST : Hid (Still w0 M b) := hSt b o _ cap rfl
 have HGI : Hid (RowsIn w0 M gvs s.gone) := hGI
 have HGV : Hid (Gj w0 0 gv s.gone.length gvs) := hG
 have HSL : Hid (∀ v, v ∈ gvs → IsSl v) := hSl
 have HMM : Hid (M ≤ w0.heap.size) := hM
 clear hSt hG hGI hSl hM
 have HL : Hid (s.cs.length = n * hh) := hL
 rw [hL] at hc1 hV ⊢
 have HC : Hid (Qb w0 b o s.cs) := hC
 have HB00 : Hid (Below w0.heap.size w0 w) := hb0
 have HW : Hid (s.w = n ∧ s.h = hh) := ⟨hw, hh'⟩
 clear hL hC hz hsz hne hw hh'
 have x0 := heap_alloc_new w (.cells (scrA s (.slice (some ⟨b, o, none⟩) (n * hh) cap) tv gv) 32)
 have kb : Below w.heap.size w (w.alloc (.cells (scrA s (.slice (some ⟨b, o, none⟩) (n * hh) cap) tv gv) 32)) := (Below.refl _ _).alloc (Nat.le_refl _) _
 have HX0 : Hid _ := x0
 have HB0 : Hid _ := kb
 have HV : Hid (Zh w0 s _ tv gv) := hV
 have HF : Hid (Fits s) := hF
 clear x0 kb hV hF hb0
 have hl0 : w.heap.size < (w.alloc (.cells (scrA s (.slice (some ⟨b, o, none⟩) (n * hh) cap) tv gv) 32)).heap.size := by simp
 go_enter Tryz.func62, Tryz.ntmps62
 go_upto_region 1 with fail
 generalize w.alloc (.cells (scrA s (.slice (some ⟨b, o, none⟩) (n * hh) cap) tv gv) 32) = W1 at *
 go_cut [3] from 3 to 14 (fun c wx => ∃ p rv, c = .pointer (some ⟨p, 0, none⟩) ∧ w.heap.size ≤ p ∧ wx.heap[p]? = some (.cells (shA s (.slice (some ⟨b, o, none⟩) (n * hh) cap) tv gv rv) 111 (0, 0)) ∧ wx.ownsRow w.heap.size 22 1 rv hh ((List.range hh).map (V8 b o n)) ∧ Below W1.heap.size W1 wx)
 case first =>
  have hn1 : 1 ≤ n := by omega
  have SK : Hid (∀ w', Below W1.heap.size W1 w' → Below W1.heap.size W1 w' ∧ Zg w' (.pointer (some ⟨w.heap.size, 0, none⟩)) ∧ Z5 w' (.pointer (some ⟨w.heap.size, 0, none⟩)) = scrA s (.slice (some ⟨b, o, none⟩) (n * hh) cap) tv gv ∧ w'.cell? ⟨w.heap.size, 0, none⟩ = some (.int .i64 (n : Int)) ∧ w'.cell? ⟨w.heap.size, 2, none⟩ = some (.slice (some ⟨b, o, none⟩) (n * hh) cap)) := fun w' hb => by
   have hx := Grd.carry HX0.out hb
   have q := Qh hx
   rw [HW.out.1] at q
   exact ⟨hb, (Qu hx).1, (Qu hx).2, q.1.1, q.1.2.2.1⟩
  have b0 : Below W1.heap.size W1 W1.drew := (Below.refl _ _).drew
  have HC1 : Hid (n * hh ≤ cap) := hc1
  have hh1 : 0 < hh := by omega
  clear hc1
  go_region_held3 (fun w' => Below W1.heap.size W1 w' ∧ Zg w' (.pointer (some ⟨w.heap.size, 0, none⟩)) ∧ Z5 w' (.pointer (some ⟨w.heap.size, 0, none⟩)) = scrA s (.slice (some ⟨b, o, none⟩) (n * hh) cap) tv gv ∧ w'.cell? ⟨w.heap.size, 0, none⟩ = some (.int .i64 (n : Int)) ∧ w'.cell? ⟨w.heap.size, 2, none⟩ = some (.slice (some ⟨b, o, none⟩) (n * hh) cap))
   (first | exact SK.out _ (c2.alloc c2.size _) | exact SK.out _ c2 | exact SK.out _ c1 | exact SK.out _ b0)
   (first | (go_at_call 108; refine (ql6 _ _ _ n hn1 _).mono ?_; rintro e V1 ⟨Bs, Bn, rfl, l1, l2, q1, q2, b1⟩; have c1 := b0.trans (b1.mono b0.size); clear b1) | (go_at_call 107; refine (qen Bs Bn b o n hh cap hn1 (by omega) (by omega) HC1.out _ l1 l2 q1 q2).mono ?_; rintro e V2 ⟨v, rfl, ho, b2⟩; have c2 := c1.trans (b2.mono c1.size); have HO : Hid (V2.ownsRow V1.heap.size 22 1 v hh ((List.range hh).map (V8 b o n))) := ho; obtain ⟨g, cp, rfl⟩ := qiz ho hh1; clear b2 ho q1 q2))
  go_wp2_with fail
  go_meet
  exact ⟨V2.heap.size, _, rfl, Nat.le_trans (Nat.le_of_lt hl0) c2.size, heap_alloc_new _ _, Grd.Q0 (World.ownsRow.alloc HO.out _) (by have := c1.size; omega), c2.alloc c2.size _⟩
 case rest =>
  obtain ⟨p, rv, rfl, hp, hblk, hown, hb⟩ := hcut
  have hne : w.heap.size ≠ p := by
   intro e
   rw [← e, Grd.carry HX0.out hb] at hblk
   injection hblk with hblk
   injection hblk with _ hblk _
   exact absurd hblk (by decide)
  have HX1 : Hid _ := Grd.carry HX0.out hb
  have HP1 : Hid _ := hblk
  have HO1 : Hid _ := hown
  have HB1 : Hid (Below w.heap.size w wc) := HB0.out.trans (hb.mono HB0.out.size)
  clear hblk hown hb
  obtain ⟨-, ⟨-, c12, -⟩, -⟩ := Qh HX1.out
  go_wp2_with fail
  refine (qal tv s.tabs wc (Vy.next HV.out.t (HB00.out.trans (HB1.out.mono HB00.out.size))) HF.out.bl).mono ?_
  rintro e W2 ⟨tv', rfl, ho2, b2⟩
  obtain ⟨ta, tc, rfl⟩ := Qw ho2
  have hp2 := Grd.carry HP1.out b2
  have f12 := (Qr hp2).2.2 12
  have c12' := (Qr hp2).2.1.2.1
  clear c12
  have HP2 : Hid _ := Xl (i := 12) (v := .slice ta s.tabs.length tc) hp2 rfl
  have HX2 : Hid _ := (Q4 (i := 12) (v := .slice ta s.tabs.length tc) hne).trans (Grd.carry HX1.out b2)
  have HT2 : Hid _ := Zz (i := 12) (v := .slice ta s.tabs.length tc) ho2 hp2 (by decide)
  have HO2 : Hid _ := Zz (i := 12) (v := .slice ta s.tabs.length tc) (Jy HO1.out b2) hp2 (by decide)
  have HB2 : Hid (Below w.heap.size w (W2.setCell ⟨p, 12, none⟩ (.slice ta s.tabs.length tc))) := (HB1.out.trans (b2.mono HB1.out.size)).setCell hp _
  have c20 := (Qh (Grd.carry HX1.out b2)).2.1.2.2.2.2.2.2.2.2.2.1
  clear ho2 b2 hp2
  go_wp2_with fail
  refine (Txt.Gh s.title _ (by have := HF.out.tl; omega)).mono ?_
  rintro e W4 ⟨rfl, b4⟩
  have hp4 := Grd.carry HP2.out b4
  have f20 := (Qr hp4).2.2 20
  have c20' := (Qr hp4).2.1.2.2.2.2.2.2.2.2.2.1
  have HP4 : Hid _ := Xl (i := 20) (v := .string s.title) hp4 rfl
  have HX4 : Hid _ := (Q4 (i := 20) (v := .string s.title) hne).trans (Grd.carry HX2.out b4)
  have HT4 : Hid _ := Zz (i := 20) (v := .string s.title) (Jy HT2.out b4) hp4 (by decide)
  have HO4 : Hid _ := Zz (i := 20) (v := .string s.title) (Jy HO2.out b4) hp4 (by decide)
  have HB4 : Hid (Below w.heap.size w (W4.setCell ⟨p, 20, none⟩ (.string s.title))) := (HB2.out.trans (b4.mono HB2.out.size)).setCell hp _
  have c21 := (Qh (Grd.carry HX2.out b4)).2.1.2.2.2.2.2.2.2.2.2.2
  clear b4 hp4 c20 c12' f12
  go_wp2_with fail
  refine (qul _ _ gvs _ (Gj.next HGV.out (HB00.out.trans (HB4.out.mono HB00.out.size))) HSL.out (by have := HF.out.gl; omega)).mono ?_
  rintro e W6 ⟨ga, gc, rfl, ho6, b6⟩
  have hp6 := Grd.carry HP4.out b6
  have f21 := (Qr hp6).2.2 21
  have c21' := (Qr hp6).2.1.2.2.2.2.2.2.2.2.2.2.1
  have HP6 : Hid _ := Xl (i := 21) (v := .slice ga s.gone.length gc) hp6 rfl
  have HT6 : Hid _ := Zz (i := 21) (v := .slice ga s.gone.length gc) (Jy HT4.out b6) hp6 (by decide)
  have HO6 : Hid _ := Zz (i := 21) (v := .slice ga s.gone.length gc) (Jy HO4.out b6) hp6 (by decide)
  have HG6 : Hid _ := Zz (i := 21) (v := .slice ga s.gone.length gc) ho6 hp6 (by decide)
  have HB6 : Hid (Below w.heap.size w (W6.setCell ⟨p, 21, none⟩ (.slice ga s.gone.length gc))) := (HB4.out.trans (b6.mono HB4.out.size)).setCell hp _
  clear ho6 b6 hp6 c21 c20' f20
  go_wp2_with fail
  go_ret
  have hk : Kept M w0 (W6.setCell ⟨p, 21, none⟩ (.slice ga s.gone.length gc)) := fun k hk _ => (HB00.out.trans (HB6.out.mono HB00.out.size)).block k hk
  refine ⟨p, rfl, ⟨_, _, _, _, gvs, (List.range hh).map (V8 b o n), HP6.out, hp, Nat.le_trans HMM.out HB00.out.size, ⟨_, _, _, rfl⟩, Grd.Q0 HT6.out HB1.out.size, Grd.Q0 HG6.out HB4.out.size, RowsIn.keep HGI.out hk, ?_, ?_, ?_⟩, HB6.out⟩
  ·rw [Grd.Qt]
   exact HO6.out
  ·refine ⟨by rw [Grd.Qt]; simp, fun i hi => ?_⟩
   rw [Grd.Qt] at hi
   have e1 : ((List.range hh).map (V8 b o n)).getD i Qy = V8 b o n i := by simp [List.getD, hi]
   have e2 : (Qe n s.cs hh).getD i [] = Grd.rowAt n s.cs i := by simp [Qe, List.getD, hi]
   have hle : i * n + n ≤ n * hh := by
    have : (i + 1) * n ≤ hh * n := Nat.mul_le_mul_right n hi
    rw [Nat.mul_comm n hh]
    rw [Nat.add_mul] at this
    omega
   have hlen : (Grd.rowAt n s.cs i).length = n := by
    unfold Grd.rowAt
    rw [List.length_take, List.length_drop, HL.out]
    omega
   have hC2 := HC.out.part (i * n) n (by rw [HL.out]; exact hle)
   have hr : X6 w0 M (V8 b o n i) (Grd.rowAt n s.cs i) := .inr ⟨by intro e; rw [e] at hlen; simp at hlen; omega, b, _, n, by unfold V8; rw [hlen], by omega, by omega, hC2, HST.out⟩
   rw [e1, e2]
   exact hr.keep hk
  ·intro k h1 h2
   obtain ⟨-, A, f, hA⟩ := Qm HO4.out k h1
   obtain ⟨hB, -⟩ := Qm HG6.out k h2
   have := Qc hA
   omega
end
theorem q1i (s : Scr) (a1 a2 a3 a4 : Option Addr) (n1 n2 n3 n4 c1 c2 c3 c4 : Nat) : (shA s (.slice a1 n1 c1) (.slice a2 n2 c2) (.slice a3 n3 c3) (.slice a4 n4 c4)).all (·.oneCell') = true := by simp [shA, Value.oneCell']
theorem ShA.move {t : TypeId} (ht : X8 t) {W W' : World} {M N N0 q p : Nat} {s : Scr} {rows : List (List C)} {cv tv gv rv : Value} {gvs vs : List Value} {A : Array Value} {f : Nat × Nat} (h : ShA t W M N q s rows cv tv gv rv gvs vs) (hold : W.heap[p]? = some (.cells A t f)) (hN : N0 ≤ N) (hM : M ≤ N0) (hlo : N0 ≤ p)
  (hp : W'.heap[p]? = some (.cells (shA s cv tv gv rv) t (0, 0))) (ho : ∀ k, k ≠ p → W'.heap[k]? = W.heap[k]?) : ShA t W' M N0 p s rows cv tv gv rv gvs vs := by
 have hne : ∀ {e : TypeId} {v : Value} {n : Nat} {xs : List Value}, t ≠ e → W.ownsRow N e 1 v n xs → ∀ g, v.ownBlock = some g → W'.heap[g]? = W.heap[g]? := fun hte hw g hg => by
  obtain ⟨-, B, f', hB⟩ := Qm hw g hg
  refine ho g fun e => ?_
  subst e
  rw [hold] at hB
  injection hB with hB
  injection hB with _ hB _
  exact hte hB
 have hk : Kept M W W' := fun k hk hS => by
  refine ho k fun e => ?_
  subst e
  rcases hS with hS | ⟨B, f', hS⟩
  ·omega
  ·rw [hold] at hS
   injection hS with hS
   injection hS with _ hS _
   exact ht.2.2 hS
 exact ⟨hp, hlo, hM, h.cvs, Grd.Q0 (Ze h.tabs (hne ht.1 h.tabs)) hN, Grd.Q0 (Ze h.gone (hne ht.2.1 h.gone)) hN, h.gin.keep hk, Grd.Q0 (Ze h.rws (hne ht.2.1 h.rws)) hN, h.rin.keep hk, h.two⟩
set_option maxHeartbeats 4000000 in
set_option maxRecDepth 100000 in
theorem qo5 (M N p n hh : Nat) (s fr : Scr) (rows : List (List C)) (cv tv gv : Value) (gvs : List Value) (W : World) (hS : ShAt 111 W M N p s rows) (hN : N ≤ W.heap.size) (hSt : ∀ b o m c, cv = .slice (some ⟨b, o, none⟩) m c → Still W M b) (hG : Gj W 0 gv fr.gone.length gvs) (hGI : RowsIn W M gvs fr.gone) (hV : Zh W fr cv tv gv) (hF : Fits fr) (hw : fr.w = n) (hh' : fr.h = hh) (hz : Qf n hh fr.cs = 0) :
  Calls Tryz.prog 143 #[.pointer (some ⟨p, 0, none⟩), .agg (scrA fr cv tv gv)] W fun e W' => e = .returned (.tuple #[]) ∧ ShAt 111 W' M N p fr (Qe n fr.cs hh) ∧ Below N W W' := by
 obtain ⟨ov, otv, ogv, orv, ogvs, ovs, hA⟩ := hS
 have kb : Below W.heap.size W (W.alloc (.cells (scrA fr cv tv gv) 32)) := (Below.refl _ _).alloc (Nat.le_refl _) _
 have x0 := heap_alloc_new W (.cells (scrA fr cv tv gv) 32)
 have hMW : M ≤ W.heap.size := Nat.le_trans hA.ml hN
 have HOP := qw9 M n hh fr cv tv gv gvs W _ hMW hSt hG hGI hGI.sls hV kb hF hw hh' hz
 have HA : Hid (ShA 111 W M N p s rows ov otv ogv orv ogvs ovs) := hA
 have HX0 : Hid _ := x0
 have HKB : Hid _ := kb
 clear x0 kb hA hSt hG hGI hV hF hw hh' hz
 go_enter Tryz.func143, Tryz.ntmps143
 go_upto_region 1 with fail
 generalize W.alloc (.cells (scrA fr cv tv gv) 32) = X at *
 go_wp2_with (refine wpList_load_row rfl 32 (.tmp 3) rfl W.heap.size rfl _ _ _ _ HX0.out Tryz.underlying32 rfl (by kernel_rfl) ?_)
 refine HOP.mono ?_
 rintro e V ⟨q, rfl, ⟨cv', tv', gv', rv', gvs', vs', hQ⟩, b1⟩
 obtain ⟨a1, n1, c1, rfl⟩ := hQ.cvs
 obtain ⟨a2, c2, rfl⟩ := Qw hQ.tabs
 obtain ⟨a3, c3, rfl⟩ := Qw hQ.gone
 obtain ⟨a4, c4, rfl⟩ := Qw hQ.rws
 have hbV : Below W.heap.size W V := HKB.out.trans (b1.mono HKB.out.size)
 have hpV := Grd.carry HA.out.blk hbV
 have HPV : Hid (V.heap[p]? = _) := hpV
 have HQ : Hid _ := hQ
 have HQB : Hid (V.heap[q]? = _) := hQ.blk
 have HBV : Hid (Below W.heap.size W V) := hbV
 have HXS : Hid (W.heap.size ≤ X.heap.size) := HKB.out.size
 clear hQ b1 hbV hpV HOP HX0 HKB
 go_wp2_with (first
  | (refine wpList_load_row rfl 111 (.tmp 7) rfl q rfl _ _ _ _ HQB.out Tryz.underlying111 rfl (by kernel_rfl) ?_)
  | (refine wpList_store_row rfl 111 (.tmp 9) _ rfl p (shA fr (.slice a1 n1 c1) (.slice a2 fr.tabs.length c2) (.slice a3 fr.gone.length c3) (.slice a4 (Qe n fr.cs hh).length c4)) rfl rfl _ _ HPV.out (by kernel_rfl) rfl (q1i _ _ _ _ _ _ _ _ _ _ _ _ _) ?_))
 go_end0
 refine ⟨rfl, ⟨_, _, _, _, _, _, ShA.move Qp HQ.out HPV.out (Nat.le_trans hN HXS.out) HA.out.ml HA.out.lo (setRow_heap _ _ _ _ _ _ HPV.out) (fun k hk => setRow_other _ _ _ _ hk)⟩, below_setRow (HBV.out.mono hN) HA.out.lo _⟩
end Put
namespace Put
open Grd (C SliceAt Qb Qf z0 Qy flat Qe Y9 Zi)
def Yw (n : Nat) : List Bool := (List.range n).map fun x => decide (0 < x ∧ x % 8 = 0)
def Qq (n hh : Nat) : Scr := ⟨n, hh, List.replicate (n * hh) (32, 0, 0, 0), 0, 0, false, 0, 0, 0, 0, (hh : Int) - 1, 4, Yw n, 0, 0, 0, 0, 0, 4, 0, ⟨#[]⟩, []⟩
def qdr (a b y : Int) : Scr := ⟨a, b, [], 0, 0, false, 0, 0, 0, 0, y, 4, [], 0, 0, 0, 0, 0, 4, 0, ⟨#[]⟩, []⟩
def qr6 (v : Value) : Prop := ∃ a b q l c, v = .agg #[.int .i64 a, .int .i64 b, .slice q l c]
theorem qzp (a b : Int) (q : Option Addr) (l c : Nat) : qr6 (.agg #[.int .i64 a, .int .i64 b, .slice q l c]) := ⟨a, b, q, l, c, rfl⟩
def qvo (v : Value) : Prop := ∃ a, v = .int .i64 a
theorem q1l (a : Int) : qvo (.int .i64 a) := ⟨a, rfl⟩
def qjp (v : Value) : Prop := v = .agg #[.int .i64 0, .int .i64 0, .int .i64 0, .int .i64 0, .int .i64 0, .int .i64 4]
theorem qzy : qjp (.agg #[.int .i64 0, .int .i64 0, .int .i64 0, .int .i64 0, .int .i64 0, .int .i64 4]) := rfl
def qvy (x y u : Value) : Array Value := #[(qlz x).getD 0 undef, (qlz x).getD 1 undef, (qlz x).getD 2 undef, .int .i64 0, .int .i64 0, .bool false, .int .i64 0, .int .i64 0, .int .i64 0, .int .i64 0, y, .int .i64 4, u, .int .i64 0, .int .i64 0, .int .i64 0, .int .i64 0, .int .i64 0, .int .i64 4, .int .i32 0, .string ⟨#[]⟩, .slice none 0 0]
theorem qge (a b y : Int) (cv tv : Value) : qvy (.agg #[.int .i64 a, .int .i64 b, cv]) (.int .i64 y) tv = scrA (qdr a b y) cv tv (.slice none 0 0) := rfl
theorem qh2 (W : World) (a b y : Int) (q : Option Addr) (l c : Nat) (q' : Option Addr) (l' c' : Nat) : (Instr.build 32 #[(0, .agg #[.int .i64 a, .int .i64 b, .slice q l c]), (6, .int .i64 y), (7, .int .i64 4), (9, .agg #[.int .i64 0, .int .i64 0, .int .i64 0, .int .i64 0, .int .i64 0, .int .i64 4]), (8, .slice q' l' c')]).run Tryz.prog W = .ok (.agg (scT (qdr a b y) q l c q' l' c' none 0 0)) W := by kernel_rfl
theorem qsy (a : Act) (dst : Option Tmp) (x y z u : Operand) (ty : TypeId) (pos : String) (after : Array Edge) (guard : Option (Nat × Bool)) (W : World) (hx : qr6 (a.eval x)) (hy : qvo (a.eval y)) (hz : qjp (a.eval z)) (hu : qfu (a.eval u)) :
  (execOp a.eval { dst, op := .build 32 #[(0, x), (6, y), (7, Operand.const (.int .i64 4)), (9, z), (8, u)], type := ty, pos, after, guard }).run Tryz.prog W = .ok (.value (.agg (qvy (a.eval x) (a.eval y) (a.eval u)))) W := by
 obtain ⟨a1, b1, q, l, c, hx⟩ := hx
 obtain ⟨y1, hy⟩ := hy
 unfold qjp at hz
 obtain ⟨q', l', c', hu⟩ := hu
 have e4 : a.eval (Operand.const (.int .i64 4)) = .int .i64 4 := rfl
 unfold execOp
 simp only [List.map_toArray, List.map_cons, List.map_nil, hx, hy, hz, hu, e4, qge, Sem.run_bind, qh2, Sem.run_pure, Result.andThen_ok]
def qfa (n x : Nat) : List Bool := (List.range n).map fun j => decide (0 < j ∧ j % 8 = 0 ∧ j < x)
def qab (n x : Nat) : Array Value := ((qfa n x).map Value.bool).toArray
theorem qth (n x : Nat) (h : n ≤ x) : qfa n x = Yw n := by
 unfold qfa Yw
 apply List.map_congr_left
 intro j hj
 rw [List.mem_range] at hj
 rw [decide_eq_decide]
 omega
theorem qol {W : World} {T n x : Nat} (h : W.heap[T]? = some (.cells (qab n x) 4 (0, 0))) (hx : x < n) : W.cell? ⟨T, x, none⟩ = some (.bool false) := by
 simp [World.cell?, h, qab, qfa, hx]
theorem qtr (n x : Nat) (h8 : x % 8 = 0) (h0 : 0 < x) : (qab n x).setIfInBounds x (.bool true) = qab n (x + 8) := by
 unfold qab qfa
 apply Array.ext
 ·simp
 ·intro i h1 h2
  simp only [Array.size_setIfInBounds, List.size_toArray, List.length_map, List.length_range] at h1
  rw [Array.getElem_setIfInBounds (by simpa using h1)]
  by_cases e : x = i
  ·subst e
   simp [h8]
   omega
  ·have h3 : decide (0 < i ∧ i % 8 = 0 ∧ i < x) = decide (0 < i ∧ i % 8 = 0 ∧ i < x + 8) := by rw [decide_eq_decide]; omega
   simp only [if_neg e, List.getElem_toArray, List.getElem_map, List.getElem_range, h3]
def J7 (n : Nat) : Array Value := (List.replicate n (Value.bool false)).toArray
theorem qlx (n : Nat) : qab n 8 = J7 n := by
 unfold qab qfa J7
 apply Array.ext
 ·simp
 ·intro i h1 h2
  simp
  omega
theorem qmv (n : Nat) : madeCells (Value.bool false).cells (n * 1) = J7 n := by
 unfold madeCells J7
 apply Array.ext
 ·simp
 ·intro i h1 h2
  have e : i % 1 = 0 := by omega
  simp [Value.cells, e]
theorem qwc (n : Nat) (hn : n ≤ 120) (W : World) : (Instr.makeSlice 27 (.int .i64 (n : Int)) (.int .i64 (n : Int))).run Tryz.prog W = .ok (.slice (some ⟨W.heap.size, 0, none⟩) n n) (W.alloc (.cells (J7 n) 4)) := by
 obtain ⟨i0, hi, hzz⟩ := Option.map_eq_some_iff.1 qiw
 simp only [Prod.mk.injEq] at hzz
 obtain ⟨hz0, hz1, hz2⟩ := hzz
 have h := run_makeSlice (P := Tryz.prog) (w := W) 27 4 i0 (.bool false) Gb hi hz0 .i64 .i64 (n : Int) (n : Int) (by omega) (by omega) (by rw [hz1]; simp; omega) (by rw [hz2]; simp; omega) (by omega)
 rw [h, hz1, Int.toNat_natCast, qmv]
section
attribute [local go_sem ↓] qsy Jc
attribute [local go_sem] qzp q1l qzy qha Gv qge Xy Xx
set_option maxHeartbeats 4000000 in
set_option maxRecDepth 100000 in
theorem qdt (n hh : Nat) (w : World) (hs : Zi n hh = true) : Calls Tryz.prog 10 #[.int .i64 (n : Int), .int .i64 (hh : Int)] w (Made w w (Qq n hh) 0) := by
 have hsz : 1 ≤ (n : Int) ∧ (n : Int) ≤ 120 ∧ 1 ≤ (hh : Int) ∧ (hh : Int) ≤ 60 := by simpa [Grd.Zi] using hs
 obtain ⟨w1, w2, w3, w4⟩ := hsz
 have HN : Hid (∀ W, Calls Tryz.prog 26 #[.int .i64 (n : Int), .int .i64 (hh : Int)] W fun e w' => ∃ v, e = .returned (.tuple #[.agg #[.int .i64 (n : Int), .int .i64 (hh : Int), v], .int .i64 0]) ∧ Y9 w' W.heap.size v (List.replicate (n * hh) (32, 0, 0, 0)) ∧ Below W.heap.size W w') := fun W => by
  have h := Grd.qxv (n : Int) (hh : Int) W hs
  have e : ((n : Int) * (hh : Int)).toNat = n * hh := by rw [← Int.natCast_mul, Int.toNat_natCast]
  rw [e] at h
  exact h
 have hx0 := heap_alloc_new w (.cells zA 32)
 have kb : Below w.heap.size w (w.alloc (.cells zA 32)) := (Below.refl _ _).alloc (Nat.le_refl _) _
 have HX0 : Hid _ := hx0
 have HKB : Hid _ := kb
 clear hs hx0 kb
 go_enter Tryz.func10, Tryz.ntmps10
 go_wp2_with fail
 refine (HN.out _).mono ?_
 rintro e W1 ⟨v, rfl, ho, b1⟩
 have HO : Hid (Y9 W1 _ v (List.replicate (n * hh) (32, 0, 0, 0))) := ho
 obtain ⟨g, cap, rest, t, hv, -, -, -, -⟩ := ho
 rw [List.length_replicate] at hv
 subst hv
 go_upto_region 4 with fail
 have hL : n * hh ≤ 7200 := by have := Nat.mul_le_mul (show n ≤ 120 by omega) (show hh ≤ 60 by omega); omega
 generalize hLL : n * hh = L at *
 have HLL : Hid (n * hh = L) := hLL
 clear hLL
 have HX1 : Hid (W1.heap[w.heap.size]? = _) := Grd.carry HX0.out b1
 have hb1 : Below w.heap.size w W1 := HKB.out.trans (b1.mono HKB.out.size)
 have xg := heap_alloc_new W1 (.cells #[.int .i64 (n : Int), .int .i64 (hh : Int), .slice (some ⟨g, 0, none⟩) L cap] 24)
 have bg : Below W1.heap.size W1 (W1.alloc (.cells #[.int .i64 (n : Int), .int .i64 (hh : Int), .slice (some ⟨g, 0, none⟩) L cap] 24)) := (Below.refl _ _).alloc (Nat.le_refl _) _
 obtain ⟨g0, g1, g2, -⟩ := Grd.cells3 xg
 have HX2 : Hid _ := Grd.carry HX1.out bg
 have HBG : Hid _ := bg
 clear HX0 HKB b1 bg
 generalize (W1.alloc (.cells #[.int .i64 (n : Int), .int .i64 (hh : Int), .slice (some ⟨g, 0, none⟩) L cap] 24)) = X at *
 have hwr : IntKind.i64.wrap ((hh : Int) - 1) = (hh : Int) - 1 := by rw [IntKind.wrap_i64]; omega
 have hms := qwc n (by omega)
 have p1 : Zb ((X.alloc (.cells (J7 n) 4)).alloc (.cells zA 32)).drew (.pointer (some ⟨X.heap.size + 1, 0, none⟩)) := Za (show ((X.alloc (.cells (J7 n) 4)).alloc (.cells zA 32)).heap[X.heap.size + 1]? = _ from heap_alloc2_new X _ _) rfl
 have p2 : Zb ((X.alloc (.cells zA 32)).alloc (.cells (J7 n) 4)).drew (.pointer (some ⟨X.heap.size, 0, none⟩)) := Za (show ((X.alloc (.cells zA 32)).alloc (.cells (J7 n) 4)).heap[X.heap.size]? = _ from (Below.heap_alloc _ _ _ (by simp)).trans (heap_alloc_new _ _)) rfl
 have SK : Hid (∀ w', Below X.heap.size X w' → w'.cell? ⟨W1.heap.size, 0, none⟩ = some (.int .i64 (n : Int)) ∧ w'.cell? ⟨W1.heap.size, 1, none⟩ = some (.int .i64 (hh : Int)) ∧ w'.cell? ⟨W1.heap.size, 2, none⟩ = some (.slice (some ⟨g, 0, none⟩) L cap)) := fun w' h => ⟨Qa h g0, Qa h g1, Qa h g2⟩
 have b0 : Below X.heap.size X X.drew := (Below.refl _ _).drew
 have bF : Below X.heap.size X (X.alloc (.cells (J7 n) 4)).drew := ((Below.refl _ _).alloc (Nat.le_refl _) _).drew
 have bZ : Below X.heap.size X (X.alloc (.cells zA 32)).drew := ((Below.refl _ _).alloc (Nat.le_refl _) _).drew
 have bFZ : Below X.heap.size X ((X.alloc (.cells (J7 n) 4)).alloc (.cells zA 32)).drew := (((Below.refl _ _).alloc (Nat.le_refl _) _).alloc (by simp) _).drew
 have bZF : Below X.heap.size X ((X.alloc (.cells zA 32)).alloc (.cells (J7 n) 4)).drew := (((Below.refl _ _).alloc (Nat.le_refl _) _).alloc (by simp) _).drew
 go_cut [8] from 20 to 26 (fun c wx => ∃ R T, c = .pointer (some ⟨R, 0, none⟩) ∧ X.heap.size ≤ R ∧ X.heap.size ≤ T ∧ R ≠ T ∧ wx.heap[R]? = some (.cells (scrA (qdr (n : Int) (hh : Int) ((hh : Int) - 1)) (.slice (some ⟨g, 0, none⟩) L cap) (.slice (some ⟨T, 0, none⟩) n n) (.slice none 0 0)) 32 (0, 0)) ∧ wx.heap[T]? = some (.cells (J7 n) 4 (0, 0)) ∧ Below X.heap.size X wx)
 case first =>
  go_region_held3 (fun w' => w'.cell? ⟨W1.heap.size, 0, none⟩ = some (.int .i64 (n : Int)) ∧ w'.cell? ⟨W1.heap.size, 1, none⟩ = some (.int .i64 (hh : Int)) ∧ w'.cell? ⟨W1.heap.size, 2, none⟩ = some (.slice (some ⟨g, 0, none⟩) L cap))
   (first | exact SK.out _ b0 | exact SK.out _ bF | exact SK.out _ bZ | exact SK.out _ bFZ | exact SK.out _ bZF | exact SK.out _ (below_setRow bFZ (Nat.le_succ _) _) | exact SK.out _ (below_setRow bZF (Nat.le_refl _) _)) (fail)
  all_goals go_wp2_with fail
  all_goals go_meet
  all_goals first
   | exact ⟨X.heap.size + 1, X.heap.size, rfl, Nat.le_succ _, Nat.le_refl _, Nat.succ_ne_self _, setRow_heap _ _ _ _ _ _ (show ((X.alloc (.cells (J7 n) 4)).alloc (.cells zA 32)).heap[X.heap.size + 1]? = _ from heap_alloc2_new X _ _), (setRow_other _ _ _ _ (Nat.ne_of_lt (Nat.lt_succ_self _))).trans (show ((X.alloc (.cells (J7 n) 4)).alloc (.cells zA 32)).heap[X.heap.size]? = _ from (Below.heap_alloc _ _ _ (by simp)).trans (heap_alloc_new _ _)), below_setRow bFZ (Nat.le_succ _) _⟩
   | exact ⟨X.heap.size, X.heap.size + 1, rfl, Nat.le_refl _, Nat.le_succ _, Nat.ne_of_lt (Nat.lt_succ_self _), setRow_heap _ _ _ _ _ _ (show ((X.alloc (.cells zA 32)).alloc (.cells (J7 n) 4)).heap[X.heap.size]? = _ from (Below.heap_alloc _ _ _ (by simp)).trans (heap_alloc_new _ _)), (setRow_other _ _ _ _ (Nat.succ_ne_self _)).trans (show ((X.alloc (.cells zA 32)).alloc (.cells (J7 n) 4)).heap[X.heap.size + 1]? = _ from heap_alloc2_new X _ _), below_setRow bZF (Nat.le_refl _) _⟩
 case rest =>
  obtain ⟨R, T, rfl, hR, hTT, hne, hxR, hxT, hbx⟩ := hcut
  have HXR : Hid _ := hxR
  have HXT : Hid (wc.heap[T]? = some (.cells (J7 n) 4 (0, 0))) := hxT
  have HBX : Hid (Below X.heap.size X wc) := hbx
  clear p1 p2 b0 bF bZ bFZ bZF SK g0 g1 g2 hxR hxT hbx hms
  go_wp2_with fail
  go_loopg [9] (n + 8) (fun q i wr => ∃ x : Nat, i = .int .i64 (x : Int) ∧ x % 8 = 0 ∧ 8 ≤ x ∧ x ≤ n + 8 ∧ n + 8 - x ≤ q ∧ wr.heap[R]? = some (.cells (scrA (qdr (n : Int) (hh : Int) ((hh : Int) - 1)) (.slice (some ⟨g, 0, none⟩) L cap) (.slice (some ⟨T, 0, none⟩) n n) (.slice none 0 0)) 32 (0, 0)) ∧ wr.heap[T]? = some (.cells (qab n x) 4 (0, 0)) ∧ Below X.heap.size X wr)
  case atStart => exact ⟨8, rfl, by omega, by omega, by omega, by omega, HXR.out, by rw [qlx]; exact HXT.out, HBX.out⟩
  case round =>
   obtain ⟨x, rfl, hx8, hx9, hx10, hq, hyR, hyT, hby⟩ := hrel
   have HYR : Hid (wr.heap[R]? = _) := hyR
   have HYT : Hid (wr.heap[T]? = some (.cells (qab n x) 4 (0, 0))) := hyT
   have HBY : Hid (Below X.heap.size X wr) := hby
   clear HXR HXT HBX
   by_cases hlt : x < n
   ·have lt1 : ((x : Int) < (n : Int)) := by omega
    have c12 := (Qh hyR).2.1.2.1
    have d1 := qol hyT hlt
    have f1 := Kw hyT x
    clear hyR hyT hby
    go_wp2_with fail
    go_roundg (n + 8 - (x + 8))
    case measure => omega
    case rel => exact ⟨x + 8, by go_num, by omega, by omega, by omega, by omega, (Q4 hne).trans HYR.out, Xl HYT.out (qtr n x hx8 (by omega)), HBY.out.setCell hTT _⟩
   ·have lt1 : ¬ ((x : Int) < (n : Int)) := by omega
    clear hyR hyT hby
    have hyZ : wr.heap[w.heap.size]? = _ := Grd.carry HX2.out HBY.out
    have HYZ : Hid _ := hyZ
    clear hyZ
    go_wp2_with (first
     | (refine wpList_load_row rfl 32 (.tmp 8) rfl R rfl _ _ _ _ HYR.out Tryz.underlying32 rfl (by kernel_rfl) ?_)
     | (refine wpList_store_row rfl 32 (.tmp 4) _ rfl w.heap.size (scrA (qdr (n : Int) (hh : Int) ((hh : Int) - 1)) (.slice (some ⟨g, 0, none⟩) L cap) (.slice (some ⟨T, 0, none⟩) n n) (.slice none 0 0)) rfl rfl _ _ HYZ.out (by kernel_rfl) rfl (Qn _ _ _ _ _ _ _ _ _ _) ?_))
    (try simp only [Exit.inBlock, Exit.then])
    refine bodyPost_ret (v := .tuple #[.agg (scrA (qdr (n : Int) (hh : Int) ((hh : Int) - 1)) (.slice (some ⟨g, 0, none⟩) L cap) (.slice (some ⟨T, 0, none⟩) n n) (.slice none 0 0)), .int .i64 0]) ?_ rfl ⟨.slice (some ⟨g, 0, none⟩) L cap, .slice (some ⟨T, 0, none⟩) n n, .slice none 0 0, rfl, ?_, ?_⟩
    ·exact Grd.Qd rfl _ _ w.heap.size _ _ _ _ rfl (setRow_heap _ _ _ _ _ _ HYZ.out) Tryz.underlying32 rfl (by kernel_rfl) _ rfl
    ·have hw1 := hb1.size
     have hw2 := HBG.out.size
     have hw3 := Qc HX2.out
     have hbA : Below W1.heap.size W1 wr := HBG.out.trans (HBY.out.mono hw2)
     obtain ⟨g', cap', rest', t', hv', hg', hl', hm', hh'⟩ := HO.out
     injection hv' with hv1 hv2 hv3
     injection hv1 with hv1
     injection hv1 with hv1
     subst hv1 hv3
     have hg2 : w.heap.size < g := by simp at hg'; omega
     refine ⟨.inr ⟨g, cap, rest', t', ?_, by omega, ?_, hm', ?_⟩, ?_, [], World.ownsRow_nil _ _ _ _, rfl, fun i hi => absurd hi (by simp [Qq])⟩
     ·show _ = Value.slice _ (List.replicate (n * hh) _).length _
      rw [List.length_replicate, HLL.out]
     ·show (List.replicate (n * hh) _).length ≤ _
      rw [HLL.out]
      exact hl'
     ·show _ = some (Obj.cells (flat (List.replicate (n * hh) _) ++ rest').toArray _ _)
      rw [HLL.out, setRow_other _ _ _ _ (by omega)]
      exact Grd.carry hh' hbA
     ·show (wr.setRow _ _).ownsRow _ _ _ _ (Yw n).length ((Yw n).map Value.bool)
      have e := qth n x (by omega)
      have hlen : (Yw n).length = n := by simp [Yw]
      rw [hlen]
      refine ⟨by rw [List.length_map, hlen, Nat.mul_one], .inr ⟨T, n, qab n x, rfl, by omega, ?_, Nat.le_refl _, by unfold maxLen; omega, by simp [qab, qfa], ?_⟩⟩
      ·rw [setRow_other _ _ _ _ (by omega)]
       exact HYT.out
      ·unfold qab
       rw [e]
       show List.take (n * 1) ((Yw n).map Value.bool) = _
       rw [List.take_of_length_le (by rw [List.length_map, hlen, Nat.mul_one]; exact Nat.le_refl _)]
    ·exact below_setRow (hb1.trans ((HBG.out.trans (HBY.out.mono HBG.out.size)).mono hb1.size)) (Nat.le_refl _) _
end
end Put
namespace Put
open Grd (C SliceAt Qb Qf z0 Qy flat Qe)
def Xu (s : Scr) (n hh : Nat) : Scr := { Qq n hh with gone := s.gone }
theorem q1b (n hh : Nat) (hs : Grd.Zi n hh = true) : Qf n hh (Qq n hh).cs = 0 := by
 refine (Grd.Zc n hh _).2 ⟨hs, by simp [Qq], fun y hy => ?_⟩
 have hle : y * n + n ≤ n * hh := by
  have : (y + 1) * n ≤ hh * n := Nat.mul_le_mul_right n hy
  rw [Nat.mul_comm n hh]
  rw [Nat.add_mul] at this
  omega
 have e : Grd.rowAt n (Qq n hh).cs y = List.replicate n (32, 0, 0, 0) := by
  unfold Grd.rowAt Qq
  dsimp only
  rw [List.drop_replicate, List.take_replicate]
  congr 1
  omega
 rw [e]
 exact Fa n 0 (by decide)
theorem qs2 {W : World} {N M : Nat} {v : Value} {cs : List C} (h : Grd.Y9 W N v cs) : ∀ b o m c, v = .slice (some ⟨b, o, none⟩) m c → Still W M b := fun b o m c e => by
 obtain ⟨g, cap, rest, ⟨t, ht⟩, hv, -, -, -, hg⟩ := h
 subst ht
 rw [e] at hv
 injection hv with hv
 injection hv with hv
 injection hv with hv _
 subst hv
 exact .inr ⟨_, _, hg⟩
theorem qr0 {W W' : World} {M N R n hh : Nat} {cv tv gv : Value} (h : Qo W M N (Qq n hh) cv tv gv) (hp : 0 < n * hh) (ho : ∀ k, k ≠ R → W'.heap[k]? = W.heap[k]?) (hR : R < N ∨ W.heap.size ≤ R) : Grd.Y9 W' N cv (Qq n hh).cs ∧ W'.ownsRow N 4 1 tv (Qq n hh).tabs.length ((Qq n hh).tabs.map Value.bool) := by
 have hne : ∀ g, N ≤ g → g < W.heap.size → W'.heap[g]? = W.heap[g]? := fun g h1 h2 => ho g (by omega)
 have hO : Grd.Y9 W N cv (Qq n hh).cs := by
  rcases h.c with ⟨he, -⟩ | h1
  ·have h1 := congrArg List.length he
   simp [Qq] at h1
   omega
  ·exact h1
 have hO' : Grd.Y9 W' N cv (Qq n hh).cs := by
  obtain ⟨g, cap, rest, t, hv, h1, h2, h3, hg⟩ := hO
  exact ⟨g, cap, rest, t, hv, h1, h2, h3, (hne g h1 (Qc hg)).trans hg⟩
 have hT : W'.ownsRow N 4 1 tv (Qq n hh).tabs.length ((Qq n hh).tabs.map Value.bool) := Ze h.t fun g hg => by
  obtain ⟨h1, A, f, hA⟩ := Qm h.t g hg
  exact hne g h1 (Qc hA)
 exact ⟨hO', hT⟩
theorem qmy (W : World) (o : Obj) (k : Nat) (h : k ≠ W.heap.size) : (W.alloc o).heap[k]? = W.heap[k]? := by
 rcases Nat.lt_or_ge k W.heap.size with h1 | h1
 ·exact Below.heap_alloc _ _ _ h1
 ·rw [Array.getElem?_eq_none h1, Array.getElem?_eq_none (by simp; omega)]
theorem ql2 {W W' : World} {N R : Nat} {v : Value} {cs : List C} {A : Array Value} {f : Nat × Nat} (h : Grd.Y9 W N v cs) (hR : W.heap[R]? = some (.cells A 32 f)) (ho : ∀ k, k ≠ R → W'.heap[k]? = W.heap[k]?) : Grd.Y9 W' N v cs := by
 obtain ⟨g, cap, rest, t, hv, h1, h2, h3, hg⟩ := h
 refine ⟨g, cap, rest, t, hv, h1, h2, h3, (ho g fun e => ?_).trans hg⟩
 obtain ⟨t, ht⟩ := t
 subst ht
 rw [e, hR] at hg
 injection hg with hg
 injection hg with _ hg _
 exact absurd hg (by decide)
theorem qwu {W W' : World} {R : Nat} {s : Scr} {cv tv : Value} {A : Array Value} {f : Nat × Nat} {N : Nat} (hO : Grd.Y9 W N cv s.cs) (hT : W.ownsRow N 4 1 tv s.tabs.length (s.tabs.map Value.bool)) (hR : W.heap[R]? = some (.cells A 32 f)) (ho : ∀ k, k ≠ R → W'.heap[k]? = W.heap[k]?) : SliceAt W' cv s.cs ∧ Vy W' tv s.tabs := by
 have h1 : U8 W' N cv s.cs := .inr (ql2 hO hR ho)
 refine ⟨h1.cells, qgy (Ze hT fun g hg => ho g fun e => ?_)⟩
 obtain ⟨-, B, f', hB⟩ := Qm hT g hg
 rw [e, hR] at hB
 injection hB with hB
 injection hB with _ hB _
 exact absurd hB (by decide)
section
attribute [local go_sem ↓] Jc
attribute [local go_sem] Gv Xy Xx
set_option maxHeartbeats 8000000 in
set_option maxRecDepth 100000 in
theorem qp3 (M : Nat) (w : World) (s : Scr) (rows : List (List C)) (n hh : Nat) (hw : s.w = n) (hh' : s.h = hh) (hs : Grd.Zi n hh = true) (hgl : s.gone.length ≤ 50) :
  Does 142 #[] M w s (Xu s n hh) rows (Qe n (Qq n hh).cs hh) := by
 intro W p hb hS
 have hN := hb.size
 have HNW : Hid (∀ V, Calls Tryz.prog 10 #[.int .i64 (n : Int), .int .i64 (hh : Int)] V (Made V V (Qq n hh) 0)) := fun V => qdt n hh V hs
 have HS : Hid (ShAt 111 W M w.heap.size p s rows) := hS
 obtain ⟨ov, otv, ogv, orv, ogvs, ovs, hA⟩ := hS
 obtain ⟨ga, gc, rfl⟩ := Qw hA.gone
 have HA : Hid (ShA 111 W M w.heap.size p s rows ov otv (.slice ga s.gone.length gc) orv ogvs ovs) := hA
 have SK : Hid (∀ V, Below W.heap.size W V → V.cell? ⟨p, 0, none⟩ = some (.int .i64 (n : Int)) ∧ V.cell? ⟨p, 1, none⟩ = some (.int .i64 (hh : Int))) := fun V h => by
  have hblk := Grd.carry HA.out.blk h
  obtain ⟨⟨c0, c1, -⟩, -, -⟩ := Qr hblk
  rw [hw] at c0
  rw [hh'] at c1
  exact ⟨c0, c1⟩
 have HHS : Hid (Grd.Zi n hh = true) := hs
 have b0 : Below W.heap.size W W.drew := (Below.refl _ _).drew
 clear hA hb hs
 show Calls _ _ #[.pointer (some ⟨p, 0, none⟩)] _ _
 go_enter Tryz.func142, Tryz.ntmps142
 have bz : Below W.heap.size W (W.alloc (.cells zA 32)) := (Below.refl _ _).alloc (Nat.le_refl _) _
 have b0a : Below W.heap.size W (W.alloc (.cells zA 32)).drew := bz.drew
 have hzb : (W.alloc (.cells zA 32)).drew.heap[W.heap.size]? = some (.cells zA 32 (0, 0)) := heap_alloc_new W _
 have hzs : (W.alloc (.cells zA 32)).drew.heap.size = W.heap.size + 1 := by simp [World.drew]
 have HHP : Hid (0 < n * hh) := by
  have hsz : 1 ≤ (n : Int) ∧ (n : Int) ≤ 120 ∧ 1 ≤ (hh : Int) ∧ (hh : Int) ≤ 60 := by simpa [Grd.Zi] using HHS.out
  exact Nat.mul_pos (by omega) (by omega)
 go_upto_region 0 with fail
 go_cut [2] from 3 to 28 (fun c wx => ∃ (B N' : Nat) (a1 a2 a3 : Option Addr) (n1 n2 n3 c1 c2' c3 : Nat), c = .pointer (some ⟨B, 0, none⟩) ∧ W.heap.size ≤ B ∧ wx.heap[B]? = some (.cells (scT (Qq n hh) a1 n1 c1 a2 n2 c2' a3 n3 c3) 32 (0, 0)) ∧ Grd.Y9 wx N' (.slice a1 n1 c1) (Qq n hh).cs ∧ wx.ownsRow N' 4 1 (.slice a2 n2 c2') (Qq n hh).tabs.length ((Qq n hh).tabs.map Value.bool) ∧ Below W.heap.size W wx)
 case first =>
  go_region_held3 (fun w' => w'.cell? ⟨p, 0, none⟩ = some (.int .i64 (n : Int)) ∧ w'.cell? ⟨p, 1, none⟩ = some (.int .i64 (hh : Int)))
   (first | exact K4.out | exact K3.out | exact SK.out _ q2 | exact SK.out _ b0a | exact SK.out _ bz | exact SK.out _ b0)
   (first | (go_at_call 10; refine (HNW.out _).mono ?_; rintro e V2 ⟨cv', tv', gv', rfl, hO, c2⟩; have q2 : Below W.heap.size W V2 := b0a.trans (c2.mono b0a.size); obtain ⟨a1, n1, c1, a2, n2, c2', a3, n3, c3, rfl, rfl, rfl⟩ := hO.shapes; have hbx := Grd.carry hzb c2; have sp := Za hbx rfl; have K3 : Hid (V2.cell? _ = _ ∧ V2.cell? _ = _) := SK.out _ q2; have K4 : Hid _ := SK.out _ (below_setRow q2 (Nat.le_refl _) (scT (Qq n hh) a1 n1 c1 a2 n2 c2' a3 n3 c3)); have HF2 : Hid _ := And.intro (setRow_heap _ _ _ (scT (Qq n hh) a1 n1 c1 a2 n2 c2' a3 n3 c3) _ _ hbx) (And.intro (qr0 (R := W.heap.size) hO HHP.out (fun k hk => setRow_other V2 W.heap.size k (scT (Qq n hh) a1 n1 c1 a2 n2 c2' a3 n3 c3) hk) (.inl (by omega))) (below_setRow q2 (Nat.le_refl _) (scT (Qq n hh) a1 n1 c1 a2 n2 c2' a3 n3 c3))); have HBL : Hid (W.heap.size ≤ W.heap.size) := Nat.le_refl _; clear hO c2 hbx) | (go_at_call 10; refine (HNW.out _).mono ?_; rintro e V2 ⟨cv', tv', gv', rfl, hO, c2⟩; have q2 : Below W.heap.size W V2 := b0.trans (c2.mono b0.size); obtain ⟨a1, n1, c1, a2, n2, c2', a3, n3, c3, rfl, rfl, rfl⟩ := hO.shapes; have sp := Za (heap_alloc_new V2 (.cells zA 32)) rfl; have q3 := q2.alloc q2.size (.cells zA 32); have K3 : Hid _ := SK.out _ q3; have K4 : Hid _ := SK.out _ (below_setRow q3 q2.size (scT (Qq n hh) a1 n1 c1 a2 n2 c2' a3 n3 c3)); have HF2 : Hid _ := And.intro (setRow_heap _ _ _ (scT (Qq n hh) a1 n1 c1 a2 n2 c2' a3 n3 c3) _ _ (heap_alloc_new V2 (.cells zA 32))) (And.intro (qr0 (R := V2.heap.size) hO HHP.out (fun k hk => (setRow_other (V2.alloc (.cells zA 32)) V2.heap.size k (scT (Qq n hh) a1 n1 c1 a2 n2 c2' a3 n3 c3) hk).trans (qmy V2 (.cells zA 32) k hk)) (.inr (Nat.le_refl _))) (below_setRow q3 q2.size (scT (Qq n hh) a1 n1 c1 a2 n2 c2' a3 n3 c3))); have HBL : Hid (W.heap.size ≤ V2.heap.size) := q2.size; clear hO c2))
  all_goals go_wp2_with fail
  all_goals go_meet
  all_goals exact ⟨_, _, a1, a2, a3, n1, n2, n3, c1, c2', c3, rfl, HBL.out, HF2.out.1, HF2.out.2.1.1, HF2.out.2.1.2, HF2.out.2.2⟩
 case rest =>
  obtain ⟨B, N', a1, a2, a3, n1, n2, n3, c1, c2', c3, rfl, hBW, hYB, hOG0, hsv0, hY⟩ := hcut
  have HY : Hid (Below W.heap.size W wc) := hY
  have HYB : Hid (wc.heap[B]? = _) := hYB
  have HOG : Hid _ := hOG0
  have HSV : Hid _ := hsv0
  clear hY hYB hOG0 hsv0 bz b0a b0 hzb hzs SK HNW
  generalize wc = Y at *
  have hpY := Grd.carry HA.out.blk HY.out
  obtain ⟨-, ⟨-, -, -, -, -, -, -, -, -, -, c21, -⟩, -⟩ := Qr hpY
  obtain ⟨-, ⟨-, -, -, -, -, -, -, -, -, -, d21⟩, dfz⟩ := Qh HYB.out
  have f21 := dfz 21
  have HZB : Hid ((Y.setCell ⟨B, 21, none⟩ (.slice ga s.gone.length gc)).heap[B]? = some (.cells (scT (Xu s n hh) a1 n1 c1 a2 n2 c2' ga s.gone.length gc) 32 (0, 0))) := Xl HYB.out rfl
  have hZ : Below W.heap.size W (Y.setCell ⟨B, 21, none⟩ (.slice ga s.gone.length gc)) := HY.out.setCell hBW _
  have hAZ := ShA.next HA.out hZ
  have hoff : ∀ k, k ≠ B → (Y.setCell ⟨B, 21, none⟩ (.slice ga s.gone.length gc)).heap[k]? = Y.heap[k]? := fun k hk => Q4 hk
  have hOG := ql2 HOG.out HYB.out hoff
  have hsv := qwu (s := Qq n hh) HOG.out HSV.out HYB.out hoff
  have hgv : Gj (Y.setCell ⟨B, 21, none⟩ (.slice ga s.gone.length gc)) w.heap.size (.slice ga s.gone.length gc) s.gone.length ogvs := Gj.of hAZ.gone
  have hgv0 : Gj (Y.setCell ⟨B, 21, none⟩ (.slice ga s.gone.length gc)) 0 (.slice ga s.gone.length gc) s.gone.length ogvs := by
   obtain ⟨h0, h | ⟨g, o, cap, A, hv, h1, h2⟩⟩ := hgv
   ·exact ⟨h0, .inl h⟩
   ·exact ⟨h0, .inr ⟨g, o, cap, A, hv, Nat.zero_le _, h2⟩⟩
  have hFit : Fits (Xu s n hh) := by
   have hsz : 1 ≤ (n : Int) ∧ (n : Int) ≤ 120 ∧ 1 ≤ (hh : Int) ∧ (hh : Int) ≤ 60 := by simpa [Grd.Zi] using HHS.out
   refine ⟨by show (-9223372036854775808 : Int) ≤ 4; decide, by show (4 : Int) ≤ 9223372036854775807; decide, by show (-9223372036854775808 : Int) ≤ 4; decide, by show (4 : Int) ≤ 9223372036854775807; decide, by show (0 : Nat) ≤ 1048576; decide, ?_, ?_⟩
   ·show s.gone.length ≤ 1048576
    omega
   ·show (Yw n).length ≤ 1048576
    have : (Yw n).length = n := by simp [Yw]
    omega
  have HBC := qo5 M w.heap.size p n hh s (Xu s n hh) rows (.slice a1 n1 c1) (.slice a2 n2 c2') (.slice ga s.gone.length gc) ogvs _ ⟨_, _, _, _, _, _, hAZ⟩ (Nat.le_trans hN hZ.size) (qs2 hOG) hgv0 hAZ.gin ⟨hsv.1, hsv.2, hgv.q1y hAZ.gin.list⟩ hFit rfl rfl (q1b n hh HHS.out)
  have HZW : Hid _ := hZ
  clear hAZ hOG hsv hgv hgv0 hZ dfz hpY HYB HA HS HHS hoff hFit HOG HSV
  go_upto_region 2 with fail
  generalize (Y.setCell ⟨B, 21, none⟩ (.slice ga s.gone.length gc)) = Z at *
  clear c21 d21 f21
  go_wp2_with (refine wpList_load_row rfl 32 (.tmp 2) rfl B rfl _ _ _ _ HZB.out Tryz.underlying32 rfl (by kernel_rfl) ?_)
  refine HBC.mono ?_
  rintro e U ⟨rfl, hU, bU⟩
  have HU : Hid _ := hU
  have HBU : Hid (Below w.heap.size W U) := (HZW.out.mono hN).trans bU
  clear hU bU HBC
  go_wp2_with fail
  go_end0
  exact ⟨rfl, HU.out, HBU.out⟩
end
theorem qlc : Plain 232 := by
 intro args W
 kernel_rfl
theorem qn3 : Plain 169 := by
 intro args W
 kernel_rfl
theorem qj0 : Plain 142 := by
 intro args W
 kernel_rfl
theorem qhc (s' : Scr) (cs : List C) (h : cs = s'.cs) : ({ s' with cs := cs } : Scr) = s' := by
 subst h
 rfl
structure Nums (w : World) (v : Value) (xs : List Int) : Prop where
 i : Stl.qbq w v xs
 l : xs.length ≤ 140737488355328
 w : ∀ x ∈ xs, -9223372036854775808 ≤ x ∧ x ≤ 9223372036854775807
theorem Nums.next {w w' : World} {v : Value} {xs : List Int} (h : Nums w v xs) (hb : Below w.heap.size w w') : Nums w' v xs := ⟨h.i.below hb, h.l, h.w⟩
theorem quc {w0 w : World} {s : Scr} {cv tv gv : Value} {n hh : Nat} (h : Met w0 w s cv tv gv) (hR : Qg s n hh) (pl : Option Addr) (nl cl : Nat) (xs : List Int) (hT : Stl.Tab w) (hI : Nums w (.slice pl nl cl) xs) : Calls Tryz.prog 217 #[.agg (scrA s cv tv gv), .slice pl nl cl] w (Made w0 w (qcx s xs) 0) :=
 qhf s _ cv tv gv pl nl cl 0 w0 w h.v h.b.size fun W B hW hB => by
  have := qa4 (h.next hW) hR _ qlc #[.pointer (some ⟨B, 0, none⟩)] (Qe n s.cs hh) _ (fun w1 hw1 => qt4 B _ w1 s _ pl nl cl xs (Qa hw1 hB) (qaq (qaq hT hW) hw1) (((hI.next hW).next hw1).i) hI.l (fun x hx => (hI.w x hx).2)) (Yd hR (qcx s xs) rfl) rfl
  rwa [qhc (qcx s xs) _ hR.flatten] at this
theorem qs9 {w0 w : World} {s : Scr} {cv tv gv : Value} {n hh : Nat} (h : Met w0 w s cv tv gv) (hR : Qg s n hh) (t : ByteArray) (ht : t.size ≤ 1048576) : Calls Tryz.prog 106 #[.agg (scrA s cv tv gv), .string t] w (Made w0 w (qb8 s t) 0) :=
 qgl s _ cv tv gv t 0 w0 w h.v h.b.size fun W B hW hB => by
  have := qa4 (h.next hW) hR _ qn3 #[.pointer (some ⟨B, 0, none⟩)] (Qe n s.cs hh) _ (fun w1 hw1 => qtq B _ w1 s _ t (Qa hw1 hB) (Grd.Tab.next (h.next hW).t hw1) ht) (Yd hR (qb8 s t) rfl) rfl
  rwa [qhc (qb8 s t) _ hR.flatten] at this
theorem q00 {s : Scr} {n hh : Nat} (hR : Qg s n hh) : Grd.Zi n hh = true := ((Grd.Zc n hh s.cs).1 hR.gz).1
theorem qy7 (n hh : Nat) : (Qe n (Qq n hh).cs hh).flatten = (Qq n hh).cs := by
 rw [Um, List.take_of_length_le]
 simp [Qq, Nat.mul_comm]
theorem qyw (n hh i : Nat) (hi : i < (Qe n (Qq n hh).cs hh).length) : ((Qe n (Qq n hh).cs hh).getD i []).length = n := by
 rw [Grd.Qt] at hi
 have e2 : (Qe n (Qq n hh).cs hh).getD i [] = Grd.rowAt n (Qq n hh).cs i := by simp [Qe, List.getD, hi]
 rw [e2]
 exact Grd.qaz n hh _ i (by simp [Qq]) hi
theorem qoa {w0 w : World} {s : Scr} {cv tv gv : Value} {n hh : Nat} (h : Met w0 w s cv tv gv) (hR : Qg s n hh) : Calls Tryz.prog 98 #[.agg (scrA s cv tv gv)] w (Made w0 w (Xu s n hh) 0) :=
 qex s _ cv tv gv 0 w0 w h.v h.b.size fun W _ hW => by
  have := qa4 (h.next hW) hR _ qj0 #[] (Qe n (Qq n hh).cs hh) _ (fun w1 _ => qp3 _ w1 s _ n hh hR.w hR.h (q00 hR) hR.gl) (F5 hR (Xu s n hh) _ (Grd.Qt _ _ _) (qyw n hh) (by show s.gone.length ≤ 51; have := hR.gl; omega) (fun i hi => by have := hR.Ua i hi; show (s.gone.getD i []).length ≤ 1048576; omega)) rfl
  rwa [qhc (Xu s n hh) _ (qy7 n hh)] at this
end Put
namespace Put
open Grd (C Qf)
theorem qjo (m b : Int) (hm0 : 0 ≤ m) (hm1 : m ≤ 63) (hb0 : 0 ≤ b) (hb1 : b ≤ 63) (on : Bool) : 0 ≤ Yy m b on ∧ Yy m b on ≤ 63 := by
 have key : ∀ k : Fin 64, ∀ j : Fin 64, (0 ≤ Yy (k.val : Int) (j.val : Int) true ∧ Yy (k.val : Int) (j.val : Int) true ≤ 63) ∧ (0 ≤ Yy (k.val : Int) (j.val : Int) false ∧ Yy (k.val : Int) (j.val : Int) false ≤ 63) := by decide +kernel
 have h := key ⟨m.toNat, by omega⟩ ⟨b.toNat, by omega⟩
 have e1 : ((m.toNat : Nat) : Int) = m := by omega
 have e2 : ((b.toNat : Nat) : Int) = b := by omega
 simp only [e1, e2] at h
 cases on
 ·exact h.2
 ·exact h.1
theorem qd1 {s : Scr} {n hh : Nat} (h : Qg s n hh) : 0 ≤ s.modes ∧ s.modes ≤ 63 := by
 have := h.looks
 simp only [Q9, Bool.and_eq_true, decide_eq_true_eq] at this
 exact this.2.2.1
theorem has4 (m : Int) (h : hasB m 4 = true) : bits .and .i64 m 4 ≠ 0 := by
 have h4 : bits .and .i64 m 4 = 4 := by simpa [hasB] using h
 rw [h4]
 decide
theorem set_right {s : Scr} {n hh : Nat} (h : Qg s n hh) (b : Int) (hb0 : 0 ≤ b) (hb1 : b ≤ 63) (on : Bool) : Qg (setS s b on) n hh := by
 have hm := qd1 h
 have hr := qjo s.modes b hm.1 hm.2 hb0 hb1 on
 have n1 := h.n1
 have h1 := h.h1
 have t0 := h.t0
 have t1 := h.t1
 have t2 := h.t2
 have hk := h.looks
 simp only [Q9, Bool.and_eq_true, decide_eq_true_eq] at hk
 have hlk : ∀ s' : Scr, (s'.sf, s'.sb, s'.sx) = (s.sf, s.sb, s.sx) → (s'.kf, s'.kb, s'.kbits) = (s.kf, s.kb, s.kbits) → s'.modes = Yy s.modes b on → s'.km = s.km → Q9 s' = true := fun s' e1 e2 e3 e4 => by
  simp only [Q9, Bool.and_eq_true, decide_eq_true_eq]
  rw [e1, e2, e3, e4]
  exact ⟨hk.1, hk.2.1, hr, hk.2.2.2⟩
 unfold setS Yn Vr
 by_cases hz : bits .and .i64 b 2 = 0
 ·rw [if_pos hz]
  refine ⟨h.w, h.h, h.n1, h.n2, h.h1, h.h2, h.cl, h.gz, h.x0, h.x1, h.y0, h.y1, h.kx0, h.kx1, h.ky0, h.ky1, h.t0, h.t1, h.t2, h.t3, ?_, hlk _ rfl rfl rfl rfl, h.tl, h.la, h.ti, h.gl, h.gr⟩
  have hl := h.late
  unfold Zy at hl ⊢
  dsimp only
  cases hs : s.late with
  | false => rfl
  | true =>
   rw [hs] at hl
   cases hb : hasB (Yy s.modes b on) 4 with
   | false => rfl
   | true =>
    have := has4 _ hb
    simp at hl
    simp [this]
    omega
 ·rw [if_neg hz]
  unfold F9
  refine ⟨h.w, h.h, h.n1, h.n2, h.h1, h.h2, h.cl, h.gz, by show (0 : Int) ≤ 0; omega, by show (0 : Int) < n; omega, ?_, ?_, h.kx0, h.kx1, h.ky0, h.ky1, h.t0, h.t1, h.t2, h.t3, by unfold Zy; rfl, hlk _ rfl rfl rfl rfl, h.tl, h.la, h.ti, h.gl, h.gr⟩
  ·dsimp only
   split
   ·exact t0
   ·omega
  ·dsimp only
   split
   ·omega
   ·omega
theorem qqf {s : Scr} {n hh : Nat} (h : Qg s n hh) : Qg (qec s) n hh := by
 have hm := qd1 h
 have hk := h.looks
 simp only [Q9, Bool.and_eq_true, decide_eq_true_eq] at hk
 have hr := qur s.modes s.km hm.1 hm.2 hk.2.2.2
 have hlk : Q9 (qec s) = true := by
  simp only [Q9, Bool.and_eq_true, decide_eq_true_eq]
  refine ⟨hk.2.1, hk.2.1, ?_, hk.2.2.2⟩
  show 0 ≤ bits .or .i64 (bits .andNot .i64 s.modes 6) s.km ∧ bits .or .i64 (bits .andNot .i64 s.modes 6) s.km ≤ 63
  rw [hr.1]
  exact hr.2
 exact ⟨h.w, h.h, h.n1, h.n2, h.h1, h.h2, h.cl, h.gz, h.kx0, h.kx1, h.ky0, h.ky1, h.kx0, h.kx1, h.ky0, h.ky1, h.t0, h.t1, h.t2, h.t3, by unfold Zy; rfl, hlk, h.tl, h.la, h.ti, h.gl, h.gr⟩
end Put
namespace Stl
theorem qze : ∀ y : Fin 128, ∀ k ∈ looks, (0 ≤ bits .or .i64 (y.1 : Int) k.2.2 ∧ bits .or .i64 (y.1 : Int) k.2.2 ≤ 127) ∧ (0 ≤ bits .andNot .i64 (y.1 : Int) k.2.2 ∧ bits .andNot .i64 (y.1 : Int) k.2.2 ≤ 127) := by decide +kernel
theorem qyx (n y : Int) (k : Int × Int × Int) (hk : k ∈ looks) (h0 : 0 ≤ y) (h1 : y ≤ 127) : 0 ≤ step n y k ∧ step n y k ≤ 127 := by
 have key : ∀ z : Int, 0 ≤ z → z ≤ 127 → (0 ≤ bits .or .i64 z k.2.2 ∧ bits .or .i64 z k.2.2 ≤ 127) ∧ (0 ≤ bits .andNot .i64 z k.2.2 ∧ bits .andNot .i64 z k.2.2 ≤ 127) := by
  intro z hz0 hz1
  have h := qze ⟨z.toNat, by omega⟩ k hk
  simp only [show ((z.toNat : Nat) : Int) = z by omega] at h
  exact h
 unfold step
 split
 ·split
  ·exact (key _ (key y h0 h1).1.1 (key y h0 h1).1.2).2
  ·exact (key y h0 h1).2
 ·split
  ·exact (key y h0 h1).1
  ·exact ⟨h0, h1⟩
theorem qr2 (n : Int) : ∀ (l : List (Int × Int × Int)) (y : Int), (∀ k ∈ l, k ∈ looks) → 0 ≤ y → y ≤ 127 → 0 ≤ l.foldl (step n) y ∧ l.foldl (step n) y ≤ 127
 | [], y, _, h0, h1 => ⟨h0, h1⟩
 | k :: l, y, hl, h0, h1 => by
  have h := qyx n y k (hl k (by simp)) h0 h1
  exact qr2 n l _ (fun k hk => hl k (by simp [hk])) h.1 h.2
theorem q0l (n : Int) : 0 ≤ (sc n).1 ∧ (sc n).1 ≤ 16 := by
 unfold sc
 repeat' split
 all_goals (constructor <;> simp <;> omega)
theorem qnv (s : Int × Int × Int) : Q3 s = true ↔ (0 ≤ s.1 ∧ s.1 ≤ 256 ∧ 0 ≤ s.2.1 ∧ s.2.1 ≤ 256 ∧ 0 ≤ s.2.2 ∧ s.2.2 ≤ 127) := by simp [Q3]
theorem qsp (s : Int × Int × Int) (n : Int) (h : Q3 s = true) : Q3 (one s n) = true := by
 rw [qnv] at h ⊢
 unfold one
 split
 ·simp
 ·have h1 := q0l n
  have h2 := q0l (n - 10)
  have h3 := qr2 n looks s.2.2 (fun _ h => h) h.2.2.2.2.1 h.2.2.2.2.2
  refine ⟨?_, ?_, ?_, ?_, h3.1, h3.2⟩ <;> (dsimp only; split <;> omega)
theorem qsw (s : Int × Int × Int) (a n : Int) (h : Q3 s = true) : Q3 (lng s a n) = true := by
 rw [qnv] at h ⊢
 unfold lng
 split
 ·exact h
 ·split
  ·exact ⟨by dsimp only; omega, by dsimp only; omega, h.2.2⟩
  ·exact ⟨h.1, h.2.1, by dsimp only; omega, by dsimp only; omega, h.2.2.2.2⟩
theorem Fs : ∀ (m : Nat) (l : List Int) (s : Int × Int × Int), l.length ≤ m → Q3 s = true → Q3 (Jf s l) = true
 | _, [], s, _, h => h
 | 0, _ :: _, _, hl, _ => by simp at hl
 | m + 1, a :: l, s, hl, h => by
  by_cases hg : isLg (a :: l) = true
  ·rw [qek s _ hg]
   exact Fs m _ _ (by simp at hl ⊢; omega) (qsw _ _ _ h)
  ·rw [qfx s a l (by simpa using hg)]
   exact Fs m _ _ (by simp at hl ⊢; omega) (qsp _ _ h)
theorem qjt (l : List Int) (s : Int × Int × Int) (h : Q3 s = true) : Q3 (Yc s l) = true := by
 unfold Yc
 split
 ·rfl
 ·exact Fs _ l s (Nat.le_refl _) h
end Stl
end Go.Proofs.YtcnblcmpgmgbbaaGreatDoor

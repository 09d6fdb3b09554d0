/- Parts of the proof, shortened by a program. -/
import Derived.WalkKit
import Derived.Test.YtooobiigijphkaaGreatDoorRows
import Derived.ProofKit
import Derived.OpenShut
import Derived.Deep.LoopGhost
import Derived.Deep.Draws
import Derived.Laws.Rows
import Derived.Laws.Tables
import Derived.Laws.CopyOwn
import Derived.Lib.QuietBelow
import Derived.BigQuiet
import Derived.Shelf.Strings.Builder1
import Derived.Shelf.Strings.BuilderF
import Derived.Shelf.Strings.BuilderK
import Derived.Shelf.Strings.BuilderRune
import Derived.Shelf.Utf8.AppendRune
import Derived.Shelf.Utf8.AppendRunePlain
import Derived.Shelf.Utf8.RuneCount
import Derived.Shelf.LaysM
import Derived.Shelf.Strconv.Clone
import Derived.Shelf.Strings.Search1
import Derived.Shelf.Strings.Search2
import Derived.Shelf.Strings.Cut
import Derived.Shelf.Strings.Shaped
import Derived.Shelf.Unicode.Decode
import Derived.Shelf.Strings.RuneCount
import Derived.Shelf.Bits.Mul64
import Derived.Shelf.Unicode.DecodeSlow
import Derived.Shelf.Unicode.DecodeAny
import Derived.Shelf.Strings.BuilderCap
import Derived.Shelf.Slices.Equal
import Derived.Ground.Names2Prog
import Derived.Shelf.Slices.Clone
import Derived.Shelf.Slices.Empties2
import Derived.Test.YtooobiigijphkaaGreatDoorProg
import Derived.Laws.MakeOwn
import Derived.Deep.RegionLaw
import Derived.Lib.LaidU8
import Derived.Deep.Strs
import Derived.Deep.Slices
import Derived.ChangeSlices
import Derived.SizedLaws
import Derived.Lib.SmallJoins
import Derived.Lib.Small
import Derived.Lib.OthersKept
set_option maxHeartbeats 4000000
open Nat renaming le_refl → qd
open List renaming replicate → qe, getD → qy
open Go renaming heap_alloc_new → qf
open Go.RowKit.Below renaming refl → qr
open Go.Proofs.Tryz renaming prog → qP
namespace Go.Proofs.YtooobiigijphkaaGreatDoor
set_option linter.unusedVariables false
set_option linter.unusedSimpArgs false
set_option maxRecDepth 100000
namespace Txt
def spans : List (Int × Int × Int) := [(0x0,0x1F,0),(0x7F,0x9F,0),(0x300,0x36F,0),(0x1100,0x115F,2),(0x200B,0x200F,0),(0x2028,0x202E,0),(0x20D0,0x20FF,0),(0x2E80,0x303E,2),(0x3041,0x4DBF,2),(0x4E00,0xA4CF,2),(0xAC00,0xD7A3,2),(0xD800,0xDFFF,0),(0xF900,0xFAFF,2),(0xFE00,0xFE0F,0),(0xFE30,0xFE6F,2),(0xFEFF,0xFEFF,0),(0xFF00,0xFF60,2),(0xFFE0,0xFFE6,2),(0x1F300,0x1F64F,2),(0x1F900,0x1F9FF,2),(0x20000,0x3FFFD,2)]
def look : List (Int × Int × Int) → Int → Int
 | [],_ => 1
 | x :: t,r => if r < x.1 then 1 else if r ≤ x.2.1 then x.2.2 else look t r
def wd (r : Int) : Int := if r < 0 ∨ 1114111 < r then 0 else look spans r
theorem qft (r : Int) : ∀ l : List (Int × Int × Int), (∀ x ∈ l, 0 ≤ x.2.2 ∧ x.2.2 ≤ 2) → 0 ≤ look l r ∧ look l r ≤ 2
 | [],_ => by simp [look]
 | x :: t,h => by
  have hx := h x (by simp)
  have ht := qft r t (fun y hy => h y (by simp [hy]))
  unfold look;split
  ·omega
  ·split <;> omega
theorem Vo (r : Int) : 0 ≤ wd r ∧ wd r ≤ 2 := by
 unfold wd;split
 ·omega
 ·exact qft r spans (by decide)
end Txt
open Go.ChangeShapes Go.WideShapes Go.ChangeAt Go.RowKit
namespace Txt
def qcu (x : Int × Int × Int) : List Value := [.int .i32 x.1,.int .i32 x.2.1,.int .i64 x.2.2]
def spanCells : Array Value := (spans.flatMap qcu).toArray
def Tab (w : World) : Prop := ∃ (t : TypeId) (fr : Nat × Nat),w.heap[0]? = some (.cells spanCells t fr)
theorem Tab.below {B : Nat} {w w' : World} (h : Tab w) (hb : Below B w w') (hB : 0 < B) : Tab w' := by
 unfold Tab at h ⊢;rw [hb.block _ hB];exact h
theorem Tab.pos {w : World} (h : Tab w) : 0 < w.heap.size := by
 obtain ⟨t,fr,h⟩ := h;have := (Array.getElem?_eq_some_iff.1 h).1;omega
theorem Q6 {k : IntKind} {a b : Int} (h : a = b) : Ending.returned (.int k a) = .returned (.int k b) := by rw [h]
theorem qxr (k : Nat) (hk : k < 21) : ∃ a b c : Int, spans.drop k = (a, b, c) :: spans.drop (k + 1) ∧
  ∀ wr : World,(Instr.index 92 (.agg spanCells) (.int .i64 (k : Int))).run qP wr = .ok (.agg #[.int .i32 a,.int .i32 b,.int .i64 c]) wr := by
 have : k = 0 ∨ k = 1 ∨ k = 2 ∨ k = 3 ∨ k = 4 ∨ k = 5 ∨ k = 6 ∨ k = 7 ∨ k = 8 ∨ k = 9 ∨ k = 10 ∨ k = 11 ∨ k = 12 ∨ k = 13 ∨ k = 14 ∨ k = 15 ∨ k = 16 ∨ k = 17 ∨ k = 18 ∨ k = 19 ∨ k = 20 := by omega
 rcases this with rfl | rfl | rfl | rfl | rfl | rfl | rfl | rfl | rfl | rfl | rfl | rfl | rfl | rfl | rfl | rfl | rfl | rfl | rfl | rfl | rfl <;>
  exact ⟨_,_,_,rfl,fun wr => by kernel_rfl⟩
theorem Jz (r : Int) (w : World) (hT : Tab w) :
  Calls qP 18 #[.int .i32 r] w fun e w' => e = .returned (.int .i64 (wd r)) ∧ Below w.heap.size w w' := by
 by_cases h0 : r < 0
 ·have hw : wd r = 0 := by unfold wd; rw [if_pos (Or.inl h0)]
  rw [hw];clear hw hT;go_enter Tryz.func18,Tryz.ntmps18;go_wp2;go_ret;exact ⟨rfl,qr _ _⟩
 ·by_cases h1 : 1114111 < r
  ·have hw : wd r = 0 := by unfold wd; rw [if_pos (Or.inr h1)]
   rw [hw];clear hw hT;go_enter Tryz.func18,Tryz.ntmps18;go_wp2;go_ret;exact ⟨rfl,qr _ _⟩
  ·have hw : wd r = look spans r := by unfold wd; rw [if_neg (by omega)]
   rw [hw];clear hw;obtain ⟨tt,fr,hT⟩ := hT;have HT : Hid (w.heap[0]? = some (.cells spanCells tt fr)) := hT;clear hT;go_enter Tryz.func18,Tryz.ntmps18;go_wp2_with (refine wpList_load_row rfl 92 (.global 0) rfl 0 rfl _ spanCells _ _ HT.out Tryz.underlying92 rfl (by kernel_rfl) ?_)
   go_loopg [12] 21 (fun g s wr => ∃ k : Nat,k ≤ 21 ∧ 21 - k ≤ g ∧ s = .int .i64 k ∧ Below w.heap.size w wr ∧ look (spans.drop k) r = look spans r)
   case atStart => exact ⟨0,Nat.zero_le _,by omega,rfl,qr _ _,rfl⟩
   case round =>
    obtain ⟨k,hk,hg,rfl,hb,hl⟩ := hrel;have HL : Hid (look (spans.drop k) r = look spans r) := hl;clear hl
    by_cases hlt : k < 21
    ·obtain ⟨a, b, c, hd, hi⟩ := qxr k hlt
     have HD : Hid (spans.drop k = (a,b,c) :: spans.drop (k + 1)) := hd;clear hd;have hi := hi wr;have hsz := hb.size;go_wp2_with fail
     ·rename_i hra
      go_ret;exact ⟨Q6 (by rw [← HL.out,HD.out];simp [look,hra]),hb.alloc hsz _⟩
     ·rename_i hra hrb
      go_ret;exact ⟨Q6 (by rw [← HL.out,HD.out];simp only [look];rw [if_neg (by omega),if_pos hrb]),hb.alloc hsz _⟩
     ·rename_i hra hrb
      go_roundg (21 - (k + 1))
      case measure => omega
      case rel => exact ⟨k + 1,by omega,by omega,by go_num,hb.alloc hsz _,by rw [← HL.out,HD.out];simp only [look];rw [if_neg (by omega),if_neg (by omega)]⟩
    ·have : k = 21 := by omega
     subst this;go_wp2_with fail;go_ret;exact ⟨Q6 (by rw [← HL.out];rfl),hb⟩
end Txt
namespace Sty
theorem Qh {a b : Bool} (h : a = b) : Ending.returned (.bool a) = .returned (.bool b) := by rw [h]
theorem qqb (c : Int) (w : World) :
  Calls qP 41 #[.int .i64 c] w fun e w' => e = .returned (.bool (decide (0 ≤ c ∧ c ≤ 256))) ∧ w = w' := by
 go_enter Tryz.func41,Tryz.ntmps41;go_wp2
 all_goals (go_ret;exact ⟨Qh (by rw [Bool.eq_iff_iff];simp;try omega),rfl⟩)
def Q5 (s : Int × Int × Int) : Bool := decide (0 ≤ s.1 ∧ s.1 ≤ 256 ∧ 0 ≤ s.2.1 ∧ s.2.1 ≤ 256 ∧ 0 ≤ s.2.2 ∧ s.2.2 ≤ 127)
theorem Xd (f b x : Int) (w : World) :
  Calls qP 17 #[.agg #[.int .i64 f,.int .i64 b,.int .i64 x]] w fun e w' => e = .returned (.bool (Q5 (f,b,x))) ∧ Below w.heap.size w w' := by
 go_enter Tryz.func17,Tryz.ntmps17;go_wp2_with (go_at_call 41;refine (qqb _ _).mono ?_;rintro e W1 ⟨rfl,rfl⟩)
 all_goals (go_ret;exact ⟨Qh (by rw [Bool.eq_iff_iff];simp [Q5];try omega),(qr _ _).alloc (qd _) _⟩)
theorem qko (a b c d e f : Int) (w : World) : (binOp .neq 26 (.agg #[.int .i64 a,.int .i64 b,.int .i64 c]) (.agg #[.int .i64 d,.int .i64 e,.int .i64 f])).run qP w = .ok (.bool (!decide ((a,b,c) = (d,e,f)))) w := by
 by_cases h1 : a = d
 ·by_cases h2 : b = e
  ·by_cases h3 : c = f
   ·subst h1 h2 h3;simp [go_sem]
   ·subst h1 h2;simp [go_sem,h3]
  ·subst h1;simp [go_sem,h2]
 ·simp [go_sem,h1]
end Sty
namespace Grd
open Txt (wd)
open Sty (Q5)
abbrev C := Int × Int × Int × Int
def z0 : C := (0,0,0,0)
def Qb (w : World) (b o : Nat) (cs : List C) : Prop := ∀ j, j < cs.length →
 w.cell? ⟨b,o + j * 4,none⟩ = some (.int .i32 (cs.getD j z0).1) ∧ w.cell? ⟨b,o + j * 4 + 1,none⟩ = some (.int .i64 (cs.getD j z0).2.1) ∧
 w.cell? ⟨b,o + j * 4 + 2,none⟩ = some (.int .i64 (cs.getD j z0).2.2.1) ∧ w.cell? ⟨b,o + j * 4 + 3,none⟩ = some (.int .i64 (cs.getD j z0).2.2.2)
theorem Qk {W W' : World} {a : Addr} {v : Value} (hb : Below W.heap.size W W') (h : W.cell? a = some v) : W'.cell? a = some v := by
 have hlt := World.block_lt_of_cell? W a h;rw [← h];unfold World.cell?;rw [hb.block _ hlt]
theorem Qb.below {w w' : World} {b o : Nat} {cs : List C} (h : Qb w b o cs) (hb : Below w.heap.size w w') : Qb w' b o cs := fun j hj => by
 obtain ⟨h0,h1,h2,h3⟩ := h j hj;exact ⟨Qk hb h0,Qk hb h1,Qk hb h2,Qk hb h3⟩
theorem getD_drop (cs : List C) (k j : Nat) : (cs.drop k).getD j z0 = cs.getD (k + j) z0 := by
 simp [qy,List.getElem?_drop]
theorem getD_take (cs : List C) (n j : Nat) (h : j < n) : (cs.take n).getD j z0 = cs.getD j z0 := by
 simp [qy,h]
theorem Qb.part {w : World} {b o : Nat} {cs : List C} (h : Qb w b o cs) (k n : Nat) (hk : k + n ≤ cs.length) : Qb w b (o + k * 4) ((cs.drop k).take n) := fun j hj => by
 simp only [List.length_take,List.length_drop] at hj;have hjn : j < n := by omega
 obtain ⟨h0,h1,h2,h3⟩ := h (k + j) (by omega)
 rw [getD_take _ _ _ hjn,getD_drop];rw [show o + (k + j) * 4 = o + k * 4 + j * 4 by omega] at h0 h1 h2 h3
 exact ⟨h0,h1,h2,h3⟩
def loose (cs : List C) (x : Nat) : Bool :=
 if (cs.getD x z0).1 = 0 then decide (x = 0) || decide (wd (cs.getD (x - 1) z0).1 ≠ 2)
 else decide (wd (cs.getD x z0).1 = 2) && (decide (x + 1 = cs.length) || decide ((cs.getD (x + 1) z0).1 ≠ 0))
def Xi (cs : List C) (x : Nat) : Int :=
 if ((cs.getD x z0).1 ≠ 0 ∧ wd (cs.getD x z0).1 = 0) ∨ Q5 (cs.getD x z0).2 = false then 4
 else if loose cs x = true ∨ ((cs.getD x z0).1 = 0 ∧ (cs.getD x z0).2 ≠ (cs.getD (x - 1) z0).2) then 5 else 0
def Zg (f : Nat → Int) : Nat → Nat → Int
 | _,0 => 0
 | k,m + 1 => if f k = 0 then Zg f (k + 1) m else f k
def rowAt (W : Nat) (cs : List C) (y : Nat) : List C := (cs.drop (y * W)).take W
def Uu (row : List C) : Int := Zg (Xi row) 0 row.length
def Zk (W H : Int) : Bool := decide (1 ≤ W ∧ W ≤ 120 ∧ 1 ≤ H ∧ H ≤ 60)
def Qf (W H : Int) (cs : List C) : Int :=
 if Zk W H = false ∨ (cs.length : Int) ≠ W * H then 3 else Zg (fun y => Uu (rowAt W.toNat cs y)) 0 H.toNat
end Grd
namespace Grd
open Txt (wd)
theorem Yn (r : Int) (w : World) (hT : Txt.Tab w) (v : Int) (h : wd r = v) : Calls qP 18 #[.int .i32 r] w fun e w' => e = .returned (.int .i64 v) ∧ Below w.heap.size w w' := by
 have := Txt.Jz r w hT;rwa [h] at this
theorem qd8 (b o c : Nat) (cs : List C) (x : Nat) (w : World) (hT : Txt.Tab w) (hC : Qb w b o cs) (hx : x < cs.length) (hn : cs.length ≤ 1000000) :
  Calls qP 69 #[.slice (some ⟨b,o,none⟩) cs.length c,.int .i64 (x : Int)] w fun e w' => e = .returned (.bool (loose cs x)) ∧ Below w.heap.size w w' := by
 have HT : Hid (Txt.Tab w) := hT;have h0 := (hC x hx).1;have hp : 0 < x → w.cell? ⟨b,o + (x - 1) * 4,none⟩ = some (.int .i32 (cs.getD (x - 1) z0).1) := fun h => (hC (x - 1) (by omega)).1
 have hs : x + 1 < cs.length → w.cell? ⟨b,o + (x + 1) * 4,none⟩ = some (.int .i32 (cs.getD (x + 1) z0).1) := fun h => (hC (x + 1) h).1
 unfold loose;clear hT hC;generalize (cs.getD x z0).1 = r at *;generalize (cs.getD (x - 1) z0).1 = rp at *;generalize (cs.getD (x + 1) z0).1 = rs at *;generalize cs.length = n at *
 by_cases hr : r = 0
 ·subst hr
  by_cases hx0 : x = 0
  ·have nx : ((x : Int) == 0) = true := by simp only [beq_iff_eq]; omega
   have HX : Hid (x = 0) := hx0;clear hp hs hx0;go_enter Tryz.func69,Tryz.ntmps69;go_wp2_with fail;go_ret;exact ⟨Sty.Qh (by simp [HX.out]),qr _ _⟩
  ·have hp := hp (by omega)
   clear hs;have nx : ((x : Int) == 0) = false := by simp only [beq_eq_false_iff_ne,ne_eq];omega
   go_enter Tryz.func69,Tryz.ntmps69;go_wp2_with (go_at_call 18;refine (Txt.Jz rp _ HT.out).mono ?_;rintro e W1 ⟨rfl,b1⟩);go_ret;exact ⟨Sty.Qh (by rw [Bool.eq_iff_iff];simp),b1⟩
 ·have nr : (r == 0) = false := by simp only [beq_eq_false_iff_ne, ne_eq]; exact hr
  clear hp
  by_cases h2 : wd r = 2
  ·by_cases hl : x + 1 = n
   ·have nl : ((x : Int) == (n : Int) - 1) = true := by simp only [beq_iff_eq]; omega
    have H2 : Hid (wd r = 2) := h2;clear hs h2;go_enter Tryz.func69,Tryz.ntmps69;go_wp2_with (go_at_call 18;refine (Yn r _ HT.out 2 H2.out).mono ?_;rintro e W1 ⟨rfl,b1⟩);go_ret;exact ⟨Sty.Qh (by rw [Bool.eq_iff_iff];simp [H2.out]),b1⟩
   ·have hs := hs (by omega)
    have nl : ((x : Int) == (n : Int) - 1) = false := by simp only [beq_eq_false_iff_ne,ne_eq];omega
    have H2 : Hid (wd r = 2) := h2;clear h2;go_enter Tryz.func69,Tryz.ntmps69;go_wp2_with (go_at_call 18;refine (Yn r _ HT.out 2 H2.out).mono ?_;rintro e W1 ⟨rfl,b1⟩;have hs1 := Qk b1 hs);go_ret;exact ⟨Sty.Qh (by rw [Bool.eq_iff_iff];simp [H2.out]),b1⟩
  ·have H2 : Hid (¬ wd r = 2) := h2
   clear hs h2;have KW : Hid (Calls qP 18 #[.int .i32 r] w fun e w' => e = .returned (.int .i64 (wd r)) ∧ Below w.heap.size w w') := Txt.Jz r w HT.out
   have n2 : (wd r == 2) = false := by simp only [beq_eq_false_iff_ne,ne_eq];exact H2.out
   go_enter Tryz.func69,Tryz.ntmps69;go_wp2_with (go_at_call 18;refine KW.out.mono ?_;rintro e W1 ⟨rfl,b1⟩);go_ret;exact ⟨Sty.Qh (by rw [Bool.eq_iff_iff];simp [H2.out]),b1⟩
end Grd
namespace Grd
open Txt (wd)
open Sty (Q5)
theorem Gv (f b x : Int) (v : Bool) (h : Q5 (f,b,x) = v) (w : World) : Calls qP 17 #[.agg #[.int .i64 f,.int .i64 b,.int .i64 x]] w fun e w' => e = .returned (.bool v) ∧ Below w.heap.size w w' := by
 have := Sty.Xd f b x w;rwa [h] at this
theorem qat (b o c : Nat) (cs : List C) (x : Nat) (v : Bool) (h : loose cs x = v) (w : World) (hT : Txt.Tab w) (hC : Qb w b o cs) (hx : x < cs.length) (hn : cs.length ≤ 1000000) :
  Calls qP 69 #[.slice (some ⟨b,o,none⟩) cs.length c,.int .i64 (x : Int)] w fun e w' => e = .returned (.bool v) ∧ Below w.heap.size w w' := by
 have := qd8 b o c cs x w hT hC hx hn;rwa [h] at this
theorem q1w {w : World} {g : Nat} {t : TypeId} {a b c d : Value} (h : w.heap[g]? = some (.cells #[a, b, c, d] t (0, 0))) :
  w.cell? ⟨g,0,none⟩ = some a ∧ w.cell? ⟨g,1,none⟩ = some b ∧ w.cell? ⟨g,2,none⟩ = some c ∧ w.cell? ⟨g,3,none⟩ = some d := by
 refine ⟨by simp [World.cell?,h],by simp [World.cell?,h],by simp [World.cell?,h],by simp [World.cell?,h]⟩
theorem Yg (w : World) (t : TypeId) (a b c d : Value) : (w.alloc (.cells #[a,b,c,d] t)).cell? ⟨w.heap.size,0,none⟩ = some a ∧ (w.alloc (.cells #[a,b,c,d] t)).cell? ⟨w.heap.size,1,none⟩ = some b ∧ (w.alloc (.cells #[a,b,c,d] t)).cell? ⟨w.heap.size,2,none⟩ = some c ∧ (w.alloc (.cells #[a,b,c,d] t)).cell? ⟨w.heap.size,3,none⟩ = some d := q1w (qf _ _)
theorem Tab.next {w w' : World} (h : Txt.Tab w) (hb : Below w.heap.size w w') : Txt.Tab w' := h.below hb h.pos
theorem qog (b o c : Nat) (cs : List C) (x : Nat) (r f bk xx : Int) (w : World) (hT : Txt.Tab w) (hC : Qb w b o cs) (hx : x < cs.length) (hn : cs.length ≤ 1000000)
  (h0 : w.cell? ⟨b,o + x * 4,none⟩ = some (.int .i32 r)) (h1 : w.cell? ⟨b,o + x * 4 + 1,none⟩ = some (.int .i64 f)) (h2 : w.cell? ⟨b,o + x * 4 + 2,none⟩ = some (.int .i64 bk)) (h3 : w.cell? ⟨b,o + x * 4 + 3,none⟩ = some (.int .i64 xx)) (hr : r ≠ 0) (hw : wd r = 0) :
  Calls qP 40 #[.slice (some ⟨b,o,none⟩) cs.length c,.int .i64 (x : Int)] w fun e w' => e = .returned (.int .i64 4) ∧ Below w.heap.size w w' := by
 have HT : Hid (Txt.Tab w) := hT;have HC : Hid (Qb w b o cs) := hC;have HX : Hid (x < cs.length) := hx;have HN : Hid (cs.length ≤ 1000000) := hn;clear hT hC;have ⟨c0,c1,c2,c3⟩ := Yg w 56 (.int .i32 r) (.int .i64 f) (.int .i64 bk) (.int .i64 xx);have k0 : Below w.heap.size w (w.alloc (.cells #[.int .i32 r,.int .i64 f,.int .i64 bk,.int .i64 xx] 56)) := (qr _ _).alloc (qd _) _;have nr : (r != 0) = true := by simpa using hr
 have nr' : (r == 0) = false := by simpa using hr
 have HW : Hid (wd r = 0) := hw;clear hw;go_enter Tryz.func40,Tryz.ntmps40;go_wp2_with (go_at_call 18;refine (Yn r _ (Tab.next HT.out k0) 0 HW.out).mono ?_;rintro e W1 ⟨rfl,b1⟩;have k1 := k0.trans (b1.mono k0.size);have d1 := Qk b1 c1;have d2 := Qk b1 c2;have d3 := Qk b1 c3;have d0 := Qk b1 c0);go_ret;exact ⟨rfl,k1⟩
theorem qmb (b o c : Nat) (cs : List C) (x : Nat) (r f bk xx : Int) (w : World) (hT : Txt.Tab w) (hC : Qb w b o cs) (hx : x < cs.length) (hn : cs.length ≤ 1000000)
  (h0 : w.cell? ⟨b,o + x * 4,none⟩ = some (.int .i32 r)) (h1 : w.cell? ⟨b,o + x * 4 + 1,none⟩ = some (.int .i64 f)) (h2 : w.cell? ⟨b,o + x * 4 + 2,none⟩ = some (.int .i64 bk)) (h3 : w.cell? ⟨b,o + x * 4 + 3,none⟩ = some (.int .i64 xx)) (hr : r ≠ 0) (hw : wd r ≠ 0) (hs : Q5 (f,bk,xx) = false) :
  Calls qP 40 #[.slice (some ⟨b,o,none⟩) cs.length c,.int .i64 (x : Int)] w fun e w' => e = .returned (.int .i64 4) ∧ Below w.heap.size w w' := by
 have HT : Hid (Txt.Tab w) := hT;have HC : Hid (Qb w b o cs) := hC;have HX : Hid (x < cs.length) := hx;have HN : Hid (cs.length ≤ 1000000) := hn;clear hT hC;have ⟨c0,c1,c2,c3⟩ := Yg w 56 (.int .i32 r) (.int .i64 f) (.int .i64 bk) (.int .i64 xx);have k0 : Below w.heap.size w (w.alloc (.cells #[.int .i32 r,.int .i64 f,.int .i64 bk,.int .i64 xx] 56)) := (qr _ _).alloc (qd _) _;have nr : (r != 0) = true := by simpa using hr
 have nr' : (r == 0) = false := by simpa using hr
 have HW : Hid (wd r = wd r) := rfl;have nw : (wd r == 0) = false := by simpa using hw
 have HS : Hid (Q5 (f,bk,xx) = false) := hs;clear hs;go_enter Tryz.func40,Tryz.ntmps40;go_wp2_with (first | (go_at_call 18;refine (Yn r _ (Tab.next HT.out k0) _ HW.out).mono ?_;rintro e W1 ⟨rfl,b1⟩;have k1 := k0.trans (b1.mono k0.size);have d1 := Qk b1 c1;have d2 := Qk b1 c2;have d3 := Qk b1 c3;have d0 := Qk b1 c0) | (go_at_call 17;refine (Gv f bk xx _ HS.out _).mono ?_;rintro e W2 ⟨rfl,b2⟩;have k2 := k1.trans (b2.mono k1.size);have e0 := Qk b2 d0;have e1 := Qk b2 d1;have e2 := Qk b2 d2;have e3 := Qk b2 d3));go_ret;exact ⟨rfl,k2⟩
theorem qmc (b o c : Nat) (cs : List C) (x : Nat) (r f bk xx : Int) (w : World) (hT : Txt.Tab w) (hC : Qb w b o cs) (hx : x < cs.length) (hn : cs.length ≤ 1000000)
  (h0 : w.cell? ⟨b,o + x * 4,none⟩ = some (.int .i32 r)) (h1 : w.cell? ⟨b,o + x * 4 + 1,none⟩ = some (.int .i64 f)) (h2 : w.cell? ⟨b,o + x * 4 + 2,none⟩ = some (.int .i64 bk)) (h3 : w.cell? ⟨b,o + x * 4 + 3,none⟩ = some (.int .i64 xx)) (hr : r = 0) (hs : Q5 (f,bk,xx) = false) :
  Calls qP 40 #[.slice (some ⟨b,o,none⟩) cs.length c,.int .i64 (x : Int)] w fun e w' => e = .returned (.int .i64 4) ∧ Below w.heap.size w w' := by
 have HT : Hid (Txt.Tab w) := hT;have HC : Hid (Qb w b o cs) := hC;have HX : Hid (x < cs.length) := hx;have HN : Hid (cs.length ≤ 1000000) := hn;clear hT hC;have ⟨c0,c1,c2,c3⟩ := Yg w 56 (.int .i32 r) (.int .i64 f) (.int .i64 bk) (.int .i64 xx);have k0 : Below w.heap.size w (w.alloc (.cells #[.int .i32 r,.int .i64 f,.int .i64 bk,.int .i64 xx] 56)) := (qr _ _).alloc (qd _) _;subst hr;have HS : Hid (Q5 (f,bk,xx) = false) := hs;clear hs;go_enter Tryz.func40,Tryz.ntmps40;go_wp2_with (go_at_call 17;refine (Gv f bk xx _ HS.out _).mono ?_;rintro e W2 ⟨rfl,b2⟩;have k2 := k0.trans (b2.mono k0.size);have e0 := Qk b2 c0;have e1 := Qk b2 c1;have e2 := Qk b2 c2;have e3 := Qk b2 c3);go_ret;exact ⟨rfl,k2⟩
theorem qn1 (b o c : Nat) (cs : List C) (x : Nat) (r f bk xx : Int) (w : World) (hT : Txt.Tab w) (hC : Qb w b o cs) (hx : x < cs.length) (hn : cs.length ≤ 1000000)
  (h0 : w.cell? ⟨b,o + x * 4,none⟩ = some (.int .i32 r)) (h1 : w.cell? ⟨b,o + x * 4 + 1,none⟩ = some (.int .i64 f)) (h2 : w.cell? ⟨b,o + x * 4 + 2,none⟩ = some (.int .i64 bk)) (h3 : w.cell? ⟨b,o + x * 4 + 3,none⟩ = some (.int .i64 xx)) (hr : r ≠ 0) (hw : wd r ≠ 0) (hs : Q5 (f,bk,xx) = true) (hl : loose cs x = true) :
  Calls qP 40 #[.slice (some ⟨b,o,none⟩) cs.length c,.int .i64 (x : Int)] w fun e w' => e = .returned (.int .i64 5) ∧ Below w.heap.size w w' := by
 have HT : Hid (Txt.Tab w) := hT;have HC : Hid (Qb w b o cs) := hC;have HX : Hid (x < cs.length) := hx;have HN : Hid (cs.length ≤ 1000000) := hn;clear hT hC;have ⟨c0,c1,c2,c3⟩ := Yg w 56 (.int .i32 r) (.int .i64 f) (.int .i64 bk) (.int .i64 xx);have k0 : Below w.heap.size w (w.alloc (.cells #[.int .i32 r,.int .i64 f,.int .i64 bk,.int .i64 xx] 56)) := (qr _ _).alloc (qd _) _;have nr : (r != 0) = true := by simpa using hr
 have nr' : (r == 0) = false := by simpa using hr
 have HW : Hid (wd r = wd r) := rfl;have nw : (wd r == 0) = false := by simpa using hw
 have HS : Hid (Q5 (f,bk,xx) = true) := hs;have HL : Hid (loose cs x = true) := hl;clear hs hl;go_enter Tryz.func40,Tryz.ntmps40;go_wp2_with (first | (go_at_call 18;refine (Yn r _ (Tab.next HT.out k0) _ HW.out).mono ?_;rintro e W1 ⟨rfl,b1⟩;have k1 := k0.trans (b1.mono k0.size);have d1 := Qk b1 c1;have d2 := Qk b1 c2;have d3 := Qk b1 c3;have d0 := Qk b1 c0) | (go_at_call 17;refine (Gv f bk xx _ HS.out _).mono ?_;rintro e W2 ⟨rfl,b2⟩;have k2 := k1.trans (b2.mono k1.size);have e0 := Qk b2 d0;have e1 := Qk b2 d1;have e2 := Qk b2 d2;have e3 := Qk b2 d3));have y0 : ∀ d os,(Sort.grow (redrawn W2 d) os).cell? ⟨w.heap.size,0,none⟩ = some (.int .i32 r) := fun d os => cell_regrown e0 d os
 have y1 : ∀ d os,(Sort.grow (redrawn W2 d) os).cell? ⟨w.heap.size,1,none⟩ = some (.int .i64 f) := fun d os => cell_regrown e1 d os
 have y2 : ∀ d os,(Sort.grow (redrawn W2 d) os).cell? ⟨w.heap.size,2,none⟩ = some (.int .i64 bk) := fun d os => cell_regrown e2 d os
 have y3 : ∀ d os,(Sort.grow (redrawn W2 d) os).cell? ⟨w.heap.size,3,none⟩ = some (.int .i64 xx) := fun d os => cell_regrown e3 d os
 have K4 : Hid (∀ d os,Calls qP 69 #[.slice (some ⟨b,o,none⟩) cs.length c,.int .i64 (x : Int)] (Sort.grow (redrawn W2 d) os) fun e w'' => e = .returned (.bool true) ∧ ∃ p : Regrown,w'' = Sort.grow (redrawn W2 p.d) p.os) := fun d os => Calls.regrown_of (qat b o c cs x true HL.out _ (Tab.next HT.out (k2.trans ((below_regrown W2 d os).mono k2.size))) (HC.out.below (k2.trans ((below_regrown W2 d os).mono k2.size))) HX.out HN.out)
 refine wp_region_quiet_below (by kernel_rfl) (by kernel_rfl) ?_
 repeat (first | go_big_quiet_skip | quiet_step (first | (go_at_call 69;exact K4.out _ _)))
 refine wpQuiet_nil ?_;intro _ hw';obtain ⟨⟨dq,os⟩,hw''⟩ := hw';subst hw'';have k3 : Below w.heap.size w (Sort.grow (redrawn W2 dq) os) := k2.trans ((below_regrown W2 dq os).mono k2.size);generalize Sort.grow (redrawn W2 dq) os = W3 at *;go_wp2_with fail;go_ret;exact ⟨rfl,k3⟩
theorem qny (b o c : Nat) (cs : List C) (x : Nat) (r f bk xx : Int) (w : World) (hT : Txt.Tab w) (hC : Qb w b o cs) (hx : x < cs.length) (hn : cs.length ≤ 1000000)
  (h0 : w.cell? ⟨b,o + x * 4,none⟩ = some (.int .i32 r)) (h1 : w.cell? ⟨b,o + x * 4 + 1,none⟩ = some (.int .i64 f)) (h2 : w.cell? ⟨b,o + x * 4 + 2,none⟩ = some (.int .i64 bk)) (h3 : w.cell? ⟨b,o + x * 4 + 3,none⟩ = some (.int .i64 xx)) (hr : r = 0) (hs : Q5 (f,bk,xx) = true) (hl : loose cs x = true) :
  Calls qP 40 #[.slice (some ⟨b,o,none⟩) cs.length c,.int .i64 (x : Int)] w fun e w' => e = .returned (.int .i64 5) ∧ Below w.heap.size w w' := by
 have HT : Hid (Txt.Tab w) := hT;have HC : Hid (Qb w b o cs) := hC;have HX : Hid (x < cs.length) := hx;have HN : Hid (cs.length ≤ 1000000) := hn;clear hT hC;have ⟨c0,c1,c2,c3⟩ := Yg w 56 (.int .i32 r) (.int .i64 f) (.int .i64 bk) (.int .i64 xx);have k0 : Below w.heap.size w (w.alloc (.cells #[.int .i32 r,.int .i64 f,.int .i64 bk,.int .i64 xx] 56)) := (qr _ _).alloc (qd _) _;subst hr;have HS : Hid (Q5 (f,bk,xx) = true) := hs;have HL : Hid (loose cs x = true) := hl;clear hs hl;go_enter Tryz.func40,Tryz.ntmps40;go_wp2_with (go_at_call 17;refine (Gv f bk xx _ HS.out _).mono ?_;rintro e W2 ⟨rfl,b2⟩;have k2 := k0.trans (b2.mono k0.size);have e0 := Qk b2 c0;have e1 := Qk b2 c1;have e2 := Qk b2 c2;have e3 := Qk b2 c3);have y0 : ∀ d os,(Sort.grow (redrawn W2 d) os).cell? ⟨w.heap.size,0,none⟩ = some (.int .i32 0) := fun d os => cell_regrown e0 d os
 have y1 : ∀ d os,(Sort.grow (redrawn W2 d) os).cell? ⟨w.heap.size,1,none⟩ = some (.int .i64 f) := fun d os => cell_regrown e1 d os
 have y2 : ∀ d os,(Sort.grow (redrawn W2 d) os).cell? ⟨w.heap.size,2,none⟩ = some (.int .i64 bk) := fun d os => cell_regrown e2 d os
 have y3 : ∀ d os,(Sort.grow (redrawn W2 d) os).cell? ⟨w.heap.size,3,none⟩ = some (.int .i64 xx) := fun d os => cell_regrown e3 d os
 have K4 : Hid (∀ d os,Calls qP 69 #[.slice (some ⟨b,o,none⟩) cs.length c,.int .i64 (x : Int)] (Sort.grow (redrawn W2 d) os) fun e w'' => e = .returned (.bool true) ∧ ∃ p : Regrown,w'' = Sort.grow (redrawn W2 p.d) p.os) := fun d os => Calls.regrown_of (qat b o c cs x true HL.out _ (Tab.next HT.out (k2.trans ((below_regrown W2 d os).mono k2.size))) (HC.out.below (k2.trans ((below_regrown W2 d os).mono k2.size))) HX.out HN.out)
 refine wp_region_quiet_below (by kernel_rfl) (by kernel_rfl) ?_
 repeat (first | go_big_quiet_skip | quiet_step (first | (go_at_call 69;exact K4.out _ _)))
 refine wpQuiet_nil ?_;intro _ hw';obtain ⟨⟨dq,os⟩,hw''⟩ := hw';subst hw'';have k3 : Below w.heap.size w (Sort.grow (redrawn W2 dq) os) := k2.trans ((below_regrown W2 dq os).mono k2.size);generalize Sort.grow (redrawn W2 dq) os = W3 at *;go_wp2_with fail;go_ret;exact ⟨rfl,k3⟩
theorem qv0 (b o c : Nat) (cs : List C) (x : Nat) (r f bk xx : Int) (w : World) (hT : Txt.Tab w) (hC : Qb w b o cs) (hx : x < cs.length) (hn : cs.length ≤ 1000000)
  (h0 : w.cell? ⟨b,o + x * 4,none⟩ = some (.int .i32 r)) (h1 : w.cell? ⟨b,o + x * 4 + 1,none⟩ = some (.int .i64 f)) (h2 : w.cell? ⟨b,o + x * 4 + 2,none⟩ = some (.int .i64 bk)) (h3 : w.cell? ⟨b,o + x * 4 + 3,none⟩ = some (.int .i64 xx)) (hr : r ≠ 0) (hw : wd r ≠ 0) (hs : Q5 (f,bk,xx) = true) (hl : loose cs x = false) :
  Calls qP 40 #[.slice (some ⟨b,o,none⟩) cs.length c,.int .i64 (x : Int)] w fun e w' => e = .returned (.int .i64 0) ∧ Below w.heap.size w w' := by
 have HT : Hid (Txt.Tab w) := hT;have HC : Hid (Qb w b o cs) := hC;have HX : Hid (x < cs.length) := hx;have HN : Hid (cs.length ≤ 1000000) := hn;clear hT hC;have ⟨c0,c1,c2,c3⟩ := Yg w 56 (.int .i32 r) (.int .i64 f) (.int .i64 bk) (.int .i64 xx);have k0 : Below w.heap.size w (w.alloc (.cells #[.int .i32 r,.int .i64 f,.int .i64 bk,.int .i64 xx] 56)) := (qr _ _).alloc (qd _) _;have nr : (r != 0) = true := by simpa using hr
 have nr' : (r == 0) = false := by simpa using hr
 have HW : Hid (wd r = wd r) := rfl;have nw : (wd r == 0) = false := by simpa using hw
 have HS : Hid (Q5 (f,bk,xx) = true) := hs;have HL : Hid (loose cs x = false) := hl;clear hs hl;go_enter Tryz.func40,Tryz.ntmps40;go_wp2_with (first | (go_at_call 18;refine (Yn r _ (Tab.next HT.out k0) _ HW.out).mono ?_;rintro e W1 ⟨rfl,b1⟩;have k1 := k0.trans (b1.mono k0.size);have d1 := Qk b1 c1;have d2 := Qk b1 c2;have d3 := Qk b1 c3;have d0 := Qk b1 c0) | (go_at_call 17;refine (Gv f bk xx _ HS.out _).mono ?_;rintro e W2 ⟨rfl,b2⟩;have k2 := k1.trans (b2.mono k1.size);have e0 := Qk b2 d0;have e1 := Qk b2 d1;have e2 := Qk b2 d2;have e3 := Qk b2 d3));have y0 : ∀ d os,(Sort.grow (redrawn W2 d) os).cell? ⟨w.heap.size,0,none⟩ = some (.int .i32 r) := fun d os => cell_regrown e0 d os
 have y1 : ∀ d os,(Sort.grow (redrawn W2 d) os).cell? ⟨w.heap.size,1,none⟩ = some (.int .i64 f) := fun d os => cell_regrown e1 d os
 have y2 : ∀ d os,(Sort.grow (redrawn W2 d) os).cell? ⟨w.heap.size,2,none⟩ = some (.int .i64 bk) := fun d os => cell_regrown e2 d os
 have y3 : ∀ d os,(Sort.grow (redrawn W2 d) os).cell? ⟨w.heap.size,3,none⟩ = some (.int .i64 xx) := fun d os => cell_regrown e3 d os
 have K4 : Hid (∀ d os,Calls qP 69 #[.slice (some ⟨b,o,none⟩) cs.length c,.int .i64 (x : Int)] (Sort.grow (redrawn W2 d) os) fun e w'' => e = .returned (.bool false) ∧ ∃ p : Regrown,w'' = Sort.grow (redrawn W2 p.d) p.os) := fun d os => Calls.regrown_of (qat b o c cs x false HL.out _ (Tab.next HT.out (k2.trans ((below_regrown W2 d os).mono k2.size))) (HC.out.below (k2.trans ((below_regrown W2 d os).mono k2.size))) HX.out HN.out)
 refine wp_region_quiet_below (by kernel_rfl) (by kernel_rfl) ?_
 repeat (first | go_big_quiet_skip | quiet_step (first | (go_at_call 69;exact K4.out _ _)))
 refine wpQuiet_nil ?_;intro _ hw';obtain ⟨⟨dq,os⟩,hw''⟩ := hw';subst hw'';have k3 : Below w.heap.size w (Sort.grow (redrawn W2 dq) os) := k2.trans ((below_regrown W2 dq os).mono k2.size);generalize Sort.grow (redrawn W2 dq) os = W3 at *;go_wp2_with fail;go_ret;exact ⟨rfl,k3⟩
theorem qpu (b o c : Nat) (cs : List C) (x : Nat) (r f bk xx : Int) (w : World) (hT : Txt.Tab w) (hC : Qb w b o cs) (hx : x < cs.length) (hn : cs.length ≤ 1000000)
  (h0 : w.cell? ⟨b,o + x * 4,none⟩ = some (.int .i32 r)) (h1 : w.cell? ⟨b,o + x * 4 + 1,none⟩ = some (.int .i64 f)) (h2 : w.cell? ⟨b,o + x * 4 + 2,none⟩ = some (.int .i64 bk)) (h3 : w.cell? ⟨b,o + x * 4 + 3,none⟩ = some (.int .i64 xx)) (hr : r = 0) (hs : Q5 (f,bk,xx) = true) (hl : loose cs x = false) (fp bp xp : Int) (hx0 : 0 < x) (p1 : w.cell? ⟨b,o + (x - 1) * 4 + 1,none⟩ = some (.int .i64 fp)) (p2 : w.cell? ⟨b,o + (x - 1) * 4 + 2,none⟩ = some (.int .i64 bp)) (p3 : w.cell? ⟨b,o + (x - 1) * 4 + 3,none⟩ = some (.int .i64 xp)) (hq : (f,bk,xx) ≠ (fp,bp,xp)) :
  Calls qP 40 #[.slice (some ⟨b,o,none⟩) cs.length c,.int .i64 (x : Int)] w fun e w' => e = .returned (.int .i64 5) ∧ Below w.heap.size w w' := by
 have HT : Hid (Txt.Tab w) := hT;have HC : Hid (Qb w b o cs) := hC;have HX : Hid (x < cs.length) := hx;have HN : Hid (cs.length ≤ 1000000) := hn;clear hT hC;have ⟨c0,c1,c2,c3⟩ := Yg w 56 (.int .i32 r) (.int .i64 f) (.int .i64 bk) (.int .i64 xx);have k0 : Below w.heap.size w (w.alloc (.cells #[.int .i32 r,.int .i64 f,.int .i64 bk,.int .i64 xx] 56)) := (qr _ _).alloc (qd _) _;subst hr;have nq : ∀ w,(binOp .neq 26 (.agg #[.int .i64 f,.int .i64 bk,.int .i64 xx]) (.agg #[.int .i64 fp,.int .i64 bp,.int .i64 xp])).run qP w = .ok (.bool true) w := fun w => by rw [Sty.qko];simp [hq]
 clear hq;have HS : Hid (Q5 (f,bk,xx) = true) := hs;have HL : Hid (loose cs x = false) := hl;clear hs hl;go_enter Tryz.func40,Tryz.ntmps40;go_wp2_with (go_at_call 17;refine (Gv f bk xx _ HS.out _).mono ?_;rintro e W2 ⟨rfl,b2⟩;have k2 := k0.trans (b2.mono k0.size);have e0 := Qk b2 c0;have e1 := Qk b2 c1;have e2 := Qk b2 c2;have e3 := Qk b2 c3);have hwr : IntKind.i64.wrap ((x : Int) - 1) = ((x - 1 : Nat) : Int) := by unfold IntKind.wrap;simp [IntKind.bits,IntKind.signed];omega
 have hxp : x - 1 < cs.length := by omega
 have y0 : ∀ d os,(Sort.grow (redrawn W2 d) os).cell? ⟨w.heap.size,0,none⟩ = some (.int .i32 0) := fun d os => cell_regrown e0 d os
 have y1 : ∀ d os,(Sort.grow (redrawn W2 d) os).cell? ⟨w.heap.size,1,none⟩ = some (.int .i64 f) := fun d os => cell_regrown e1 d os
 have y2 : ∀ d os,(Sort.grow (redrawn W2 d) os).cell? ⟨w.heap.size,2,none⟩ = some (.int .i64 bk) := fun d os => cell_regrown e2 d os
 have y3 : ∀ d os,(Sort.grow (redrawn W2 d) os).cell? ⟨w.heap.size,3,none⟩ = some (.int .i64 xx) := fun d os => cell_regrown e3 d os
 have u1 : ∀ d os,(Sort.grow (redrawn W2 d) os).cell? ⟨b,o + (x - 1) * 4 + 1,none⟩ = some (.int .i64 fp) := fun d os => cell_regrown (Qk k2 p1) d os
 have u2 : ∀ d os,(Sort.grow (redrawn W2 d) os).cell? ⟨b,o + (x - 1) * 4 + 2,none⟩ = some (.int .i64 bp) := fun d os => cell_regrown (Qk k2 p2) d os
 have u3 : ∀ d os,(Sort.grow (redrawn W2 d) os).cell? ⟨b,o + (x - 1) * 4 + 3,none⟩ = some (.int .i64 xp) := fun d os => cell_regrown (Qk k2 p3) d os
 have K4 : Hid (∀ d os,Calls qP 69 #[.slice (some ⟨b,o,none⟩) cs.length c,.int .i64 (x : Int)] (Sort.grow (redrawn W2 d) os) fun e w'' => e = .returned (.bool false) ∧ ∃ p : Regrown,w'' = Sort.grow (redrawn W2 p.d) p.os) := fun d os => Calls.regrown_of (qat b o c cs x false HL.out _ (Tab.next HT.out (k2.trans ((below_regrown W2 d os).mono k2.size))) (HC.out.below (k2.trans ((below_regrown W2 d os).mono k2.size))) HX.out HN.out)
 refine wp_region_quiet_below (by kernel_rfl) (by kernel_rfl) ?_
 repeat (first | go_big_quiet_skip | quiet_step (first | (go_at_call 69;exact K4.out _ _)))
 refine wpQuiet_nil ?_;intro _ hw';obtain ⟨⟨dq,os⟩,hw''⟩ := hw';subst hw'';have k3 : Below w.heap.size w (Sort.grow (redrawn W2 dq) os) := k2.trans ((below_regrown W2 dq os).mono k2.size);generalize Sort.grow (redrawn W2 dq) os = W3 at *;go_wp2_with fail;go_ret;exact ⟨rfl,k3⟩
theorem qyc (b o c : Nat) (cs : List C) (x : Nat) (r f bk xx : Int) (w : World) (hT : Txt.Tab w) (hC : Qb w b o cs) (hx : x < cs.length) (hn : cs.length ≤ 1000000)
  (h0 : w.cell? ⟨b,o + x * 4,none⟩ = some (.int .i32 r)) (h1 : w.cell? ⟨b,o + x * 4 + 1,none⟩ = some (.int .i64 f)) (h2 : w.cell? ⟨b,o + x * 4 + 2,none⟩ = some (.int .i64 bk)) (h3 : w.cell? ⟨b,o + x * 4 + 3,none⟩ = some (.int .i64 xx)) (hr : r = 0) (hs : Q5 (f,bk,xx) = true) (hl : loose cs x = false) (fp bp xp : Int) (hx0 : 0 < x) (p1 : w.cell? ⟨b,o + (x - 1) * 4 + 1,none⟩ = some (.int .i64 fp)) (p2 : w.cell? ⟨b,o + (x - 1) * 4 + 2,none⟩ = some (.int .i64 bp)) (p3 : w.cell? ⟨b,o + (x - 1) * 4 + 3,none⟩ = some (.int .i64 xp)) (hq : (f,bk,xx) = (fp,bp,xp)) :
  Calls qP 40 #[.slice (some ⟨b,o,none⟩) cs.length c,.int .i64 (x : Int)] w fun e w' => e = .returned (.int .i64 0) ∧ Below w.heap.size w w' := by
 have HT : Hid (Txt.Tab w) := hT;have HC : Hid (Qb w b o cs) := hC;have HX : Hid (x < cs.length) := hx;have HN : Hid (cs.length ≤ 1000000) := hn;clear hT hC;have ⟨c0,c1,c2,c3⟩ := Yg w 56 (.int .i32 r) (.int .i64 f) (.int .i64 bk) (.int .i64 xx);have k0 : Below w.heap.size w (w.alloc (.cells #[.int .i32 r,.int .i64 f,.int .i64 bk,.int .i64 xx] 56)) := (qr _ _).alloc (qd _) _;subst hr;have nq : ∀ w,(binOp .neq 26 (.agg #[.int .i64 f,.int .i64 bk,.int .i64 xx]) (.agg #[.int .i64 fp,.int .i64 bp,.int .i64 xp])).run qP w = .ok (.bool false) w := fun w => by rw [Sty.qko];simp [hq]
 clear hq;have HS : Hid (Q5 (f,bk,xx) = true) := hs;have HL : Hid (loose cs x = false) := hl;clear hs hl;go_enter Tryz.func40,Tryz.ntmps40;go_wp2_with (go_at_call 17;refine (Gv f bk xx _ HS.out _).mono ?_;rintro e W2 ⟨rfl,b2⟩;have k2 := k0.trans (b2.mono k0.size);have e0 := Qk b2 c0;have e1 := Qk b2 c1;have e2 := Qk b2 c2;have e3 := Qk b2 c3);have hwr : IntKind.i64.wrap ((x : Int) - 1) = ((x - 1 : Nat) : Int) := by unfold IntKind.wrap;simp [IntKind.bits,IntKind.signed];omega
 have hxp : x - 1 < cs.length := by omega
 have y0 : ∀ d os,(Sort.grow (redrawn W2 d) os).cell? ⟨w.heap.size,0,none⟩ = some (.int .i32 0) := fun d os => cell_regrown e0 d os
 have y1 : ∀ d os,(Sort.grow (redrawn W2 d) os).cell? ⟨w.heap.size,1,none⟩ = some (.int .i64 f) := fun d os => cell_regrown e1 d os
 have y2 : ∀ d os,(Sort.grow (redrawn W2 d) os).cell? ⟨w.heap.size,2,none⟩ = some (.int .i64 bk) := fun d os => cell_regrown e2 d os
 have y3 : ∀ d os,(Sort.grow (redrawn W2 d) os).cell? ⟨w.heap.size,3,none⟩ = some (.int .i64 xx) := fun d os => cell_regrown e3 d os
 have u1 : ∀ d os,(Sort.grow (redrawn W2 d) os).cell? ⟨b,o + (x - 1) * 4 + 1,none⟩ = some (.int .i64 fp) := fun d os => cell_regrown (Qk k2 p1) d os
 have u2 : ∀ d os,(Sort.grow (redrawn W2 d) os).cell? ⟨b,o + (x - 1) * 4 + 2,none⟩ = some (.int .i64 bp) := fun d os => cell_regrown (Qk k2 p2) d os
 have u3 : ∀ d os,(Sort.grow (redrawn W2 d) os).cell? ⟨b,o + (x - 1) * 4 + 3,none⟩ = some (.int .i64 xp) := fun d os => cell_regrown (Qk k2 p3) d os
 have K4 : Hid (∀ d os,Calls qP 69 #[.slice (some ⟨b,o,none⟩) cs.length c,.int .i64 (x : Int)] (Sort.grow (redrawn W2 d) os) fun e w'' => e = .returned (.bool false) ∧ ∃ p : Regrown,w'' = Sort.grow (redrawn W2 p.d) p.os) := fun d os => Calls.regrown_of (qat b o c cs x false HL.out _ (Tab.next HT.out (k2.trans ((below_regrown W2 d os).mono k2.size))) (HC.out.below (k2.trans ((below_regrown W2 d os).mono k2.size))) HX.out HN.out)
 refine wp_region_quiet_below (by kernel_rfl) (by kernel_rfl) ?_
 repeat (first | go_big_quiet_skip | quiet_step (first | (go_at_call 69;exact K4.out _ _)))
 refine wpQuiet_nil ?_;intro _ hw';obtain ⟨⟨dq,os⟩,hw''⟩ := hw';subst hw'';have k3 : Below w.heap.size w (Sort.grow (redrawn W2 dq) os) := k2.trans ((below_regrown W2 dq os).mono k2.size);generalize Sort.grow (redrawn W2 dq) os = W3 at *;go_wp2_with fail;go_ret;exact ⟨rfl,k3⟩
theorem qid (b o c : Nat) (cs : List C) (x : Nat) (w : World) (hT : Txt.Tab w) (hC : Qb w b o cs) (hx : x < cs.length) (hn : cs.length ≤ 1000000) :
  Calls qP 40 #[.slice (some ⟨b,o,none⟩) cs.length c,.int .i64 (x : Int)] w fun e w' => e = .returned (.int .i64 (Xi cs x)) ∧ Below w.heap.size w w' := by
 obtain ⟨h0,h1,h2,h3⟩ := hC x hx;have hp : 0 < x → _ := fun h => (hC (x - 1) (by omega)).2
 have hlo : (cs.getD x z0).1 = 0 → loose cs x = false → 0 < x := fun h0 hl => by
  unfold loose at hl;rw [if_pos h0] at hl;simp at hl;omega
 unfold Xi
 rcases hc : cs.getD x z0 with ⟨r,f,bk,xx⟩
 rcases hcp : cs.getD (x - 1) z0 with ⟨rp,fp,bp,xp⟩
 rw [hc] at h0 h1 h2 h3 hlo;rw [hcp] at hp
 dsimp only at h0 h1 h2 h3 hp hlo ⊢
 by_cases hr : r = 0
 ·cases hs : Q5 (f, bk, xx) with
  | false => rw [if_pos (Or.inr rfl)];exact qmc b o c cs x r f bk xx w hT hC hx hn h0 h1 h2 h3 hr hs
  | true =>
   rw [if_neg (by simp [hr])]
   cases hl : loose cs x with
   | true => rw [if_pos (Or.inl rfl)];exact qny b o c cs x r f bk xx w hT hC hx hn h0 h1 h2 h3 hr hs hl
   | false =>
    have hx0 := hlo hr hl;obtain ⟨p1,p2,p3⟩ := hp hx0
    by_cases hq : (f,bk,xx) = (fp,bp,xp)
    ·rw [if_neg (by simp [hq])]
     exact qyc b o c cs x r f bk xx w hT hC hx hn h0 h1 h2 h3 hr hs hl fp bp xp hx0 p1 p2 p3 hq
    ·rw [if_pos (Or.inr ⟨hr, hq⟩)]
     exact qpu b o c cs x r f bk xx w hT hC hx hn h0 h1 h2 h3 hr hs hl fp bp xp hx0 p1 p2 p3 hq
 ·by_cases hw : wd r = 0
  ·rw [if_pos (Or.inl ⟨hr, hw⟩)]
   exact qog b o c cs x r f bk xx w hT hC hx hn h0 h1 h2 h3 hr hw
  ·cases hs : Q5 (f, bk, xx) with
   | false => rw [if_pos (Or.inr rfl)];exact qmb b o c cs x r f bk xx w hT hC hx hn h0 h1 h2 h3 hr hw hs
   | true =>
    rw [if_neg (by simp [hw])]
    cases hl : loose cs x with
    | true => rw [if_pos (Or.inl rfl)];exact qn1 b o c cs x r f bk xx w hT hC hx hn h0 h1 h2 h3 hr hw hs hl
    | false =>
     rw [if_neg (by simp [hr])]
     exact qv0 b o c cs x r f bk xx w hT hC hx hn h0 h1 h2 h3 hr hw hs hl
end Grd
namespace Grd
open Txt (wd)
theorem qtx (b o L c n y : Nat) (h : Int) (w : World) (hn : 1 ≤ n) (hL : (y + 1) * n ≤ L) (hc : L ≤ c) (hm : c ≤ 9223372036854775807) :
  Calls qP 39 #[.agg #[.int .i64 (n : Int),.int .i64 h,.slice (some ⟨b,o,none⟩) L c],.int .i64 (y : Int)] w fun e w' => e = .returned (.slice (some ⟨b,o + y * n * 4,none⟩) n (c - y * n)) ∧ Below w.heap.size w w' := by
 obtain ⟨p,hp⟩ : ∃ p,p = y * n := ⟨_,rfl⟩;have hq : (y + 1) * n = p + n := by rw [hp,Nat.add_mul,Nat.one_mul]
 rw [hq] at hL;rw [← hp];have hy : y ≤ p := by rw [hp];exact Nat.le_mul_of_pos_right _ (by omega)
 have e1 : (y : Int) * (n : Int) = (p : Int) := by rw [hp];simp
 have e2 : ((y : Int) + 1) * (n : Int) = ((p + n : Nat) : Int) := by rw [← hq];simp
 clear hq hp;have e3 : p + n - p = n := by omega
 go_enter Tryz.func39,Tryz.ntmps39;go_wp2_with fail;go_ret;exact ⟨by show Ending.returned (.slice (some ⟨b,o + p * 4,none⟩) (p + n - p) (c - p)) = _;rw [e3],(qr _ _).alloc (qd _) _⟩
theorem qq5 (a b : Int) (w : World) :
  Calls qP 38 #[.int .i64 a,.int .i64 b] w fun e w' => e = .returned (.bool (Zk a b)) ∧ w = w' := by
 go_enter Tryz.func38,Tryz.ntmps38;go_wp2
 all_goals (go_ret;exact ⟨Sty.Qh (by rw [Bool.eq_iff_iff];simp [Zk];try omega),rfl⟩)
theorem qbe (a b : Int) (v : Bool) (h : Zk a b = v) (w : World) :
  Calls qP 38 #[.int .i64 a,.int .i64 b] w fun e w' => e = .returned (.bool v) ∧ w = w' := by
 have := qq5 a b w;rwa [h] at this
def SliceAt (w : World) (v : Value) (cs : List C) : Prop :=
 (cs = [] ∧ ∃ a c,v = .slice a 0 c) ∨ (cs ≠ [] ∧ ∃ b o c,v = .slice (some ⟨b,o,none⟩) cs.length c ∧ cs.length ≤ c ∧ c ≤ 9223372036854775807 ∧ Qb w b o cs)
theorem SliceAt.below {w w' : World} {v : Value} {cs : List C} (h : SliceAt w v cs) (hb : Below w.heap.size w w') : SliceAt w' v cs := by
 rcases h with h | ⟨h0,b,o,c,hv,hc,hm,hC⟩
 ·exact .inl h
 ·exact .inr ⟨h0,b,o,c,hv,hc,hm,hC.below hb⟩
theorem SliceAt.shape {w : World} {v : Value} {cs : List C} (h : SliceAt w v cs) : ∃ a c,v = .slice a cs.length c := by
 rcases h with ⟨rfl,a,c,rfl⟩ | ⟨_,b,o,c,rfl,_⟩
 ·exact ⟨a,c,rfl⟩
 ·exact ⟨_,c,rfl⟩
theorem qln (a b : Int) (v : Value) (w : World) (h : Zk a b = false) :
  Calls qP 14 #[.agg #[.int .i64 a,.int .i64 b,v]] w fun e w' => e = .returned (.int .i64 3) ∧ Below w.heap.size w w' := by
 have H : Hid (Zk a b = false) := h;clear h;go_enter Tryz.func14,Tryz.ntmps14;go_wp2_with (go_at_call 38;refine (qbe a b _ H.out _).mono ?_;rintro e W1 ⟨rfl,rfl⟩);go_ret;exact ⟨rfl,(qr _ _).alloc (qd _) _⟩
theorem qff (a b : Int) (h : Zk a b = true) : 0 ≤ a * b ∧ a * b ≤ 7200 ∧ 1 ≤ a ∧ a ≤ 120 ∧ 1 ≤ b ∧ b ≤ 60 := by
 unfold Zk at h;have h' := of_decide_eq_true h;obtain ⟨h1,h2,h3,h4⟩ := h';have e1 : 0 ≤ a * b := Int.mul_nonneg (by omega) (by omega)
 have e2 : a * b ≤ 120 * 60 := Int.mul_le_mul h2 h4 (by omega) (by omega)
 exact ⟨e1,by omega,h1,h2,h3,h4⟩
theorem qoh (a b : Int) (ad : Option Addr) (L c : Nat) (w : World) (h : Zk a b = true) (hL : (L : Int) ≠ a * b) :
  Calls qP 14 #[.agg #[.int .i64 a,.int .i64 b,.slice ad L c]] w fun e w' => e = .returned (.int .i64 3) ∧ Below w.heap.size w w' := by
 have H : Hid (Zk a b = true) := h;have ⟨p0,p1,_⟩ := qff a b h;clear h;obtain ⟨p,hp⟩ : ∃ p,p = a * b := ⟨_,rfl⟩;rw [← hp] at hL p0 p1;have e1 : a * b = p := hp.symm;clear hp;have ne : ((L : Int) != p) = true := by simpa using hL
 clear hL;go_enter Tryz.func14,Tryz.ntmps14;go_wp2_with (go_at_call 38;refine (qbe a b _ H.out _).mono ?_;rintro e W1 ⟨rfl,rfl⟩);go_ret;exact ⟨rfl,(qr _ _).alloc (qd _) _⟩
theorem qbv (f : Nat → Int) (k N : Nat) (hk : k < N) : Zg f k (N - k) = if f k = 0 then Zg f (k + 1) (N - (k + 1)) else f k := by
 rw [show N - k = (N - (k + 1)) + 1 by omega]
 rfl
theorem qje (f : Nat → Int) (k N : Nat) (hk : ¬ k < N) : Zg f k (N - k) = 0 := by
 rw [show N - k = 0 by omega]
 rfl
theorem qbf (n hh : Nat) (cs : List C) (k : Nat) (hL : cs.length = n * hh) (hk : k < hh) : (rowAt n cs k).length = n := by
 unfold rowAt;rw [List.length_take,List.length_drop,hL];have : (k + 1) * n ≤ n * hh := by rw [Nat.mul_comm n hh];exact Nat.mul_le_mul_right _ hk
 rw [Nat.add_mul,Nat.one_mul] at this;omega
theorem qna (n hh L : Nat) (k : Nat) (hL : L = n * hh) (hk : k < hh) : (k + 1) * n ≤ L := by
 rw [hL,Nat.mul_comm n hh];exact Nat.mul_le_mul_right _ hk
theorem cells3 {w : World} {g : Nat} {t : TypeId} {a b c : Value} (h : w.heap[g]? = some (.cells #[a, b, c] t (0, 0))) :
  w.cell? ⟨g,0,none⟩ = some a ∧ w.cell? ⟨g,1,none⟩ = some b ∧ w.cell? ⟨g,2,none⟩ = some c ∧ (∀ i,w.frozen? ⟨g,i,none⟩ = false) :=
 ⟨by simp [World.cell?,h],by simp [World.cell?,h],by simp [World.cell?,h],fun i => by simp [World.frozen?,h]⟩
theorem Xj {w : World} {g : Nat} {o : Obj} (h : w.heap[g]? = some o) : g < w.heap.size := (Array.getElem?_eq_some_iff.1 h).1
theorem carry {W W' : World} {g : Nat} {o : Obj} (h : W.heap[g]? = some o) (hb : Below W.heap.size W W') : W'.heap[g]? = some o := (hb.block _ (Xj h)).trans h
theorem qrb (n hh : Nat) (b o c : Nat) (cs : List C) (w : World) (hT : Txt.Tab w) (hC : Qb w b o cs) (hs : Zk n hh = true) (hL : cs.length = n * hh) (hc : cs.length ≤ c) (hm : c ≤ 9223372036854775807) :
  Calls qP 14 #[.agg #[.int .i64 (n : Int),.int .i64 (hh : Int),.slice (some ⟨b,o,none⟩) cs.length c]] w fun e w' => e = .returned (.int .i64 (Zg (fun y => Uu (rowAt n cs y)) 0 hh)) ∧ Below w.heap.size w w' := by
 have H : Hid (Zk n hh = true) := hs;have HT : Hid (Txt.Tab w) := hT;have HC : Hid (Qb w b o cs) := hC;have HL : Hid (cs.length = n * hh) := hL;have ⟨p0,p1,p2,p3,p4,p5⟩ := qff n hh hs;clear hs hT hC;have e1 : (n : Int) * (hh : Int) = (cs.length : Int) := by rw [hL];simp
 have l1 : cs.length ≤ 7200 := by rw [hL];omega
 clear hL p0 p1;have ne : ((cs.length : Int) != (cs.length : Int)) = false := by simp
 go_enter Tryz.func14,Tryz.ntmps14;go_wp2_with (go_at_call 38;refine (qbe n hh _ H.out _).mono ?_;rintro e W1 ⟨rfl,rfl⟩);generalize hF : (fun y => Uu (rowAt n cs y)) = F
 have HF : Hid (∀ y,F y = Uu (rowAt n cs y)) := fun y => by rw [← hF]
 have HFF : Hid (Zg F 0 hh = Zg (fun y => Uu (rowAt n cs y)) 0 hh) := by unfold Hid;rw [hF]
 clear hF;go_loopg [26] hh (fun g y wr => ∃ k : Nat,y = .int .i64 (k : Int) ∧ k ≤ hh ∧ hh - k ≤ g ∧ Below w.heap.size w wr ∧ wr.heap[w.heap.size]? = some (.cells #[.int .i64 (n : Int),.int .i64 (hh : Int),.slice (some ⟨b,o,none⟩) cs.length c] 24 (0,0)) ∧ Zg F k (hh - k) = Zg F 0 hh)
 case atStart => exact ⟨0,rfl,by omega,by omega,(qr _ _).alloc (qd _) _,qf _ _,rfl⟩
 case round =>
  obtain ⟨k,rfl,hk,hg,hb,hv,hf⟩ := hrel;have HF1 : Hid (Zg F k (hh - k) = Zg F 0 hh) := hf;clear hf;have ⟨c0,c1,c2,_⟩ := cells3 hv
  by_cases hlt : k < hh
  ·have HR : Hid (∀ W, Below w.heap.size w W → Calls qP 39 #[.agg #[.int .i64 (n : Int), .int .i64 (hh : Int), .slice (some ⟨b, o, none⟩) cs.length c], .int .i64 (k : Int)] W fun e w' => e = .returned (.slice (some ⟨b, o + k * n * 4, none⟩) n (c - k * n)) ∧ Below W.heap.size W w') := fun W _ => qtx b o cs.length c n k hh W (by omega) (qna n hh _ k HL.out hlt) hc hm
   have hrl := qbf n hh cs k HL.out hlt;have HC1 : Hid (∀ W,Below w.heap.size w W → ∀ j : Nat,j < n → Calls qP 40 #[.slice (some ⟨b,o + k * n * 4,none⟩) n (c - k * n),.int .i64 (j : Int)] W fun e w' => e = .returned (.int .i64 (Xi (rowAt n cs k) j)) ∧ Below W.heap.size W w') := fun W kW j hj => by
    have hp := (HC.out.below kW).part (k * n) n (by have := qna n hh _ k HL.out hlt;rw [Nat.add_mul,Nat.one_mul] at this;omega)
    have := qid b (o + k * n * 4) (c - k * n) (rowAt n cs k) j W (Tab.next HT.out kW) hp (by rw [hrl];exact hj) (by rw [hrl];omega)
    rwa [hrl] at this
   have HRE : Hid (Uu (rowAt n cs k) = Zg (Xi (rowAt n cs k)) 0 n) := by unfold Hid Uu;rw [hrl]
   have HFk : Hid (F k = Uu (rowAt n cs k)) := HF.out k;clear hrl;have lt1 : ((k : Int) < (hh : Int)) := by omega
   go_wp2_with (go_at_call 39;refine (HR.out _ hb).mono ?_;rintro e W1 ⟨rfl,b1⟩);have k1 : Below w.heap.size w W1 := hb.trans (b1.mono hb.size);have v1 := carry hv b1;clear hb hv b1 c0 c1 c2;generalize rowAt n cs k = row at *;go_loopg [34] n (fun g x wr => ∃ j : Nat,x = .int .i64 (j : Int) ∧ j ≤ n ∧ n - j ≤ g ∧ Below w.heap.size w wr ∧ wr.heap[w.heap.size]? = some (.cells #[.int .i64 (n : Int),.int .i64 (hh : Int),.slice (some ⟨b,o,none⟩) cs.length c] 24 (0,0)) ∧ Zg (Xi row) j (n - j) = Zg (Xi row) 0 n)
   case atStart => exact ⟨0,rfl,by omega,by omega,k1,v1,rfl⟩
   case round =>
    obtain ⟨j,rfl,hj,hg2,hb,hv,hf⟩ := hrel;have HF2 : Hid (Zg (Xi row) j (n - j) = Zg (Xi row) 0 n) := hf;clear hf
    by_cases hjn : j < n
    ·have lt2 : ((j : Int) < (n : Int)) := by omega
     have KC := HC1.out _ hb j hjn;have HST := qbv (Xi row) j n hjn
     by_cases he : Xi row j = 0
     ·rw [if_pos he] at HST
      rw [he] at KC;have HK : Hid (Calls qP 40 #[.slice (some ⟨b,o + k * n * 4,none⟩) n (c - k * n),.int .i64 (j : Int)] wr fun e w' => e = .returned (.int .i64 0) ∧ Below wr.heap.size wr w') := KC
      have HS : Hid (Zg (Xi row) j (n - j) = Zg (Xi row) (j + 1) (n - (j + 1))) := HST;clear KC HST he;go_wp2_with (go_at_call 40;refine HK.out.mono ?_;rintro e W2 ⟨rfl,b2⟩);go_roundg (n - (j + 1))
      case measure => omega
      case rel => exact ⟨j + 1,rfl,by omega,by omega,hb.trans (b2.mono hb.size),carry hv b2,by rw [← HF2.out,HS.out]⟩
     ·rw [if_neg he] at HST
      have HK : Hid (Calls qP 40 #[.slice (some ⟨b,o + k * n * 4,none⟩) n (c - k * n),.int .i64 (j : Int)] wr fun e w' => e = .returned (.int .i64 (Xi row j)) ∧ Below wr.heap.size wr w') := KC
      have HV : Hid (Xi row j = Zg F 0 hh) := by
       have h1 := qbv F k hh hlt;have h2 : F k = Xi row j := by rw [HFk.out,HRE.out,← HF2.out,HST]
       rw [h2,if_neg he] at h1;unfold Hid;rw [← HF1.out,h1]
      clear KC HST;generalize Xi row j = ce at *;have nz : (ce != 0) = true := by simpa using he
      go_wp2_with (go_at_call 40;refine HK.out.mono ?_;rintro e W2 ⟨rfl,b2⟩);go_ret;exact ⟨Txt.Q6 (HV.out.trans HFF.out),hb.trans (b2.mono hb.size)⟩
    ·have lt2 : ¬ ((j : Int) < (n : Int)) := by omega
     have HV : Hid (Zg F k (hh - k) = Zg F (k + 1) (hh - (k + 1))) := by
      have h1 := qbv F k hh hlt;have h2 : F k = 0 := by rw [HFk.out,HRE.out,← HF2.out,qje _ _ _ hjn]
      rw [if_pos h2] at h1;exact h1
     go_wp2_with fail;go_roundg (hh - (k + 1))
     case measure => omega
     case rel => exact ⟨k + 1,rfl,by omega,by omega,hb,hv,by rw [← HF1.out,HV.out]⟩
  ·have lt1 : ¬ ((k : Int) < (hh : Int)) := by omega
   have HV : Hid (0 = Zg F 0 hh) := by unfold Hid;rw [← HF1.out,qje _ _ _ hlt]
   go_wp2_with fail;go_ret;exact ⟨Txt.Q6 (HV.out.trans HFF.out),hb⟩
theorem Xd (a h : Int) (v : Value) (cs : List C) (w : World) (hT : Txt.Tab w) (hS : SliceAt w v cs) :
  Calls qP 14 #[.agg #[.int .i64 a,.int .i64 h,v]] w fun e w' => e = .returned (.int .i64 (Qf a h cs)) ∧ Below w.heap.size w w' := by
 unfold Qf
 cases hs : Zk a h with
 | false => rw [if_pos (Or.inl rfl)];exact qln a h v w hs
 | true =>
  obtain ⟨p0,p1,p2,p3,p4,p5⟩ := qff a h hs
  by_cases hL : (cs.length : Int) = a * h
  ·rw [if_neg (by simp [hL])]
   rcases hS with ⟨rfl,_⟩ | ⟨_,b,o,c,rfl,hc,hm,hC⟩
   ·exfalso
    have : 1 * 1 ≤ a * h := Int.mul_le_mul p2 p4 (by omega) (by omega)
    simp at hL;omega
   ·obtain ⟨n, rfl⟩ := Int.eq_ofNat_of_zero_le (show 0 ≤ a by omega)
    obtain ⟨m,rfl⟩ := Int.eq_ofNat_of_zero_le (show 0 ≤ h by omega)
    rw [Int.toNat_natCast,Int.toNat_natCast];exact qrb n m b o c cs w hT hC hs (by exact_mod_cast hL) hc hm
  ·rw [if_pos (Or.inr hL)]
   obtain ⟨ad,c,rfl⟩ := hS.shape;exact qoh a h ad cs.length c w hs hL
end Grd
namespace Grd
theorem qhs {P : Program} (w : World) (dT sT ty elem : TypeId) (g o dLen dCap : Nat) (a : Addr) (sLen sCap k : Nat) (cur : Array Value) (t : TypeId) (cs : List Value)
  (hu : P.underlying dT = some (.slice elem)) (hs : (P.info? elem).map (·.size) = some k)
  (hg : w.heap[g]? = some (.cells cur t (0,0))) (hn : cs.length = Nat.min sLen dLen * k)
  (hsrc : ∀ j v,cs[j]? = some v → w.cell? (a.add j) = some v) (hfit : o + cs.length ≤ cur.size) (h1 : ∀ v ∈ cs,v.oneCell' = true) :
  (Builtin.copy_ #[dT, sT] ty #[.slice (some ⟨g, o, none⟩) dLen dCap, .slice (some a) sLen sCap]).run P w =
   .ok (goInt (Nat.min sLen dLen)) (w.setRow g (cur.toList.take o ++ cs ++ cur.toList.drop (o + cs.length)).toArray) := by
 have hl := run_loadCells_list (P := P) w a cs hsrc;have hst := run_storeCells_at P g o t cs 0 cur w hg (by simpa using hfit) h1
 cases hq : P.info? elem with
 | none => simp [hq] at hs
 | some i =>
  have hi : i.size = k := by simpa [hq] using hs
  simp [Builtin.copy_,run_underlying hu,Builtin.lenOf,Builtin.firstCells,sizeOf,typeInfo,hq,hi,← hn,hl,hst]
def words (c : C) : List Value := [.int .i32 c.1,.int .i64 c.2.1,.int .i64 c.2.2.1,.int .i64 c.2.2.2]
def flat (cs : List C) : List Value := cs.flatMap words
theorem Jw : ∀ cs : List C, (flat cs).length = cs.length * 4
 | [] => rfl
 | c :: cs => by
  show (words c ++ flat cs).length = _
  rw [List.length_append,Jw cs];simp [words];omega
theorem qau (a b : List C) : flat (a ++ b) = flat a ++ flat b := by simp [flat]
theorem qfc : ∀ (cs : List C) (j i : Nat), j < cs.length → i < 4 → (flat cs)[j * 4 + i]? = (words (cs.getD j z0))[i]?
 | c :: cs,0,i,_,hi => by
  show (words c ++ flat cs)[0 * 4 + i]? = _
  rw [List.getElem?_append_left (by simp [words];omega)]
  simp
 | c :: cs,j + 1,i,hj,hi => by
  show (words c ++ flat cs)[(j + 1) * 4 + i]? = _
  rw [List.getElem?_append_right (by simp [words];omega),show (j + 1) * 4 + i - (words c).length = j * 4 + i by simp [words];omega,qfc cs j i (by simpa using hj) hi]
  simp
theorem qcg : ∀ cs : List C,∀ v ∈ flat cs,v.oneCell' = true := by
 intro cs v hv;obtain ⟨c,_,hv⟩ := List.mem_flatMap.1 hv;simp [words] at hv
 rcases hv with rfl | rfl | rfl | rfl <;> rfl
def Y5 (w : World) (base : Nat) (v : Value) (cs : List C) : Prop := ∃ (g cap : Nat) (rest : List Value) (t : { t : TypeId // t = 56 }),
 v = .slice (some ⟨g,0,none⟩) cs.length cap ∧ base ≤ g ∧ cs.length ≤ cap ∧ cap ≤ 9223372036854775807 ∧ w.heap[g]? = some (.cells (flat cs ++ rest).toArray t (0,0))
theorem Gb {w : World} {g : Nat} {cs : List C} {rest : List Value} {t : TypeId} (h : w.heap[g]? = some (.cells (flat cs ++ rest).toArray t (0,0))) : Qb w g 0 cs := fun j hj => by
 have key : ∀ i,i < 4 → w.cell? ⟨g,0 + j * 4 + i,none⟩ = (words (cs.getD j z0))[i]? := fun i hi => by
  rw [Nat.zero_add,← qfc cs j i hj hi];unfold World.cell?;rw [h];have hl : j * 4 + i < (flat cs).length := by rw [Jw];omega
  simp [List.getElem?_append_left hl]
 exact ⟨key 0 (by omega),key 1 (by omega),key 2 (by omega),key 3 (by omega)⟩
end Grd
end Go.Proofs.YtooobiigijphkaaGreatDoor
namespace Go.Proofs
open Go.Shelf
def Tryz.qeu : Go.Shelf.Ren := ⟨fun | 169 => 71 | n => n,fun | 70 => 112 | 9 => 9 | 0 => 0 | 72 => 115 | 37 => 113 | 127 => 147 | 3 => 3 | 5 => 5 | n => n,fun | n => n⟩
theorem Tryz.qzj : Go.Proofs.Lays.n169 qP Tryz.qeu := {
 mixed := by kernel_rfl
 f169 := Tryz.func71.trans (congrArg some (by kernel_rfl))
 t0 := Tryz.underlying0
 a0 := Tryz.isAgg0
 z0 := Tryz.sizeOf0
 v0 := Tryz.zeroValue0
 t3 := Tryz.underlying3
 a3 := Tryz.isAgg3
 z3 := Tryz.sizeOf3
 v3 := Tryz.zeroValue3
 t9 := Tryz.underlying9
 a9 := Tryz.isAgg9
 z9 := Tryz.sizeOf9
 v9 := Tryz.zeroValue9
 t37 := Tryz.underlying113
 a37 := Tryz.isAgg113
 z37 := Tryz.sizeOf113
 v37 := Tryz.zeroValue113
 t70 := Tryz.underlying112
 a70 := Tryz.isAgg112
 z70 := Tryz.sizeOf112
 v70 := Tryz.zeroValue112
 t72 := Tryz.underlying115
 a72 := Tryz.isAgg115
 z72 := Tryz.sizeOf115
 v72 := Tryz.zeroValue115
 t127 := Tryz.underlying147
 a127 := Tryz.isAgg147
 z127 := Tryz.sizeOf147
 v127 := Tryz.zeroValue147 }
theorem Tryz.qb4 : Builder.Extra qP Tryz.qeu := {
 sizeBuilder := by kernel_rfl
 liesBuilder := by kernel_rfl
 t5 := Tryz.underlying5
 a5 := Tryz.isAgg5
 z5 := Tryz.sizeOf5
 v5 := Tryz.zeroValue5
 infoByte := by kernel_rfl
 cellsByte := by kernel_rfl
 sizeByte := by kernel_rfl
 neB5 := by decide }
open Go.RowKit in
theorem Tryz.Builder_String_any_k (B b : Nat) (l : List UInt8) (w : World) (h : Lib.IsBuilderF 115 5 B b (Lib.byteCells l) w) (hBw : B ≤ w.heap.size) :
  Calls qP 71 #[.pointer (some ⟨b,0,none⟩)] w fun e w' => e = .returned (.string ⟨l.toArray⟩) ∧ (Lib.IsBuilderF 115 5 B b (Lib.byteCells l) w' ∧ Below B w w' ∧ Lib.OthersKept 5 (some b) w w') := Any.Builder_String_any_k Tryz.qzj Tryz.qb4 B b l w h hBw
def Tryz.qlp : Go.Shelf.Ren := ⟨fun | 195 => 43 | n => n,fun | 9 => 9 | 3 => 3 | 0 => 0 | 4 => 4 | n => n,fun | n => n⟩
theorem Tryz.qz3 : Go.Proofs.Lays.n195 qP Tryz.qlp := {
 mixed := by kernel_rfl
 f195 := Tryz.func43.trans (congrArg some (by kernel_rfl))
 t0 := Tryz.underlying0
 a0 := Tryz.isAgg0
 z0 := Tryz.sizeOf0
 v0 := Tryz.zeroValue0
 t3 := Tryz.underlying3
 a3 := Tryz.isAgg3
 z3 := Tryz.sizeOf3
 v3 := Tryz.zeroValue3
 t4 := Tryz.underlying4
 a4 := Tryz.isAgg4
 z4 := Tryz.sizeOf4
 v4 := Tryz.zeroValue4
 t9 := Tryz.underlying9
 a9 := Tryz.isAgg9
 z9 := Tryz.sizeOf9
 v9 := Tryz.zeroValue9 }
open Go.RowKit in
theorem Tryz.utf8_RuneCountInString (s : ByteArray) (w : World) (hs : s.size < 9223372036854775807) :
  Calls qP 43 #[.string s] w fun e w' => e = .returned (.int .i64 (Lib.runeCount s)) ∧ ∃ pos,w' = w.iter s pos := Any.utf8_RuneCountInString Tryz.qz3 s w hs
def Tryz.qjj : Go.Shelf.Ren := ⟨fun | 316 => 79 | n => n,fun | 9 => 9 | 3 => 3 | 4 => 4 | 37 => 113 | 0 => 0 | 127 => 147 | 5 => 5 | n => n,fun | n => n⟩
theorem Tryz.qvw : Go.Proofs.LaysM.n316 qP Tryz.qjj := {
 mixed := by kernel_rfl
 f316 := Tryz.func79.trans (congrArg some (by kernel_rfl))
 t0 := Tryz.underlying0
 a0 := Tryz.isAgg0
 z0 := Tryz.sizeOf0
 v0 := Tryz.zeroValue0
 t3 := Tryz.underlying3
 a3 := Tryz.isAgg3
 z3 := Tryz.sizeOf3
 v3 := Tryz.zeroValue3
 t4 := Tryz.underlying4
 a4 := Tryz.isAgg4
 z4 := Tryz.sizeOf4
 v4 := Tryz.zeroValue4
 t9 := Tryz.underlying9
 a9 := Tryz.isAgg9
 z9 := Tryz.sizeOf9
 v9 := Tryz.zeroValue9
 t37 := Tryz.underlying113
 a37 := Tryz.isAgg113
 z37 := Tryz.sizeOf113
 v37 := Tryz.zeroValue113
 t127 := Tryz.underlying147
 a127 := Tryz.isAgg147
 z127 := Tryz.sizeOf147
 v127 := Tryz.zeroValue147
 t5 := Tryz.underlying5
 a5 := Tryz.isAgg5
 z5 := Tryz.sizeOf5
 v5 := Tryz.zeroValue5
 i0 := by kernel_rfl
 i3 := by kernel_rfl
 i4 := by kernel_rfl
 i5 := by kernel_rfl
 i9 := by kernel_rfl
 i37 := by kernel_rfl
 i127 := by kernel_rfl }
open Go.RowKit in
theorem Tryz.stringslite_Clone (s : ByteArray) (w : World) (hlim : s.size ≤ 281474976710656) :
  Calls qP 79 #[.string s] w fun e w' => e = .returned (.string s) ∧ Below w.heap.size w w' := Any.stringslite_Clone Tryz.qvw s w hlim
def Tryz.qmp : Go.Shelf.Ren := ⟨fun | 219 => 220 | 217 => 233 | 225 => 234 | 224 => 235 | 267 => 236 | 266 => 242 | 314 => 243 | n => n,fun | 9 => 9 | 3 => 3 | 4 => 4 | 5 => 5 | 46 => 133 | 146 => 165 | 51 => 164 | n => n,fun | 1 => 3 | n => n⟩
theorem Tryz.qz0 : Go.Proofs.Lays.n219 qP Tryz.qmp := {
 mixed := by kernel_rfl
 f217 := Tryz.func233.trans (congrArg some (by kernel_rfl))
 f219 := Tryz.func220.trans (congrArg some (by kernel_rfl))
 f224 := Tryz.func235.trans (congrArg some (by kernel_rfl))
 f225 := Tryz.func234.trans (congrArg some (by kernel_rfl))
 f266 := Tryz.func242.trans (congrArg some (by kernel_rfl))
 f267 := Tryz.func236.trans (congrArg some (by kernel_rfl))
 f314 := Tryz.func243.trans (congrArg some (by kernel_rfl))
 t3 := Tryz.underlying3
 a3 := Tryz.isAgg3
 z3 := Tryz.sizeOf3
 v3 := Tryz.zeroValue3
 t4 := Tryz.underlying4
 a4 := Tryz.isAgg4
 z4 := Tryz.sizeOf4
 v4 := Tryz.zeroValue4
 t5 := Tryz.underlying5
 a5 := Tryz.isAgg5
 z5 := Tryz.sizeOf5
 v5 := Tryz.zeroValue5
 t9 := Tryz.underlying9
 a9 := Tryz.isAgg9
 z9 := Tryz.sizeOf9
 v9 := Tryz.zeroValue9
 t46 := Tryz.underlying133
 a46 := Tryz.isAgg133
 z46 := Tryz.sizeOf133
 v46 := Tryz.zeroValue133
 t51 := Tryz.underlying164
 a51 := Tryz.isAgg164
 z51 := Tryz.sizeOf164
 v51 := Tryz.zeroValue164
 t146 := Tryz.underlying165
 a146 := Tryz.isAgg165
 z146 := Tryz.sizeOf165
 v146 := Tryz.zeroValue165
 g1 := by kernel_rfl }
open Go.RowKit Go.Lib in
theorem Tryz.stringslite_Index_one (s : ByteArray) (c : UInt8) (w : World) :
  Calls qP 220 #[.string s,.string ⟨#[c]⟩] w fun e w' => e = .returned (.int .i64 (Lib.indexByte s.data.toList c)) ∧ w' = w := Any.stringslite_Index_one Tryz.qz0 s c w
def Tryz.qng : Go.Shelf.Ren := ⟨fun | 197 => 178 | 260 => 223 | n => n,fun | 9 => 9 | 21 => 21 | 3 => 3 | 4 => 4 | 5 => 5 | 105 => 154 | 119 => 148 | 0 => 0 | 46 => 133 | 139 => 151 | 138 => 150 | n => n,fun | 3 => 1 | 4 => 2 | n => n⟩
theorem Tryz.q0m : Go.Proofs.Lays.n197 qP Tryz.qng := {
 mixed := by kernel_rfl
 f197 := Tryz.func178.trans (congrArg some (by kernel_rfl))
 f260 := Tryz.func223.trans (congrArg some (by kernel_rfl))
 t0 := Tryz.underlying0
 a0 := Tryz.isAgg0
 z0 := Tryz.sizeOf0
 v0 := Tryz.zeroValue0
 t3 := Tryz.underlying3
 a3 := Tryz.isAgg3
 z3 := Tryz.sizeOf3
 v3 := Tryz.zeroValue3
 t4 := Tryz.underlying4
 a4 := Tryz.isAgg4
 z4 := Tryz.sizeOf4
 v4 := Tryz.zeroValue4
 t5 := Tryz.underlying5
 a5 := Tryz.isAgg5
 z5 := Tryz.sizeOf5
 v5 := Tryz.zeroValue5
 t9 := Tryz.underlying9
 a9 := Tryz.isAgg9
 z9 := Tryz.sizeOf9
 v9 := Tryz.zeroValue9
 t21 := Tryz.underlying21
 a21 := Tryz.isAgg21
 z21 := Tryz.sizeOf21
 v21 := Tryz.zeroValue21
 t46 := Tryz.underlying133
 a46 := Tryz.isAgg133
 z46 := Tryz.sizeOf133
 v46 := Tryz.zeroValue133
 t105 := Tryz.underlying154
 a105 := Tryz.isAgg154
 z105 := Tryz.sizeOf154
 v105 := Tryz.zeroValue154
 t119 := Tryz.underlying148
 a119 := Tryz.isAgg148
 z119 := Tryz.sizeOf148
 t138 := Tryz.underlying150
 a138 := Tryz.isAgg150
 z138 := Tryz.sizeOf150
 v138 := Tryz.zeroValue150
 t139 := Tryz.underlying151
 a139 := Tryz.isAgg151
 z139 := Tryz.sizeOf151
 v139 := Tryz.zeroValue151
 g3 := by kernel_rfl
 g4 := by kernel_rfl }
def Tryz.qlw : Go.Shelf.Ren := ⟨fun | 212 => 105 | 263 => 167 | 264 => 168 | n => n,fun | 46 => 133 | 51 => 164 | 146 => 165 | 53 => 167 | 148 => 168 | n => n,fun | n => n⟩
theorem Tryz.qz6 : Go.Proofs.Lays.n212 qP Tryz.qlw := {
 mixed := by kernel_rfl
 f212 := Tryz.func105.trans (congrArg some (by kernel_rfl))
 f263 := Tryz.func167.trans (congrArg some (by kernel_rfl))
 f264 := Tryz.func168.trans (congrArg some (by kernel_rfl))
 t46 := Tryz.underlying133
 a46 := Tryz.isAgg133
 z46 := Tryz.sizeOf133
 v46 := Tryz.zeroValue133
 t51 := Tryz.underlying164
 a51 := Tryz.isAgg164
 z51 := Tryz.sizeOf164
 v51 := Tryz.zeroValue164
 t53 := Tryz.underlying167
 a53 := Tryz.isAgg167
 z53 := Tryz.sizeOf167
 v53 := Tryz.zeroValue167
 t146 := Tryz.underlying165
 a146 := Tryz.isAgg165
 z146 := Tryz.sizeOf165
 v146 := Tryz.zeroValue165
 t148 := Tryz.underlying168
 a148 := Tryz.isAgg168
 z148 := Tryz.sizeOf168
 v148 := Tryz.zeroValue168 }
open Go.RowKit Go.Lib in
theorem Tryz.bits_Mul (x y : Nat) (hx : x < 18446744073709551616) (hy : y < 18446744073709551616) (w : World) :
  Calls qP 105 #[.int .u64 x,.int .u64 y] w fun e w' => e = .returned (.tuple #[.int .u64 ((x * y / 18446744073709551616 : Nat) : Int),.int .u64 ((x * y % 18446744073709551616 : Nat) : Int)]) ∧ w' = w := Any.bits_Mul Tryz.qz6 x y hx hy w
def Tryz.qec : Go.Shelf.Ren := ⟨fun | 260 => 223 | n => n,fun | 9 => 9 | 21 => 21 | 3 => 3 | 4 => 4 | 5 => 5 | 119 => 148 | 0 => 0 | 46 => 133 | 139 => 151 | 138 => 150 | n => n,fun | 3 => 1 | 4 => 2 | n => n⟩
theorem Tryz.qzk : Go.Proofs.Lays.n260 qP Tryz.qec := {
 mixed := by kernel_rfl
 f260 := Tryz.func223.trans (congrArg some (by kernel_rfl))
 t0 := Tryz.underlying0
 a0 := Tryz.isAgg0
 z0 := Tryz.sizeOf0
 v0 := Tryz.zeroValue0
 t3 := Tryz.underlying3
 a3 := Tryz.isAgg3
 z3 := Tryz.sizeOf3
 v3 := Tryz.zeroValue3
 t4 := Tryz.underlying4
 a4 := Tryz.isAgg4
 z4 := Tryz.sizeOf4
 v4 := Tryz.zeroValue4
 t5 := Tryz.underlying5
 a5 := Tryz.isAgg5
 z5 := Tryz.sizeOf5
 v5 := Tryz.zeroValue5
 t9 := Tryz.underlying9
 a9 := Tryz.isAgg9
 z9 := Tryz.sizeOf9
 v9 := Tryz.zeroValue9
 t21 := Tryz.underlying21
 a21 := Tryz.isAgg21
 z21 := Tryz.sizeOf21
 v21 := Tryz.zeroValue21
 t46 := Tryz.underlying133
 a46 := Tryz.isAgg133
 z46 := Tryz.sizeOf133
 v46 := Tryz.zeroValue133
 t119 := Tryz.underlying148
 a119 := Tryz.isAgg148
 z119 := Tryz.sizeOf148
 t138 := Tryz.underlying150
 a138 := Tryz.isAgg150
 z138 := Tryz.sizeOf150
 v138 := Tryz.zeroValue150
 t139 := Tryz.underlying151
 a139 := Tryz.isAgg151
 z139 := Tryz.sizeOf151
 v139 := Tryz.zeroValue151
 g3 := by kernel_rfl
 g4 := by kernel_rfl }
open Go.RowKit Go.Lib in
theorem Tryz.utf8_DecodeRuneInString (s : ByteArray) (w : World) (hT : Lib.Utf8Tabs 1 2 w) :
  Calls qP 178 #[.string s] w fun e w' => e = .returned (.tuple #[.int .i32 (Lib.decodeGo s).1,.int .i64 (Lib.decodeGo s).2]) ∧ Below w.heap.size w w' := Any.utf8_DecodeRuneInString Tryz.q0m s w hT
def Tryz.qmt : Go.Shelf.Ren := ⟨fun | 111 => 24 | n => n,fun | 28 => 33 | 3 => 3 | 4 => 4 | 0 => 0 | n => n,fun | n => n⟩
theorem Tryz.qlc : Go.Proofs.Lays.n111 qP Tryz.qmt := {
 mixed := by kernel_rfl
 f111 := Tryz.func24.trans (congrArg some (by kernel_rfl))
 t0 := Tryz.underlying0
 a0 := Tryz.isAgg0
 z0 := Tryz.sizeOf0
 v0 := Tryz.zeroValue0
 t3 := Tryz.underlying3
 a3 := Tryz.isAgg3
 z3 := Tryz.sizeOf3
 v3 := Tryz.zeroValue3
 t4 := Tryz.underlying4
 a4 := Tryz.isAgg4
 z4 := Tryz.sizeOf4
 v4 := Tryz.zeroValue4
 t28 := Tryz.underlying33
 a28 := Tryz.isAgg33
 z28 := Tryz.sizeOf33
 v28 := Tryz.zeroValue33 }
open Go.RowKit Go.Lib in
theorem Tryz.slices_Equal_int (b1 o1 n c b2 o2 m d : Nat) (xs ys : List Int) (w : World) (hx : n ≤ xs.length) (hy : m ≤ ys.length) (hbig : n ≤ 9223372036854775807) (hbig2 : m ≤ 9223372036854775807) (hc1 : ∀ j, j < xs.length → w.cell? ⟨b1, o1 + j, none⟩ = some (.int .i64 (xs.getD j 0))) (hc2 : ∀ j, j < ys.length → w.cell? ⟨b2, o2 + j, none⟩ = some (.int .i64 (ys.getD j 0))) :
  Calls qP 24 #[.slice (some ⟨b1,o1,none⟩) n c,.slice (some ⟨b2,o2,none⟩) m d] w fun e w' => e = .returned (.bool (xs.take n == ys.take m)) ∧ ∃ q,w' = w.drewN q := Any.slices_Equal_int Tryz.qlc b1 o1 n c b2 o2 m d xs ys w hx hy hbig hbig2 hc1 hc2
open Go.RowKit Go.Lib in
theorem Tryz.slices_Equal_int_empty (a1 a2 : Option Addr) (c m d : Nat) (w : World) (hbig2 : m ≤ 9223372036854775807) :
  Calls qP 24 #[.slice a1 0 c,.slice a2 m d] w fun e w' => e = .returned (.bool (decide (m = 0))) ∧ w' = w := Any.slices_Equal_int_empty Tryz.qlc a1 a2 c m d w hbig2
def Tryz.qik : Go.Shelf.Ren := ⟨fun | 15 => 214 | n => n,fun | 22 => 33 | 3 => 3 | 4 => 4 | n => n,fun | n => n⟩
theorem Tryz.qdm : Go.Proofs.Lays2.n15 qP Tryz.qik := {
 mixed := by kernel_rfl
 f15 := Tryz.func214.trans (congrArg some (by kernel_rfl))
 t3 := Tryz.underlying3
 a3 := Tryz.isAgg3
 z3 := Tryz.sizeOf3
 v3 := Tryz.zeroValue3
 t4 := Tryz.underlying4
 a4 := Tryz.isAgg4
 z4 := Tryz.sizeOf4
 v4 := Tryz.zeroValue4
 t22 := Tryz.underlying33
 a22 := Tryz.isAgg33
 z22 := Tryz.sizeOf33
 v22 := Tryz.zeroValue33
 i3 := by kernel_rfl }
open Go.RowKit Go.Lib in
theorem Tryz.slices_Clone_int (b off n c : Nat) (zs : List Int) (w : World) (hz : n ≤ zs.length) (hbig : n * 8 ≤ 140737488355328) (hc : ∀ j, j < zs.length → w.cell? ⟨b, off + j, none⟩ = some (.int .i64 (zs.getD j 0))) :
  Calls qP 214 #[.slice (some ⟨b,off,none⟩) n c] w fun e w' => ∃ v',e = .returned v' ∧ w'.ownsRow w.heap.size 3 1 v' n ((zs.take n).map (Value.int .i64)) ∧ v' ≠ .slice none 0 0 ∧ Below w.heap.size w w' := Any.slices_Clone_int Tryz.qdm b off n c zs w hz hbig hc
open Go.RowKit Go.Lib in
theorem Tryz.slices_Clone_int_nil (n c : Nat) (w : World) :
  Calls qP 214 #[.slice none n c] w fun e w' => e = .returned (.slice none 0 0) ∧ w' = w := Any.slices_Clone_int_nil Tryz.qdm n c w
open Go.RowKit Go.Lib in
theorem Tryz.slices_Clone_int_zero (a : Addr) (c : Nat) (w : World) :
  Calls qP 214 #[.slice (some a) 0 c] w fun e w' => ∃ v',e = .returned v' ∧ w'.ownsRow w.heap.size 3 1 v' 0 [] ∧ v' ≠ .slice none 0 0 ∧ Below w.heap.size w w' := Any.slices_Clone_int_zero Tryz.qdm a c w
open Go.RowKit Go.Lib in
theorem Tryz.slices_Equal_int_lens (a1 a2 : Option Addr) (n c m d : Nat) (w : World) (hnm : n ≠ m) :
  Calls qP 24 #[.slice a1 n c,.slice a2 m d] w fun e w' => e = .returned (.bool false) ∧ w' = w := Any.slices_Equal_int_lens Tryz.qlc a1 a2 n c m d w hnm
end Go.Proofs
namespace Go.Proofs.YtooobiigijphkaaGreatDoor
set_option linter.unusedVariables false
set_option linter.unusedSimpArgs false
set_option maxRecDepth 100000
open Go.ChangeShapes Go.WideShapes Go.ChangeAt Go.RowKit
namespace Grd
theorem Jc : Tryz.prog.underlying 22 = some (.slice 56) := by kernel_rfl
theorem qd2 : (Tryz.prog.info? 56).map (·.size) = some 4 := by kernel_rfl
theorem U4 : (Tryz.prog.info? 56).map (fun i => (i.zero,i.size,i.bytes)) = some (some (.agg #[.int .i32 0,.int .i64 0,.int .i64 0,.int .i64 0]),4,32) := by kernel_rfl
theorem qg7 (N : Nat) (hN : N ≤ 1000000) (w : World) :
  (Instr.makeSlice 22 (.int .i64 (N : Int)) (.int .i64 (N : Int))).run qP w = .ok (.slice (some ⟨w.heap.size,0,none⟩) N N) (w.alloc (.cells (madeCells #[.int .i32 0,.int .i64 0,.int .i64 0,.int .i64 0] (N * 4)) 56)) := by
 obtain ⟨i,hi,hzz⟩ := Option.map_eq_some_iff.1 U4;simp only [Prod.mk.injEq] at hzz;obtain ⟨hz,hs,hb⟩ := hzz;have hr := run_make (P := qP) w 22 56 i _ Jc hi hz .i64 .i64 N N (by omega) (Int.le_refl _) (by rw [hb];omega) (by omega)
 simp only [Int.toNat_natCast,hs] at hr;exact hr
theorem qse (c : C) (a b : Nat) : qe a c ++ qe b c = qe (a + b) c := by simp
theorem qve (c : C) (m mn : Nat) (rest : List Value) : (flat (qe m c) ++ rest).take (m * 4) ++ (flat (qe mn c) ++ (flat (qe m c) ++ rest).drop (m * 4 + (flat (qe mn c)).length)) = flat (qe (m + mn) c) ++ rest.drop (mn * 4) := by
 have hl : (flat (qe m c)).length = m * 4 := by rw [Jw];simp
 have hl2 : (flat (qe mn c)).length = mn * 4 := by rw [Jw];simp
 rw [List.take_left' hl,hl2,List.drop_append,← qse,qau,List.append_assoc,List.drop_of_length_le (by rw [hl];omega),hl,Nat.add_sub_cancel_left]
 rfl
theorem qyt {w : World} {g : Nat} {cs : List C} {rest : List Value} {t : TypeId} (h : w.heap[g]? = some (.cells (flat cs ++ rest).toArray t (0, 0))) (ds : List Value) (hd : ∃ r, flat cs = ds ++ r) :
  ∀ j v,ds[j]? = some v → w.cell? ((⟨g,0,none⟩ : Addr).add j) = some v := by
 intro j v hj;obtain ⟨r,hr⟩ := hd;have hlt := (List.getElem?_eq_some_iff.1 hj).1;rw [add_plain,Nat.zero_add];unfold World.cell?;rw [h,hr];simp [List.getElem?_append_left hlt,List.append_assoc,hj]
theorem qk2 {P : Program} (w : World) (dT sT ty elem : TypeId) (g o dLen dCap : Nat) (a : Addr) (sLen sCap k m : Nat) (L : List Value) (t : TypeId) (cs : List Value)
  (hu : P.underlying dT = some (.slice elem)) (hs : (P.info? elem).map (·.size) = some k)
  (hg : w.heap[g]? = some (.cells L.toArray t (0,0))) (hm : Nat.min sLen dLen = m) (hn : cs.length = m * k)
  (hsrc : ∀ j v,cs[j]? = some v → w.cell? (a.add j) = some v) (hfit : o + cs.length ≤ L.length) (h1 : ∀ v ∈ cs,v.oneCell' = true) :
  ∃ W', (Builtin.copy_ #[dT, sT] ty #[.slice (some ⟨g, o, none⟩) dLen dCap, .slice (some a) sLen sCap]).run P w = .ok (.int .i64 (m : Int)) W' ∧
   W'.heap[g]? = some (.cells (L.take o ++ (cs ++ L.drop (o + cs.length))).toArray t (0,0)) ∧ ∀ B w0,Below B w0 w → B ≤ g → Below B w0 W' := by
 have hrun := qhs (P := P) w dT sT ty elem g o dLen dCap a sLen sCap k L.toArray t cs hu hs hg (by rw [hm];exact hn) hsrc (by simpa using hfit) h1
 rw [hm] at hrun;refine ⟨_,hrun,?_,fun B w0 hb hB => below_setRow hb hB _⟩
 simpa using setRow_heap w g _ _ t _ hg
theorem qg2 (b o cx N : Nat) (c : C) (w : World) (hC : Qb w b o [c]) (h1 : 1 ≤ N) (hN : N ≤ 7200) :
  Calls qP 60 #[.slice (some ⟨b,o,none⟩) 1 cx,.int .i64 (N : Int)] w fun e w' => ∃ v',e = .returned v' ∧ Y5 w' w.heap.size v' (qe N c) ∧ Below w.heap.size w w' := by
 obtain ⟨h0,hf,hb,hx⟩ := hC 0 (by simp)
 have hmk := qg7 N (by omega)
 have hmul : Hid (Calls qP 105 #[.int .u64 1,.int .u64 (N : Int)] w fun e w' => e = .returned (.tuple #[.int .u64 0,.int .u64 (N : Int)]) ∧ w = w') := by
  have := Tryz.bits_Mul 1 N (by omega) (by omega) w
  rw [Nat.one_mul,Nat.div_eq_of_lt (by omega),Nat.mod_eq_of_lt (by omega)] at this
  exact this.mono fun e w' ⟨he,hw⟩ => ⟨he,hw.symm⟩
 obtain ⟨A,hA⟩ : ∃ A,A = madeCells #[.int .i32 0,.int .i64 0,.int .i64 0,.int .i64 0] (N * 4) := ⟨_,rfl⟩;have hAs : A.size = N * 4 := by rw [hA,size_madeCells]
 rw [← hA] at hmk;clear hA hC;have hmin : Nat.min 1 N = 1 := Nat.min_eq_left h1;have hone : ∀ v ∈ words c,v.oneCell' = true := fun v hv => qcg [c] v (by simpa [flat] using hv)
 have hfit : 0 + (words c).length ≤ A.size := by rw [hAs];simp [words];omega
 have hsrc : ∀ j v,(words c)[j]? = some v → (w.alloc (.cells A 56)).cell? ((⟨b,o,none⟩ : Addr).add j) = some v := fun j v hj => by
  have hlt := (List.getElem?_eq_some_iff.1 hj).1;have kb : Below w.heap.size w (w.alloc (.cells A 56)) := (qr _ _).alloc (qd _) _;rw [add_plain];refine Qk kb ?_;have hl4 : j < 4 := by simpa [words] using hlt
  have e : o + 0 * 4 = o := by omega
  rw [e] at h0 hf hb hx
  match j,hl4 with
  | 0,_ => rw [← hj];exact h0
  | 1,_ => rw [← hj];exact hf
  | 2,_ => rw [← hj];exact hb
  | 3,_ => rw [← hj];exact hx
 clear h0 hf hb hx;obtain ⟨W2,hcp,hW2,hB2⟩ := qk2 (P := qP) (w.alloc (.cells A 56)) 22 22 3 56 w.heap.size 0 N N ⟨b,o,none⟩ 1 cx 4 1 A.toList 56 (words c) Jc qd2 (qf _ _) hmin rfl hsrc (by simpa using hfit) hone
 have k2 : Below w.heap.size w W2 := hB2 _ _ ((qr _ _).alloc (qd _) _) (qd _);have hW : ∃ rest : List Value,rest.length = (N - 1) * 4 ∧ W2.heap[w.heap.size]? = some (.cells (flat (qe 1 c) ++ rest).toArray 56 (0,0)) := by
  refine ⟨A.toList.drop 4,by simp [hAs];omega,?_⟩
  rw [hW2]
  rfl
 clear hW2 hB2 hsrc hfit hone hmin;go_enter Tryz.func60,Tryz.ntmps60;go_wp2_with (first | (go_at_call 105;refine hmul.out.mono ?_;rintro e W1 ⟨rfl,rfl⟩));go_loopg [8] N (fun g n wr => ∃ (m : Nat) (rest : List Value),n = .int .i64 (m : Int) ∧ 1 ≤ m ∧ m ≤ N ∧ N - m ≤ g ∧ rest.length = (N - m) * 4 ∧ Below w.heap.size w wr ∧ wr.heap[w.heap.size]? = some (.cells (flat (qe m c) ++ rest).toArray 56 (0,0)))
 case atStart =>
  obtain ⟨rest,hr,hh⟩ := hW;exact ⟨1,rest,rfl,by omega,by omega,by omega,hr,k2,hh⟩
 case round =>
  obtain ⟨m,rest,rfl,hm1,hmN,hg,hr,hb,hh⟩ := hrel;clear hW hcp k2 hmk
  by_cases hlt : m < N
  ·obtain ⟨mn, hmn⟩ : ∃ mn, Nat.min m (N - m) = mn := ⟨_, rfl⟩
   have hle : mn ≤ m ∧ mn ≤ N - m ∧ 1 ≤ mn := by
    have e : Nat.min m (N - m) = min m (N - m) := rfl;rw [e] at hmn;omega
   obtain ⟨hl1,hl2,hl3⟩ := hle;have hmn' : Nat.min m (N - m) = mn := hmn;obtain ⟨W3,hcp,hW3,hB3⟩ := qk2 (P := qP) wr.drew 22 22 3 56 w.heap.size (m * 4) (N - m) (N - m) ⟨w.heap.size,0,none⟩ m N 4 mn (flat (qe m c) ++ rest) 56 (flat (qe mn c)) Jc qd2 hh hmn' (by rw [Jw];simp) (qyt (w := wr.drew) hh _ ⟨flat (qe (m - mn) c),by rw [← qau,qse,Nat.add_sub_cancel' hl1]⟩) (by rw [List.length_append,Jw,Jw];simp;omega) (qcg _)
   rw [qve] at hW3;have k3 : Below w.heap.size w W3 := hB3 _ _ hb.drew (qd _);clear hmn hmn' hB3;go_wp2_with fail;go_region;go_wp2_with fail;go_roundg (N - (m + mn))
   case measure => omega
   case rel => exact ⟨m + mn,rest.drop (mn * 4),by simp,by omega,by omega,by omega,by rw [List.length_drop,hr];omega,k3,hW3⟩
  ·have hmE : m = N := by omega
   subst hmE;go_wp2_with fail;go_ret;refine ⟨_,rfl,⟨w.heap.size,m,rest,⟨56,rfl⟩,?_,qd _,by simp,by omega,hh⟩,hb⟩
   simp
theorem qm6 (b o cx : Nat) (c : C) (w : World) (hC : Qb w b o [c]) :
  Calls qP 60 #[.slice (some ⟨b,o,none⟩) 1 cx,.int .i64 0] w fun e w' => ∃ v',e = .returned v' ∧ Y5 w' w.heap.size v' [] ∧ Below w.heap.size w w' := by
 obtain ⟨h0,hf,hb,hx⟩ := hC 0 (by simp)
 have hmk := qg7 0 (by omega)
 have hmul : Hid (Calls qP 105 #[.int .u64 1,.int .u64 0] w fun e w' => e = .returned (.tuple #[.int .u64 0,.int .u64 0]) ∧ w = w') := by
  have := Tryz.bits_Mul 1 0 (by omega) (by omega) w
  exact this.mono fun e w' ⟨he,hw⟩ => ⟨he,hw.symm⟩
 obtain ⟨A,hA⟩ : ∃ A,A = madeCells #[.int .i32 0,.int .i64 0,.int .i64 0,.int .i64 0] (0 * 4) := ⟨_,rfl⟩;have hAs : A.size = 0 * 4 := by rw [hA,size_madeCells]
 rw [← hA] at hmk;replace hmk : ∀ w : World,(Instr.makeSlice 22 (.int .i64 0) (.int .i64 0)).run qP w = .ok (.slice (some ⟨w.heap.size,0,none⟩) 0 0) (w.alloc (.cells A 56)) := hmk;clear hA hC h0 hf hb hx;obtain ⟨W2,hcp,hW2,hB2⟩ := qk2 (P := qP) (w.alloc (.cells A 56)) 22 22 3 56 w.heap.size 0 0 0 ⟨b,o,none⟩ 1 cx 4 0 A.toList 56 [] Jc qd2 (qf _ _) rfl rfl (fun j v hj => by simp at hj) (by simp) (fun v hv => by simp at hv)
 have k2 : Below w.heap.size w W2 := hB2 _ _ ((qr _ _).alloc (qd _) _) (qd _);have hW : ∃ rest : List Value,W2.heap[w.heap.size]? = some (.cells (flat [] ++ rest).toArray 56 (0,0)) := ⟨A.toList,by rw [hW2];simp [flat]⟩
 clear hW2 hB2;go_enter Tryz.func60,Tryz.ntmps60;go_wp2_with (first | (go_at_call 105;refine hmul.out.mono ?_;rintro e W1 ⟨rfl,rfl⟩));go_loopg [8] 0 (fun g n wr => n = .int .i64 0 ∧ Below w.heap.size w wr ∧ ∃ rest : List Value,wr.heap[w.heap.size]? = some (.cells (flat [] ++ rest).toArray 56 (0,0)))
 case atStart => exact ⟨rfl,k2,hW⟩
 case round =>
  obtain ⟨rfl,hb,rest,hh⟩ := hrel;clear hW hcp k2 hmk;go_wp2_with fail;go_ret;exact ⟨_,rfl,⟨w.heap.size,0,rest,⟨56,rfl⟩,rfl,qd _,by simp,by omega,hh⟩,hb⟩
theorem i64_in {x : Int} (h : (Lit.int .i64 x).wf = true) : -9223372036854775808 ≤ x ∧ x ≤ 9223372036854775807 := by
 have e1 : IntKind.i64.min = -9223372036854775808 := rfl;have e2 : IntKind.i64.max = 9223372036854775807 := rfl;simpa [Lit.wf,e1,e2] using h
theorem i32_in {x : Int} (h : (Lit.int .i32 x).wf = true) : -2147483648 ≤ x ∧ x ≤ 2147483647 := by
 have e1 : IntKind.i32.min = -2147483648 := rfl;have e2 : IntKind.i32.max = 2147483647 := rfl;simpa [Lit.wf,e1,e2] using h
def CIn (c : C) : Prop := (-2147483648 ≤ c.1 ∧ c.1 ≤ 2147483647) ∧ (-9223372036854775808 ≤ c.2.1 ∧ c.2.1 ≤ 9223372036854775807) ∧ (-9223372036854775808 ≤ c.2.2.1 ∧ c.2.2.1 ≤ 9223372036854775807) ∧ (-9223372036854775808 ≤ c.2.2.2 ∧ c.2.2.2 ≤ 9223372036854775807)
section
variable {H : Type} {enc : TypeId × Value → H} {W : World} {base : Nat} {spare : Nat → Bool} {held : Bool}
theorem qbw {fuel : Nat} {vs : List Value} {y : DataW H × List MemPlace} (h : DataW.trod enc qP W base spare held fuel 26 vs = some y) :
  ∃ f b x : Int,vs = [.int .i64 f,.int .i64 b,.int .i64 x] ∧ (-9223372036854775808 ≤ f ∧ f ≤ 9223372036854775807) ∧ (-9223372036854775808 ≤ b ∧ b ≤ 9223372036854775807) ∧ (-9223372036854775808 ≤ x ∧ x ≤ 9223372036854775807) ∧ y.1 = .agg [.lit (.int .i64 f),.lit (.int .i64 b),.lit (.int .i64 x)] := by
 obtain ⟨y0,y1,y2,n,hy,hl,e0,e1,e2⟩ := Deep.trod_struct3 Tryz.underlying26 h;rw [show Tryz.prog.cellsOf 26 = 3 by kernel_rfl] at hl
 simp only [show Tryz.prog.cellsOf 3 = 1 by kernel_rfl] at e0 e1 e2
 obtain ⟨f,k0,h0,w0⟩ := DataW.trod_int Tryz.underlying3 e0;obtain ⟨b,k1,h1,w1⟩ := DataW.trod_int Tryz.underlying3 e1;obtain ⟨x,k2,h2,w2⟩ := DataW.trod_int Tryz.underlying3 e2
 match vs,hl with
 | [a,b',c],_ =>
  simp at k0 k1 k2;subst k0 k1 k2;exact ⟨f,b,x,rfl,i64_in w0,i64_in w1,i64_in w2,by rw [hy,h0,h1,h2]⟩
theorem qtl {fuel : Nat} {vs : List Value} {y : DataW H × List MemPlace} (h : DataW.trod enc qP W base spare held fuel 56 vs = some y) :
  ∃ c : C,vs = words c ∧ CIn c ∧ y.1 = .agg [.lit (.int .i32 c.1),.agg [.lit (.int .i64 c.2.1),.lit (.int .i64 c.2.2.1),.lit (.int .i64 c.2.2.2)]] := by
 obtain ⟨y0,y1,n,hy,hl,e0,e1⟩ := trod_struct2 Tryz.underlying56 h;rw [show Tryz.prog.cellsOf 56 = 4 by kernel_rfl] at hl
 simp only [show Tryz.prog.cellsOf 21 = 1 by kernel_rfl] at e0
 simp only [show Tryz.prog.cellsOf 26 = 3 by kernel_rfl] at e1
 obtain ⟨r,k0,h0,w0⟩ := DataW.trod_int Tryz.underlying21 e0;obtain ⟨f,b,x,k1,wf,wb,wx,h1⟩ := qbw e1
 match vs,hl with
 | [a,b',c,d],_ =>
  simp at k0 k1;obtain ⟨rfl,rfl,rfl⟩ := k1;subst k0;exact ⟨(r,f,b,x),rfl,⟨i32_in w0,wf,wb,wx⟩,by rw [hy,h0,h1]⟩
theorem qfw {fuel : Nat} {v : Value} {y : DataW H × List MemPlace} (h : DataW.trod enc qP W 0 (fun _ => true) true fuel 22 [v] = some y) :
  ∃ cs : List C,SliceAt W v cs ∧ (∀ c ∈ cs,CIn c) ∧ (cs = [] ∨ ∃ elems sp,y.1 = .slice elems sp ∧ cs.length = elems.length) := by
 rcases Deep.open_slice Jc h with ⟨hcs,_⟩ | ⟨a,len,cap,m,n,D,Pl,hcs,_,hl,hm,hmm,rfl,hx⟩
 ·simp at hcs
  subst hcs;exact ⟨[],.inl ⟨rfl,_,_,rfl⟩,by simp,.inl rfl⟩
 ·simp at hcs
  subst hcs;simp only [if_true] at hmm;rw [show Tryz.prog.cellsOf 56 = 4 by kernel_rfl] at hx
  obtain ⟨f, hf⟩ := Deep.choose_lt (α := C) (p := fun i c => (∀ j, j < 4 → W.cell? ((a.add (i * 4)).add j) = (words c)[j]?) ∧ CIn c) (n := len) (fun i hi => by
   obtain ⟨cs',h1,h2⟩ := hx i (by omega)
   obtain ⟨_,_,hc⟩ := World.cells?_some h1;obtain ⟨c,rfl,hin,_⟩ := qtl h2
   exact ⟨c,hc,hin⟩)
  refine ⟨(List.range len).map f,?_,?_,.inr ⟨_,_,rfl,by simp⟩⟩
  ·by_cases h0 : len = 0
   ·subst h0
    exact .inl ⟨by simp,_,_,rfl⟩
   ·obtain ⟨b, off, spot⟩ := a
    have hspot : spot = none := by
     have := (hf 0 (by omega)).1 0 (by omega)
     simpa [Addr.add] using World.cell?_spot this
    subst hspot;have hlen : ((List.range len).map f).length = len := by simp
    refine .inr ⟨fun e => by rw [e] at hlen;simp at hlen;omega,b,off,cap,by rw [hlen],by omega,by unfold maxLen at hm;omega,fun j hj => ?_⟩
    rw [hlen] at hj;have hg : ((List.range len).map f).getD j z0 = f j := by simp [qy,hj]
    rw [hg];have hc := (hf j hj).1;have c0 := hc 0 (by omega)
    have c1 := hc 1 (by omega)
    have c2 := hc 2 (by omega)
    have c3 := hc 3 (by omega)
    rw [add_plain,add_plain] at c0 c1 c2 c3;exact ⟨c0,c1,c2,c3⟩
  ·intro c hc
   simp only [List.mem_map,List.mem_range] at hc;obtain ⟨i,hi,rfl⟩ := hc;exact (hf i hi).2
end
end Grd
namespace Txt
def rs (s : ByteArray) : Nat → Nat → List (Int × Nat)
 | 0,_ => []
 | f + 1,pos => if pos < s.size then (((Utf8.decode s pos).1 : Int),(Utf8.decode s pos).2) :: rs s f (pos + (Utf8.decode s pos).2) else []
def runes (s : ByteArray) : List (Int × Nat) := rs s s.size 0
theorem width_pos (s : ByteArray) (pos : Nat) (h : pos < s.size) : 1 ≤ (Utf8.decode s pos).2 := by
 by_cases ha : (s[pos]'h).toNat < 128
 ·rw [decode_ascii s pos h ha]
  exact qd _
 ·exact (decode_high s pos h (by omega)).2
theorem qq0 (s : ByteArray) (f pos : Nat) (h : ¬ pos < s.size) : rs s f pos = [] := by
 cases f with
 | zero => rfl
 | succ f => simp [rs,h]
theorem qkd (s : ByteArray) (f pos : Nat) (h : pos < s.size) : rs s (f + 1) pos = (((Utf8.decode s pos).1 : Int),(Utf8.decode s pos).2) :: rs s f (pos + (Utf8.decode s pos).2) := by
 simp [rs,h]
theorem qef (s : ByteArray) (pos : Nat) (h : pos < s.size) : pos + (Utf8.decode s pos).2 ≤ s.size := by
 simp only [Utf8.decode]
 repeat' split
 all_goals simp_all
 all_goals omega
theorem Gf (s : ByteArray) (w : World) (hs : s.size ≤ 281474976710656) :
  Calls qP 48 #[.string s] w fun e w' => e = .returned (.string s) ∧ Below w.heap.size w w' := by
 go_enter Tryz.func48,Tryz.ntmps48;go_wp2_with (go_at_call 79;refine (Tryz.stringslite_Clone _ _ hs).mono ?_;rintro e W1 ⟨rfl,b1⟩);go_ret;exact ⟨rfl,b1⟩
end Txt
end Go.Proofs.YtooobiigijphkaaGreatDoor

/- Package format: items in memory; the first of a name; is a Value too long. (Written by gen_fmtval.py.) -/
import Derived.Test.YtbhoklhcdefabaaDoorFmtRun
namespace Go.Proofs.YtbhoklhcdefabaaDoor
open Go.ChangeShapes Go.WideShapes Go.ChangeAt Go.RowKit Go.Maps Go.Sort
namespace Fmt
/-- Items in memory. -/
def ItAt (w : World) (v : Value) (I : List (ByteArray × ByteArray)) : Prop :=
  ∃ a c, v = .slice a I.length c ∧ (I = [] ∨ ∃ b o, a = some ⟨b, o, none⟩ ∧ ∀ j x, I[j]? = some x → w.cell? ⟨b, o + j * 2, none⟩ = some (.string x.1) ∧ w.cell? ⟨b, o + j * 2 + 1, none⟩ = some (.string x.2))
theorem cell_below {w w' : World} (h : Below w.heap.size w w') {b o : Nat} {v : Value} (hc : w.cell? ⟨b, o, none⟩ = some v) : w'.cell? ⟨b, o, none⟩ = some v := by
  rw [h.cell (block_lt_of_cell hc)]; exact hc
theorem ItAt.below {w w' : World} {v : Value} {I : List (ByteArray × ByteArray)} (h : ItAt w v I) (hb : Below w.heap.size w w') : ItAt w' v I := by
  obtain ⟨a, c, h1, h2⟩ := h
  refine ⟨a, c, h1, h2.imp id ?_⟩
  rintro ⟨b, o, h3, h4⟩
  exact ⟨b, o, h3, fun j x hx => ⟨cell_below hb (h4 j x hx).1, cell_below hb (h4 j x hx).2⟩⟩
theorem cells2 {w : World} {g : Nat} {a b : Value} {t : TypeId} (h : w.heap[g]? = some (.cells #[a, b] t (0, 0))) : w.cell? ⟨g, 0, none⟩ = some a ∧ w.cell? ⟨g, 1, none⟩ = some b := by
  unfold World.cell?
  rw [h]
  exact ⟨rfl, rfl⟩
theorem one_box {w : World} {g : Nat} {a : Value} {t : TypeId} (h : w.heap[g]? = some (.cells #[a] t (0, 0))) : w.cell? ⟨g, 0, none⟩ = some a := by
  unfold World.cell?
  rw [h]
  rfl
theorem own_of_below {w : World} (o : Obj) : Below w.heap.size w (w.alloc o) := (Below.refl _ _).alloc (Nat.le_refl _) _
def long (s : ByteArray) : Bool := decide (4000 < s.size)
set_option maxHeartbeats 4000000 in
set_option maxRecDepth 100000 in
theorem tooLong_any (s : ByteArray) (w : World) : Calls Tryd.prog 13 #[.string s] w fun e w' => e = .returned (.bool (long s)) ∧ w' = w := by
  have HH : Hid (long s = decide (4000 < s.size)) := rfl
  go_enter Tryd.func13, Tryd.ntmps13
  go_wp2_with fail
  go_ret
  refine ⟨ret_b ?_, rfl⟩
  rw [HH.out]
  exact decide_eq_decide.2 (by omega)
set_option maxHeartbeats 4000000 in
set_option maxRecDepth 100000 in
theorem tooMuch_any (x : ByteArray × ByteArray) (w : World) : Calls Tryd.prog 15 #[.agg #[.string x.1, .string x.2]] w fun e w' => e = .returned (.bool (long x.2)) ∧ Below w.heap.size w w' := by
  have kb := own_of_below (w := w) (.cells #[.string x.1, .string x.2] 27)
  obtain ⟨c0, c1⟩ := cells2 (heap_alloc_new w (.cells #[.string x.1, .string x.2] 27))
  have HL := fun W => tooLong_any x.2 W
  go_enter Tryd.func15, Tryd.ntmps15
  go_wp2_with fail
  refine (HL _).mono ?_
  rintro e W ⟨rfl, rfl⟩
  go_wp2_with fail
  go_ret
  exact ⟨rfl, kb⟩
set_option maxHeartbeats 4000000 in
set_option maxRecDepth 100000 in
theorem isName_any (n : ByteArray) (B : Nat) (x : ByteArray × ByteArray) (w : World) (hB : w.heap[B]? = some (.cells #[.string n] 9 (0, 0))) : Calls Tryd.prog 66 #[.agg #[.string x.1, .string x.2], .pointer (some ⟨B, 0, none⟩)] w fun e w' => e = .returned (.bool (x.1.toList == n.toList)) ∧ Below w.heap.size w w' := by
  have kb := own_of_below (w := w) (.cells #[.string x.1, .string x.2] 27)
  obtain ⟨c0, c1⟩ := cells2 (heap_alloc_new w (.cells #[.string x.1, .string x.2] 27))
  have b0 := one_box (Fmt.kept hB kb)
  go_enter Tryd.func66, Tryd.ntmps66
  go_wp2_with fail
  go_ret
  exact ⟨rfl, kb⟩
/-- Where the first item of a kind stands, from the i-th on; -1: nowhere. -/
def idxI (P : ByteArray × ByteArray → Bool) : List (ByteArray × ByteArray) → Nat → Int
  | [], _ => -1
  | x :: t, i => if P x then (i : Int) else idxI P t (i + 1)
theorem idxI_any (P : ByteArray × ByteArray → Bool) : ∀ (l : List (ByteArray × ByteArray)) (i : Nat), decide (0 ≤ idxI P l i) = l.any P
  | [], _ => rfl
  | s :: t, i => by
    unfold idxI
    cases h : P s
    · rw [if_neg (by simp), idxI_any P t (i + 1)]; simp [h]
    · rw [if_pos rfl]; simp [h]
theorem idxI_find (P : ByteArray × ByteArray → Bool) : ∀ (l : List (ByteArray × ByteArray)) (i : Nat), (l.find? P = none ∧ idxI P l i = -1) ∨ ∃ j x, l[j]? = some x ∧ l.find? P = some x ∧ idxI P l i = ((i + j : Nat) : Int)
  | [], _ => .inl ⟨rfl, rfl⟩
  | s :: t, i => by
    unfold idxI
    rw [List.find?_cons]
    cases h : P s
    · rw [if_neg (by simp)]
      rcases idxI_find P t (i + 1) with ⟨h1, h2⟩ | ⟨j, x, h1, h2, h3⟩
      · exact .inl ⟨h1, h2⟩
      · exact .inr ⟨j + 1, x, by simpa using h1, h2, by rw [h3]; congr 1; omega⟩
    · rw [if_pos rfl]
      exact .inr ⟨0, s, rfl, rfl, by simp⟩
set_option maxHeartbeats 4000000 in
set_option maxRecDepth 100000 in
theorem idx_much (I : List (ByteArray × ByteArray)) (v : Value) (w : World) (hs : ItAt w v I) (hn : I.length ≤ 1000000) :
    Calls Tryd.prog 32 #[v, .func (.func 15) #[] #[]] w fun e w' => e = .returned (.int .i64 (idxI (fun z : ByteArray × ByteArray => long z.2) I 0)) ∧ Below w.heap.size w w' := by
  obtain ⟨R, hR⟩ : ∃ R, idxI (fun z : ByteArray × ByteArray => long z.2) I 0 = R := ⟨_, rfl⟩
  rw [hR]
  have HR : Hid (idxI (fun z : ByteArray × ByteArray => long z.2) I 0 = R) := hR
  clear hR
  obtain ⟨a, c, rfl, hcell⟩ := hs
  have HCC : Hid (I = [] ∨ ∃ b o, a = some ⟨b, o, none⟩ ∧ ∀ j x, I[j]? = some x → w.cell? ⟨b, o + j * 2, none⟩ = some (.string x.1) ∧ w.cell? ⟨b, o + j * 2 + 1, none⟩ = some (.string x.2)) := hcell
  clear hcell
  go_enter Tryd.func32, Tryd.ntmps32
  go_wp2_with fail
  go_loopg [8] I.length (fun g u wr => ∃ i : Nat, u = .int .i64 (i : Int) ∧ i ≤ I.length ∧ I.length - i ≤ g ∧ idxI (fun z : ByteArray × ByteArray => long z.2) (I.drop i) i = R ∧ Below w.heap.size w wr)
  case atStart => exact ⟨0, rfl, Nat.zero_le _, Nat.le_refl _, HR.out, Below.refl _ _⟩
  case round =>
    obtain ⟨i, rfl, hi, hg, hix, hb⟩ := hrel
    have HX : Hid (idxI (fun z : ByteArray × ByteArray => long z.2) (I.drop i) i = R) := hix
    clear hix HR
    by_cases hil : i < I.length
    · have iin : (i : Int) < (I.length : Int) := Int.ofNat_lt.2 hil
      obtain ⟨b, o, rfl, hc⟩ := HCC.out.resolve_left (by intro h; rw [h] at hil; simp at hil)
      have q0 := cell_below hb (hc i I[i] (List.getElem?_eq_getElem hil)).1
      have q1 := cell_below hb (hc i I[i] (List.getElem?_eq_getElem hil)).2
      have hd : I.drop i = I[i] :: I.drop (i + 1) := List.drop_eq_getElem_cons hil
      have HXX := HX.out
      rw [hd, idxI] at HXX
      obtain ⟨x, hx⟩ : ∃ x, I[i] = x := ⟨_, rfl⟩
      rw [hx] at q0 q1 HXX
      have kA := own_of_below (w := wr) (.cells #[.string x.1, .string x.2] 27)
      obtain ⟨z0, z1⟩ := cells2 (heap_alloc_new wr (.cells #[.string x.1, .string x.2] 27))
      have hbA := hb.trans (kA.mono hb.size)
      have HL := tooMuch_any x wr
      cases hp : long x.2
      · rw [hp] at HXX
        simp only [Bool.false_eq_true, if_false] at HXX
        have HX2 : Hid (idxI (fun z : ByteArray × ByteArray => long z.2) (I.drop (i + 1)) (i + 1) = R) := HXX
        rw [hp] at HL
        clear hd HX HXX hc HCC hp hx
        go_wp2_with fail
        refine HL.mono ?_
        rintro e W1 ⟨rfl, b1⟩
        have hb1 := hb.trans (b1.mono hb.size)
        go_wp2_with fail
        go_roundg (I.length - (i + 1))
        case measure => omega
        case rel => exact ⟨i + 1, by go_num, by omega, Nat.le_refl _, HX2.out, hb1⟩
      · rw [hp] at HXX
        simp only [if_true] at HXX
        rw [hp] at HL
        subst HXX
        clear hd HX hc HCC hp hx
        go_wp2_with fail
        refine HL.mono ?_
        rintro e W1 ⟨rfl, b1⟩
        have hb1 := hb.trans (b1.mono hb.size)
        go_wp2_with fail
        go_ret
        exact ⟨rfl, hb1⟩
    · have iex : ¬ (i : Int) < (I.length : Int) := fun h => hil (Int.ofNat_lt.1 h)
      have e : R = -1 := by
        rw [← HX.out, List.drop_of_length_le (by omega)]
        rfl
      subst e
      clear HX hil
      go_wp2_with fail
      go_ret
      exact ⟨rfl, hb⟩
set_option maxHeartbeats 4000000 in
set_option maxRecDepth 100000 in
theorem idx_name (I : List (ByteArray × ByteArray)) (v : Value) (n : ByteArray) (B : Nat) (w : World) (hs : ItAt w v I) (hn : I.length ≤ 1000000) (hB : w.heap[B]? = some (.cells #[.string n] 9 (0, 0))) :
    Calls Tryd.prog 32 #[v, .func (.func 66) #[] #[.pointer (some ⟨B, 0, none⟩)]] w fun e w' => e = .returned (.int .i64 (idxI (fun z : ByteArray × ByteArray => z.1.toList == n.toList) I 0)) ∧ Below w.heap.size w w' := by
  obtain ⟨R, hR⟩ : ∃ R, idxI (fun z : ByteArray × ByteArray => z.1.toList == n.toList) I 0 = R := ⟨_, rfl⟩
  rw [hR]
  have HR : Hid (idxI (fun z : ByteArray × ByteArray => z.1.toList == n.toList) I 0 = R) := hR
  clear hR
  obtain ⟨a, c, rfl, hcell⟩ := hs
  have HCC : Hid (I = [] ∨ ∃ b o, a = some ⟨b, o, none⟩ ∧ ∀ j x, I[j]? = some x → w.cell? ⟨b, o + j * 2, none⟩ = some (.string x.1) ∧ w.cell? ⟨b, o + j * 2 + 1, none⟩ = some (.string x.2)) := hcell
  clear hcell
  go_enter Tryd.func32, Tryd.ntmps32
  go_wp2_with fail
  go_loopg [8] I.length (fun g u wr => ∃ i : Nat, u = .int .i64 (i : Int) ∧ i ≤ I.length ∧ I.length - i ≤ g ∧ idxI (fun z : ByteArray × ByteArray => z.1.toList == n.toList) (I.drop i) i = R ∧ Below w.heap.size w wr)
  case atStart => exact ⟨0, rfl, Nat.zero_le _, Nat.le_refl _, HR.out, Below.refl _ _⟩
  case round =>
    obtain ⟨i, rfl, hi, hg, hix, hb⟩ := hrel
    have HX : Hid (idxI (fun z : ByteArray × ByteArray => z.1.toList == n.toList) (I.drop i) i = R) := hix
    clear hix HR
    by_cases hil : i < I.length
    · have iin : (i : Int) < (I.length : Int) := Int.ofNat_lt.2 hil
      obtain ⟨b, o, rfl, hc⟩ := HCC.out.resolve_left (by intro h; rw [h] at hil; simp at hil)
      have q0 := cell_below hb (hc i I[i] (List.getElem?_eq_getElem hil)).1
      have q1 := cell_below hb (hc i I[i] (List.getElem?_eq_getElem hil)).2
      have hd : I.drop i = I[i] :: I.drop (i + 1) := List.drop_eq_getElem_cons hil
      have HXX := HX.out
      rw [hd, idxI] at HXX
      obtain ⟨x, hx⟩ : ∃ x, I[i] = x := ⟨_, rfl⟩
      rw [hx] at q0 q1 HXX
      have kA := own_of_below (w := wr) (.cells #[.string x.1, .string x.2] 27)
      obtain ⟨z0, z1⟩ := cells2 (heap_alloc_new wr (.cells #[.string x.1, .string x.2] 27))
      have hbA := hb.trans (kA.mono hb.size)
      have HL := isName_any n B x wr (Fmt.kept hB hb)
      cases hp : (x.1.toList == n.toList)
      · rw [hp] at HXX
        simp only [Bool.false_eq_true, if_false] at HXX
        have HX2 : Hid (idxI (fun z : ByteArray × ByteArray => z.1.toList == n.toList) (I.drop (i + 1)) (i + 1) = R) := HXX
        rw [hp] at HL
        clear hd HX HXX hc HCC hp hx
        go_wp2_with fail
        refine HL.mono ?_
        rintro e W1 ⟨rfl, b1⟩
        have hb1 := hb.trans (b1.mono hb.size)
        go_wp2_with fail
        go_roundg (I.length - (i + 1))
        case measure => omega
        case rel => exact ⟨i + 1, by go_num, by omega, Nat.le_refl _, HX2.out, hb1⟩
      · rw [hp] at HXX
        simp only [if_true] at HXX
        rw [hp] at HL
        subst HXX
        clear hd HX hc HCC hp hx
        go_wp2_with fail
        refine HL.mono ?_
        rintro e W1 ⟨rfl, b1⟩
        have hb1 := hb.trans (b1.mono hb.size)
        go_wp2_with fail
        go_ret
        exact ⟨rfl, hb1⟩
    · have iex : ¬ (i : Int) < (I.length : Int) := fun h => hil (Int.ofNat_lt.1 h)
      have e : R = -1 := by
        rw [← HX.out, List.drop_of_length_le (by omega)]
        rfl
      subst e
      clear HX hil
      go_wp2_with fail
      go_ret
      exact ⟨rfl, hb⟩
set_option maxHeartbeats 4000000 in
set_option maxRecDepth 100000 in
theorem contains_much (I : List (ByteArray × ByteArray)) (v : Value) (w : World) (hs : ItAt w v I) (hn : I.length ≤ 1000000) :
    Calls Tryd.prog 14 #[v, .func (.func 15) #[] #[]] w fun e w' => e = .returned (.bool (I.any (fun z => long z.2))) ∧ Below w.heap.size w w' := by
  have HI := idx_much I v w hs hn
  have HA : Hid (decide (0 ≤ idxI (fun z : ByteArray × ByteArray => long z.2) I 0) = I.any (fun z => long z.2)) := idxI_any _ I 0
  generalize idxI (fun z : ByteArray × ByteArray => long z.2) I 0 = r at *
  clear hs
  go_enter Tryd.func14, Tryd.ntmps14
  go_wp2_with fail
  refine HI.mono ?_
  rintro e W ⟨rfl, b⟩
  go_wp2_with fail
  go_ret
  exact ⟨ret_b HA.out, b⟩
end Fmt
end Go.Proofs.YtbhoklhcdefabaaDoor

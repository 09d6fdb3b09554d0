/- Package copying: a line: lineOf, at, end. -/
import Derived.Test.YtlodmffiengnaaaDoorCpyM
import Derived.Laws.Cover4
import Derived.Laws.IdiomStrings
import Derived.Laws.CopyOwn
namespace Go.Proofs.YtlodmffiengnaaaDoor
open Go.ChangeShapes Go.WideShapes Go.ChangeAt Go.RowKit Go.Maps
namespace Cpy
open Txt (runes rn wd spotsL colsL cleanL bs okRune Tab)
/-- A line in memory: its runes and its columns. -/
def LnAt (w : World) (rv cv : Value) (S : List (Int × Int)) : Prop :=
  (∃ b o c, rv = .slice (some ⟨b, o, none⟩) S.length c ∧ S.length ≤ c ∧ ∀ j r, (S.map (·.1))[j]? = some r → w.cell? ⟨b, o + j, none⟩ = some (.int .i32 r)) ∧
  (∃ a c, cv = .slice a S.length c ∧ (S = [] ∨ ∃ b o, a = some ⟨b, o, none⟩ ∧ ∀ j x, (S.map (·.2))[j]? = some x → w.cell? ⟨b, o + j, none⟩ = some (.int .i64 x)))
theorem LnAt.ck {w w' : World} {rv cv : Value} {S : List (Int × Int)} (h : LnAt w rv cv S) (hb : CK w w') : LnAt w' rv cv S := by
  obtain ⟨⟨b, o, c, h1, h2, h3⟩, a, d, h4, h5⟩ := h
  refine ⟨⟨b, o, c, h1, h2, fun j r hj => hb _ _ _ (h3 j r hj)⟩, a, d, h4, h5.imp id ?_⟩
  rintro ⟨b', o', ha, hc⟩
  exact ⟨b', o', ha, fun j x hx => hb _ _ _ (hc j x hx)⟩
theorem LnAt.below {w w' : World} {rv cv : Value} {S : List (Int × Int)} (h : LnAt w rv cv S) (hb : Below w.heap.size w w') : LnAt w' rv cv S := h.ck (CK.below hb)
/-- What is written into a row leaves the cells that hold what no cell of that row held. -/
theorem cell_setRow {w : World} {g : Nat} {cs old : Array Value} {t : TypeId} {fr : Nat × Nat} (hg : w.heap[g]? = some (.cells old t fr)) {b o : Nat} {v : Value} (h : w.cell? ⟨b, o, none⟩ = some v) (hne : ∀ i : Nat, old[i]? ≠ some v) : (w.setRow g cs).cell? ⟨b, o, none⟩ = some v := by
  by_cases hb : b = g
  · subst hb
    unfold World.cell? at h
    rw [hg] at h
    exact absurd h (hne o)
  · unfold World.cell? at h ⊢
    rw [setRow_other w g b cs hb]
    exact h
theorem LnAt.setRow {w : World} {rv cv : Value} {S : List (Int × Int)} (h : LnAt w rv cv S) {g : Nat} {cs old : Array Value} {t : TypeId} {fr : Nat × Nat} (hg : w.heap[g]? = some (.cells old t fr)) (hne : ∀ (i : Nat) (k : IntKind) (x : Int), old[i]? ≠ some (.int k x)) : LnAt (w.setRow g cs) rv cv S := by
  obtain ⟨⟨b, o, c, h1, h2, h3⟩, a, d, h4, h5⟩ := h
  refine ⟨⟨b, o, c, h1, h2, fun j r hj => cell_setRow hg (h3 j r hj) (fun i => hne i _ _)⟩, a, d, h4, h5.imp id ?_⟩
  rintro ⟨b', o', ha, hc⟩
  exact ⟨b', o', ha, fun j x hx => cell_setRow hg (hc j x hx) (fun i => hne i _ _)⟩
theorem two_slices (p q : Value) (hp : ∀ k x, p ≠ .int k x) (hq : ∀ k x, q ≠ .int k x) (i : Nat) (k : IntKind) (x : Int) : (#[p, q] : Array Value)[i]? ≠ some (.int k x) := by
  match i with
  | 0 => intro h; exact hp k x (by simpa using h)
  | 1 => intro h; exact hq k x (by simpa using h)
  | n + 2 => simp
theorem runesFrom_rs (s : ByteArray) : ∀ (f i : Nat) (acc : Array Value), Conv.runesFrom s f i acc = acc ++ ((Txt.rs s f i).map (fun x => Value.int .i32 x.1)).toArray
  | 0, _, acc => by simp [Conv.runesFrom, Txt.rs]
  | f + 1, i, acc => by
    unfold Conv.runesFrom Txt.rs
    by_cases h : i < s.size
    · rw [if_pos h, if_pos h]
      simp only []
      rw [runesFrom_rs s f]
      simp
    · rw [if_neg h, if_neg h]
      simp
theorem runes_zs (t : ByteArray) : Conv.runesFrom t t.size 0 #[] = ((zs t).map (Value.int .i32)).toArray := by
  rw [runesFrom_rs]
  unfold zs Txt.runes
  simp
theorem rs_len (s : ByteArray) : ∀ (f i : Nat), (Txt.rs s f i).length ≤ f
  | 0, _ => by simp [Txt.rs]
  | f + 1, i => by
    unfold Txt.rs
    split
    · have := rs_len s f (i + (Utf8.decode s i).2)
      simp
      exact this
    · simp
theorem zs_len (t : ByteArray) : (zs t).length ≤ t.size := by
  unfold zs Txt.runes
  rw [List.length_map]
  exact rs_len t _ _
theorem clean_length : ∀ L : List (Int × Nat), (Txt.cleanL L).length ≤ 4 * L.length
  | [] => by simp [Txt.cleanL]
  | x :: t => by
    have h1 := clean_length t
    have h2 := (Txt.encodeRune_length x.1).2
    unfold Txt.cleanL
    rw [List.length_append, List.length_cons]
    split
    · omega
    · simp
      omega
theorem sp_len (s : ByteArray) : (sp s).length ≤ s.size := by
  have h := Txt.colsL_length (runes s) 0
  rw [← Txt.spots_cols, List.length_map] at h
  have h2 := rs_len s s.size 0
  unfold sp
  unfold Txt.runes at h ⊢
  omega
/-- The world behind a text that became runes. -/
def runesV (W : World) (l : List Int) : World := W.drew.alloc (.cells ((l.map (Value.int .i32)).toArray ++ Array.replicate (grownCap W l.length 0 21 - l.length) (.int .i32 0)) 21)
theorem runesV_conv (t : ByteArray) (ht : t.size ≤ 70368744177664) (W : World) : (convert 9 48 (.string t)).run Tryd.prog W = .ok (.slice (some ⟨W.heap.size, 0, none⟩) (zs t).length (grownCap W (zs t).length 0 21)) (runesV W (zs t)) := by
  have hz := zs_len t
  have hs : (Conv.runesFrom t t.size 0 #[]).size = (zs t).length := by rw [runes_zs]; simp
  have h := run_runes_of_string (P := Tryd.prog) W 9 48 21 t (by kernel_rfl) (by kernel_rfl) (by kernel_rfl) (by omega)
  rw [h, hs, runes_zs]
  rfl
theorem below_runesV (W : World) (l : List Int) : Below W.heap.size W (runesV W l) := ((Below.refl _ W).drew).alloc (Nat.le_refl _) _
theorem runesV_cell (W : World) (l : List Int) (j : Nat) (r : Int) (hj : l[j]? = some r) : (runesV W l).cell? ⟨W.heap.size, 0 + j, none⟩ = some (.int .i32 r) := by
  have h := heap_alloc_new W.drew (.cells ((l.map (Value.int .i32)).toArray ++ Array.replicate (grownCap W l.length 0 21 - l.length) (.int .i32 0)) 21)
  have h2 : (runesV W l).heap[W.heap.size]? = some (.cells ((l.map (Value.int .i32)).toArray ++ Array.replicate (grownCap W l.length 0 21 - l.length) (.int .i32 0)) 21 (0, 0)) := h
  obtain ⟨hl0, _⟩ := List.getElem?_eq_some_iff.1 hj
  rw [Nat.zero_add]
  unfold World.cell?
  rw [h2]
  have hl : j < (l.map (Value.int .i32)).toArray.size := by simpa using hl0
  simp only []
  rw [Array.getElem?_append_left hl]
  simp [hj]
theorem own_cells {w : World} {base : Nat} {v : Value} {l : List Int} (h : w.ownsRow base 3 1 v l.length (l.map (Value.int .i64))) :
    ∃ a c, v = .slice a l.length c ∧ (l = [] ∨ ∃ b o, a = some ⟨b, o, none⟩ ∧ ∀ j x, l[j]? = some x → w.cell? ⟨b, o + j, none⟩ = some (.int .i64 x)) := by
  rcases h.2 with ⟨hv, hn⟩ | ⟨g, cap, cur, hv, hg, hh, r⟩
  · have : l = [] := List.length_eq_zero_iff.1 (by simpa using hn)
    subst this
    exact ⟨none, 0, hv, .inl rfl⟩
  · refine ⟨_, _, hv, .inr ⟨g, 0, rfl, fun j x hx => ?_⟩⟩
    obtain ⟨_, _, _, ht⟩ := r
    rw [Nat.mul_one] at ht
    obtain ⟨hj, _⟩ := List.getElem?_eq_some_iff.1 hx
    have h1 : (cur.toList.take l.length)[j]? = some (.int .i64 x) := by rw [ht, List.getElem?_map, hx]; rfl
    rw [List.getElem?_take_of_lt hj, Array.getElem?_toList] at h1
    unfold World.cell?
    rw [hh, Nat.zero_add]
    exact h1
theorem one2 (a b : Option Addr) (n m c d : Nat) : (#[.slice a n c, .slice b m d] : Array Value).all (·.oneCell') = true := by simp [Value.oneCell']
set_option maxHeartbeats 4000000 in
set_option maxRecDepth 100000 in
theorem lineOf_any (s : ByteArray) (w : World) (hT : Tab w) (hs : s.size ≤ 1000000) :
    Calls Tryd.prog 43 #[.string s] w fun e w' => ∃ rv cv, e = .returned (.agg #[rv, cv]) ∧ LnAt w' rv cv (sp s) ∧ Below w.heap.size w w' := by
  have HT : Hid (Tab w) := hT
  have HP : Hid (0 < w.heap.size) := hT.pos
  have HC := fun W (h : Below w.heap.size w W) => Txt.clean_any s W (HT.out.below h HP.out) (by omega)
  have HK := fun W (h : Below w.heap.size w W) => Txt.columns_any s W (HT.out.below h HP.out) (by omega)
  have hu : (bs (cleanL (runes s))).size ≤ 70368744177664 := by
    have h1 := clean_length (runes s)
    have h2 := rs_len s s.size 0
    show (cleanL (runes s)).toArray.size ≤ _
    rw [List.size_toArray]
    unfold Txt.runes at h1 ⊢
    omega
  have HZ := zs_clean s
  generalize bs (cleanL (runes s)) = u at *
  have HCV := runesV_conv u hu
  rw [HZ, List.length_map] at HCV
  have hcols : colsL (runes s) 0 = (sp s).map (·.2) := (Txt.spots_cols _ _).symm
  rw [hcols] at HK
  have HL : Hid (∀ (W : World) (l : List Int), Below W.heap.size W (runesV W l)) := below_runesV
  have HCELL : Hid (∀ (W : World) (l : List Int) (j : Nat) (r : Int), l[j]? = some r → (runesV W l).cell? ⟨W.heap.size, 0 + j, none⟩ = some (.int .i32 r)) := runesV_cell
  have HG : Hid (∀ (W : World) (l : List Int), l.length ≤ grownCap W l.length 0 21) := fun W l => grownCap_ge W l.length 0 21
  have kb : Below w.heap.size w (w.alloc (.cells #[.slice none 0 0, .slice none 0 0] 82)) := (Below.refl _ _).alloc (Nat.le_refl _) _
  clear hT hs hu HZ hcols
  go_enter Tryd.func43, Tryd.ntmps43
  go_wp2_with fail
  refine (HC _ kb).mono ?_
  rintro e W1 ⟨rfl, b1⟩
  have k1 := kb.trans (b1.mono kb.size)
  have e1 := (b1.block _ (by rw [World.size_alloc]; omega)).trans (heap_alloc_new w (.cells #[.slice none 0 0, .slice none 0 0] 82))
  clear HC kb b1
  go_wp2_with fail
  have kr := HL.out W1 ((sp s).map (·.1))
  have k2 := k1.trans (kr.mono k1.size)
  have e2 := (kr.block _ (Array.getElem?_eq_some_iff.1 e1).1).trans e1
  have hcr := HCELL.out W1 ((sp s).map (·.1))
  have hgr := HG.out W1 ((sp s).map (·.1))
  rw [List.length_map] at hgr
  generalize grownCap W1 (sp s).length 0 21 = gc at *
  generalize runesV W1 ((sp s).map (·.1)) = W2 at *
  refine (HK _ k2).mono ?_
  rintro e W3 ⟨v, rfl, hown, b3⟩
  have k3 := k2.trans (b3.mono k2.size)
  have e3 := (b3.block _ (Array.getElem?_eq_some_iff.1 e2).1).trans e2
  obtain ⟨a, c, rfl, hcol⟩ := own_cells hown
  rw [List.length_map] at *
  have hcr3 := fun j r hj => CK.below b3 _ _ _ (hcr j r hj)
  have hln : LnAt W3 (.slice (some ⟨W1.heap.size, 0, none⟩) (sp s).length gc) (.slice a (sp s).length c) (sp s) :=
    ⟨⟨_, _, _, rfl, hgr, hcr3⟩, _, _, rfl, hcol.imp (fun h => List.map_eq_nil_iff.1 h) id⟩
  have HLN : Hid (LnAt W3 (.slice (some ⟨W1.heap.size, 0, none⟩) (sp s).length gc) (.slice a (sp s).length c) (sp s)) := hln
  clear HK hown hcol hcr hcr3 hln e1 e2 k1 k2 kr hgr HCV
  go_wp2_with (refine wpList_store_row rfl 82 (.tmp 2) (.tmp 8) rfl w.heap.size #[.slice (some ⟨W1.heap.size, 0, none⟩) (sp s).length gc, .slice a (sp s).length c] rfl rfl _ _ e3 (by kernel_rfl) rfl (one2 _ _ _ _ _ _) ?_)
  (try simp only [Exit.inBlock, Exit.then])
  refine bodyPost_ret (v := .agg #[.slice (some ⟨W1.heap.size, 0, none⟩) (sp s).length gc, .slice a (sp s).length c]) ?_ rfl ⟨_, _, rfl, ?_, below_setRow k3 (Nat.le_refl _) _⟩
  · exact results_cell_row rfl _ _ w.heap.size _ _ _ _ rfl (setRow_heap _ _ _ _ _ _ e3) Tryd.underlying82 rfl (by kernel_rfl)
  · exact HLN.out.setRow e3 (two_slices _ _ (by intro k x h; cases h) (by intro k x h; cases h))
/-- A line's box. -/
theorem box2 (w : World) (p q : Value) (t : TypeId) : (w.alloc (.cells #[p, q] t)).cell? ⟨w.heap.size, 0, none⟩ = some p ∧ (w.alloc (.cells #[p, q] t)).cell? ⟨w.heap.size, 1, none⟩ = some q := by
  unfold World.cell?
  rw [heap_alloc_new]
  exact ⟨rfl, rfl⟩
set_option maxHeartbeats 4000000 in
set_option maxRecDepth 100000 in
theorem at_any (rv cv : Value) (S : List (Int × Int)) (x : Int) (w : World) (h : LnAt w rv cv S) (hS : (S.map (·.2)).Pairwise (· < ·)) (hn : S.length ≤ 1000000) :
    Calls Tryd.prog 44 #[.agg #[rv, cv], .int .i64 x] w fun e w' => e = .returned (.int .i64 (atI (S.map (·.2)) x)) ∧ Below w.heap.size w w' := by
  have kb : Below w.heap.size w (w.alloc (.cells #[rv, cv] 82)) := (Below.refl _ _).alloc (Nat.le_refl _) _
  obtain ⟨c0, c1⟩ := box2 w rv cv 82
  have h2 := (h.below kb).2
  obtain ⟨a, c, rfl, hc⟩ := h2
  obtain ⟨⟨b, o, d, rfl, _⟩, _⟩ := h
  have HB : ∃ q : Nat → World → World, Calls Tryd.prog 56 #[.slice a S.length c, .int .i64 x] (w.alloc (.cells #[.slice (some ⟨b, o, none⟩) S.length d, .slice a S.length c] 82)) fun e w' => e = .returned (.tuple #[.int .i64 ((S.map (·.2)).countP (· < x) : Nat), .bool ((S.map (·.2)).contains x)]) ∧ Below (w.alloc (.cells #[.slice (some ⟨b, o, none⟩) S.length d, .slice a S.length c] 82)).heap.size (w.alloc (.cells #[.slice (some ⟨b, o, none⟩) S.length d, .slice a S.length c] 82)) w' := by
    refine ⟨fun _ w => w, ?_⟩
    rcases hc with rfl | ⟨b', o', rfl, hc⟩
    · refine (Tryd.slices_BinarySearch_int_empty a c x _).mono ?_
      rintro e w' ⟨rfl, rfl⟩
      exact ⟨rfl, Below.refl _ _⟩
    · refine (Tryd.slices_BinarySearch_int b' o' S.length c (S.map (·.2)) x _ (by simp) (by omega) ?_ ?_).mono ?_
      · intro j hj
        refine (hc j _ (List.getElem?_eq_getElem hj)).trans ?_
        rw [List.getD_eq_getElem?_getD, List.getElem?_eq_getElem hj]
        rfl
      · rw [List.take_of_length_le (by simp)]
        exact hS.imp (fun h => by omega)
      · rintro e w' ⟨rfl, q, rfl⟩
        rw [List.take_of_length_le (by simp)]
        exact ⟨rfl, ⟨rfl, rfl, rfl, Nat.le_refl _, fun _ _ => rfl⟩⟩
  obtain ⟨_, HB⟩ := HB
  have hcl := count_le (S.map (·.2)) x hS
  have HR : Hid (atI (S.map (·.2)) x = ((S.map (·.2)).countP (· ≤ x) : Nat) - 1) := rfl
  have hle : (S.map (·.2)).countP (· < x) ≤ S.length := by have := List.countP_le_length (p := fun y => decide (y < x)) (l := S.map (·.2)); simpa using this
  generalize (S.map (·.2)).countP (· < x) = n at *
  generalize (S.map (·.2)).countP (· ≤ x) = m at *
  generalize atI (S.map (·.2)) x = R at *
  cases hk : (S.map (·.2)).contains x
  all_goals
    rw [hk] at HB hcl
    clear hc hS hk
    go_enter Tryd.func44, Tryd.ntmps44
    go_wp2_with fail
    refine HB.mono ?_
    rintro e W1 ⟨rfl, b1⟩
    have k1 := kb.trans (b1.mono kb.size)
    go_wp2_with fail
    go_ret
    refine ⟨ret_i ?_, k1⟩
    rw [HR.out]
    simp at hcl
    omega
set_option maxHeartbeats 4000000 in
set_option maxRecDepth 100000 in
theorem lineEnd_any (rv cv : Value) (S : List (Int × Int)) (w : World) (h : LnAt w rv cv S) (hn : S.length ≤ 1000000) :
    Calls Tryd.prog 45 #[.agg #[rv, cv]] w fun e w' => e = .returned (.int .i64 (endI (S.map (·.2)))) ∧ Below w.heap.size w w' := by
  have kb : Below w.heap.size w (w.alloc (.cells #[rv, cv] 82)) := (Below.refl _ _).alloc (Nat.le_refl _) _
  obtain ⟨c0, c1⟩ := box2 w rv cv 82
  have h2 := (h.below kb).2
  obtain ⟨a, c, rfl, hc⟩ := h2
  obtain ⟨⟨b, o, d, rfl, _⟩, _⟩ := h
  by_cases h0 : S.length = 0
  · have : S = [] := List.length_eq_zero_iff.1 h0
    subst this
    go_enter Tryd.func45, Tryd.ntmps45
    go_wp2_with fail
    go_ret
    exact ⟨rfl, kb⟩
  · obtain ⟨b', o', rfl, hc⟩ := hc.resolve_left (by rintro rfl; exact h0 rfl)
    have hl : S.length - 1 < (S.map (·.2)).length := by rw [List.length_map]; omega
    have q := hc (S.length - 1) _ (List.getElem?_eq_getElem hl)
    have hR := endI_get (S.map (·.2)) (by rw [List.length_map]; omega)
    simp only [List.length_map] at hR
    rw [hR]
    generalize (S.map (·.2))[S.length - 1] = R at *
    have i0 : ((S.length : Int) == 0) = false := by rw [beq_eq_false_iff_ne]; omega
    have hw : wrap64 ((S.length : Int) - 1) = ((S.length - 1 : Nat) : Int) := by unfold wrap64; omega
    have hlt : ((S.length - 1 : Nat) : Int) < (S.length : Int) := by omega
    clear hc h0 hl hR
    go_enter Tryd.func45, Tryd.ntmps45
    go_wp2_with fail
    go_ret
    exact ⟨rfl, kb⟩
end Cpy
end Go.Proofs.YtlodmffiengnaaaDoor

/- Package copying: word. -/
import Derived.Test.YtlodmffiengnaaaDoorCpyEnd
import Derived.Deep.RegionWith
import Derived.Deep.CutRange
import Derived.Deep.DeepCutAuto
namespace Go.Proofs.YtlodmffiengnaaaDoor
open Go.ChangeShapes Go.WideShapes Go.ChangeAt Go.RowKit Go.Maps
namespace Cpy
open Txt (runes rn wd spotsL colsL cleanL bs okRune Tab)
/-- The column where a word begins, if one begins here; p: a blank was ahead. -/
def wrd : Bool → List (Int × Int) → Option Int
  | _, [] => none
  | p, r :: t => if p && !(r.1 == 32) then some r.2 else wrd (r.1 == 32) t
def wordG (d : Int × Int) : Bool → Nat → List (List (Int × Int)) → Int × Int
  | _, _, [] => d
  | p, y, S :: more => match wrd p S with | some c => (c, (y : Int)) | none => wordG d true (y + 1) more
def rows (L : List ByteArray) (y i : Nat) : List (List (Int × Int)) := if y < L.length then (sp (ln L y)).drop i :: (L.drop (y + 1)).map sp else []
theorem rows_next (L : List ByteArray) (y : Nat) : (L.drop y).map sp = rows L y 0 := by
  unfold rows
  by_cases h : y < L.length
  · rw [if_pos h, List.drop_eq_getElem_cons h, List.map_cons, List.drop_zero]
    congr 2
    have := ln_get h
    rw [List.getElem?_eq_getElem h] at this
    exact Option.some.inj this
  · rw [if_neg h, List.drop_of_length_le (by omega)]; rfl
def lastM (L : List ByteArray) : Int × Int := (endI (cols (ln L (L.length - 1))), (L.length : Int) - 1)
def wordM (L : List ByteArray) (x : Int) (y : Nat) : Int × Int := wordG (lastM L) false y (rows L y (max (atI (cols (ln L y)) x) 0).toNat)
set_option maxHeartbeats 8000000 in
set_option maxRecDepth 100000 in
theorem word_any (L : List ByteArray) (v : Value) (x : Int) (y : Nat) (w : World) (h : LsAt w v L) (hT : Tab w) (hy : y < L.length) (hn : L.length ≤ 1000000) (hL : ∀ s ∈ L, s.size ≤ 4000) :
    Calls Tryd.prog 26 #[v, .agg #[.int .i64 x, .int .i64 y]] w fun e w' => e = .returned (.agg #[.int .i64 (wordM L x y).1, .int .i64 (wordM L x y).2]) ∧ Below w.heap.size w w' := by
  obtain ⟨R, hR⟩ : ∃ R, wordM L x y = R := ⟨_, rfl⟩
  rw [hR]
  unfold wordM at hR
  have kb : Below w.heap.size w ((w.alloc (.cells #[.int .i64 x, .int .i64 y] 24)).alloc (.cells #[.int .i64 0, .int .i64 0] 24)) := ((Below.refl _ _).alloc (Nat.le_refl _) _).alloc (by rw [World.size_alloc]; omega) _
  have Z := heap_alloc_new (w.alloc (.cells #[.int .i64 x, .int .i64 y] 24)) (.cells #[.int .i64 0, .int .i64 0] 24)
  have Y := (heap_alloc_old (w.alloc (.cells #[.int .i64 x, .int .i64 y] 24)) (.cells #[.int .i64 0, .int .i64 0] 24) (r := w.heap.size) (by rw [World.size_alloc]; omega)).trans (heap_alloc_new w (.cells #[.int .i64 x, .int .i64 y] 24))
  rw [World.size_alloc] at Z
  have HLS : Hid (∀ V, Below w.heap.size w V → LsAt V v L) := fun V hV => h.below hV
  have HTB : Hid (∀ V, Below w.heap.size w V → Tab V) := fun V hV => hT.below hV hT.pos
  obtain ⟨b, o, c, rfl, q⟩ := (h.below kb).get hy
  have hs := ln_size hL y
  have HL := fun W (hW : Below w.heap.size w W) => lineOf_any (ln L y) W (hT.below hW hT.pos) (by omega)
  have hsl := sp_len (ln L y)
  have HA := fun rv cv W (h : LnAt W rv cv (sp (ln L y))) => at_any rv cv (sp (ln L y)) x W h (sp_lt _) (by omega)
  have iy : (y : Int) < (L.length : Int) := by omega
  have iy0 : (0 : Int) ≤ (y : Int) := by omega
  rw [show (sp (ln L y)).map (·.2) = cols (ln L y) from rfl] at HA
  have HLL : Hid (∀ s ∈ L, s.size ≤ 4000) := hL
  obtain ⟨cx, cy⟩ := cells2 Y
  have a2 := atI_lt (cols (ln L y)) x
  rw [cols_len] at a2
  have a3 : max (atI (cols (ln L y)) x) 0 ≤ 1000000 := by omega
  have a4 : 0 ≤ max (atI (cols (ln L y)) x) 0 := by omega
  have HR : Hid (wordG (lastM L) false y (rows L y (max (atI (cols (ln L y)) x) 0).toNat) = R) := hR
  generalize atI (cols (ln L y)) x = a at *
  generalize ln L y = s at *
  clear h hT hL hR a2 hsl hs
  go_enter Tryd.func26, Tryd.ntmps26
  go_upto_region 2 with fail
  go_region_with (first
    | (go_at_call 43; refine (HL _ kb.drew).mono ?_; rintro e W1 ⟨rv, cv, rfl, hln, b1⟩; have cx1 := CK.below b1 _ _ _ cx)
    | (go_at_call 44; refine (HA _ _ _ hln).mono ?_; rintro e W2 ⟨rfl, b2⟩))
  all_goals
      have k0 := (kb.drew.trans (b1.mono kb.drew.size)).trans (b2.mono (kb.drew.trans (b1.mono kb.drew.size)).size)
      have z0 := kept ((b1.block _ (Array.getElem?_eq_some_iff.1 Z).1).trans Z) b2
      have cy2 := (cells2 (kept ((b1.block _ (Array.getElem?_eq_some_iff.1 Y).1).trans Y) b2)).2
      obtain ⟨n, hn2⟩ : ∃ n : Nat, max a 0 = (n : Int) := ⟨(max a 0).toNat, by omega⟩
      rw [hn2] at HR a3 ⊢
      rw [Int.toNat_natCast] at HR
      have HGL : Hid (y < L.length) := hy
      clear b1 b2 hln cx1 kb Z Y cx cy HL HA q hn2 a4 hy
      go_wp2_with fail
      have hy := HGL.out
      have hn9 : (n : Int) ≤ 1000000 := by omega
      go_loopg [5, 6, 7] L.length (fun g u5 u6 u7 wr => ∃ (p : Bool) (i y' : Nat), u5 = .bool p ∧ u6 = .int .i64 (i : Int) ∧ u7 = .int .i64 (y' : Int) ∧ i ≤ 1000000 ∧ y' ≤ L.length ∧ L.length - y' ≤ g ∧ wordG (lastM L) p y' (rows L y' i) = R ∧ Below w.heap.size w wr ∧ wr.heap[w.heap.size + 1]? = some (.cells #[.int .i64 0, .int .i64 0] 24 (0, 0)))
      case atStart => exact ⟨false, n, y, rfl, rfl, rfl, by omega, by omega, by omega, HR.out, k0, z0⟩
      case round =>
        obtain ⟨p, i, y', rfl, rfl, rfl, hi, hy', hg, hw, kb, z1⟩ := hrel
        have HW : Hid (wordG (lastM L) p y' (rows L y' i) = R) := hw
        clear hw HR k0 z0 cy2 hy hn9 a3
        by_cases hlt : y' < L.length
        · have iy1 : (y' : Int) < (L.length : Int) := by omega
          have iy2 : (0 : Int) ≤ (y' : Int) := by omega
          obtain ⟨b', o', c', hv, q⟩ := (HLS.out _ kb).get hlt
          injection hv with e1 e2 e3
          injection e1 with e1
          injection e1 with e1 e4
          subst e1 e4 e3
          have hs := ln_size HLL.out y'
          have HL := lineOf_any (ln L y') wr (HTB.out _ kb) (by omega)
          have hsl := sp_len (ln L y')
          have hSL : Hid ((sp (ln L y')).length ≤ 4000) := Nat.le_trans hsl hs
          have hRW : rows L y' i = (sp (ln L y')).drop i :: rows L (y' + 1) 0 := by
            rw [← rows_next]
            unfold rows
            rw [if_pos hlt]
          rw [hRW] at HW
          generalize sp (ln L y') = S at *
          generalize ln L y' = s' at *
          clear hRW
          go_wp2_with fail
          refine HL.mono ?_
          rintro e W1 ⟨rv, cv, rfl, hln, b1⟩
          have k1 := kb.trans (b1.mono kb.size)
          have z2 := kept z1 b1
          have l2 := heap_alloc_new W1 (.cells #[rv, cv] 82)
          have kA : Below W1.heap.size W1 (W1.alloc (.cells #[rv, cv] 82)) := (Below.refl _ _).alloc (Nat.le_refl _) _
          have k2 := k1.trans (kA.mono k1.size)
          have z3 := kept z2 kA
          have ln2 := hln.below kA
          obtain ⟨⟨rb, ro, rc, rfl, rle, _⟩, ca, cc, rfl, _⟩ := hln
          have HLN : Hid (LnAt (W1.alloc (.cells #[.slice (some ⟨rb, ro, none⟩) S.length rc, .slice ca S.length cc] 82)) (.slice (some ⟨rb, ro, none⟩) S.length rc) (.slice ca S.length cc) S) := ln2
          clear HL q kb b1 z1 z2 k1 kA ln2
          go_wp2_with fail
          generalize hW2 : W1.alloc (.cells #[.slice (some ⟨rb, ro, none⟩) S.length rc, .slice ca S.length cc] 82) = W2 at *
          go_loopg [5, 6, 8] S.length (fun g u5 u6 u8 wr => ∃ (p : Bool) (i P : Nat), u5 = .bool p ∧ u6 = .int .i64 (i : Int) ∧ u8 = .pointer (some ⟨P, 0, none⟩) ∧ i ≤ 1000000 ∧ S.length - i ≤ g ∧ wordG (lastM L) p y' (S.drop i :: rows L (y' + 1) 0) = R ∧ Below w.heap.size w wr ∧ wr.heap[P]? = some (.cells #[.slice (some ⟨rb, ro, none⟩) S.length rc, .slice ca S.length cc] 82 (0, 0)) ∧ LnAt wr (.slice (some ⟨rb, ro, none⟩) S.length rc) (.slice ca S.length cc) S ∧ wr.heap[w.heap.size + 1]? = some (.cells #[.int .i64 0, .int .i64 0] 24 (0, 0)))
          case atStart => exact ⟨p, i, _, rfl, rfl, rfl, hi, by omega, HW.out, k2, l2, HLN.out, z3⟩
          case round =>
            obtain ⟨p, i, P, rfl, rfl, rfl, hi, hg2, hw, kb, hP, hln, z1⟩ := hrel
            have HW2 : Hid (wordG (lastM L) p y' (S.drop i :: rows L (y' + 1) 0) = R) := hw
            obtain ⟨p0, p1⟩ := cells2 hP
            clear hw k2 l2 HLN z3 HW
            by_cases hlt2 : i < S.length
            · have ii : (i : Int) < (S.length : Int) := by omega
              have ii0 : (0 : Int) ≤ (i : Int) := by omega
              have HLN : Hid (LnAt wr (.slice (some ⟨rb, ro, none⟩) S.length rc) (.slice ca S.length cc) S) := hln
              obtain ⟨⟨rb', ro', rc', hv, _, hr⟩, ca', cc', hv2, hcc⟩ := hln
              injection hv with e1 e2 e3
              injection e1 with e1
              injection e1 with e1 e4
              subst e1 e4 e3
              injection hv2 with e1 e2 e3
              subst e1 e3
              obtain ⟨cb, co, rfl, hc⟩ := hcc.resolve_left (by intro h; rw [h] at hlt2; simp at hlt2)
              have hd : S.drop i = S[i] :: S.drop (i + 1) := List.drop_eq_getElem_cons hlt2
              have q1 := hr i S[i].1 (by rw [List.getElem?_map, List.getElem?_eq_getElem hlt2]; rfl)
              have q2 := hc i S[i].2 (by rw [List.getElem?_map, List.getElem?_eq_getElem hlt2]; rfl)
              have hw := HW2.out
              rw [hd, wordG, wrd] at hw
              generalize S[i] = rr at *
              obtain ⟨r, cl⟩ := rr
              simp only [] at q1 q2 hw
              clear hr hc hcc hd
              have kA : Below wr.heap.size wr (wr.alloc (.cells #[.slice (some ⟨rb, ro, none⟩) S.length rc, .slice (some ⟨cb, co, none⟩) S.length cc] 82)) := (Below.refl _ _).alloc (Nat.le_refl _) _
              have k3 := kb.trans (kA.mono kb.size)
              have z2 := kept z1 kA
              have HL2 : Hid (LnAt (wr.alloc (.cells #[.slice (some ⟨rb, ro, none⟩) S.length rc, .slice (some ⟨cb, co, none⟩) S.length cc] 82)) (.slice (some ⟨rb, ro, none⟩) S.length rc) (.slice (some ⟨cb, co, none⟩) S.length cc) S) := HLN.out.below kA
              have l3 := heap_alloc_new wr (.cells #[.slice (some ⟨rb, ro, none⟩) S.length rc, .slice (some ⟨cb, co, none⟩) S.length cc] 82)
              have hin : i + 1 ≤ 1000000 := by have := hSL.out; omega
              clear kA HW2 HLN hP
              cases hbl : (r == 32)
              · cases hp : p
                · rw [hbl, hp] at hw
                  subst hp
                  have HW3 : Hid (wordG (lastM L) false y' (S.drop (i + 1) :: rows L (y' + 1) 0) = R) := hw
                  clear hw
                  go_wp2_with fail
                  go_roundg (S.length - (i + 1))
                  case measure => omega
                  case rel => exact ⟨false, i + 1, _, rfl, by go_num, rfl, hin, Nat.le_refl _, HW3.out, k3, l3, HL2.out, z2⟩
                · rw [hbl, hp] at hw
                  subst hp
                  have e0 : R = (cl, (y' : Int)) := hw.symm
                  subst e0
                  clear hw l3 z2 k3 HL2
                  go_wp2_with (refine wpList_store_row rfl 24 (.tmp 4) (.tmp 57) rfl (w.heap.size + 1) #[.int .i64 cl, .int .i64 y'] rfl rfl _ _ z1 (by kernel_rfl) rfl (oneI2 _ _) ?_)
                  (try simp only [Exit.inBlock, Exit.then])
                  refine bodyPost_ret (v := .agg #[.int .i64 cl, .int .i64 y']) ?_ rfl ⟨rfl, below_setRow kb (by omega) _⟩
                  exact results_cell_row rfl _ _ (w.heap.size + 1) _ _ _ _ rfl (setRow_heap _ _ _ _ _ _ z1) Tryd.underlying24 rfl (by kernel_rfl)
              · rw [hbl] at hw
                have HW3 : Hid (wordG (lastM L) true y' (S.drop (i + 1) :: rows L (y' + 1) 0) = R) := by
                  rw [← hw]
                  cases p <;> rfl
                clear hw
                cases hp : p
                all_goals
                  go_wp2_with fail
                  go_roundg (S.length - (i + 1))
                  case measure => omega
                  case rel => exact ⟨true, i + 1, _, rfl, by go_num, rfl, hin, Nat.le_refl _, HW3.out, k3, l3, HL2.out, z2⟩
            · have ii : ¬ (i : Int) < (S.length : Int) := by omega
              have hw3 : wordG (lastM L) true (y' + 1) (rows L (y' + 1) 0) = R := by
                have := HW2.out
                rw [List.drop_of_length_le (by omega)] at this
                exact this
              have HW3 : Hid (wordG (lastM L) true (y' + 1) (rows L (y' + 1) 0) = R) := hw3
              clear hw3 HW2 hP hln
              go_wp2_with fail
              go_roundg (L.length - (y' + 1))
              case measure => omega
              case rel => exact ⟨true, 0, y' + 1, rfl, rfl, by go_num, by omega, by omega, Nat.le_refl _, HW3.out, kb, z1⟩
        · have iy1 : ¬ (y' : Int) < (L.length : Int) := by omega
          have e0 : R = lastM L := by
            have := HW.out
            unfold rows at this
            rw [if_neg hlt] at this
            exact this.symm
          have hpos : L.length - 1 < L.length := by have := HGL.out; omega
          have hw1 : wrap64 ((L.length : Int) - 1) = ((L.length - 1 : Nat) : Int) := by unfold wrap64; omega
          have hw2 : (L.length : Int) - 1 = ((L.length - 1 : Nat) : Int) := by omega
          have HE := end_any L _ (L.length - 1) wr (HLS.out _ kb) (HTB.out _ kb) hpos HLL.out
          unfold lastM at e0
          rw [hw2] at e0
          subst e0
          obtain ⟨ex, hex⟩ : ∃ ex, endI (cols (ln L (L.length - 1))) = ex := ⟨_, rfl⟩
          rw [hex] at HE
          have HEX : Hid (endI (cols (ln L (L.length - 1))) = ex) := hex
          clear hex
          clear HW hlt
          go_wp2_with fail
          try rw [hw2]
          refine HE.mono ?_
          rintro e W3 ⟨rfl, b3⟩
          have k3 := kb.trans (b3.mono kb.size)
          have z3 := kept z1 b3
          clear HE z1 kb b3
          obtain ⟨ey, hey⟩ : ∃ ey, ((L.length - 1 : Nat) : Int) = ey := ⟨_, rfl⟩
          rw [hey]
          have HEY : Hid (((L.length - 1 : Nat) : Int) = ey) := hey
          clear hey
          go_wp2_with (refine wpList_store_row rfl 24 (.tmp 4) (.tmp 64) rfl (w.heap.size + 1) #[.int .i64 ex, .int .i64 ey] rfl rfl _ _ z3 (by kernel_rfl) rfl (oneI2 _ _) ?_)
          (try simp only [Exit.inBlock, Exit.then])
          refine bodyPost_ret (v := .agg #[.int .i64 ex, .int .i64 ey]) ?_ rfl ⟨by rw [HEX.out, HEY.out], below_setRow k3 (by omega) _⟩
          exact results_cell_row rfl _ _ (w.heap.size + 1) _ _ _ _ rfl (setRow_heap _ _ _ _ _ _ z3) Tryd.underlying24 rfl (by kernel_rfl)
end Cpy
end Go.Proofs.YtlodmffiengnaaaDoor

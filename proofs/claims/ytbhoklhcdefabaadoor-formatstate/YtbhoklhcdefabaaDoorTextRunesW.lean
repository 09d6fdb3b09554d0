/- The walk of the reference's Runes: the runes of a text, and how many bytes each takes. -/
import Derived.Test.YtbhoklhcdefabaaDoorTextCols
import Derived.Test.YtbhoklhcdefabaaDoorTextRuneLen
namespace Go.Proofs.YtbhoklhcdefabaaDoor
open Go.ChangeShapes Go.WideShapes Go.ChangeAt Go.RowKit Go.Maps
namespace Txt
theorem info_rune : (Tryd.prog.info? 21).map (fun i => (i.zero, i.size, i.bytes)) = some (some (.int .i32 0), 1, 4) := by kernel_rfl
theorem own_ne {w : World} {base base' : Nat} {e e' : TypeId} {size size' : Nat} {v v' : Value} {n n' : Nat} {xs xs' : List Value} (h : w.ownsRow base e size v n xs) (h' : w.ownsRow base' e' size' v' n' xs') (hne : e ≠ e') : v'.ownBlock = none ∨ v'.ownBlock ≠ v.ownBlock := by
  rcases h'.2 with ⟨rfl, _⟩ | ⟨g', cap', cur', rfl, _, hg', _⟩
  · exact Or.inl rfl
  · refine Or.inr (fun e1 => ?_)
    rcases h.2 with ⟨rfl, _⟩ | ⟨g, cap, cur, rfl, _, hg, _⟩
    · cases e1
    · have : g' = g := by simpa [Value.ownBlock] using e1
      subst this
      rw [hg] at hg'
      simp at hg'
      exact hne hg'.2
theorem prefix_yes (s : ByteArray) (pos : Nat) (w : World) (h : Lib.hasPrefix (s.extract pos s.size).data.toList [239, 191, 189] = true) :
    Calls Tryd.prog 18 #[.string (s.extract pos s.size), .string ⟨#[239, 191, 189]⟩] w fun e w' => e = .returned (.bool true) ∧ w = w' := by
  refine (Tryd.strings_HasPrefix _ _ w).mono fun e w' ⟨he, hw⟩ => ⟨?_, hw.symm⟩
  rw [he]; exact congrArg (fun b => Ending.returned (.bool b)) h
theorem prefix_no (s : ByteArray) (pos : Nat) (w : World) (h : Lib.hasPrefix (s.extract pos s.size).data.toList [239, 191, 189] = false) :
    Calls Tryd.prog 18 #[.string (s.extract pos s.size), .string ⟨#[239, 191, 189]⟩] w fun e w' => e = .returned (.bool false) ∧ w = w' := by
  refine (Tryd.strings_HasPrefix _ _ w).mono fun e w' ⟨he, hw⟩ => ⟨?_, hw.symm⟩
  rw [he]; exact congrArg (fun b => Ending.returned (.bool b)) h
theorem runeLen_at (r : Int) (k : Nat) (w : World) (h : Lib.runeLen r = k) :
    Calls Tryd.prog 42 #[.int .i32 r] w fun e w' => e = .returned (.int .i64 (k : Int)) ∧ w = w' := by
  refine (Tryd.utf8_RuneLen r w).mono fun e w' ⟨he, hw⟩ => ⟨?_, hw.symm⟩
  rw [he, h]
theorem decode_err (s : ByteArray) (pos : Nat) : dec (s.extract pos s.size).data.toList = Utf8.decode s pos := by
  rw [Lib.extract_data, decode_dec]
  congr 1
  exact List.take_of_length_le (by simp)

set_option maxHeartbeats 2000000 in
set_option maxRecDepth 100000 in
theorem runes_any (s : ByteArray) (w : World) (hs : s.size ≤ 17592186044416) :
    Calls Tryd.prog 25 #[.string s] w fun e w' => ∃ v1 v2, e = .returned (.tuple #[v1, v2]) ∧ w'.ownsRow w.heap.size 21 1 v1 (runes s).length ((runes s).map fun x => Value.int .i32 x.1) ∧ w'.ownsRow w.heap.size 3 1 v2 (runes s).length ((runes s).map fun x => Value.int .i64 x.2) ∧ Below w.heap.size w w' := by
  obtain ⟨i0, hi, hz0, hz1, hz2⟩ := info_parts info_int
  obtain ⟨i1, gi, gz0, gz1, gz2⟩ := info_parts info_rune
  go_enter Tryd.func25, Tryd.ntmps25
  go_wp2
  go_loopw [2, 3] (fun v1 v2 wr => ∃ (pos f : Nat) (done : List (Int × Nat)), wr.heap[w.heap.size]? = some (.stringIter s pos) ∧ Below w.heap.size w wr ∧ wr.ownsRow (w.heap.size + 1) 21 1 v1 done.length (done.map fun x => Value.int .i32 x.1) ∧ wr.ownsRow (w.heap.size + 1) 3 1 v2 done.length (done.map fun x => Value.int .i64 x.2) ∧ done ++ rs s f pos = runes s ∧ s.size ≤ pos + f ∧ pos ≤ s.size ∧ done.length ≤ pos) (fun _ _ wr => s.size - wr.iterPos w.heap.size)
  case atStart =>
    exact ⟨0, s.size, [], World.iter_heap w s 0, (Below.refl _ w).alloc (Nat.le_refl _) _, World.ownsRow_nil _ _ _ _, World.ownsRow_nil _ _ _ _, by simp [runes], by omega, by omega, by simp⟩
  case round =>
    obtain ⟨pos, f, done, hit, hbw, hownA, hownB, hc, hf, hps, hdl⟩ := hrel
    have HC : Hid (done ++ rs s f pos = runes s) := hc
    clear hc
    have hsz : w.heap.size < wr.heap.size := (Array.getElem?_eq_some_iff.1 hit).1
    by_cases hp : pos < s.size
    · have hnx : ∀ ty, (Instr.next (.pointer (some ⟨w.heap.size, 0, none⟩)) true ty).run Tryd.prog wr = _ := fun ty => Lib.run_next_any_at wr w.heap.size s pos ty hit hp
      have hwd := width_pos s pos hp
      have hfit := decode_fits s pos hp
      obtain ⟨f, rfl⟩ : ∃ g, f = g + 1 := ⟨f - 1, by omega⟩
      have HR : Hid (rs s (f + 1) pos = (((Utf8.decode s pos).1 : Int), (Utf8.decode s pos).2) :: rs s f (pos + (Utf8.decode s pos).2)) := rs_step s f pos hp
      have hit2 := Lib.iterAt_heap wr w.heap.size s pos (pos + (Utf8.decode s pos).2) hit
      have hbw2 := Lib.below_iterAt hbw (k := w.heap.size) (Nat.le_refl _) s (pos + (Utf8.decode s pos).2)
      have hA2 := own_iter hownA (k := w.heap.size) (by omega) s (pos + (Utf8.decode s pos).2)
      have hB2 := own_iter hownB (k := w.heap.size) (by omega) s (pos + (Utf8.decode s pos).2)
      have hsz2 : w.heap.size < (wr.iterAt w.heap.size s (pos + (Utf8.decode s pos).2)).heap.size := by rw [Lib.iterAt_size]; exact hsz
      have HI : Hid (wr.iterPos w.heap.size = pos) := by simp only [Hid, World.iterPos, hit]
      have HL1 : Hid ((Utf8.decode s pos).1 ≠ 65533 → Lib.runeLen ((Utf8.decode s pos).1 : Int) = ((Utf8.decode s pos).2 : Int)) := fun h => by rw [← decode_err] at h ⊢; exact dec_len _ h
      have HL2 : Hid ((Utf8.decode s pos).1 = 65533 → Lib.hasPrefix (s.extract pos s.size).data.toList [239, 191, 189] = true → (Utf8.decode s pos).2 = 3) := fun h => by rw [← decode_err] at h ⊢; exact dec_err_yes _ h
      have HL3 : Hid ((Utf8.decode s pos).1 = 65533 → Lib.hasPrefix (s.extract pos s.size).data.toList [239, 191, 189] = false → (Utf8.decode s pos).2 = 1) := fun h => by rw [← decode_err] at h ⊢; exact dec_err_no _ h
      clear hit hownA hownB
      generalize Utf8.decode s pos = d at *
      generalize hW1 : wr.iterAt w.heap.size s (pos + d.2) = W1 at *
      have HW1 : Hid (wr.iterAt w.heap.size s (pos + d.2) = W1) := hW1
      clear hW1
      have hltA := hA2.lt
      have hltB := hB2.lt
      have HAB : Hid (_ ∨ _) := own_ne hA2 hB2 (by decide)
      by_cases h1 : d.1 = 65533
      · have HH1 : Hid (d.1 = 65533) := h1
        have t1 : ((d.1 : Int) == 65533) = true := by simp [h1]
        clear h1
        have HLN : Hid (Lib.runeLen (d.1 : Int) = ((3 : Nat) : Int)) := by unfold Hid; rw [HH1.out]; decide
        cases hq : Lib.hasPrefix (s.extract pos s.size).data.toList [239, 191, 189]
        · have HQ : Hid (Lib.hasPrefix (s.extract pos s.size).data.toList [239, 191, 189] = false) := hq
          clear hq
          have HK : Hid (d.2 = 1) := HL3.out HH1.out HQ.out
          go_wp2_with (first
            | (go_at_call 42; refine (runeLen_at _ 3 _ HLN.out).mono ?_; rintro e w' ⟨rfl, rfl⟩)
            | (go_at_call 18; refine (prefix_no _ _ _ HQ.out).mono ?_; rintro e w' ⟨rfl, rfl⟩)
            | (at_builtin; refine wpList_append_own _ rfl _ _ 45 rfl (w.heap.size + 1) 21 i1 (.int .i32 0) 1 4 Tryd.underlying45 gi gz0 gz1 gz2 rfl (by decide) _ _ _ rfl (hA2.alloc _) ⟨W1.heap.size, 0, none⟩ 1 1 [.int .i32 d.1] rfl rfl (cell_one_new _ _ _) (ints_oneCell .i32 [(d.1 : Int)]) (by unfold maxLen; omega) (by omega) (by simp; omega) ?_; intro va w2 hownA' hgA hnA)
            | (at_builtin; refine wpList_append_own _ rfl _ _ 46 rfl (w.heap.size + 1) 3 i0 (.int .i64 0) 1 8 Tryd.underlying46 hi hz0 hz1 hz2 rfl (by decide) _ _ _ rfl (((hB2.alloc _).kept hgA HAB.out).alloc _) ⟨w2.heap.size, 0, none⟩ 1 1 [.int .i64 1] rfl rfl (cell_one_new _ _ _) (ints_oneCell .i64 [(1 : Int)]) (by unfold maxLen; omega) (by omega) (by have := hgA.size; simp at this ⊢; omega) ?_; intro vb w3 hownB' hgB hnB))
          have sA := hgA.size
          have sB := hgB.size
          simp only [World.size_alloc] at sA sB
          have hAk := (hownA'.alloc (.cells #[.int .i64 1] 3)).kept hgB (own_ne (((hB2.alloc (.cells #[.int .i32 d.1] 21)).kept hgA HAB.out).alloc (.cells #[.int .i64 1] 3)) (hownA'.alloc (.cells #[.int .i64 1] 3)) (by decide))
          have hit3 : w3.heap[w.heap.size]? = some (.stringIter s (pos + d.2)) :=
            (hgB.block w.heap.size (by simp; omega) (fun e => by have := (hltB _ e.symm).1; omega)).trans ((Below.heap_alloc _ _ _ (by omega)).trans
              ((hgA.block w.heap.size (by simp; omega) (fun e => by have := (hltA _ e.symm).1; omega)).trans ((Below.heap_alloc _ _ _ (by omega)).trans hit2)))
          have hbw3 : Below w.heap.size w w3 :=
            (((hbw2.alloc (by omega) _).grown hgA (by simp; omega) (fun k hk => by have := (hltA k hk).1; omega)).alloc (by omega) _).grown hgB (by simp; omega) (fun k hk => by have := (hltB k hk).1; omega)
          go_roundw
          case rel =>
            refine ⟨pos + d.2, f, done ++ [((d.1 : Int), d.2)], hit3, hbw3, by simpa using hAk, by simpa [HK.out] using hownB', ?_, by omega, by omega, by simp; omega⟩
            rw [← HC.out, HR.out]; simp
          case measure =>
            rw [HI.out]
            simp only [World.iterPos, hit3]
            omega
        · have HQ : Hid (Lib.hasPrefix (s.extract pos s.size).data.toList [239, 191, 189] = true) := hq
          clear hq
          have HK : Hid (d.2 = 3) := HL2.out HH1.out HQ.out
          go_wp2_with (first
            | (go_at_call 42; refine (runeLen_at _ 3 _ HLN.out).mono ?_; rintro e w' ⟨rfl, rfl⟩)
            | (go_at_call 18; refine (prefix_yes _ _ _ HQ.out).mono ?_; rintro e w' ⟨rfl, rfl⟩)
            | (at_builtin; refine wpList_append_own _ rfl _ _ 45 rfl (w.heap.size + 1) 21 i1 (.int .i32 0) 1 4 Tryd.underlying45 gi gz0 gz1 gz2 rfl (by decide) _ _ _ rfl (hA2.alloc _) ⟨W1.heap.size, 0, none⟩ 1 1 [.int .i32 d.1] rfl rfl (cell_one_new _ _ _) (ints_oneCell .i32 [(d.1 : Int)]) (by unfold maxLen; omega) (by omega) (by simp; omega) ?_; intro va w2 hownA' hgA hnA)
            | (at_builtin; refine wpList_append_own _ rfl _ _ 46 rfl (w.heap.size + 1) 3 i0 (.int .i64 0) 1 8 Tryd.underlying46 hi hz0 hz1 hz2 rfl (by decide) _ _ _ rfl (((hB2.alloc _).kept hgA HAB.out).alloc _) ⟨w2.heap.size, 0, none⟩ 1 1 [.int .i64 3] rfl rfl (cell_one_new _ _ _) (ints_oneCell .i64 [(3 : Int)]) (by unfold maxLen; omega) (by omega) (by have := hgA.size; simp at this ⊢; omega) ?_; intro vb w3 hownB' hgB hnB))
          have sA := hgA.size
          have sB := hgB.size
          simp only [World.size_alloc] at sA sB
          have hAk := (hownA'.alloc (.cells #[.int .i64 3] 3)).kept hgB (own_ne (((hB2.alloc (.cells #[.int .i32 d.1] 21)).kept hgA HAB.out).alloc (.cells #[.int .i64 3] 3)) (hownA'.alloc (.cells #[.int .i64 3] 3)) (by decide))
          have hit3 : w3.heap[w.heap.size]? = some (.stringIter s (pos + d.2)) :=
            (hgB.block w.heap.size (by simp; omega) (fun e => by have := (hltB _ e.symm).1; omega)).trans ((Below.heap_alloc _ _ _ (by omega)).trans
              ((hgA.block w.heap.size (by simp; omega) (fun e => by have := (hltA _ e.symm).1; omega)).trans ((Below.heap_alloc _ _ _ (by omega)).trans hit2)))
          have hbw3 : Below w.heap.size w w3 :=
            (((hbw2.alloc (by omega) _).grown hgA (by simp; omega) (fun k hk => by have := (hltA k hk).1; omega)).alloc (by omega) _).grown hgB (by simp; omega) (fun k hk => by have := (hltB k hk).1; omega)
          go_roundw
          case rel =>
            refine ⟨pos + d.2, f, done ++ [((d.1 : Int), d.2)], hit3, hbw3, by simpa using hAk, by simpa [HK.out] using hownB', ?_, by omega, by omega, by simp; omega⟩
            rw [← HC.out, HR.out]; simp
          case measure =>
            rw [HI.out]
            simp only [World.iterPos, hit3]
            omega
      · have t1 : ((d.1 : Int) == 65533) = false := by simp; omega
        have HLN : Hid (Lib.runeLen (d.1 : Int) = (d.2 : Int)) := HL1.out h1
        have HK : Hid (d.2 = d.2) := rfl
        clear h1
        go_wp2_with (first
          | (go_at_call 42; refine (runeLen_at _ d.2 _ HLN.out).mono ?_; rintro e w' ⟨rfl, rfl⟩)
          | (at_builtin; refine wpList_append_own _ rfl _ _ 45 rfl (w.heap.size + 1) 21 i1 (.int .i32 0) 1 4 Tryd.underlying45 gi gz0 gz1 gz2 rfl (by decide) _ _ _ rfl (hA2.alloc _) ⟨W1.heap.size, 0, none⟩ 1 1 [.int .i32 d.1] rfl rfl (cell_one_new _ _ _) (ints_oneCell .i32 [(d.1 : Int)]) (by unfold maxLen; omega) (by omega) (by simp; omega) ?_; intro va w2 hownA' hgA hnA)
          | (at_builtin; refine wpList_append_own _ rfl _ _ 46 rfl (w.heap.size + 1) 3 i0 (.int .i64 0) 1 8 Tryd.underlying46 hi hz0 hz1 hz2 rfl (by decide) _ _ _ rfl (((hB2.alloc _).kept hgA HAB.out).alloc _) ⟨w2.heap.size, 0, none⟩ 1 1 [.int .i64 d.2] rfl rfl (cell_one_new _ _ _) (ints_oneCell .i64 [(d.2 : Int)]) (by unfold maxLen; omega) (by omega) (by have := hgA.size; simp at this ⊢; omega) ?_; intro vb w3 hownB' hgB hnB))
        have sA := hgA.size
        have sB := hgB.size
        simp only [World.size_alloc] at sA sB
        have hAk := (hownA'.alloc (.cells #[.int .i64 d.2] 3)).kept hgB (own_ne (((hB2.alloc (.cells #[.int .i32 d.1] 21)).kept hgA HAB.out).alloc (.cells #[.int .i64 d.2] 3)) (hownA'.alloc (.cells #[.int .i64 d.2] 3)) (by decide))
        have hit3 : w3.heap[w.heap.size]? = some (.stringIter s (pos + d.2)) :=
          (hgB.block w.heap.size (by simp; omega) (fun e => by have := (hltB _ e.symm).1; omega)).trans ((Below.heap_alloc _ _ _ (by omega)).trans
            ((hgA.block w.heap.size (by simp; omega) (fun e => by have := (hltA _ e.symm).1; omega)).trans ((Below.heap_alloc _ _ _ (by omega)).trans hit2)))
        have hbw3 : Below w.heap.size w w3 :=
          (((hbw2.alloc (by omega) _).grown hgA (by simp; omega) (fun k hk => by have := (hltA k hk).1; omega)).alloc (by omega) _).grown hgB (by simp; omega) (fun k hk => by have := (hltB k hk).1; omega)
        go_roundw
        case rel =>
          refine ⟨pos + d.2, f, done ++ [((d.1 : Int), d.2)], hit3, hbw3, by simpa using hAk, by simpa using hownB', ?_, by omega, by omega, by simp; omega⟩
          rw [← HC.out, HR.out]; simp
        case measure =>
          rw [HI.out]
          simp only [World.iterPos, hit3]
          omega
    · have hnx : ∀ ty, (Instr.next (.pointer (some ⟨w.heap.size, 0, none⟩)) true ty).run Tryd.prog wr = _ := fun ty => Lib.run_next_end_at wr w.heap.size s pos ty hit hp
      go_wp2
      go_ret2
      have := HC.out
      rw [rs_end s f pos hp, List.append_nil] at this
      subst this
      exact ⟨_, _, rfl, ⟨hownA.1, hownA.2.imp id (fun ⟨g, cap, cur, h1, h2, h3⟩ => ⟨g, cap, cur, h1, by omega, h3⟩)⟩, ⟨hownB.1, hownB.2.imp id (fun ⟨g, cap, cur, h1, h2, h3⟩ => ⟨g, cap, cur, h1, by omega, h3⟩)⟩, hbw⟩
end Txt
end Go.Proofs.YtbhoklhcdefabaaDoor

/- Are two states, or two events, alike? -/
import Derived.Test.YtmgmdijhiplalaaDoorParseCheck2
namespace Go.Proofs.YtmgmdijhiplalaaDoor
open Go.ChangeShapes Go.WideShapes Go.ChangeAt Go.RowKit
namespace Prs
theorem ints_cell {w : World} {b o : Nat} {l : List Int} (h : ∀ j u, (ints l)[j]? = some u → w.cell? ((⟨b, o, none⟩ : Addr).add j) = some u) : ∀ j, j < l.length → w.cell? ⟨b, o + j, none⟩ = some (.int .i64 (l.getD j 0)) := fun j hj => by
  have h1 := h j (.int .i64 l[j]) (by simp [ints, List.getElem?_eq_getElem hj])
  rw [Addr.add_mid] at h1
  rw [h1, List.getD_eq_getElem?_getD, List.getElem?_eq_getElem hj]
  rfl
theorem equal_any (l m : List Int) (v u : Value) (w : World) (hv : IntsV w v l) (hu : IntsV w u m) (hl : l.length ≤ 9223372036854775807) (hm : m.length ≤ 9223372036854775807) :
    Calls Tryd.prog 26 #[v, u] w fun e w' => e = .returned (.bool (l == m)) ∧ Below w.heap.size w w' := by
  by_cases hne : l.length = m.length
  · rcases hv with ⟨rfl, p0, n0, rfl⟩ | ⟨b, o, c, rfl, hc⟩
    · obtain ⟨p, d, rfl⟩ := hu.slice
      refine (Tryd.slices_Equal_int_empty _ _ _ _ _ _ hm).mono ?_
      rintro e w' ⟨rfl, rfl⟩
      refine ⟨ret_bool ?_, Below.refl _ _⟩
      cases m with
      | nil => rfl
      | cons x m => simp at hne
    · rcases hu with ⟨rfl, p0, n0, rfl⟩ | ⟨b', o', c', rfl, hc'⟩
      · have : l = [] := List.eq_nil_of_length_eq_zero hne
        subst this
        refine (Tryd.slices_Equal_int_empty _ _ _ _ _ _ hm).mono ?_
        rintro e w' ⟨rfl, rfl⟩
        exact ⟨rfl, Below.refl _ _⟩
      · refine (Tryd.slices_Equal_int b o l.length c b' o' m.length c' l m w (Nat.le_refl _) (Nat.le_refl _) hl hm (ints_cell hc) (ints_cell hc')).mono ?_
        rintro e w' ⟨rfl, q, rfl⟩
        exact ⟨by rw [List.take_length, List.take_length], below_drewN (Below.refl _ _) q⟩
  · obtain ⟨p, c, rfl⟩ := hv.slice
    obtain ⟨p', c', rfl⟩ := hu.slice
    refine (Tryd.slices_Equal_int_lens _ _ _ _ _ _ _ hne).mono ?_
    rintro e w' ⟨rfl, rfl⟩
    refine ⟨ret_bool ?_, Below.refl _ _⟩
    rw [eq_comm, beq_eq_false_iff_ne]
    exact fun h => hne (by rw [h])
set_option maxHeartbeats 8000000 in
set_option maxRecDepth 100000 in
theorem sameState_refl (s : St) (pv qv : Value) (w : World) (hp : IntsV w pv s.ps) (hq : IntsV w qv s.ps) (hl : s.ps.length ≤ 9223372036854775807) :
    Calls Tryd.prog 10 #[.agg #[.int .i64 s.at', .int .u8 s.mark, .string s.mid, pv, .string s.txt, .string s.left, .bool s.late], .agg #[.int .i64 s.at', .int .u8 s.mark, .string s.mid, qv, .string s.txt, .string s.left, .bool s.late]] w fun e w' => e = .returned (.bool true) ∧ Below w.heap.size w w' := by
  have x0 : ((w.alloc (.cells #[.int .i64 s.at', .int .u8 s.mark, .string s.mid, pv, .string s.txt, .string s.left, .bool s.late] 24)).alloc (.cells #[.int .i64 s.at', .int .u8 s.mark, .string s.mid, qv, .string s.txt, .string s.left, .bool s.late] 24)).heap[w.heap.size]? = some (.cells #[.int .i64 s.at', .int .u8 s.mark, .string s.mid, pv, .string s.txt, .string s.left, .bool s.late] 24 (0, 0)) := heap_box _ _ (heap_alloc_new w _)
  have x1 := new_two w (.cells #[.int .i64 s.at', .int .u8 s.mark, .string s.mid, pv, .string s.txt, .string s.left, .bool s.late] 24) (.cells #[.int .i64 s.at', .int .u8 s.mark, .string s.mid, qv, .string s.txt, .string s.left, .bool s.late] 24)
  have kk := below_two w (.cells #[.int .i64 s.at', .int .u8 s.mark, .string s.mid, pv, .string s.txt, .string s.left, .bool s.late] 24) (.cells #[.int .i64 s.at', .int .u8 s.mark, .string s.mid, qv, .string s.txt, .string s.left, .bool s.late] 24)
  have HEQ := equal_any s.ps s.ps pv qv _ (hp.next kk) (hq.next kk) hl hl
  obtain ⟨c0, c1, c2, c3, c4, c5, c6, cf⟩ := cells7 x0
  obtain ⟨d0, d1, d2, d3, d4, d5, d6, df⟩ := cells7 x1
  have HX0 : Hid _ := x0
  have HX1 : Hid _ := x1
  have HKK : Hid _ := kk
  rw [show (s.ps == s.ps) = true from beq_self_eq_true _] at HEQ
  clear cf df x0 x1 kk hp hq hl
  go_enter Tryd.func10, Tryd.ntmps10
  go_wp2_with fail
  refine HEQ.mono ?_
  rintro e W1 ⟨rfl, b1⟩
  obtain ⟨e0, e1, e2, e3, e4, e5, e6, ef⟩ := cells7 (stay HX0.out b1)
  obtain ⟨g0, g1, g2, g3, g4, g5, g6, gf⟩ := cells7 (stay HX1.out b1)
  have HK1 : Hid (Below w.heap.size w W1) := HKK.out.trans (b1.mono HKK.out.size)
  clear ef gf b1 HX0 HX1 HKK
  go_wp2_with fail
  go_ret
  exact ⟨rfl, HK1.out⟩
def sameE (a b : Ev) : Bool := (a.kind == b.kind) && ((a.r == b.r) && ((a.fin == b.fin) && ((a.mark == b.mark) && ((a.mid.toList == b.mid.toList) && ((a.txt.toList == b.txt.toList) && (a.ps == b.ps))))))
set_option maxHeartbeats 8000000 in
set_option maxRecDepth 100000 in
theorem sameEvent_any (a b : Ev) (pv qv : Value) (w : World) (hp : IntsV w pv a.ps) (hq : IntsV w qv b.ps) (hl : a.ps.length ≤ 9223372036854775807) (hm : b.ps.length ≤ 9223372036854775807) :
    Calls Tryd.prog 13 #[.agg #[.int .i64 a.kind, .int .i32 a.r, .int .u8 a.fin, .int .u8 a.mark, .string a.mid, pv, .string a.txt], .agg #[.int .i64 b.kind, .int .i32 b.r, .int .u8 b.fin, .int .u8 b.mark, .string b.mid, qv, .string b.txt]] w fun e w' => e = .returned (.bool (sameE a b)) ∧ Below w.heap.size w w' := by
  have x0 : ((w.alloc (.cells #[.int .i64 a.kind, .int .i32 a.r, .int .u8 a.fin, .int .u8 a.mark, .string a.mid, pv, .string a.txt] 37)).alloc (.cells #[.int .i64 b.kind, .int .i32 b.r, .int .u8 b.fin, .int .u8 b.mark, .string b.mid, qv, .string b.txt] 37)).heap[w.heap.size]? = some (.cells #[.int .i64 a.kind, .int .i32 a.r, .int .u8 a.fin, .int .u8 a.mark, .string a.mid, pv, .string a.txt] 37 (0, 0)) := heap_box _ _ (heap_alloc_new w _)
  have x1 := new_two w (.cells #[.int .i64 a.kind, .int .i32 a.r, .int .u8 a.fin, .int .u8 a.mark, .string a.mid, pv, .string a.txt] 37) (.cells #[.int .i64 b.kind, .int .i32 b.r, .int .u8 b.fin, .int .u8 b.mark, .string b.mid, qv, .string b.txt] 37)
  have kk := below_two w (.cells #[.int .i64 a.kind, .int .i32 a.r, .int .u8 a.fin, .int .u8 a.mark, .string a.mid, pv, .string a.txt] 37) (.cells #[.int .i64 b.kind, .int .i32 b.r, .int .u8 b.fin, .int .u8 b.mark, .string b.mid, qv, .string b.txt] 37)
  obtain ⟨c0, c1, c2, c3, c4, c5, c6, cf⟩ := cells7 x0
  obtain ⟨d0, d1, d2, d3, d4, d5, d6, df⟩ := cells7 x1
  have HP : Hid (∀ W, Below w.heap.size w W → IntsV W pv a.ps) := fun W hb => hp.next hb
  have HQ : Hid (∀ W, Below w.heap.size w W → IntsV W qv b.ps) := fun W hb => hq.next hb
  have HLM : Hid (a.ps.length ≤ 9223372036854775807 ∧ b.ps.length ≤ 9223372036854775807) := ⟨hl, hm⟩
  have cf5 := cf 5
  have df5 := df 5
  have HX0 : Hid _ := x0
  have HX1 : Hid _ := x1
  have HKK : Hid _ := kk
  clear cf df x0 x1 kk hp hq hl hm
  go_enter Tryd.func13, Tryd.ntmps13
  go_wp2_with fail
  go_region
  go_wp2_with (go_at_call 26; refine (equal_any a.ps b.ps pv qv _ (HP.out _ (below_two w _ _).drew) (HQ.out _ (below_two w _ _).drew) HLM.out.1 HLM.out.2).mono ?_; rintro e W1 ⟨rfl, b1⟩; have HK1 : Hid (Below w.heap.size w W1) := (below_two w _ _).drew.trans (b1.mono (below_two w _ _).drew.size); clear b1)
  all_goals (go_ret; refine ⟨ret_bool ?_, by first | exact HK1.out | exact (below_two w _ _).drew⟩; clear c0 c1 c2 c3 c4 c5 c6 d0 d1 d2 d3 d4 d5 d6 HP HQ HLM cf5 df5 HX0 HX1 HKK)
  all_goals simp [sameE, *]
end Prs
end Go.Proofs.YtmgmdijhiplalaaDoor

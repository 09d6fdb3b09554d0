/- The reference's CheckSplit. -/
import Derived.Test.YtckkbmgdaplaaaaDoorSplRef
import Derived.Laws.EntriesVeiled
namespace Go.Proofs.YtckkbmgdaplaaaaDoor
open Go.ChangeShapes Go.WideShapes Go.ChangeAt Go.RowKit Go.Maps
namespace Spl
open Fo
theorem own_mono {w : World} {base base2 : Nat} {v : Value} {l : List Int} (h : OwnI w base v l) (hb : base2 ≤ base) : OwnI w base2 v l := by
  refine ⟨h.1, ?_⟩
  rcases h.2 with h2 | ⟨g, cap, cur, hv, hg, r⟩
  · exact .inl h2
  · exact .inr ⟨g, cap, cur, hv, Nat.le_trans hb hg, r⟩
theorem part_way (wy pn sz : Int) (n : Nat) (met : List Int) : part 0 wy pn sz n met = part (-1) wy pn sz n met := by
  unfold part
  by_cases h : wy = 1 ∨ wy = 2
  · have h1 : ¬ wy = 0 := by omega
    have h2 : ¬ wy = -1 := by omega
    simp only [if_neg h1, if_neg h2]
  · by_cases h0 : wy = 0
    · simp only [if_pos h0]
    · simp only [if_neg h0, if_pos h]
theorem chk_way (wy pn sz : Int) (ks : Fo) : chkF 0 (cons wy pn sz ks nil) [] = chk (cons wy pn sz ks nil) := by
  unfold chk
  by_cases h : (part (-1) wy pn sz ks.len []).1 = 0
  · rw [chkF_two _ _ _ _ _ _ h, chkF_two _ _ _ _ _ _ (by rw [part_way]; exact h), part_way]
  · rw [chkF_one _ _ _ _ _ _ h, chkF_one _ _ _ _ _ _ (by rw [part_way]; exact h), part_way]
set_option maxHeartbeats 8000000 in
set_option maxRecDepth 100000 in
theorem checkR_any (wy pn sz : Int) (ks : Fo) (kv : Value) (w : World) (hk : KAt w kv ks) (hcnt : ks.cnt ≤ 2000000) :
    Calls Tryd.prog 13 #[.agg #[.int .i64 wy, .int .i64 pn, .int .i64 sz, kv]] w fun e w' => ∃ v, e = .returned (.tuple #[v, .int .i64 (chk (cons wy pn sz ks nil)).1]) ∧ OwnI w' w.heap.size v (chk (cons wy pn sz ks nil)).2 ∧ Below w.heap.size w w' := by
  rw [← chk_way]
  have b1 : Below w.heap.size w (w.alloc (.cells #[.int .i64 wy, .int .i64 pn, .int .i64 sz, kv] 24)) := (Below.refl _ _).alloc (Nat.le_refl _) _
  have s1 : (w.alloc (.cells #[.int .i64 wy, .int .i64 pn, .int .i64 sz, kv] 24)).heap.size = w.heap.size + 1 := by rw [World.size_alloc]
  have x1 := heap_alloc_new w (.cells #[.int .i64 wy, .int .i64 pn, .int .i64 sz, kv] 24)
  have HX1 : Hid (_ = some (Obj.cells #[.int .i64 wy, .int .i64 pn, .int .i64 sz, kv] 24 (0, 0))) := x1
  go_enter Tryd.func13, Tryd.ntmps13
  go_wp2_with fail
  have s2 : ((w.alloc (.cells #[.int .i64 wy, .int .i64 pn, .int .i64 sz, kv] 24)).alloc (.cells #[.slice none 0 0] 32)).heap.size = w.heap.size + 1 + 1 := by rw [World.size_alloc, s1]
  have b2 := b1.alloc b1.size (.cells #[.slice none 0 0] 32)
  have x2 := heap_alloc_new (w.alloc (.cells #[.int .i64 wy, .int .i64 pn, .int .i64 sz, kv] 24)) (.cells #[.slice none 0 0] 32)
  rw [s1] at x2
  have b3 := b2.alloc b2.size (.cells #[.func (.func 46) #[] #[.pointer (some ⟨w.heap.size + 1, 0, none⟩), .pointer (some ⟨w.heap.size + 1 + 1, 0, none⟩)]] 72)
  have x3 := heap_alloc_new ((w.alloc (.cells #[.int .i64 wy, .int .i64 pn, .int .i64 sz, kv] 24)).alloc (.cells #[.slice none 0 0] 32)) (.cells #[.func (.func 46) #[] #[.pointer (some ⟨w.heap.size + 1, 0, none⟩), .pointer (some ⟨w.heap.size + 1 + 1, 0, none⟩)]] 72)
  rw [s2] at x3
  have x2' : (((w.alloc (.cells #[.int .i64 wy, .int .i64 pn, .int .i64 sz, kv] 24)).alloc (.cells #[.slice none 0 0] 32)).alloc (.cells #[.func (.func 46) #[] #[.pointer (some ⟨w.heap.size + 1, 0, none⟩), .pointer (some ⟨w.heap.size + 1 + 1, 0, none⟩)]] 72)).heap[w.heap.size + 1]? = some (.cells #[.slice none 0 0] 32 (0, 0)) := ((Below.refl _ _).alloc (Nat.le_refl _) _ : Below _ _ _).block (w.heap.size + 1) (by rw [s2]; omega) |>.trans x2
  have s3 : (((w.alloc (.cells #[.int .i64 wy, .int .i64 pn, .int .i64 sz, kv] 24)).alloc (.cells #[.slice none 0 0] 32)).alloc (.cells #[.func (.func 46) #[] #[.pointer (some ⟨w.heap.size + 1, 0, none⟩), .pointer (some ⟨w.heap.size + 1 + 1, 0, none⟩)]] 72)).heap.size = w.heap.size + 1 + 1 + 1 := by rw [World.size_alloc, s2]
  have hst : St w.heap.size w (((w.alloc (.cells #[.int .i64 wy, .int .i64 pn, .int .i64 sz, kv] 24)).alloc (.cells #[.slice none 0 0] 32)).alloc (.cells #[.func (.func 46) #[] #[.pointer (some ⟨w.heap.size + 1, 0, none⟩), .pointer (some ⟨w.heap.size + 1 + 1, 0, none⟩)]] 72)) (w.heap.size + 1) (w.heap.size + 1 + 1) [] := ⟨b3, by omega, by rw [s3]; omega, by omega, ⟨_, x3⟩, ⟨_, x2', World.ownsRow_nil _ _ _ _⟩⟩
  refine (walkR_any (ks.cnt + 1) 0 wy pn sz ks kv w.heap.size (w.heap.size + 1) (w.heap.size + 1 + 1) w _ [] (by omega) hcnt b3.size (Nat.le_refl _) hk (by simp) hst).mono ?_
  rintro e W ⟨rfl, sW, kW⟩
  obtain ⟨v, hv, ho⟩ := sW.row
  obtain ⟨a, c, rfl⟩ := own_form ho
  have hpc : W.cell? ⟨w.heap.size + 1, 0, none⟩ = some (.slice a (chkF 0 (cons wy pn sz ks nil) []).2.length c) := by unfold World.cell?; rw [hv]; rfl
  have hkeep := sW.keep
  have HOW : Hid (OwnI W (w.heap.size + 1 + 1 + 1) (.slice a (chkF 0 (cons wy pn sz ks nil) []).2.length c) (chkF 0 (cons wy pn sz ks nil) []).2) := ho
  clear sW kW ho hv hst x2' x3 x2 b3 b2 b1 x1 HX1 s3 s2 s1 hk
  go_wp2_with fail
  go_ret2
  exact ⟨_, rfl, own_mono (base := w.heap.size + 1 + 1 + 1) (base2 := w.heap.size) HOW.out (by omega), hkeep⟩
end Spl
end Go.Proofs.YtckkbmgdaplaaaaDoor

/- Package keys: Read. -/
import Derived.Test.YtjilgapoioploaaDoorKeysRd9
import Derived.Laws.AppendOwn
import Derived.Laws.OwnMore
import Derived.Maps.AppendAt
import Derived.Deep.LoopGhost
namespace Go.Proofs.YtjilgapoioploaaDoor
open Go.ChangeShapes Go.WideShapes Go.ChangeAt Go.RowKit
namespace Kys
open Txt (wd bs dec)
def kc (k : Ky) : List Value := [.int .i64 k.kind, .int .i32 k.r, .int .i64 k.n, .int .i64 k.held]
def flatK (ks : List Ky) : List Value := ks.flatMap kc
/-- A row of keys in a block of its own. -/
def OwnK (w : World) (base : Nat) (v : Value) (ks : List Ky) : Prop := w.ownsRow base 23 4 v ks.length (flatK ks)
theorem ownsRow_below {w w' : World} {base : Nat} {e : TypeId} {size : Nat} {v : Value} {n : Nat} {xs : List Value} (h : w.ownsRow base e size v n xs) (hb : Below w.heap.size w w') : w'.ownsRow base e size v n xs := by
  refine ⟨h.1, ?_⟩
  rcases h.2 with h2 | ⟨g, cap, cur, hv, hg, hh, r⟩
  · exact .inl h2
  · exact .inr ⟨g, cap, cur, hv, hg, by rw [hb.block g (Array.getElem?_eq_some_iff.1 hh).1]; exact hh, r⟩
theorem own_from {w : World} {base : Nat} {e : TypeId} {size : Nat} {v : Value} {n : Nat} {xs : List Value} (h : w.ownsRow base e size v n xs) : ∀ k, v.ownBlock = some k → base ≤ k := by
  intro k hk
  obtain ⟨_, h | ⟨q, cap, cur, rfl, hq, _⟩⟩ := h
  · rw [h.1] at hk; simp [Value.ownBlock] at hk
  · simp only [Value.ownBlock, Option.some.injEq] at hk; omega
theorem info_key : (Tryd.prog.info? 23).map (fun i => (i.zero, i.size, i.bytes)) = some (some (.agg #[.int .i64 0, .int .i32 0, .int .i64 0, .int .i64 0]), 4, 32) := by kernel_rfl
theorem und_keys : Tryd.prog.underlying 31 = some (.slice 23) := by kernel_rfl
theorem news_key (W : World) (a b c d : Value) : ∀ j u, [a, b, c, d][j]? = some u → (W.alloc (.cells #[a, b, c, d] 23)).cell? ((⟨W.heap.size, 0, none⟩ : Addr).add j) = some u := by
  intro j u hu
  have hc : ∀ i, (W.alloc (.cells #[a, b, c, d] 23)).cell? ⟨W.heap.size, i, none⟩ = #[a, b, c, d][i]? := fun i => by
    unfold World.cell?
    rw [heap_alloc_new]
    rfl
  rw [Addr.add_mid, hc]
  simpa using hu
theorem news_two (W : World) (o : Obj) (a b c d : Value) : ∀ j u, [a, b, c, d][j]? = some u → ((W.alloc o).alloc (.cells #[a, b, c, d] 23)).cell? ((⟨W.heap.size + 1, 0, none⟩ : Addr).add j) = some u := by
  have h := news_key (W.alloc o) a b c d
  rw [show (W.alloc o).heap.size = W.heap.size + 1 by simp] at h
  exact h
theorem flatK_snoc (ks : List Ky) (k : Ky) : flatK (ks ++ [k]) = flatK ks ++ kc k := by simp [flatK]
theorem ext_drop (t : ByteArray) (z : Nat) : (t.extract z t.size).data.toList = t.data.toList.drop z := by
  rw [toL_extract, List.take_of_length_le (by rw [Array.length_toList]; exact Nat.le_refl _)]
theorem size_l (t : ByteArray) : t.data.toList.length = t.size := Array.length_toList
set_option maxHeartbeats 8000000 in
set_option maxRecDepth 100000 in
theorem read_any (s : ByteArray) (last : Bool) (hs : s.size ≤ 4000) (w : World) (hE : Env w) : Calls Tryd.prog 13 #[.string s, .bool last] w fun e w' => ∃ v, e = .returned (.tuple #[v, .string (bs (rd s.data.toList last).2), .int .i64 0]) ∧ OwnK w' w.heap.size v (rd s.data.toList last).1 ∧ Below w.heap.size w w' := by
  obtain ⟨i0, hi, hzz⟩ := Option.map_eq_some_iff.1 info_key
  simp only [Prod.mk.injEq] at hzz
  obtain ⟨hz0, hz1, hz2⟩ := hzz
  have i4 : ¬ (4000 : Int) < (s.size : Int) := by omega
  have HEV : Hid (∀ W, Below w.heap.size w W → Env W) := fun W h => hE.below h
  obtain ⟨res, hres⟩ : ∃ res, rd s.data.toList last = res := ⟨_, rfl⟩
  rw [hres]
  have HR : Hid (rd s.data.toList last = res) := hres
  clear hres hE
  go_enter Tryd.func13, Tryd.ntmps13
  go_wp2_with fail
  go_loopg [0, 7] s.size (fun g v0 v7 wr => ∃ (t : ByteArray) (ks : List Ky), v0 = .string t ∧ t.size ≤ g ∧ t.size + ks.length ≤ s.size ∧ OwnK wr w.heap.size v7 ks ∧ Below w.heap.size w wr ∧ res = (ks ++ (rd t.data.toList last).1, (rd t.data.toList last).2))
  case atStart => exact ⟨s, [], rfl, Nat.le_refl _, by simp, World.ownsRow_nil _ _ _ _, Below.refl _ _, by rw [← HR.out]; rfl⟩
  case round =>
    obtain ⟨t, ks, rfl, hg, hlen, hown, hb, hq⟩ := hrel
    have HO : Hid (OwnK wr w.heap.size _ ks) := hown
    have HQ : Hid (res = (ks ++ (rd t.data.toList last).1, (rd t.data.toList last).2)) := hq
    clear hown hq
    have HCL := fun W => Txt.clone_any t W (by omega)
    by_cases ht : t.size = 0
    · have hl : t.data.toList = [] := List.length_eq_zero_iff.1 (by rw [size_l]; exact ht)
      have he : (t.toList == []) = true := by rw [beq_iff_eq, Lib.toList_data]; exact hl
      have e : res = (ks, []) := by rw [HQ.out, hl, rd_nil]; simp
      have HEM : Hid (t = bs []) := by unfold Hid; rw [← hl]; rfl
      subst e
      clear HQ hl ht
      go_wp2_with (go_at_call 27; refine (HCL _).mono ?_; rintro e W1 ⟨rfl, b1⟩)
      go_ret3
      refine ⟨_, ?_, ownsRow_below HO.out b1, hb.trans (b1.mono hb.size)⟩
      simp only
      rw [← HEM.out]
      rfl
    · have hne : t.data.toList ≠ [] := by intro h; have := congrArg List.length h; rw [size_l] at this; exact ht this
      have he : (t.toList == []) = false := by rw [beq_eq_false_iff_ne, Lib.toList_data]; exact hne
      have HF := first_any t last (by omega) ht wr (HEV.out wr hb)
      have hfl := first_le t.data.toList last hne
      rw [size_l] at hfl
      obtain ⟨ff, hff⟩ : ∃ ff, firstL t.data.toList last = ff := ⟨_, rfl⟩
      have HFF : Hid (firstL t.data.toList last = ff) := hff
      rw [hff] at HF hfl
      clear hff
      obtain ⟨⟨kd, rr, nn, hh⟩, z⟩ := ff
      unfold kyv at HF
      simp only at HF hfl
      have hfrom := own_from HO.out
      by_cases hz : z = 0
      · subst hz
        have e : res = (ks, t.data.toList) := by rw [HQ.out, rd_stop _ last hne (by rw [HFF.out])]; simp
        subst e
        clear HQ HFF
        go_wp2_with (first | (go_at_call 26; refine HF.mono ?_; rintro e W2 ⟨rfl, b2⟩) | (go_at_call 27; refine (HCL _).mono ?_; rintro e W1 ⟨rfl, b1⟩))
        go_ret3
        have k2 := hb.trans (b2.mono hb.size)
        have k3 := k2.alloc k2.size (.cells #[.int .i64 kd, .int .i32 rr, .int .i64 nn, .int .i64 hh] 23)
        exact ⟨_, rfl, ownsRow_below ((ownsRow_below HO.out b2).alloc _) b1, k3.trans (b1.mono k3.size)⟩
      · have iz : ((z : Int) == 0) = false := by rw [beq_eq_false_iff_ne]; omega
        have iz2 : (z : Int) ≤ (t.size : Int) := by omega
        have iz3 : (0 : Int) ≤ (z : Int) := by omega
        have e : res = (ks ++ [⟨kd, rr, nn, hh⟩] ++ (rd (t.data.toList.drop z) last).1, (rd (t.data.toList.drop z) last).2) := by
          rw [HQ.out, rd_go _ last hne (by rw [HFF.out]; exact hz), HFF.out]
          simp
        have HQ2 : Hid (res = (ks ++ [⟨kd, rr, nn, hh⟩] ++ (rd (t.data.toList.drop z) last).1, (rd (t.data.toList.drop z) last).2)) := e
        clear HQ HFF e HCL
        go_wp2_with (first | (go_at_call 26; refine HF.mono ?_; rintro e W2 ⟨rfl, b2⟩) | (at_builtin; refine wpList_append_own _ rfl _ _ 31 rfl w.heap.size 23 i0 (.agg #[.int .i64 0, .int .i32 0, .int .i64 0, .int .i64 0]) 4 32 und_keys hi hz0 hz1 hz2 rfl (by decide) _ _ _ rfl (((ownsRow_below HO.out b2).alloc _).alloc _) ⟨W2.heap.size + 1, 0, none⟩ 1 1 [.int .i64 kd, .int .i32 rr, .int .i64 nn, .int .i64 hh] rfl rfl (news_two _ _ _ _ _ _) (by intro u hu; simp at hu; rcases hu with rfl | rfl | rfl | rfl <;> rfl) (by unfold maxLen; omega) (by omega) (by simp; have := b2.size; have := hb.size; omega) ?_; intro v3 W3 hown3 hgrow hnil))
        have k2 := hb.trans (b2.mono hb.size)
        have k3 := k2.alloc k2.size (.cells #[.int .i64 kd, .int .i32 rr, .int .i64 nn, .int .i64 hh] 23)
        have k4 := k3.alloc k3.size (.cells #[.int .i64 kd, .int .i32 rr, .int .i64 nn, .int .i64 hh] 23)
        go_roundg (t.size - z)
        case measure => omega
        case rel =>
          refine ⟨t.extract z t.size, ks ++ [⟨kd, rr, nn, hh⟩], rfl, ?_, ?_, ?_, k4.grown hgrow k4.size (fun q hq => hfrom q hq), ?_⟩
          · rw [ByteArray.size_extract]; omega
          · rw [ByteArray.size_extract, List.length_append, List.length_singleton]; omega
          · unfold OwnK
            rw [List.length_append, List.length_singleton, flatK_snoc]
            exact hown3
          · rw [HQ2.out, ext_drop]
end Kys
end Go.Proofs.YtjilgapoioploaaDoor

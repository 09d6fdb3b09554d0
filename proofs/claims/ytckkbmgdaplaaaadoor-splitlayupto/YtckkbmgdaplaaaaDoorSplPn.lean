/- Package split: panes. -/
import Derived.Test.YtckkbmgdaplaaaaDoorSplM2
import Derived.Test.YtckkbmgdaplaaaaDoorSplLv
namespace Go.Proofs.YtckkbmgdaplaaaaDoor
open Go.ChangeShapes Go.WideShapes Go.ChangeAt Go.RowKit Go.Maps
namespace Spl
open Fo
/-- A row of numbers in a block of its own. -/
def OwnI (w : World) (base : Nat) (v : Value) (l : List Int) : Prop := w.ownsRow base 3 1 v l.length (l.map (Value.int .i64))
theorem OwnI.below {w w' : World} {base : Nat} {v : Value} {l : List Int} (h : OwnI w base v l) (hb : Below w.heap.size w w') : OwnI w' base v l := by
  refine ⟨h.1, ?_⟩
  rcases h.2 with h2 | ⟨g, cap, cur, hv, hg, hh, r⟩
  · exact .inl h2
  · exact .inr ⟨g, cap, cur, hv, hg, by rw [hb.block g (Array.getElem?_eq_some_iff.1 hh).1]; exact hh, r⟩
theorem OwnI.from {w : World} {base : Nat} {v : Value} {l : List Int} (h : OwnI w base v l) : ∀ k, v.ownBlock = some k → base ≤ k := by
  intro k hk
  obtain ⟨_, h | ⟨q, cap, cur, rfl, hq, _⟩⟩ := h
  · rw [h.1] at hk; simp [Value.ownBlock] at hk
  · simp only [Value.ownBlock, Option.some.injEq] at hk; omega
theorem OwnI.open {w : World} {base : Nat} {v : Value} {l : List Int} (h : OwnI w base v l) (hne : l ≠ []) : ∃ g cap, v = .slice (some ⟨g, 0, none⟩) l.length cap ∧ base ≤ g ∧ g < w.heap.size ∧ l.length ≤ cap ∧ ∀ j u, (l.map (Value.int .i64))[j]? = some u → w.cell? ((⟨g, 0, none⟩ : Addr).add j) = some u := by
  rcases h.2 with ⟨_, h2⟩ | ⟨g, cap, cur, hv, hg, hh, hnc, _, _, ht⟩
  · exact absurd (List.length_eq_zero_iff.1 h2) hne
  · refine ⟨g, cap, hv, hg, (Array.getElem?_eq_some_iff.1 hh).1, hnc, fun j u hj => ?_⟩
    have hlt : j < l.length * 1 := by
      have := (List.getElem?_eq_some_iff.1 hj).1
      rw [List.length_map] at this
      omega
    rw [← ht, List.getElem?_take_of_lt hlt] at hj
    rw [Addr.add_mid, Nat.zero_add]
    unfold World.cell?
    rw [hh]
    simpa using hj
theorem int_info : (Tryd.prog.info? 3).map (fun i => (i.zero, i.size, i.bytes)) = some (some (.int .i64 0), 1, 8) := by kernel_rfl
theorem ints_und : Tryd.prog.underlying 32 = some (.slice 3) := by kernel_rfl
theorem ints_one (l : List Int) : ∀ u ∈ l.map (Value.int .i64), u.oneCell' = true := by
  intro u hu
  obtain ⟨x, _, rfl⟩ := List.mem_map.1 hu
  rfl
set_option maxHeartbeats 8000000 in
set_option maxRecDepth 100000 in
theorem panes_any : ∀ (n : Nat) (wy pn sz : Int) (ks : Fo) (kv : Value) (w : World), ks.cnt < n → ks.cnt ≤ 2000000 → (wy = 0 ∨ ks ≠ .nil) → Rt ks → KAt w kv ks →
    Calls Tryd.prog 49 #[.agg #[.int .i64 wy, .int .i64 pn, .int .i64 sz, kv]] w fun e w' => ∃ v, e = .returned v ∧ OwnI w' w.heap.size v (if wy = 0 then [pn] else pnF ks) ∧ Below w.heap.size w w'
  | 0, _, _, _, _, _, _, h, _, _, _, _ => absurd h (Nat.not_lt_zero _)
  | n + 1, wy, pn, sz, ks, kv, w, hn, hcnt, hroot, hrt, hk => by
    have IH := panes_any n
    obtain ⟨i0, hi, hzz⟩ := Option.map_eq_some_iff.1 int_info
    simp only [Prod.mk.injEq] at hzz
    obtain ⟨hz0, hz1, hz2⟩ := hzz
    have kb : Below w.heap.size w (w.alloc (.cells #[.int .i64 wy, .int .i64 pn, .int .i64 sz, kv] 24)) := (Below.refl _ _).alloc (Nat.le_refl _) _
    have xb := heap_alloc_new w (.cells #[.int .i64 wy, .int .i64 pn, .int .i64 sz, kv] 24)
    by_cases h0 : wy = 0
    · rw [if_pos h0]
      subst h0
      clear IH hk hrt hroot
      go_enter Tryd.func49, Tryd.ntmps49
      go_wp2_with fail
      go_ret
      refine ⟨_, rfl, ⟨rfl, .inr ⟨w.heap.size + 1, 1, #[.int .i64 pn], rfl, by omega, ?_, Nat.le_refl _, by decide, rfl, rfl⟩⟩, kb.alloc kb.size _⟩
      have := heap_alloc_new (w.alloc (.cells #[.int .i64 0, .int .i64 pn, .int .i64 sz, kv] 24)) (.cells #[.int .i64 pn] 3)
      rwa [World.size_alloc] at this
    · rw [if_neg h0]
      have j0 : (wy == 0) = false := by rw [beq_eq_false_iff_ne]; exact h0
      obtain ⟨ka, kc, rfl, hkle, hkk⟩ := hk
      obtain ⟨b, o, rfl, hf⟩ := hkk.resolve_left (hroot.resolve_left h0)
      have HF0 : Hid (FoAt w ks b o) := hf
      clear hroot hf hkk h0
      have hlc := len_le_cnt ks
      obtain ⟨R, hR⟩ : ∃ R, pnF ks = R := ⟨_, rfl⟩
      rw [hR]
      have HRR : Hid (pnF ks = R) := hR
      clear hR
      go_enter Tryd.func49, Tryd.ntmps49
      go_wp2_with fail
      go_loopg [3, 15] ks.len (fun g v3 v15 wr => ∃ (i : Nat) (rs : Fo) (acc : List Int), v15 = .int .i64 (i : Int) ∧ i + rs.len = ks.len ∧ rs.len ≤ g ∧ rs.cnt ≤ ks.cnt ∧ Rt rs ∧ FoAt w rs b (o + i * 4) ∧ pnF ks = acc ++ pnF rs ∧ OwnI wr w.heap.size v3 acc ∧ Below w.heap.size w wr)
      case atStart => exact ⟨0, ks, [], rfl, by omega, Nat.le_refl _, Nat.le_refl _, hrt, by simpa using HF0.out, rfl, World.ownsRow_nil _ _ _ _, kb⟩
      case round =>
        obtain ⟨i, rs, acc, rfl, hil, hg, hrc, hrr, hfo, hpn, hown, hbel⟩ := hrel
        have HO : Hid (OwnI wr w.heap.size _ acc) := hown
        have HPN : Hid (pnF ks = acc ++ pnF rs) := hpn
        clear hown hpn kb xb HF0 hrt
        cases rs with
        | nil =>
          have iex : ¬ (i : Int) < (ks.len : Int) := by simp only [len] at hil; omega
          have e : R = acc := by rw [← HRR.out, HPN.out]; simp [pnF]
          subst e
          clear HPN hfo hil IH HRR
          go_wp2_with fail
          go_ret
          exact ⟨_, rfl, HO.out, hbel⟩
        | cons wy' pn' sz' ks' rs' =>
          obtain ⟨kv', h0, h1, h2, h3, hk', hr'⟩ := hfo.head
          obtain ⟨q1, q2, q3⟩ := hrr
          simp only [len] at hil hg
          simp only [cnt] at hrc
          have hck := CK.below hbel
          have y0 := hck _ _ _ h0
          have y1 := hck _ _ _ h1
          have y2 := hck _ _ _ h2
          have y3 := hck _ _ _ h3
          have hkw : KAt wr kv' ks' := hk'.ck hck
          obtain ⟨ka', kc', rfl, hkle', _⟩ := hk'
          have iin : (i : Int) < (ks.len : Int) := by omega
          have kA : Below wr.heap.size wr (wr.alloc (.cells #[.int .i64 wy', .int .i64 pn', .int .i64 sz', .slice ka' ks'.len kc'] 24)) := (Below.refl _ _).alloc (Nat.le_refl _) _
          have HC := IH wy' pn' sz' ks' (.slice ka' ks'.len kc') _ (by omega) (by omega) q1 q2 (hkw.ck (CK.below kA))
          have hlen' := pnF_len ks
          have hpa := congrArg List.length HPN.out
          rw [pnF_cons, List.length_append, List.length_append] at hpa
          have HPN2 : Hid (pnF ks = (acc ++ (if wy' = 0 then [pn'] else pnF ks')) ++ pnF rs') := by unfold Hid; rw [HPN.out, pnF_cons, List.append_assoc]
          have hne : (if wy' = 0 then [pn'] else pnF ks') ≠ [] := by
            split
            · simp
            · rename_i hw
              exact pnF_ne ks' q2 (q1.resolve_left hw)
          obtain ⟨pl, hpl⟩ : ∃ pl, (if wy' = 0 then [pn'] else pnF ks') = pl := ⟨_, rfl⟩
          rw [hpl] at HC hpa HPN2 hne
          have hfrom := HO.out.from
          have HR' : Hid (FoAt w rs' b (o + (i + 1) * 4)) := by
            unfold Hid
            rw [show o + (i + 1) * 4 = o + i * 4 + 4 by omega]
            exact hr'
          have kAA := hbel.alloc hbel.size (.cells #[.int .i64 wy', .int .i64 pn', .int .i64 sz', .slice ka' ks'.len kc'] 24)
          have hi20 : i < 2000000 := by omega
          clear IH hfo hr' h0 h1 h2 h3 hkw hpl HPN q1 q2 hck
          go_wp2_with fail
          refine HC.mono ?_
          rintro e W2 ⟨v2, rfl, o2, b2⟩
          obtain ⟨g2, cap2, rfl, hbg2, hgl2, hle2, hcl2⟩ := o2.open hne
          have o3 : OwnI W2 w.heap.size _ acc := OwnI.below (World.ownsRow.alloc HO.out _) b2
          have k2 := kAA.trans (b2.mono kAA.size)
          have HO3 : Hid (OwnI W2 w.heap.size _ acc) := o3
          clear HC o2 o3 y0 y1 y2 y3 HO
          go_wp2_with (at_builtin; refine wpList_append_own _ rfl _ _ 32 rfl w.heap.size 3 i0 (.int .i64 0) 1 8 ints_und hi hz0 hz1 hz2 rfl (by decide) _ _ _ rfl HO3.out ⟨g2, 0, none⟩ pl.length cap2 (pl.map (Value.int .i64)) rfl (by simp) hcl2 (ints_one pl) (by unfold maxLen; omega) (by omega) k2.size ?_; intro v3 W3 hown3 hgrow hnil)
          go_roundg rs'.len
          case measure => omega
          case rel =>
            refine ⟨i + 1, rs', acc ++ pl, by go_num, by omega, Nat.le_refl _, by omega, q3, HR'.out, HPN2.out, ?_, k2.grown hgrow k2.size (fun k hk => hfrom k hk)⟩
            unfold OwnI
            rw [List.length_append, List.map_append]
            exact hown3
end Spl
end Go.Proofs.YtckkbmgdaplaaaaDoor

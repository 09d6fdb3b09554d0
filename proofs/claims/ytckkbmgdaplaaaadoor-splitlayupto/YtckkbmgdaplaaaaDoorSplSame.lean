/- The reference's SameSplit. -/
import Derived.Test.YtckkbmgdaplaaaaDoorSplLv
namespace Go.Proofs.YtckkbmgdaplaaaaDoor
open Go.ChangeShapes Go.WideShapes Go.ChangeAt Go.RowKit Go.Maps
namespace Spl
open Fo
theorem ret_b {a b : Bool} (h : a = b) : Ending.returned (.bool a) = Ending.returned (.bool b) := by rw [h]
set_option maxHeartbeats 4000000 in
set_option maxRecDepth 100000 in
theorem same_step (wy pn sz wy' pn' sz' : Int) (ks ks' : Fo) (kv kv' : Value) (w : World) (hk : KAt w kv ks) (hk' : KAt w kv' ks')
    (HE : ∀ W, Below w.heap.size w W → Calls Tryd.prog 47 #[kv, kv', .func (.func 15) #[] #[]] W fun e w' => e = .returned (.bool (decide (ks = ks'))) ∧ Below W.heap.size W w') :
    Calls Tryd.prog 15 #[.agg #[.int .i64 wy, .int .i64 pn, .int .i64 sz, kv], .agg #[.int .i64 wy', .int .i64 pn', .int .i64 sz', kv']] w fun e w' => e = .returned (.bool (decide (cons wy pn sz ks nil = cons wy' pn' sz' ks' nil))) ∧ Below w.heap.size w w' := by
  have k2 : Below w.heap.size w ((w.alloc (.cells #[.int .i64 wy, .int .i64 pn, .int .i64 sz, kv] 24)).alloc (.cells #[.int .i64 wy', .int .i64 pn', .int .i64 sz', kv'] 24)) := ((Below.refl _ _).alloc (Nat.le_refl _) _).alloc (by rw [World.size_alloc]; omega) _
  have HE := HE _ k2
  obtain ⟨ka, kc, rfl, _, _⟩ := hk
  obtain ⟨ka', kc', rfl, _, _⟩ := hk'
  by_cases h1 : wy = wy'
  · by_cases h2 : pn = pn'
    · by_cases h3 : sz = sz'
      · subst h1 h2 h3
        rw [show decide (cons wy pn sz ks nil = cons wy pn sz ks' nil) = decide (ks = ks') by simp]
        go_enter Tryd.func15, Tryd.ntmps15
        go_wp2_with fail
        refine HE.mono ?_
        rintro e W ⟨rfl, bW⟩
        go_wp2_with fail
        go_ret
        exact ⟨rfl, k2.trans (bW.mono k2.size)⟩
      · have j3 : (sz == sz') = false := by rw [beq_eq_false_iff_ne]; exact h3
        rw [show decide (cons wy pn sz ks nil = cons wy' pn' sz' ks' nil) = false by simp [h3]]
        subst h1 h2
        clear h3 HE
        go_enter Tryd.func15, Tryd.ntmps15
        go_wp2_with fail
        go_ret
        exact ⟨rfl, k2⟩
    · have j2 : (pn == pn') = false := by rw [beq_eq_false_iff_ne]; exact h2
      rw [show decide (cons wy pn sz ks nil = cons wy' pn' sz' ks' nil) = false by simp [h2]]
      subst h1
      clear h2 HE
      go_enter Tryd.func15, Tryd.ntmps15
      go_wp2_with fail
      go_ret
      exact ⟨rfl, k2⟩
  · have j1 : (wy == wy') = false := by rw [beq_eq_false_iff_ne]; exact h1
    rw [show decide (cons wy pn sz ks nil = cons wy' pn' sz' ks' nil) = false by simp [h1]]
    clear h1 HE
    go_enter Tryd.func15, Tryd.ntmps15
    go_wp2_with fail
    go_ret
    exact ⟨rfl, k2⟩
theorem len_ne {f g : Fo} (h : f.len ≠ g.len) : f ≠ g := fun e => h (by rw [e])
set_option maxHeartbeats 8000000 in
set_option maxRecDepth 100000 in
theorem eqf_any : ∀ (n : Nat) (f f' : Fo) (v v' : Value) (w : World), f.cnt < n → f.cnt ≤ 2000000 → KAt w v f → KAt w v' f' →
    Calls Tryd.prog 47 #[v, v', .func (.func 15) #[] #[]] w fun e w' => e = .returned (.bool (decide (f = f'))) ∧ Below w.heap.size w w'
  | 0, _, _, _, _, _, h, _, _, _ => absurd h (Nat.not_lt_zero _)
  | n + 1, f, f', v, v', w, hn, hcnt, hk, hk' => by
    have IH := eqf_any n
    obtain ⟨a, c, rfl, hle, hkk⟩ := hk
    obtain ⟨a', c', rfl, hle', hkk'⟩ := hk'
    by_cases hl : f.len = f'.len
    · have hlc := len_le_cnt f
      cases f with
      | nil =>
        have hf' : f' = nil := len_nil hl.symm
        subst hf'
        rw [show decide (nil = nil) = true from rfl]
        simp only [len]
        clear IH hkk hkk'
        go_enter Tryd.func47, Tryd.ntmps47
        go_wp2_with fail
        go_loopg [17] 0 (fun g v17 wr => v17 = .int .i64 0 ∧ Below w.heap.size w wr)
        case atStart => exact ⟨rfl, Below.refl _ _⟩
        case round =>
          obtain ⟨rfl, hb⟩ := hrel
          go_wp2_with fail
          go_ret
          exact ⟨rfl, hb⟩
      | cons wy pn sz ks rs =>
        have hne' : f' ≠ nil := by intro e; subst e; simp [len] at hl
        obtain ⟨b, o, rfl, hf⟩ := hkk.resolve_left (by simp)
        obtain ⟨b', o', rfl, hf'⟩ := hkk'.resolve_left hne'
        clear hkk hkk' hne'
        have H1 : Hid (FoAt w (cons wy pn sz ks rs) b o) := hf
        have H2 : Hid (FoAt w f' b' o') := hf'
        clear hf hf'
        generalize hF : cons wy pn sz ks rs = F at *
        clear hF
        obtain ⟨R, hR⟩ : ∃ R, decide (F = f') = R := ⟨_, rfl⟩
        rw [hR]
        have HR : Hid (decide (F = f') = R) := hR
        clear hR
        have HLL : Hid (F.len = f'.len) := hl
        rw [← hl]
        clear hl
        go_enter Tryd.func47, Tryd.ntmps47
        go_wp2_with fail
        go_loopg [17] F.len (fun g v17 wr => ∃ (i : Nat) (rs rs' : Fo), v17 = .int .i64 (i : Int) ∧ i + rs.len = F.len ∧ rs.len = rs'.len ∧ rs.len ≤ g ∧ rs.cnt ≤ F.cnt ∧ FoAt w rs b (o + i * 4) ∧ FoAt w rs' b' (o' + i * 4) ∧ decide (rs = rs') = R ∧ Below w.heap.size w wr)
        case atStart => exact ⟨0, F, f', rfl, by omega, HLL.out, Nat.le_refl _, Nat.le_refl _, by simpa using H1.out, by simpa using H2.out, HR.out, Below.refl _ _⟩
        case round =>
          obtain ⟨i, rs, rs', rfl, hil, hll, hg, hrc, hfo, hfo', hdr, hbel⟩ := hrel
          have HD : Hid (decide (rs = rs') = R) := hdr
          clear hdr H1 H2 HR
          cases rs with
          | nil =>
            have hr' : rs' = nil := len_nil hll.symm
            subst hr'
            have iex : ¬ (i : Int) < (F.len : Int) := by simp only [len] at hil; omega
            have e : R = true := HD.out.symm
            subst e
            clear HD IH hfo hfo' hil hll
            go_wp2_with fail
            go_ret
            exact ⟨rfl, hbel⟩
          | cons wy pn sz ks rs =>
            cases rs' with
            | nil => simp [len] at hll
            | cons wy' pn' sz' ks' rs' =>
              obtain ⟨kv, h0, h1, h2, h3, hk, hr⟩ := hfo.head
              obtain ⟨kv', h0', h1', h2', h3', hk', hr'⟩ := hfo'.head
              simp only [len] at hil hg hll
              simp only [cnt] at hrc
              have hck := CK.below hbel
              have y0 := hck _ _ _ h0
              have y1 := hck _ _ _ h1
              have y2 := hck _ _ _ h2
              have y3 := hck _ _ _ h3
              have kA : Below wr.heap.size wr (wr.alloc (.cells #[.int .i64 wy, .int .i64 pn, .int .i64 sz, kv] 24)) := (Below.refl _ _).alloc (Nat.le_refl _) _
              have kA2 := hbel.trans (kA.mono hbel.size)
              have hckA := CK.below kA2
              have z0 := hckA _ _ _ h0'
              have z1 := hckA _ _ _ h1'
              have z2 := hckA _ _ _ h2'
              have z3 := hckA _ _ _ h3'
              have kB := kA2.alloc kA2.size (.cells #[.int .i64 wy', .int .i64 pn', .int .i64 sz', kv'] 24)
              have hckB := CK.below kB
              have HS := same_step wy pn sz wy' pn' sz' ks ks' kv kv' _ (hk.ck hckB) (hk'.ck hckB) (fun W hW => IH ks ks' kv kv' W (by omega) (by omega) ((hk.ck hckB).ck (CK.below hW)) ((hk'.ck hckB).ck (CK.below hW)))
              have iin : (i : Int) < (F.len : Int) := by omega
              have hi20 : i < 2000000 := by omega
              obtain ⟨ka, kc, rfl, hkle, _⟩ := hk
              obtain ⟨ka', kc', rfl, hkle', _⟩ := hk'
              have HR' : Hid (FoAt w rs b (o + (i + 1) * 4)) := by
                unfold Hid
                rw [show o + (i + 1) * 4 = o + i * 4 + 4 by omega]
                exact hr
              have HR2 : Hid (FoAt w rs' b' (o' + (i + 1) * 4)) := by
                unfold Hid
                rw [show o' + (i + 1) * 4 = o' + i * 4 + 4 by omega]
                exact hr'
              clear IH hfo hfo' hr hr' h0 h1 h2 h3 h0' h1' h2' h3' hck hckA hckB kA
              by_cases hs : cons wy pn sz ks nil = cons wy' pn' sz' ks' nil
              · have hd : decide (rs = rs') = R := by
                  rw [← HD.out]
                  simp only [cons.injEq, and_true] at hs
                  obtain ⟨rfl, rfl, rfl, rfl⟩ := hs
                  simp
                have HD2 : Hid (decide (rs = rs') = R) := hd
                rw [decide_eq_true hs] at HS
                clear hs hd HD
                go_wp2_with fail
                refine HS.mono ?_
                rintro e W ⟨rfl, bW⟩
                have kW := kB.trans (bW.mono kB.size)
                go_wp2_with fail
                go_roundg rs.len
                case measure => omega
                case rel => exact ⟨i + 1, rs, rs', by go_num, by omega, by omega, Nat.le_refl _, by omega, HR'.out, HR2.out, HD2.out, kW⟩
              · have e : R = false := by
                  rw [← HD.out, decide_eq_false]
                  intro h
                  apply hs
                  simp only [cons.injEq] at h ⊢
                  exact ⟨h.1, h.2.1, h.2.2.1, h.2.2.2.1, trivial⟩
                subst e
                rw [decide_eq_false hs] at HS
                clear hs HD
                go_wp2_with fail
                refine HS.mono ?_
                rintro e W ⟨rfl, bW⟩
                have kW := kB.trans (bW.mono kB.size)
                go_wp2_with fail
                go_ret
                exact ⟨rfl, kW⟩
    · rw [decide_eq_false (len_ne hl)]
      have jl : ((f.len : Int) != (f'.len : Int)) = true := by rw [bne_iff_ne]; omega
      clear IH hkk hkk' hl
      go_enter Tryd.func47, Tryd.ntmps47
      go_wp2_with fail
      go_ret
      exact ⟨rfl, Below.refl _ _⟩
theorem same_any (wy pn sz wy' pn' sz' : Int) (ks ks' : Fo) (kv kv' : Value) (w : World) (hc : ks.cnt ≤ 2000000) (hk : KAt w kv ks) (hk' : KAt w kv' ks') :
    Calls Tryd.prog 15 #[.agg #[.int .i64 wy, .int .i64 pn, .int .i64 sz, kv], .agg #[.int .i64 wy', .int .i64 pn', .int .i64 sz', kv']] w fun e w' => e = .returned (.bool (decide (cons wy pn sz ks nil = cons wy' pn' sz' ks' nil))) ∧ Below w.heap.size w w' :=
  same_step wy pn sz wy' pn' sz' ks ks' kv kv' w hk hk' (fun W hW => eqf_any (ks.cnt + 1) ks ks' kv kv' W (by omega) hc (hk.ck (CK.below hW)) (hk'.ck (CK.below hW)))
end Spl
end Go.Proofs.YtckkbmgdaplaaaaDoor

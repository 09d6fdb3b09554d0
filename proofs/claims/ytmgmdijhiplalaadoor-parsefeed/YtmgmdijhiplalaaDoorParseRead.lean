/- The closed fact of the laws of parse: a command, and a rune. -/
import Derived.Test.YtmgmdijhiplalaaDoorParseEvs
namespace Go.Proofs.YtmgmdijhiplalaaDoor
open Go.ChangeShapes Go.WideShapes Go.ChangeAt Go.RowKit
namespace Prs
def evH : Ev := ⟨4, 0, 72, 0, nt, [2, 3], nt⟩
theorem dec_x : Lib.decodeGo (one 120) = (120, 1) := by decide
theorem take_x : take (bare 0) 120 = (bare 0, [evP 120]) := by
  have e2 : (one 120).extract 1 (one 120).size = nt := by decide
  have hd : drain (nt ++ one 120).size (nt ++ one 120) = ([evP 120], nt) := by
    rw [show nt ++ one 120 = one 120 by decide]
    show drain (0 + 1) (one 120) = _
    rw [drain_go _ _ (by decide), dec_x, e2]
    rfl
  have ht : take (bare 0) 120 = inGround (bare 0) 120 := rfl
  have hg : inGround (bare 0) 120 = ({ bare 0 with left := (drain (nt ++ one 120).size (nt ++ one 120)).2 }, (drain (nt ++ one 120).size (nt ++ one 120)).1) := rfl
  rw [ht, hg, hd]
  rfl
theorem feed_nine : feed (bare 0) [27, 91, 50, 59, 51, 72, 120, 27, 91] = (bare 3, [evH, evP 120]) := by
  have t1 : take (bare 0) 27 = (bare 1, []) := rfl
  have t2 : take (bare 1) 91 = (bare 3, []) := rfl
  have t3 : take (bare 3) 50 = ({ bare 3 with ps := [2] }, []) := rfl
  have t4 : take { bare 3 with ps := [2] } 59 = ({ bare 3 with ps := [2, -1] }, []) := rfl
  have t5 : take { bare 3 with ps := [2, -1] } 51 = ({ bare 3 with ps := [2, 3] }, []) := rfl
  have t6 : take { bare 3 with ps := [2, 3] } 72 = (bare 0, [evH]) := rfl
  simp only [feed, t1, t2, t3, t4, t5, t6, take_x, List.nil_append, List.append_nil, List.cons_append]
theorem sameE_refl (e : Ev) : sameE e e = true := by simp [sameE]
theorem ok_zero : Ok (bare 0) := ok_bare 0 (by omega) (by omega) (by omega)
set_option maxHeartbeats 8000000 in
set_option maxRecDepth 100000 in
theorem readIn_any (w : World) (hT : Tabs w) :
    Calls Tryd.prog 8 #[] w fun e w' => e = .returned (.bool true) ∧ Below w.heap.size w w' := by
  have HF := feed_right (bare 0) (.slice none 0 0) ⟨#[27, 91, 50, 59, 51, 72, 120, 27, 91]⟩ w hT (.inl ⟨rfl, _, _, rfl⟩) ok_zero (by decide)
  rw [show (ByteArray.data ⟨#[27, 91, 50, 59, 51, 72, 120, 27, 91]⟩).toList = [27, 91, 50, 59, 51, 72, 120, 27, 91] from rfl, feed_nine] at HF
  simp only [stV] at HF
  clear hT
  go_enter Tryd.func8, Tryd.ntmps8
  go_wp2_with fail
  refine HF.mono ?_
  rintro e W1 ⟨pv, tv, rfl, hI, hE, b1⟩
  obtain ⟨pp, pc, rfl⟩ := hI.slice
  rcases hE with ⟨hE, -⟩ | ⟨g, o, c, rfl, hc⟩
  · exact absurd hE (by simp)
  obtain ⟨q0, h0⟩ := hc 0 (by simp)
  obtain ⟨q1, h1⟩ := hc 1 (by simp)
  rw [show ([evH, evP 120] : List Ev)[0] = evH from rfl, Nat.zero_mul, Nat.add_zero] at h0
  rw [show ([evH, evP 120] : List Ev)[1] = evP 120 from rfl, Nat.one_mul] at h1
  have kA : Below W1.heap.size W1 (W1.alloc (.cells #[.int .i64 3, .int .u8 0, .string ⟨#[]⟩, .slice pp 0 pc, .string ⟨#[]⟩, .string ⟨#[]⟩, .bool false] 24)) := (Below.refl _ _).alloc (Nat.le_refl _) _
  have g0 := h0.next kA
  have g1 := h1.next kA
  obtain ⟨qa, qc, rfl⟩ := h0.ps.slice
  obtain ⟨ra, rc, rfl⟩ := h1.ps.slice
  have z0 := g0.c0
  have z1 := g0.c1
  have z2 := g0.c2
  have z3 := g0.c3
  have z4 := g0.c4
  have z5 := g0.c5
  have z6 := g0.c6
  clear hc HF hI
  simp only [bare, nt, evH, List.length_nil, List.length_cons] at z0 z1 z2 z3 z4 z5 z6 ⊢
  go_wp2_with fail
  have kB := below_two W1 (.cells #[.int .i64 3, .int .u8 0, .string ⟨#[]⟩, .slice pp 0 pc, .string ⟨#[]⟩, .string ⟨#[]⟩, .bool false] 24) (.cells #[.int .i64 2, .int .i64 3] 3)
  have nB := new_two W1 (.cells #[.int .i64 3, .int .u8 0, .string ⟨#[]⟩, .slice pp 0 pc, .string ⟨#[]⟩, .string ⟨#[]⟩, .bool false] 24) (.cells #[.int .i64 2, .int .i64 3] 3)
  refine (sameEvent_any evH evH _ _ _ (h0.ps.next kB) (.inr ⟨W1.heap.size + 1, 0, 2, rfl, cells_of_block (L := ints [2, 3]) nB⟩) (by decide) (by decide)).mono ?_
  rintro e W2 ⟨rfl, b2⟩
  rw [sameE_refl]
  have k2 := kB.trans (b2.mono kB.size)
  have g2 := h1.next k2
  have y0 := g2.c0
  have y1 := g2.c1
  have y2 := g2.c2
  have y3 := g2.c3
  have y4 := g2.c4
  have y5 := g2.c5
  have y6 := g2.c6
  clear z0 z1 z2 z3 z4 z5 z6 g0 g1
  simp only [nt, evP, List.length_nil] at y0 y1 y2 y3 y4 y5 y6
  go_wp2_with fail
  refine (sameEvent_any (evP 120) (evP 120) _ _ _ g2.ps (.inl ⟨rfl, _, _, rfl⟩) (by decide) (by decide)).mono ?_
  rintro e W3 ⟨rfl, b3⟩
  rw [sameE_refl]
  have k3 := k2.trans (b3.mono k2.size)
  go_wp2_with fail
  go_ret
  exact ⟨rfl, b1.trans (k3.mono b1.size)⟩
end Prs
end Go.Proofs.YtmgmdijhiplalaaDoor

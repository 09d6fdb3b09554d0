/- Package split: what the rows list: the brackets; a split out of what the row reads, with how many values it holds. -/
import Derived.Test.YtckkbmgdaplaaaaDoorSplPart
import Derived.Test.YtckkbmgdaplaaaaDoorSplPn
import Derived.Test.YtckkbmgdaplaaaaDoorRows
import Derived.LaidLaws
import Derived.Lib.LaidU8
import Derived.Lib.SmallJoins
import Derived.Deep.Strs
import Derived.Deep.Slices
import Derived.SizedLaws
namespace Go.Proofs.YtckkbmgdaplaaaaDoor
open Go.ChangeShapes Go.WideShapes Go.ChangeAt Go.RowKit
namespace Spl
open Fo
/-- The cells of a row of numbers. -/
def cells1 (d : DataW Unit) : Array Value := match d with
  | .agg l => (l.map fun x => match x with
    | .lit (.int k z) => Value.int k z
    | _ => undef).toArray
  | _ => #[]
theorem var_cells {w : World} {n : String} {g : Nat} {cs : Array Value} (hg : Tryd.prog.globalNamed n = some g) (hvar : w.var? Tryd.prog n = some cs) : ∃ t fr, w.heap[g]? = some (.cells cs t fr) := by
  unfold World.var? at hvar
  rw [hg] at hvar
  simp only [Option.bind_some] at hvar
  split at hvar
  · rename_i c tt fr hh
    obtain rfl := Option.some.inj hvar
    exact ⟨tt, fr, hh⟩
  · cases hvar
def brA : ByteArray := ⟨#[]⟩
def brB : ByteArray := ⟨#[123, 125]⟩
def brC : ByteArray := ⟨#[91, 93]⟩
theorem br_is : Br brB brC := ⟨rfl, rfl, rfl, rfl, rfl, rfl⟩
theorem br_of_reads {w : World} (h : Lib.VarReads Tryd.prog w "trellis/split.brackets" Rows.laid_trellis_split_brackets) : BrTab w brA brB brC := by
  obtain ⟨g, t, cs, fuel, p, hg, hty, hvar, hd⟩ := h
  obtain rfl := Option.some.inj ((show Tryd.prog.globalNamed "trellis/split.brackets" = some 0 by kernel_rfl).symm.trans hg)
  obtain rfl := Option.some.inj ((show (Tryd.prog.globals[0]?).map (fun x => x.type) = some 110 by kernel_rfl).symm.trans hty)
  have hlen : cs.toList.length = 3 := by
    obtain ⟨xs, m, _, _, hl, _, _⟩ := DataW.trod_array Tryd.underlying110 hd
    rw [hl]; kernel_rfl
  have key : ∀ i (s : List UInt8), i < 3 → ([DataW.lit (.string []), .lit (.string [123, 125]), .lit (.string [91, 93])] : List (DataW Unit))[i]? = some (.lit (.string s)) → (cs.toList.drop (i * 1)).take 1 = [.string ⟨s.toArray⟩] := fun i s hi hs => by
    obtain ⟨fuel', d, q, hdi, he⟩ := Lib.array_elem Tryd.underlying110 hd i hi
    rw [hs] at hdi
    obtain rfl := Option.some.inj hdi
    rw [show Tryd.prog.cellsOf 9 = 1 by kernel_rfl] at he
    obtain ⟨z0, k0, hz, _⟩ := DataW.trod_string Tryd.underlying9 he
    rw [k0]
    have hz' : s = z0.data.toList ∧ q = [] := by simpa using hz
    rw [hz'.1]
  have h0 := key 0 [] (by decide) rfl
  have h1 := key 1 [123, 125] (by decide) rfl
  have h2 := key 2 [91, 93] (by decide) rfl
  obtain ⟨tt, fr, hh⟩ := var_cells hg hvar
  refine ⟨tt, fr, ?_⟩
  rw [hh]
  have hcs : cs.toList = [.string brA, .string brB, .string brC] := by
    match hc : cs.toList, hlen with
    | [a, b, c], _ =>
      rw [hc] at h0 h1 h2
      simp at h0 h1 h2
      rw [h0, h1, h2]
      rfl
  have : cs = #[.string brA, .string brB, .string brC] := Array.toList_inj.1 hcs
  rw [this]
section
variable {H : Type} {enc : TypeId × Value → H} {W : World}
theorem bulk_pos (d : DataW H) : 1 ≤ Rows.uptoBulk d := by
  cases d with
  | lit l => cases l <;> simp [Rows.uptoBulk]
  | _ => simp [Rows.uptoBulk]
theorem bulk_mem {d : DataW H} : ∀ {l : List (DataW H)}, d ∈ l → Rows.uptoBulk d ≤ Rows.uptoBulkAll l
  | x :: l, h => by
    rcases List.mem_cons.1 h with rfl | h
    · simp only [Rows.uptoBulkAll]; omega
    · have := bulk_mem h
      simp only [Rows.uptoBulkAll]; omega
theorem und_kids : Tryd.prog.underlying 22 = some (.slice 24) := by kernel_rfl
/-- Trees one after the other, by what each is. -/
def foOf : List (Int × Int × Int × Fo) → Fo
  | [] => nil
  | x :: l => cons x.1 x.2.1 x.2.2.1 x.2.2.2 (foOf l)
theorem foOf_len : ∀ l, (foOf l).len = l.length
  | [] => rfl
  | _ :: l => by simp [foOf, len, foOf_len l]
theorem fo_at {b off : Nat} : ∀ (l : List (Int × Int × Int × Fo)) (i : Nat), (∀ j (h : j < l.length), ∃ kv, W.cell? ⟨b, off + (i + j) * 4, none⟩ = some (.int .i64 l[j].1) ∧ W.cell? ⟨b, off + (i + j) * 4 + 1, none⟩ = some (.int .i64 l[j].2.1) ∧ W.cell? ⟨b, off + (i + j) * 4 + 2, none⟩ = some (.int .i64 l[j].2.2.1) ∧ W.cell? ⟨b, off + (i + j) * 4 + 3, none⟩ = some kv ∧ KAt W kv l[j].2.2.2) → FoAt W (foOf l) b (off + i * 4)
  | [], _, _ => trivial
  | x :: l, i, h => by
    obtain ⟨kv, h0, h1, h2, h3, ⟨a, c, rfl, hc, hk⟩⟩ := h 0 (by simp)
    refine ⟨⟨a, c, h0, h1, h2, h3, hc, hk⟩, ?_⟩
    have := fo_at l (i + 1) (fun j hj => by
      have := h (j + 1) (by simpa using hj)
      rw [show i + 1 + j = i + (j + 1) by omega]
      simpa using this)
    rwa [show off + i * 4 + 4 = off + (i + 1) * 4 by omega]
theorem fo_cnt (D : Nat → DataW H) (f : Nat → Int × Int × Int × Fo) : ∀ (L : List Nat), (∀ i ∈ L, (f i).2.2.2.cnt + 1 ≤ Rows.uptoBulk (D i)) → (foOf (L.map f)).cnt ≤ Rows.uptoBulkAll (L.map D)
  | [], _ => Nat.zero_le _
  | i :: L, h => by
    have h1 := h i (by simp)
    have h2 := fo_cnt D f L (fun j hj => h j (by simp [hj]))
    simp only [List.map_cons, foOf, cnt, Rows.uptoBulkAll]
    omega
instance : Inhabited (Int × Int × Int × Fo) := ⟨(0, 0, 0, nil)⟩
set_option maxRecDepth 100000 in
theorem open_tree : ∀ (N fuel : Nat) (cs : List Value) (y : DataW H × List MemPlace), Rows.uptoBulk y.1 ≤ N → DataW.trod enc Tryd.prog W 0 (fun _ => true) true fuel 24 cs = some y →
    ∃ (wy pn sz : Int) (kv : Value) (ks : Fo), cs = [.int .i64 wy, .int .i64 pn, .int .i64 sz, kv] ∧ KAt W kv ks ∧ ks.cnt + 1 ≤ Rows.uptoBulk y.1 ∧ (-9223372036854775808 ≤ wy ∧ wy ≤ 9223372036854775807) ∧ (-9223372036854775808 ≤ pn ∧ pn ≤ 9223372036854775807) ∧ (-9223372036854775808 ≤ sz ∧ sz ≤ 9223372036854775807)
  | 0, _, _, y, hN, _ => by have := bulk_pos y.1; omega
  | N + 1, fuel, cs, y, hN, h => by
    obtain ⟨y0, y1, y2, y3, n, hy, hl, e0, e1, e2, e3⟩ := Joins.trod_struct4 Tryd.underlying24 h
    rw [show Tryd.prog.cellsOf 24 = 4 by kernel_rfl] at hl
    match cs, hl with
    | [c0, c1, c2, c3], _ =>
      simp only [show Tryd.prog.cellsOf 3 = 1 by kernel_rfl, show Tryd.prog.cellsOf 22 = 1 by kernel_rfl] at e0 e1 e2 e3
      obtain ⟨wy, k0, _, w0⟩ := DataW.trod_int Tryd.underlying3 e0
      obtain ⟨pn, k1, _, w1⟩ := DataW.trod_int Tryd.underlying3 e1
      obtain ⟨sz, k2, _, w2⟩ := DataW.trod_int Tryd.underlying3 e2
      obtain rfl : c0 = _ := by simpa using k0
      obtain rfl : c1 = _ := by simpa using k1
      obtain rfl : c2 = _ := by simpa using k2
      have hb : Rows.uptoBulk y.1 = Rows.uptoBulk y0.1 + (Rows.uptoBulk y1.1 + (Rows.uptoBulk y2.1 + (Rows.uptoBulk y3.1 + 0))) + 1 := by
        rw [hy]
        simp only [Rows.uptoBulk, Rows.uptoBulkAll]
      have p0 := bulk_pos y0.1
      have in64 : ∀ {x : Int}, (Lit.int .i64 x).wf = true → -9223372036854775808 ≤ x ∧ x ≤ 9223372036854775807 := fun h => by
        have q1 : IntKind.i64.min = -9223372036854775808 := rfl
        have q2 : IntKind.i64.max = 9223372036854775807 := rfl
        simpa [Lit.wf, q1, q2] using h
      have e3' : DataW.trod enc Tryd.prog W 0 (fun _ => true) true n 22 [c3] = some y3 := by simpa using e3
      rcases Deep.open_slice und_kids e3' with ⟨hcs, _⟩ | ⟨a, lenn, cap, m, n', D, Pl, hcs, _, hle, hm, hmm, hx', hx⟩
      · simp at hcs
        subst hcs
        refine ⟨wy, pn, sz, _, nil, rfl, KAt.nil W, ?_, in64 w0, in64 w1, in64 w2⟩
        simp only [cnt]; omega
      · simp at hcs
        subst hcs
        simp only [if_true] at hmm
        rw [show Tryd.prog.cellsOf 24 = 4 by kernel_rfl] at hx
        have hbs : Rows.uptoBulk y3.1 = Rows.uptoBulkAll ((List.range lenn).map D) + Rows.uptoBulkAll ((List.range (m - lenn)).map fun j => D (lenn + j)) + 1 := by
          rw [hx']
          simp only [Rows.uptoBulk]
        obtain ⟨f, hf⟩ := Deep.choose_lt (α := Int × Int × Int × Fo) (p := fun i x => ∃ kv, (∀ j, j < 4 → W.cell? ((a.add (i * 4)).add j) = ([Value.int .i64 x.1, .int .i64 x.2.1, .int .i64 x.2.2.1, kv])[j]?) ∧ KAt W kv x.2.2.2 ∧ x.2.2.2.cnt + 1 ≤ Rows.uptoBulk (D i)) (n := lenn) (fun i hi => by
          obtain ⟨cs', h1, h2⟩ := hx i (by omega)
          obtain ⟨_, _, hc⟩ := World.cells?_some h1
          have hbm := bulk_mem (show D i ∈ (List.range lenn).map D from List.mem_map.2 ⟨i, List.mem_range.2 hi, rfl⟩)
          obtain ⟨wy', pn', sz', kv', ks', rfl, hk, hcn, _⟩ := open_tree N n' cs' (D i, Pl i) (by show Rows.uptoBulk (D i) ≤ N; omega) h2
          exact ⟨(wy', pn', sz', ks'), kv', hc, hk, hcn⟩)
        have hlen : (foOf ((List.range lenn).map f)).len = lenn := by rw [foOf_len]; simp
        have hcnt := fo_cnt D f (List.range lenn) (fun i hi => (hf i (List.mem_range.1 hi)).choose_spec.2.2)
        refine ⟨wy, pn, sz, _, foOf ((List.range lenn).map f), rfl, ⟨some a, cap, by rw [hlen], by omega, ?_⟩, by omega, in64 w0, in64 w1, in64 w2⟩
        by_cases h0 : lenn = 0
        · subst h0
          exact .inl rfl
        · obtain ⟨b, off, spot⟩ := a
          have hspot : spot = none := by
            obtain ⟨kv, hc, -⟩ := hf 0 (by omega)
            have := hc 0 (by omega)
            simpa [Addr.add] using World.cell?_spot this
          subst hspot
          refine .inr ⟨b, off, rfl, ?_⟩
          have := fo_at (W := W) (b := b) (off := off) ((List.range lenn).map f) 0 (fun j hj => by
            have hj' : j < lenn := by simpa using hj
            obtain ⟨kv, hc, hk, -⟩ := hf j hj'
            have c0 := hc 0 (by omega)
            have c1 := hc 1 (by omega)
            have c2 := hc 2 (by omega)
            have c3 := hc 3 (by omega)
            rw [Addr.add_mid, Addr.add_mid] at c0 c1 c2 c3
            simp only [List.getElem_map, List.getElem_range, Nat.zero_add]
            exact ⟨kv, c0, c1, c2, c3, hk⟩)
          simpa using this
set_option maxRecDepth 100000 in
theorem open_split {r : Reach} {b0 : Nat} {v : Value} {d : DataW H} {p : List MemPlace} (hv : Value.okWide Tryd.prog W r b0 24 v) (h : DataW.Trod enc Tryd.prog W 0 (fun _ => true) true 24 v d p) :
    ∃ (wy pn sz : Int) (kv : Value) (ks : Fo), v = .agg #[.int .i64 wy, .int .i64 pn, .int .i64 sz, kv] ∧ KAt W kv ks ∧ ks.cnt + 1 ≤ Rows.uptoBulk d ∧ (-9223372036854775808 ≤ wy ∧ wy ≤ 9223372036854775807) ∧ (-9223372036854775808 ≤ pn ∧ pn ≤ 9223372036854775807) ∧ (-9223372036854775808 ≤ sz ∧ sz ≤ 9223372036854775807) := by
  obtain ⟨cs, rfl, hsz⟩ := okWide_struct Tryd.underlying24 hv
  obtain ⟨fuel, hf⟩ := h
  obtain ⟨wy, pn, sz, kv, ks, hcs, hk, hc, i1, i2, i3⟩ := open_tree _ fuel _ (d, p) (Nat.le_refl _) hf
  refine ⟨wy, pn, sz, kv, ks, ?_, hk, hc, i1, i2, i3⟩
  have hcs' : cs.toList = [.int .i64 wy, .int .i64 pn, .int .i64 sz, kv] := hcs
  rw [← Array.toArray_toList (xs := cs), hcs']
end
end Spl
end Go.Proofs.YtckkbmgdaplaaaaDoor

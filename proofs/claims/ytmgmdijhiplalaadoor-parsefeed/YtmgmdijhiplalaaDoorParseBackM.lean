/- Plain mathematics: the bytes of an event; what is told of them, and where the reader is then. -/
import Derived.Test.YtmgmdijhiplalaaDoorParseEqual
import Derived.Lib.RuneBytes
import Derived.Lib.ItoaLen
namespace Go.Proofs.YtmgmdijhiplalaaDoor
namespace Prs
/-- Numbers in digits, with a semicolon ahead of each but the first; -1: none. -/
def numT (n : Int) : List UInt8 := if n = -1 then [] else Lib.itoa n
def psL : Bool → List Int → List UInt8
  | _, [] => []
  | true, x :: l => numT x ++ psL false l
  | false, x :: l => 59 :: (numT x ++ psL false l)
def markL (m : Int) : List UInt8 := if m = 0 then [] else [m.toNat.toUInt8]
def evB (e : Ev) : List UInt8 :=
  if e.kind = 1 then Lib.encodeRune e.r
  else if e.kind = 2 then [(e.r % 256).toNat.toUInt8]
  else if e.kind = 3 then 27 :: (e.mid.data.toList ++ [e.fin.toNat.toUInt8])
  else if e.kind = 4 then 27 :: 91 :: (markL e.mark ++ psL true e.ps ++ e.mid.data.toList ++ [e.fin.toNat.toUInt8])
  else if e.kind = 5 then 27 :: 93 :: (e.txt.data.toList ++ [7])
  else []
theorem byteN (n : Nat) (h : n < 256) : (n.toUInt8).toNat = n := by
  rw [Nat.toUInt8, UInt8.toNat_ofNat']; omega
/- The reader in its ground, with bytes that wait. -/
def gnd (D : ByteArray) : St := { bare 0 with left := D }
theorem take_gnd (D : ByteArray) (x : UInt8) (hx : isCtl x = false) : take (gnd D) x = ({ bare 0 with left := (drain (D ++ one x).size (D ++ one x)).2 }, (drain (D ++ one x).size (D ++ one x)).1) := by
  have hw : woken (gnd D) x = gnd D := rfl
  unfold take
  rw [hw, hx, if_neg (by simp)]
  rfl
theorem gnd_wait (D : ByteArray) (x : UInt8) (hx : isCtl x = false) (hf : full (D ++ one x) = false) : take (gnd D) x = (gnd (D ++ one x), []) := by
  rw [take_gnd D x hx, drain_stop _ _ hf]
  rfl
theorem extract_all (D : ByteArray) : D.extract D.size D.size = nt := by
  apply ByteArray.ext
  rw [ByteArray.data_extract]
  show D.data.extract D.data.size D.data.size = #[]
  simp
theorem gnd_done (D : ByteArray) (x : UInt8) (r : Nat) (hx : isCtl x = false) (hf : full (D ++ one x) = true) (hd : Lib.decodeGo (D ++ one x) = (r, (D ++ one x).size)) : take (gnd D) x = (bare 0, [evP r]) := by
  rw [take_gnd D x hx]
  have hs : (D ++ one x).size = D.size + 1 := snoc_size D x
  have e : drain (D ++ one x).size (D ++ one x) = ([evP r], nt) := by
    rw [show drain (D ++ one x).size (D ++ one x) = drain (D.size + 1) (D ++ one x) by rw [hs], drain_go _ _ hf, hd]
    simp only [extract_all]
    have h0 : full nt = false := rfl
    rw [drain_stop _ _ h0]
  rw [e]
  rfl
theorem high_ctl (x : UInt8) (h : 128 ≤ x.toNat) : isCtl x = false := by
  simp [isCtl]
  omega
theorem fullB (l : List UInt8) : full ⟨l.toArray⟩ = if l.length = 0 then false else fullN l.length (l.getD 0 0).toNat (l.getD 1 0).toNat (l.getD 2 0).toNat := by
  have e : ∀ k, (ByteArray.get! ⟨l.toArray⟩ k) = l.getD k 0 := fun k => by
    show l.toArray[k]! = _
    rw [getElem!_def, List.getElem?_toArray, List.getD_eq_getElem?_getD]
    cases l[k]? <;> rfl
  unfold full
  rw [e, e, e]
  rfl
theorem decB (l : List UInt8) (h : l ≠ []) : Lib.decodeGo ⟨l.toArray⟩ = Lib.decodeN l.length (l.getD 0 0).toNat (l.getD 1 0).toNat (l.getD 2 0).toNat (l.getD 3 0).toNat := by
  have e : ∀ k, (ByteArray.get! ⟨l.toArray⟩ k) = l.getD k 0 := fun k => by
    show l.toArray[k]! = _
    rw [getElem!_def, List.getElem?_toArray, List.getD_eq_getElem?_getD]
    cases l[k]? <;> rfl
  have hs : (ByteArray.size ⟨l.toArray⟩) = l.length := rfl
  have h0 : ByteArray.size ⟨l.toArray⟩ ≠ 0 := by rw [hs]; exact fun e => h (List.eq_nil_of_length_eq_zero e)
  rw [show Lib.decodeGo ⟨l.toArray⟩ = Utf8.decode ⟨l.toArray⟩ 0 from if_neg h0, Lib.decode_at]
  simp only [Nat.zero_add, Nat.sub_zero, e, hs]
theorem snocB (l : List UInt8) (x : UInt8) : (⟨l.toArray⟩ : ByteArray) ++ one x = ⟨(l ++ [x]).toArray⟩ := by
  apply ByteArray.ext
  simp [one]
/-- A rune that is encoded is told, and nothing waits. -/
theorem feed_rune (x0 : UInt8) (l : List UInt8) (r n : Nat) (h0 : 128 ≤ x0.toNat) (hl : ∀ x, x ∈ l → 128 ≤ x.toNat) (hn : l.length + 1 = n)
    (hfull : ∀ k, 1 ≤ k → k < n → full ⟨((x0 :: l).take k).toArray⟩ = false) (hend : full ⟨(x0 :: l).toArray⟩ = true) (hdec : Lib.decodeGo ⟨(x0 :: l).toArray⟩ = (r, n)) (hn2 : 2 ≤ n) : feed (bare 0) (x0 :: l) = (bare 0, [evP r]) := by
  have key : ∀ (m : List UInt8) (D : List UInt8), D ++ m = x0 :: l → (∀ x, x ∈ m → 128 ≤ x.toNat) → 1 ≤ D.length → m ≠ [] → feed (gnd ⟨D.toArray⟩) m = (bare 0, [evP r]) := by
    intro m
    induction m with
    | nil => intro D _ _ _ h; exact absurd rfl h
    | cons y m ih =>
      intro D hD hm hDl _
      have hy := high_ctl y (hm y (by simp))
      by_cases hmn : m = []
      · subst hmn
        have e : (⟨D.toArray⟩ : ByteArray) ++ one y = ⟨(x0 :: l).toArray⟩ := by rw [snocB, hD]
        have hs : ((⟨D.toArray⟩ : ByteArray) ++ one y).size = n := by
          rw [e]
          show (x0 :: l).length = n
          rw [List.length_cons]; omega
        show ((feed (take (gnd ⟨D.toArray⟩) y).1 []).1, (take (gnd ⟨D.toArray⟩) y).2 ++ (feed (take (gnd ⟨D.toArray⟩) y).1 []).2) = _
        rw [gnd_done _ y r hy (by rw [e]; exact hend) (by rw [hs, e]; exact hdec)]
        rfl
      · have hlen : (x0 :: l).length = n := by rw [List.length_cons]; omega
        have hDm : D.length + (m.length + 1) = n := by rw [← hlen, ← hD]; simp
        have hmpos : 0 < m.length := List.length_pos_iff.2 hmn
        have e : (⟨D.toArray⟩ : ByteArray) ++ one y = ⟨((x0 :: l).take (D.length + 1)).toArray⟩ := by
          rw [snocB, ← hD]
          congr 2
          rw [show D ++ y :: m = (D ++ [y]) ++ m by simp]
          rw [List.take_left' (by simp)]
        show ((feed (take (gnd ⟨D.toArray⟩) y).1 m).1, (take (gnd ⟨D.toArray⟩) y).2 ++ (feed (take (gnd ⟨D.toArray⟩) y).1 m).2) = _
        rw [gnd_wait _ y hy (by rw [e]; exact hfull _ (by omega) (by omega)), snocB]
        have := ih (D ++ [y]) (by simp [hD]) (fun x hx => hm x (by simp [hx])) (by simp) hmn
        simp only [this, List.nil_append]
  have h1 : take (bare 0) x0 = (gnd ⟨[x0].toArray⟩, []) := by
    have := gnd_wait nt x0 (high_ctl x0 h0) (by
      have := hfull 1 (Nat.le_refl _) (by omega)
      rw [show nt ++ one x0 = ⟨((x0 :: l).take 1).toArray⟩ by apply ByteArray.ext; simp [nt, one]]
      exact this)
    rw [show nt ++ one x0 = ⟨[x0].toArray⟩ by apply ByteArray.ext; simp [nt, one]] at this
    exact this
  show ((feed (take (bare 0) x0).1 l).1, (take (bare 0) x0).2 ++ (feed (take (bare 0) x0).1 l).2) = _
  rw [h1]
  have hln : l ≠ [] := by
    intro e
    rw [e] at hn
    simp at hn
    omega
  simp only [key l [x0] rfl hl (by simp) hln, List.nil_append]
end Prs
end Go.Proofs.YtmgmdijhiplalaaDoor

/- The walk of the law KeysCuts. -/
import Derived.Test.YtjilgapoioploaaDoorKeysApp
namespace Go.Proofs.YtjilgapoioploaaDoor
open Go.ChangeShapes Go.WideShapes Go.ChangeAt Go.RowKit
namespace Kys
open Txt (wd bs dec)
set_option maxHeartbeats 4000000 in
set_option maxRecDepth 100000 in
theorem cuts_many (s : ByteArray) (at' : Int) (last : Bool) (w : World) (hE : Env w) (hs : 4000 < s.size) : Calls Tryd.prog 7 #[.string s, .int .i64 at', .bool last] w fun e w' => e = .returned (.bool true) ∧ Below w.heap.size w w' := by
  have HRd := read_many s last hs w
  have HEV : Hid (∀ W, Below w.heap.size w W → Env W) := fun W h => hE.below h
  clear hE hs
  go_enter Tryd.func7, Tryd.ntmps7
  go_wp2_with (go_at_call 13; refine HRd.mono ?_; rintro e W1 ⟨rfl, b1⟩; have HS1 := struck_any W1 (HEV.out W1 b1))
  refine HS1.mono ?_
  rintro e W2 ⟨rfl, b2⟩
  have k2 := b1.trans (b2.mono b1.size)
  have HS2 := struck_any W2 (HEV.out W2 k2)
  clear HS1 HRd
  go_wp2_with fail
  refine HS2.mono ?_
  rintro e W3 ⟨rfl, b3⟩
  go_wp2_with fail
  go_ret
  exact ⟨rfl, k2.trans (b3.mono k2.size)⟩
theorem bs_app (l : List UInt8) (b : ByteArray) : (bs l ++ b).data.toList = l ++ b.data.toList := by simp [bs, ByteArray.data_append]
attribute [local go_sem ↓] app_go
set_option maxHeartbeats 8000000 in
set_option maxRecDepth 100000 in
theorem cuts_at (s : ByteArray) (at' : Int) (m : Nat) (last : Bool) (w : World) (hE : Env w) (hs : s.size ≤ 4000) (hm : m ≤ s.size) (ha : at' = (m : Int)) : Calls Tryd.prog 7 #[.string s, .int .i64 at', .bool last] w fun e w' => e = .returned (.bool true) ∧ Below w.heap.size w w' := by
  have HR1 := read_any s last hs w hE
  have HEV : Hid (∀ W, Below w.heap.size w W → Env W) := fun W h => hE.below h
  have la : (s.extract 0 m).data.toList = s.data.toList.take m := by rw [toL_extract, List.drop_zero]
  have lb : (s.extract m s.size).data.toList = s.data.toList.drop m := ext_drop s m
  have HR2 := fun W (h : Env W) => read_any (s.extract 0 m) false (by rw [ByteArray.size_extract]; omega) W h
  rw [la] at HR2
  have hcut := rd_cut (s.data.toList.take m).length (s.data.toList.take m) (s.data.toList.drop m) last (Nat.le_refl _)
  rw [List.take_append_drop] at hcut
  have hlen := rd_len (s.data.toList.take m).length (s.data.toList.take m) false (Nat.le_refl _)
  have htot := rd_len s.data.toList.length s.data.toList last (Nat.le_refl _)
  rw [size_l] at htot
  rw [List.length_take, size_l] at hlen
  have hlast := fun h : last = true => rd_last s.data.toList.length s.data.toList (Nat.le_refl _)
  obtain ⟨K2, L2, h2⟩ : ∃ K2 L2, rd (s.data.toList.take m) false = (K2, L2) := ⟨_, _, rfl⟩
  rw [h2] at HR2 hcut hlen
  simp only at HR2 hcut hlen
  have hsz : (bs L2 ++ s.extract m s.size).size ≤ 4000 := by rw [ByteArray.size_append, bs_sz, ByteArray.size_extract]; omega
  have HR3 := fun W (h : Env W) => read_any (bs L2 ++ s.extract m s.size) last hsz W h
  rw [bs_app, lb] at HR3
  obtain ⟨K3, L3, h3⟩ : ∃ K3 L3, rd (L2 ++ s.data.toList.drop m) last = (K3, L3) := ⟨_, _, rfl⟩
  rw [h3] at HR3 hcut
  simp only at HR3 hcut
  rw [hcut] at HR1 htot
  simp only at HR1 htot
  have HL : Hid (last = true → L3 = []) := fun h => by
    have := hlast h
    rw [← h, hcut] at this
    exact this
  have hk : (K2 ++ K3).length ≤ 100000 := by omega
  rw [List.length_append] at hk
  have heq : ((bs L3).toList == (bs L3).toList) = true := by simp
  have hc1 : ¬ 9223372036854775807 < (bs L2).size + (s.extract m s.size).size := by rw [ByteArray.size_append] at hsz; omega
  clear la lb hcut hlen hlast h2 h3 hsz htot hE
  subst ha
  have i0 : ¬ (m : Int) < 0 := by omega
  have i1 : ¬ (s.size : Int) < (m : Int) := by omega
  have i2 : (m : Int) ≤ (s.size : Int) := by omega
  have i3 : (0 : Int) ≤ (m : Int) := by omega
  go_enter Tryd.func7, Tryd.ntmps7
  go_wp2_with (go_at_call 13; refine HR1.mono ?_; rintro e W1 ⟨v1, rfl, o1, b1⟩; have HS := struck_any W1 (HEV.out W1 b1))
  refine HS.mono ?_
  rintro e W2 ⟨rfl, b2⟩
  have s1 : KSl W2 v1 (K2 ++ K3) := (OwnK.sl o1).below b2
  have k2 := b1.trans (b2.mono b1.size)
  have HR2 := HR2 W2 (HEV.out W2 k2)
  clear HR1 HS b1 b2 o1
  go_wp2_with fail
  refine HR2.mono ?_
  rintro e W3 ⟨v2, rfl, o2, b3⟩
  have k3 := k2.trans (b3.mono k2.size)
  have HR3 := HR3 W3 (HEV.out W3 k3)
  clear HR2
  go_wp2_with fail
  refine HR3.mono ?_
  rintro e W4 ⟨v3, rfl, o3, b4⟩
  have b34 := b3.trans (b4.mono b3.size)
  have o2 : OwnK W4 W2.heap.size v2 K2 := ownsRow_below o2 b4
  obtain ⟨x', W5, hok, hR, o5, b5⟩ := app_any o2 o3 b34.size hk
  have s5 : KSl W5 v1 (K2 ++ K3) := s1.below (b34.trans b5)
  have k5 := k2.trans ((b34.trans b5).mono k2.size)
  have HEq := equal_any v1 x' (K2 ++ K3) W5 s5 (OwnK.sl o5) (by rw [List.length_append]; omega)
  clear HR3 o2 o3 o5 b3 b4 b34 b5 s1 s5 k2 k3
  cases last
  · go_wp2_with (go_at_call 15; refine HEq.mono ?_; rintro e W6 ⟨rfl, b6⟩)
    go_ret
    exact ⟨rfl, k5.trans (b6.mono k5.size)⟩
  · have he : ((bs L3).toList == []) = true := by rw [beq_iff_eq, Lib.toList_data, bs_list]; exact HL.out rfl
    clear HL
    go_wp2_with (go_at_call 15; refine HEq.mono ?_; rintro e W6 ⟨rfl, b6⟩)
    go_ret
    exact ⟨rfl, k5.trans (b6.mono k5.size)⟩
set_option maxHeartbeats 8000000 in
set_option maxRecDepth 100000 in
theorem cuts_lo (s : ByteArray) (at' : Int) (m : Nat) (last : Bool) (w : World) (hE : Env w) (hs : s.size ≤ 4000) (hm : m ≤ s.size) (hd : m = s.size / 2) (ha : at' < 0) : Calls Tryd.prog 7 #[.string s, .int .i64 at', .bool last] w fun e w' => e = .returned (.bool true) ∧ Below w.heap.size w w' := by
  have HR1 := read_any s last hs w hE
  have HEV : Hid (∀ W, Below w.heap.size w W → Env W) := fun W h => hE.below h
  have la : (s.extract 0 m).data.toList = s.data.toList.take m := by rw [toL_extract, List.drop_zero]
  have lb : (s.extract m s.size).data.toList = s.data.toList.drop m := ext_drop s m
  have HR2 := fun W (h : Env W) => read_any (s.extract 0 m) false (by rw [ByteArray.size_extract]; omega) W h
  rw [la] at HR2
  have hcut := rd_cut (s.data.toList.take m).length (s.data.toList.take m) (s.data.toList.drop m) last (Nat.le_refl _)
  rw [List.take_append_drop] at hcut
  have hlen := rd_len (s.data.toList.take m).length (s.data.toList.take m) false (Nat.le_refl _)
  have htot := rd_len s.data.toList.length s.data.toList last (Nat.le_refl _)
  rw [size_l] at htot
  rw [List.length_take, size_l] at hlen
  have hlast := fun h : last = true => rd_last s.data.toList.length s.data.toList (Nat.le_refl _)
  obtain ⟨K2, L2, h2⟩ : ∃ K2 L2, rd (s.data.toList.take m) false = (K2, L2) := ⟨_, _, rfl⟩
  rw [h2] at HR2 hcut hlen
  simp only at HR2 hcut hlen
  have hsz : (bs L2 ++ s.extract m s.size).size ≤ 4000 := by rw [ByteArray.size_append, bs_sz, ByteArray.size_extract]; omega
  have HR3 := fun W (h : Env W) => read_any (bs L2 ++ s.extract m s.size) last hsz W h
  rw [bs_app, lb] at HR3
  obtain ⟨K3, L3, h3⟩ : ∃ K3 L3, rd (L2 ++ s.data.toList.drop m) last = (K3, L3) := ⟨_, _, rfl⟩
  rw [h3] at HR3 hcut
  simp only at HR3 hcut
  rw [hcut] at HR1 htot
  simp only at HR1 htot
  have HL : Hid (last = true → L3 = []) := fun h => by
    have := hlast h
    rw [← h, hcut] at this
    exact this
  have hk : (K2 ++ K3).length ≤ 100000 := by omega
  rw [List.length_append] at hk
  have heq : ((bs L3).toList == (bs L3).toList) = true := by simp
  have hc1 : ¬ 9223372036854775807 < (bs L2).size + (s.extract m s.size).size := by rw [ByteArray.size_append] at hsz; omega
  clear la lb hcut hlen hlast h2 h3 hsz htot hE
  subst hd
  have i2 : (s.size : Int) / 2 ≤ (s.size : Int) := by omega
  have i3 : (0 : Int) ≤ (s.size : Int) / 2 := by omega
  go_enter Tryd.func7, Tryd.ntmps7
  go_wp2_with (go_at_call 13; refine HR1.mono ?_; rintro e W1 ⟨v1, rfl, o1, b1⟩; have HS := struck_any W1 (HEV.out W1 b1))
  refine HS.mono ?_
  rintro e W2 ⟨rfl, b2⟩
  have s1 : KSl W2 v1 (K2 ++ K3) := (OwnK.sl o1).below b2
  have k2 := b1.trans (b2.mono b1.size)
  have HR2 := HR2 W2 (HEV.out W2 k2)
  clear HR1 HS b1 b2 o1
  go_wp2_with fail
  refine HR2.mono ?_
  rintro e W3 ⟨v2, rfl, o2, b3⟩
  have k3 := k2.trans (b3.mono k2.size)
  have HR3 := HR3 W3 (HEV.out W3 k3)
  clear HR2
  go_wp2_with fail
  refine HR3.mono ?_
  rintro e W4 ⟨v3, rfl, o3, b4⟩
  have b34 := b3.trans (b4.mono b3.size)
  have o2 : OwnK W4 W2.heap.size v2 K2 := ownsRow_below o2 b4
  obtain ⟨x', W5, hok, hR, o5, b5⟩ := app_any o2 o3 b34.size hk
  have s5 : KSl W5 v1 (K2 ++ K3) := s1.below (b34.trans b5)
  have k5 := k2.trans ((b34.trans b5).mono k2.size)
  have HEq := equal_any v1 x' (K2 ++ K3) W5 s5 (OwnK.sl o5) (by rw [List.length_append]; omega)
  clear HR3 o2 o3 o5 b3 b4 b34 b5 s1 s5 k2 k3
  cases last
  · go_wp2_with (go_at_call 15; refine HEq.mono ?_; rintro e W6 ⟨rfl, b6⟩)
    go_ret
    exact ⟨rfl, k5.trans (b6.mono k5.size)⟩
  · have he : ((bs L3).toList == []) = true := by rw [beq_iff_eq, Lib.toList_data, bs_list]; exact HL.out rfl
    clear HL
    go_wp2_with (go_at_call 15; refine HEq.mono ?_; rintro e W6 ⟨rfl, b6⟩)
    go_ret
    exact ⟨rfl, k5.trans (b6.mono k5.size)⟩
set_option maxHeartbeats 8000000 in
set_option maxRecDepth 100000 in
theorem cuts_hi (s : ByteArray) (at' : Int) (m : Nat) (last : Bool) (w : World) (hE : Env w) (hs : s.size ≤ 4000) (hm : m ≤ s.size) (hd : m = s.size / 2) (ha : (s.size : Int) < at') : Calls Tryd.prog 7 #[.string s, .int .i64 at', .bool last] w fun e w' => e = .returned (.bool true) ∧ Below w.heap.size w w' := by
  have HR1 := read_any s last hs w hE
  have HEV : Hid (∀ W, Below w.heap.size w W → Env W) := fun W h => hE.below h
  have la : (s.extract 0 m).data.toList = s.data.toList.take m := by rw [toL_extract, List.drop_zero]
  have lb : (s.extract m s.size).data.toList = s.data.toList.drop m := ext_drop s m
  have HR2 := fun W (h : Env W) => read_any (s.extract 0 m) false (by rw [ByteArray.size_extract]; omega) W h
  rw [la] at HR2
  have hcut := rd_cut (s.data.toList.take m).length (s.data.toList.take m) (s.data.toList.drop m) last (Nat.le_refl _)
  rw [List.take_append_drop] at hcut
  have hlen := rd_len (s.data.toList.take m).length (s.data.toList.take m) false (Nat.le_refl _)
  have htot := rd_len s.data.toList.length s.data.toList last (Nat.le_refl _)
  rw [size_l] at htot
  rw [List.length_take, size_l] at hlen
  have hlast := fun h : last = true => rd_last s.data.toList.length s.data.toList (Nat.le_refl _)
  obtain ⟨K2, L2, h2⟩ : ∃ K2 L2, rd (s.data.toList.take m) false = (K2, L2) := ⟨_, _, rfl⟩
  rw [h2] at HR2 hcut hlen
  simp only at HR2 hcut hlen
  have hsz : (bs L2 ++ s.extract m s.size).size ≤ 4000 := by rw [ByteArray.size_append, bs_sz, ByteArray.size_extract]; omega
  have HR3 := fun W (h : Env W) => read_any (bs L2 ++ s.extract m s.size) last hsz W h
  rw [bs_app, lb] at HR3
  obtain ⟨K3, L3, h3⟩ : ∃ K3 L3, rd (L2 ++ s.data.toList.drop m) last = (K3, L3) := ⟨_, _, rfl⟩
  rw [h3] at HR3 hcut
  simp only at HR3 hcut
  rw [hcut] at HR1 htot
  simp only at HR1 htot
  have HL : Hid (last = true → L3 = []) := fun h => by
    have := hlast h
    rw [← h, hcut] at this
    exact this
  have hk : (K2 ++ K3).length ≤ 100000 := by omega
  rw [List.length_append] at hk
  have heq : ((bs L3).toList == (bs L3).toList) = true := by simp
  have hc1 : ¬ 9223372036854775807 < (bs L2).size + (s.extract m s.size).size := by rw [ByteArray.size_append] at hsz; omega
  clear la lb hcut hlen hlast h2 h3 hsz htot hE
  have i0 : ¬ at' < 0 := by omega
  subst hd
  have i2 : (s.size : Int) / 2 ≤ (s.size : Int) := by omega
  have i3 : (0 : Int) ≤ (s.size : Int) / 2 := by omega
  go_enter Tryd.func7, Tryd.ntmps7
  go_wp2_with (go_at_call 13; refine HR1.mono ?_; rintro e W1 ⟨v1, rfl, o1, b1⟩; have HS := struck_any W1 (HEV.out W1 b1))
  refine HS.mono ?_
  rintro e W2 ⟨rfl, b2⟩
  have s1 : KSl W2 v1 (K2 ++ K3) := (OwnK.sl o1).below b2
  have k2 := b1.trans (b2.mono b1.size)
  have HR2 := HR2 W2 (HEV.out W2 k2)
  clear HR1 HS b1 b2 o1
  go_wp2_with fail
  refine HR2.mono ?_
  rintro e W3 ⟨v2, rfl, o2, b3⟩
  have k3 := k2.trans (b3.mono k2.size)
  have HR3 := HR3 W3 (HEV.out W3 k3)
  clear HR2
  go_wp2_with fail
  refine HR3.mono ?_
  rintro e W4 ⟨v3, rfl, o3, b4⟩
  have b34 := b3.trans (b4.mono b3.size)
  have o2 : OwnK W4 W2.heap.size v2 K2 := ownsRow_below o2 b4
  obtain ⟨x', W5, hok, hR, o5, b5⟩ := app_any o2 o3 b34.size hk
  have s5 : KSl W5 v1 (K2 ++ K3) := s1.below (b34.trans b5)
  have k5 := k2.trans ((b34.trans b5).mono k2.size)
  have HEq := equal_any v1 x' (K2 ++ K3) W5 s5 (OwnK.sl o5) (by rw [List.length_append]; omega)
  clear HR3 o2 o3 o5 b3 b4 b34 b5 s1 s5 k2 k3
  cases last
  · go_wp2_with (go_at_call 15; refine HEq.mono ?_; rintro e W6 ⟨rfl, b6⟩)
    go_ret
    exact ⟨rfl, k5.trans (b6.mono k5.size)⟩
  · have he : ((bs L3).toList == []) = true := by rw [beq_iff_eq, Lib.toList_data, bs_list]; exact HL.out rfl
    clear HL
    go_wp2_with (go_at_call 15; refine HEq.mono ?_; rintro e W6 ⟨rfl, b6⟩)
    go_ret
    exact ⟨rfl, k5.trans (b6.mono k5.size)⟩
theorem keysCuts_walk (s : ByteArray) (at' : Int) (last : Bool) (w : World) (hE : Env w) : Calls Tryd.prog 7 #[.string s, .int .i64 at', .bool last] w fun e w' => e = .returned (.bool true) ∧ Below w.heap.size w w' := by
  by_cases hs : s.size ≤ 4000
  · by_cases h0 : at' < 0
    · exact cuts_lo s at' (s.size / 2) last w hE hs (by omega) rfl h0
    · by_cases h1 : (s.size : Int) < at'
      · exact cuts_hi s at' (s.size / 2) last w hE hs (by omega) rfl h1
      · exact cuts_at s at' at'.toNat last w hE hs (by omega) (by omega)
  · exact cuts_many s at' last w hE (by omega)
end Kys
end Go.Proofs.YtjilgapoioploaaDoor

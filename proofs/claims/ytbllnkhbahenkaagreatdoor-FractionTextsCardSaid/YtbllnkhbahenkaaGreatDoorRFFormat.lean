/- The reference's Format of a fraction: no claim of its own. -/
import Derived.Test.YtbllnkhbahenkaaGreatDoorFFormat
import Derived.Test.YtbllnkhbahenkaaGreatDoorRFormat
namespace Go.Proofs.YtbllnkhbahenkaaGreatDoor
open Go.RowKit
set_option maxRecDepth 100000 in
set_option maxHeartbeats 1000000 in
theorem rff_false_one (A B : Option Addr) (n c m d p q i : Nat) (xs ys : List Nat) (w : World) (hx : Num w A n c xs p) (hy : Num w B m d ys q) (pp : p < 4294967296 ^ i) (pq : q < 4294967296 ^ i) (hi : i ≤ 900000) (h1 : q = 1) :
    Calls Tryz.prog 10 #[.agg #[.bool false, .slice A n c, .slice B m d]] w (GivesFT false p q w) := by
  have hm : m = 1 := by
    have h2 := hy.len_le (k := 1) (by rw [h1]; decide)
    have h3 := hy.npos (by omega)
    omega
  have B0 := Lib.hid ((Below.refl w.heap.size w).alloc (Nat.le_refl _) (.cells #[.bool false, .slice A n c, .slice B m d] 25))
  have H0 := Lib.hid (FB.new w false A n c B m d)
  have X0 := Lib.hid (hx.keep B0.out)
  have Y0 := Lib.hid (hy.keep B0.out)
  have hnn : Hid (n ≤ 1000000) := Lib.hid (hx.sh pp (by omega))
  have hmm : Hid (m ≤ 1000000) := Lib.hid (hy.sh pq (by omega))
  have hi2 : i ≤ 900000 := hi
  have PP := Lib.hid pp
  have PQ := Lib.hid pq
  have H1 := Lib.hid h1
  have e : ((q : Int) == 1) = true := beq_iff_eq.2 (by omega)
  subst hm
  clear hx hy pp pq hi h1
  go_enter Tryz.func10, Tryz.ntmps10
  obtain ⟨Ha, Hb, Hc, _, _, _⟩ := H0.out.facts
  go_wp2_with fail
  refine (rformat_any _ _ _ _ _ _ X0.out hnn.out).mono ?_
  rintro e w1 ⟨s, rfl, hs, hb⟩
  have hsz := text_size hs PP.out
  have HS := Lib.hid hs
  have H2 := Lib.hid (H0.out.keep hb)
  have Y1 := Lib.hid (Y0.out.keep hb)
  have B1 := Lib.hid (B0.out.trans (hb.mono B0.out.size))
  clear hs hb X0 Y0 B0 H0 Ha Hb Hc
  obtain ⟨Ha, Hb, Hc, _, _, _⟩ := H2.out.facts
  obtain ⟨ad, rfl, _, hc⟩ := Y1.out.toLst.at_ (k := 0) (by omega)
  rw [Y1.out.one, add_zero_] at hc
  simp only [List.getD_cons_zero] at hc
  have hc1 := Y1.out.cap
  go_wp2
  go_ret
  refine ⟨_, rfl, ⟨s.data.toList, [], HS.out, fun h => absurd H1.out h, ?_⟩, B1.out⟩
  rw [if_pos H1.out]
  simp
set_option maxRecDepth 100000 in
set_option maxHeartbeats 1000000 in
theorem rff_false_same (A B : Option Addr) (n c m d p q i : Nat) (xs ys : List Nat) (w : World) (hx : Num w A n c xs p) (hy : Num w B m d ys q) (pp : p < 4294967296 ^ i) (pq : q < 4294967296 ^ i) (hi : i ≤ 900000) (hm : m = 1) (h1 : q ≠ 1) :
    Calls Tryz.prog 10 #[.agg #[.bool false, .slice A n c, .slice B m d]] w (GivesFT false p q w) := by
  have B0 := Lib.hid ((Below.refl w.heap.size w).alloc (Nat.le_refl _) (.cells #[.bool false, .slice A n c, .slice B m d] 25))
  have H0 := Lib.hid (FB.new w false A n c B m d)
  have X0 := Lib.hid (hx.keep B0.out)
  have Y0 := Lib.hid (hy.keep B0.out)
  have hnn : Hid (n ≤ 1000000) := Lib.hid (hx.sh pp (by omega))
  have hmm : Hid (m ≤ 1000000) := Lib.hid (hy.sh pq (by omega))
  have hi2 : i ≤ 900000 := hi
  have PP := Lib.hid pp
  have PQ := Lib.hid pq
  have H1 := Lib.hid h1
  have e : ((q : Int) == 1) = false := beq_eq_false_iff_ne.2 (by omega)
  subst hm
  clear hx hy pp pq hi h1
  go_enter Tryz.func10, Tryz.ntmps10
  obtain ⟨Ha, Hb, Hc, _, _, _⟩ := H0.out.facts
  go_wp2_with fail
  refine (rformat_any _ _ _ _ _ _ X0.out hnn.out).mono ?_
  rintro e w1 ⟨s, rfl, hs, hb⟩
  have hsz := text_size hs PP.out
  have HS := Lib.hid hs
  have H2 := Lib.hid (H0.out.keep hb)
  have Y1 := Lib.hid (Y0.out.keep hb)
  have B1 := Lib.hid (B0.out.trans (hb.mono B0.out.size))
  clear hs hb X0 Y0 B0 H0 Ha Hb Hc
  obtain ⟨Ha, Hb, Hc, _, _, _⟩ := H2.out.facts
  obtain ⟨ad, rfl, _, hc⟩ := Y1.out.toLst.at_ (k := 0) (by omega)
  rw [Y1.out.one, add_zero_] at hc
  simp only [List.getD_cons_zero] at hc
  have hc1 := Y1.out.cap
  go_wp2_with fail
  refine (rformat_any _ _ _ _ _ _ Y1.out hmm.out).mono ?_
  rintro e w2 ⟨t, rfl, ht, hb⟩
  have hts := text_size ht PQ.out
  have HT := Lib.hid ht
  have B2 := Lib.hid (B1.out.trans (hb.mono B1.out.size))
  clear ht hb B1 Ha Hb Hc
  go_wp2
  go_ret
  refine ⟨_, rfl, ⟨s.data.toList, t.data.toList, HS.out, fun _ => HT.out, ?_⟩, B2.out⟩
  rw [if_neg H1.out]
  simp [Array.toList_append]
set_option maxRecDepth 100000 in
set_option maxHeartbeats 1000000 in
theorem rff_false_more (A B : Option Addr) (n c m d p q i : Nat) (xs ys : List Nat) (w : World) (hx : Num w A n c xs p) (hy : Num w B m d ys q) (pp : p < 4294967296 ^ i) (pq : q < 4294967296 ^ i) (hi : i ≤ 900000) (hm : m ≠ 1) (h1 : q ≠ 1) :
    Calls Tryz.prog 10 #[.agg #[.bool false, .slice A n c, .slice B m d]] w (GivesFT false p q w) := by
  have B0 := Lib.hid ((Below.refl w.heap.size w).alloc (Nat.le_refl _) (.cells #[.bool false, .slice A n c, .slice B m d] 25))
  have H0 := Lib.hid (FB.new w false A n c B m d)
  have X0 := Lib.hid (hx.keep B0.out)
  have Y0 := Lib.hid (hy.keep B0.out)
  have hnn : Hid (n ≤ 1000000) := Lib.hid (hx.sh pp (by omega))
  have hmm : Hid (m ≤ 1000000) := Lib.hid (hy.sh pq (by omega))
  have hi2 : i ≤ 900000 := hi
  have PP := Lib.hid pp
  have PQ := Lib.hid pq
  have H1 := Lib.hid h1
  have hz : ((m : Int) == 1) = false := beq_eq_false_iff_ne.2 (by omega)
  clear hx hy pp pq hi h1 hm
  go_enter Tryz.func10, Tryz.ntmps10
  obtain ⟨Ha, Hb, Hc, _, _, _⟩ := H0.out.facts
  go_wp2_with fail
  refine (rformat_any _ _ _ _ _ _ X0.out hnn.out).mono ?_
  rintro e w1 ⟨s, rfl, hs, hb⟩
  have hsz := text_size hs PP.out
  have HS := Lib.hid hs
  have H2 := Lib.hid (H0.out.keep hb)
  have Y1 := Lib.hid (Y0.out.keep hb)
  have B1 := Lib.hid (B0.out.trans (hb.mono B0.out.size))
  clear hs hb X0 Y0 B0 H0 Ha Hb Hc
  obtain ⟨Ha, Hb, Hc, _, _, _⟩ := H2.out.facts
  go_wp2_with fail
  refine (rformat_any _ _ _ _ _ _ Y1.out hmm.out).mono ?_
  rintro e w2 ⟨t, rfl, ht, hb⟩
  have hts := text_size ht PQ.out
  have HT := Lib.hid ht
  have B2 := Lib.hid (B1.out.trans (hb.mono B1.out.size))
  clear ht hb B1 Ha Hb Hc
  go_wp2
  go_ret
  refine ⟨_, rfl, ⟨s.data.toList, t.data.toList, HS.out, fun _ => HT.out, ?_⟩, B2.out⟩
  rw [if_neg H1.out]
  simp [Array.toList_append]
set_option maxRecDepth 100000 in
set_option maxHeartbeats 1000000 in
theorem rff_true_one (A B : Option Addr) (n c m d p q i : Nat) (xs ys : List Nat) (w : World) (hx : Num w A n c xs p) (hy : Num w B m d ys q) (pp : p < 4294967296 ^ i) (pq : q < 4294967296 ^ i) (hi : i ≤ 900000) (h1 : q = 1) :
    Calls Tryz.prog 10 #[.agg #[.bool true, .slice A n c, .slice B m d]] w (GivesFT true p q w) := by
  have hm : m = 1 := by
    have h2 := hy.len_le (k := 1) (by rw [h1]; decide)
    have h3 := hy.npos (by omega)
    omega
  have B0 := Lib.hid ((Below.refl w.heap.size w).alloc (Nat.le_refl _) (.cells #[.bool true, .slice A n c, .slice B m d] 25))
  have H0 := Lib.hid (FB.new w true A n c B m d)
  have X0 := Lib.hid (hx.keep B0.out)
  have Y0 := Lib.hid (hy.keep B0.out)
  have hnn : Hid (n ≤ 1000000) := Lib.hid (hx.sh pp (by omega))
  have hmm : Hid (m ≤ 1000000) := Lib.hid (hy.sh pq (by omega))
  have hi2 : i ≤ 900000 := hi
  have PP := Lib.hid pp
  have PQ := Lib.hid pq
  have H1 := Lib.hid h1
  have e : ((q : Int) == 1) = true := beq_iff_eq.2 (by omega)
  subst hm
  clear hx hy pp pq hi h1
  go_enter Tryz.func10, Tryz.ntmps10
  obtain ⟨Ha, Hb, Hc, _, _, _⟩ := H0.out.facts
  go_wp2_with fail
  refine (rformat_any _ _ _ _ _ _ X0.out hnn.out).mono ?_
  rintro e w1 ⟨s, rfl, hs, hb⟩
  have hsz := text_size hs PP.out
  have HS := Lib.hid hs
  have H2 := Lib.hid (H0.out.keep hb)
  have Y1 := Lib.hid (Y0.out.keep hb)
  have B1 := Lib.hid (B0.out.trans (hb.mono B0.out.size))
  clear hs hb X0 Y0 B0 H0 Ha Hb Hc
  obtain ⟨Ha, Hb, Hc, _, _, _⟩ := H2.out.facts
  obtain ⟨ad, rfl, _, hc⟩ := Y1.out.toLst.at_ (k := 0) (by omega)
  rw [Y1.out.one, add_zero_] at hc
  simp only [List.getD_cons_zero] at hc
  have hc1 := Y1.out.cap
  go_wp2
  go_ret
  refine ⟨_, rfl, ⟨s.data.toList, [], HS.out, fun h => absurd H1.out h, ?_⟩, B1.out⟩
  rw [if_pos H1.out]
  simp [ByteArray.data_append]
set_option maxRecDepth 100000 in
set_option maxHeartbeats 1000000 in
theorem rff_true_same (A B : Option Addr) (n c m d p q i : Nat) (xs ys : List Nat) (w : World) (hx : Num w A n c xs p) (hy : Num w B m d ys q) (pp : p < 4294967296 ^ i) (pq : q < 4294967296 ^ i) (hi : i ≤ 900000) (hm : m = 1) (h1 : q ≠ 1) :
    Calls Tryz.prog 10 #[.agg #[.bool true, .slice A n c, .slice B m d]] w (GivesFT true p q w) := by
  have B0 := Lib.hid ((Below.refl w.heap.size w).alloc (Nat.le_refl _) (.cells #[.bool true, .slice A n c, .slice B m d] 25))
  have H0 := Lib.hid (FB.new w true A n c B m d)
  have X0 := Lib.hid (hx.keep B0.out)
  have Y0 := Lib.hid (hy.keep B0.out)
  have hnn : Hid (n ≤ 1000000) := Lib.hid (hx.sh pp (by omega))
  have hmm : Hid (m ≤ 1000000) := Lib.hid (hy.sh pq (by omega))
  have hi2 : i ≤ 900000 := hi
  have PP := Lib.hid pp
  have PQ := Lib.hid pq
  have H1 := Lib.hid h1
  have e : ((q : Int) == 1) = false := beq_eq_false_iff_ne.2 (by omega)
  subst hm
  clear hx hy pp pq hi h1
  go_enter Tryz.func10, Tryz.ntmps10
  obtain ⟨Ha, Hb, Hc, _, _, _⟩ := H0.out.facts
  go_wp2_with fail
  refine (rformat_any _ _ _ _ _ _ X0.out hnn.out).mono ?_
  rintro e w1 ⟨s, rfl, hs, hb⟩
  have hsz := text_size hs PP.out
  have HS := Lib.hid hs
  have H2 := Lib.hid (H0.out.keep hb)
  have Y1 := Lib.hid (Y0.out.keep hb)
  have B1 := Lib.hid (B0.out.trans (hb.mono B0.out.size))
  clear hs hb X0 Y0 B0 H0 Ha Hb Hc
  obtain ⟨Ha, Hb, Hc, _, _, _⟩ := H2.out.facts
  obtain ⟨ad, rfl, _, hc⟩ := Y1.out.toLst.at_ (k := 0) (by omega)
  rw [Y1.out.one, add_zero_] at hc
  simp only [List.getD_cons_zero] at hc
  have hc1 := Y1.out.cap
  go_wp2_with fail
  refine (rformat_any _ _ _ _ _ _ Y1.out hmm.out).mono ?_
  rintro e w2 ⟨t, rfl, ht, hb⟩
  have hts := text_size ht PQ.out
  have HT := Lib.hid ht
  have B2 := Lib.hid (B1.out.trans (hb.mono B1.out.size))
  clear ht hb B1 Ha Hb Hc
  go_wp2
  go_ret
  refine ⟨_, rfl, ⟨s.data.toList, t.data.toList, HS.out, fun _ => HT.out, ?_⟩, B2.out⟩
  rw [if_neg H1.out]
  simp [Array.toList_append]
set_option maxRecDepth 100000 in
set_option maxHeartbeats 1000000 in
theorem rff_true_more (A B : Option Addr) (n c m d p q i : Nat) (xs ys : List Nat) (w : World) (hx : Num w A n c xs p) (hy : Num w B m d ys q) (pp : p < 4294967296 ^ i) (pq : q < 4294967296 ^ i) (hi : i ≤ 900000) (hm : m ≠ 1) (h1 : q ≠ 1) :
    Calls Tryz.prog 10 #[.agg #[.bool true, .slice A n c, .slice B m d]] w (GivesFT true p q w) := by
  have B0 := Lib.hid ((Below.refl w.heap.size w).alloc (Nat.le_refl _) (.cells #[.bool true, .slice A n c, .slice B m d] 25))
  have H0 := Lib.hid (FB.new w true A n c B m d)
  have X0 := Lib.hid (hx.keep B0.out)
  have Y0 := Lib.hid (hy.keep B0.out)
  have hnn : Hid (n ≤ 1000000) := Lib.hid (hx.sh pp (by omega))
  have hmm : Hid (m ≤ 1000000) := Lib.hid (hy.sh pq (by omega))
  have hi2 : i ≤ 900000 := hi
  have PP := Lib.hid pp
  have PQ := Lib.hid pq
  have H1 := Lib.hid h1
  have hz : ((m : Int) == 1) = false := beq_eq_false_iff_ne.2 (by omega)
  clear hx hy pp pq hi h1 hm
  go_enter Tryz.func10, Tryz.ntmps10
  obtain ⟨Ha, Hb, Hc, _, _, _⟩ := H0.out.facts
  go_wp2_with fail
  refine (rformat_any _ _ _ _ _ _ X0.out hnn.out).mono ?_
  rintro e w1 ⟨s, rfl, hs, hb⟩
  have hsz := text_size hs PP.out
  have HS := Lib.hid hs
  have H2 := Lib.hid (H0.out.keep hb)
  have Y1 := Lib.hid (Y0.out.keep hb)
  have B1 := Lib.hid (B0.out.trans (hb.mono B0.out.size))
  clear hs hb X0 Y0 B0 H0 Ha Hb Hc
  obtain ⟨Ha, Hb, Hc, _, _, _⟩ := H2.out.facts
  go_wp2_with fail
  refine (rformat_any _ _ _ _ _ _ Y1.out hmm.out).mono ?_
  rintro e w2 ⟨t, rfl, ht, hb⟩
  have hts := text_size ht PQ.out
  have HT := Lib.hid ht
  have B2 := Lib.hid (B1.out.trans (hb.mono B1.out.size))
  clear ht hb B1 Ha Hb Hc
  go_wp2
  go_ret
  refine ⟨_, rfl, ⟨s.data.toList, t.data.toList, HS.out, fun _ => HT.out, ?_⟩, B2.out⟩
  rw [if_neg H1.out]
  simp [Array.toList_append]
theorem rfformat_any (u : Bool) (A B : Option Addr) (n c m d p q i : Nat) (xs ys : List Nat) (w : World) (hx : Num w A n c xs p) (hy : Num w B m d ys q) (pp : p < 4294967296 ^ i) (pq : q < 4294967296 ^ i) (hi : i ≤ 900000) :
    Calls Tryz.prog 10 #[.agg #[.bool u, .slice A n c, .slice B m d]] w (GivesFT u p q w) := by
  by_cases h1 : q = 1
  · cases u
    · exact rff_false_one A B n c m d p q i xs ys w hx hy pp pq hi h1
    · exact rff_true_one A B n c m d p q i xs ys w hx hy pp pq hi h1
  · by_cases hm : m = 1
    · cases u
      · exact rff_false_same A B n c m d p q i xs ys w hx hy pp pq hi hm h1
      · exact rff_true_same A B n c m d p q i xs ys w hx hy pp pq hi hm h1
    · cases u
      · exact rff_false_more A B n c m d p q i xs ys w hx hy pp pq hi hm h1
      · exact rff_true_more A B n c m d p q i xs ys w hx hy pp pq hi hm h1
end Go.Proofs.YtbllnkhbahenkaaGreatDoor

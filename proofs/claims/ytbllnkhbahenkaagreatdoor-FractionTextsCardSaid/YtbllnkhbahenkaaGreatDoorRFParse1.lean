/- The reference's Parse of a fraction, part 1: no claim of its own. -/
import Derived.Test.YtbllnkhbahenkaaGreatDoorRFSplit
import Derived.Test.YtbllnkhbahenkaaGreatDoorRParse
namespace Go.Proofs.YtbllnkhbahenkaaGreatDoor
open Go.RowKit
set_option maxRecDepth 100000 in
set_option maxHeartbeats 2000000 in
theorem rfp_plus_true_kept (s N D : ByteArray) (h : Split s false N true D) (hs : s.size ≤ 1202) (h0 : 0 < s.size) (a c0 p q i : Nat) (b : Bool) (pp : p < 4294967296 ^ i) (pq : q < 4294967296 ^ i) (hi : i ≤ 900000)
    (p1 : ∀ w, Calls Tryz.prog 26 #[.string N] w (GivesParse a 0 w)) (p2 : ∀ w, Calls Tryz.prog 26 #[.string D] w (GivesParse c0 0 w))
    (mk : ∀ (A : Option Addr) (n c : Nat) (xs : List Nat) (B : Option Addr) (m d : Nat) (ys : List Nat) (w : World), Num w A n c xs a → Num w B m d ys c0 → Calls Tryz.prog 27 #[.bool false, .slice A n c, .slice B m d] w (GivesRd b p q 0 w))
    (nq : ∀ t : ByteArray, fText b p q t.data.toList → (t.toList == s.toList) = true) (w : World) :
    Calls Tryz.prog 9 #[.string s] w (GivesFrE ⟨b, p, q⟩ 0 w) := by
  have B0 := Lib.hid ((Below.refl w.heap.size w).alloc (Nat.le_refl _) (.cells #[.bool false, .slice none 0 0, .slice none 0 0] 25))
  have R0 := Lib.hid (FB.new w false none 0 0 none 0 0)
  have P1 := Lib.hid p1
  have P2 := Lib.hid p2
  have MK := Lib.hid mk
  have NQ := Lib.hid nq
  have PP := Lib.hid pp
  have PQ := Lib.hid pq
  have HI := Lib.hid hi
  clear p1 p2 mk nq pp pq hi
  have hz := h.size
  have CL := Lib.hid h.cut_num
  have NA := Lib.hid (fun k hk h1 h2 => h.at_num k hk h1 h2)
  have CR := Lib.hid h.cut_den
  have AS := Lib.hid (fun hk => h.at_slash hk)
  have SG := h.sign h0
  obtain ⟨en, hen⟩ : ∃ en, Bool.toNat false + N.size = en := ⟨_, rfl⟩
  rw [hen] at hz CL NA CR AS
  simp only [Bool.toNat_false, if_true, Bool.false_eq_true, iff_false] at hz CL NA SG
  have hfe : 0 ≤ en := by rw [← hen]; exact Nat.le_add_right _ _
  have hsl : en < s.size := by omega
  clear hz
  have sg : ((s[0].toNat : Int) == 45) = false := beq_eq_false_iff_ne.2 (by omega)
  clear h SG hen
  go_enter Tryz.func9, Tryz.ntmps9
  go_wp2
  go_loop [5] (fun i => ∃ k : Nat, 0 ≤ k ∧ k ≤ en ∧ i = .int .i64 k) (fun i => en - (intOf i).toNat)
  case atStart => exact ⟨0, by omega, hfe, rfl⟩
  case round =>
    obtain ⟨k, hk1, hk2, rfl⟩ := hrel
    by_cases hlt : k < en
    · have hks : k < s.size := by omega
      have nb : ((s[k].toNat : Int) != 47) = true := bne_iff_ne.2 fun e => NA.out k hks hk1 hlt (UInt8.toNat_inj.1 (by have : s[k].toNat = 47 := by omega
                                                                                                                       rw [this]; rfl))
      go_wp2
      go_round
      case rel => exact ⟨k + 1, by omega, by omega, by go_num⟩
      case measure => simp [intOf]; omega
    · obtain rfl : k = en := by omega
      have hks : k < s.size := by omega
      have nb : ((s[k].toNat : Int) != 47) = false := by
        have e := AS.out hks
        rw [e]; rfl
      have c1 : (0 : Int) ≤ ↑k := by omega
      have c2 : (↑k : Int) ≤ ↑s.size := by omega
      have c3 : (0 : Int) ≤ ↑k + 1 := by omega
      have c4 : (↑k + 1 : Int) ≤ ↑s.size := by omega
      have c5 : k + 1 ≤ 2000 := by omega
      go_wp2_with fail
      rw [CL.out]
      refine (P1.out _).mono ?_
      rintro e w1 ⟨A1, n1, m1, x1, rfl, hn, hb⟩
      have X1 := Lib.hid hn
      have R1 := Lib.hid (R0.out.keep hb)
      have B1 := Lib.hid (B0.out.trans (hb.mono B0.out.size))
      clear hn hb R0 B0
      go_wp2_with fail
      rw [CR.out]
      refine (P2.out _).mono ?_
      rintro e w2 ⟨A2, n2, m2, x2, rfl, hn, hb⟩
      have Y2 := Lib.hid hn
      have X2 := Lib.hid (X1.out.keep hb)
      have R2 := Lib.hid (R1.out.keep hb)
      have B2 := Lib.hid (B1.out.trans (hb.mono B1.out.size))
      clear hn hb R1 B1 X1
      go_wp2_with fail
      refine (MK.out _ _ _ _ _ _ _ _ _ X2.out Y2.out).mono ?_
      rintro e w3 ⟨AP, nP, cP, xP, AQ, nQ, cQ, xQ, rfl, hn, hn', hb⟩
      have f3 : FB (w3.alloc (.cells #[.bool b, .slice AP nP cP, .slice AQ nQ cQ] 25)) w3.heap.size b AP nP cP AQ nQ cQ := FB.new _ _ _ _ _ _ _ _
      have bf : Below w3.heap.size w3 (w3.alloc (.cells #[.bool b, .slice AP nP cP, .slice AQ nQ cQ] 25)) := (Below.refl _ _).alloc (Nat.le_refl _) _
      have F3 := Lib.hid f3
      have R3 := Lib.hid ((R2.out.keep hb).keep bf)
      have P3 := Lib.hid (hn.keep bf)
      have Q3 := Lib.hid (hn'.keep bf)
      have B3 := Lib.hid ((B2.out.trans (hb.mono B2.out.size)).trans (bf.mono (Nat.le_trans B2.out.size hb.size)))
      clear hn hn' hb R2 B2 f3 bf X2 Y2
      obtain ⟨Fa, Fb, Fc, _, _, _⟩ := F3.out.facts
      go_wp2_with fail
      refine (rfformat_any b _ _ _ _ _ _ p q i _ _ _ P3.out Q3.out PP.out PQ.out HI.out).mono ?_
      rintro e w4 ⟨t, rfl, ht, hb⟩
      have nq := NQ.out t ht
      have F4 := Lib.hid (F3.out.keep hb)
      have R4 := Lib.hid (R3.out.keep hb)
      have P4 := Lib.hid (P3.out.keep hb)
      have Q4 := Lib.hid (Q3.out.keep hb)
      have B4 := Lib.hid (B3.out.trans (hb.mono B3.out.size))
      clear ht hb Fa Fb Fc R3 F3 P3 Q3 B3
      obtain ⟨Fa, Fb, Fc, _, _, _⟩ := F4.out.facts
      obtain ⟨Ra, Rb, Rc, Rd, Re, Rf⟩ := R4.out.facts
      go_wp2
      refine bodyPost_ret (v := .tuple #[.agg #[.bool b, .slice AP nP cP, .slice AQ nQ cQ], .int .i64 0]) (by simp [results, Tryz.results9, go_sem, Ra, Rb, Rc]) rfl ?_
      exact giveFrE (t := ⟨b, p, q⟩) B4.out (Nat.le_refl _) R4.out P4.out Q4.out
set_option maxRecDepth 100000 in
set_option maxHeartbeats 2000000 in
theorem rfp_plus_true_other (s N D : ByteArray) (h : Split s false N true D) (hs : s.size ≤ 1202) (h0 : 0 < s.size) (a c0 p q i : Nat) (b : Bool) (pp : p < 4294967296 ^ i) (pq : q < 4294967296 ^ i) (hi : i ≤ 900000)
    (p1 : ∀ w, Calls Tryz.prog 26 #[.string N] w (GivesParse a 0 w)) (p2 : ∀ w, Calls Tryz.prog 26 #[.string D] w (GivesParse c0 0 w))
    (mk : ∀ (A : Option Addr) (n c : Nat) (xs : List Nat) (B : Option Addr) (m d : Nat) (ys : List Nat) (w : World), Num w A n c xs a → Num w B m d ys c0 → Calls Tryz.prog 27 #[.bool false, .slice A n c, .slice B m d] w (GivesRd b p q 0 w))
    (nq : ∀ t : ByteArray, fText b p q t.data.toList → (t.toList == s.toList) = false) (w : World) :
    Calls Tryz.prog 9 #[.string s] w (GivesFrE ⟨false, 0, 0⟩ 2 w) := by
  have B0 := Lib.hid ((Below.refl w.heap.size w).alloc (Nat.le_refl _) (.cells #[.bool false, .slice none 0 0, .slice none 0 0] 25))
  have R0 := Lib.hid (FB.new w false none 0 0 none 0 0)
  have P1 := Lib.hid p1
  have P2 := Lib.hid p2
  have MK := Lib.hid mk
  have NQ := Lib.hid nq
  have PP := Lib.hid pp
  have PQ := Lib.hid pq
  have HI := Lib.hid hi
  clear p1 p2 mk nq pp pq hi
  have hz := h.size
  have CL := Lib.hid h.cut_num
  have NA := Lib.hid (fun k hk h1 h2 => h.at_num k hk h1 h2)
  have CR := Lib.hid h.cut_den
  have AS := Lib.hid (fun hk => h.at_slash hk)
  have SG := h.sign h0
  obtain ⟨en, hen⟩ : ∃ en, Bool.toNat false + N.size = en := ⟨_, rfl⟩
  rw [hen] at hz CL NA CR AS
  simp only [Bool.toNat_false, if_true, Bool.false_eq_true, iff_false] at hz CL NA SG
  have hfe : 0 ≤ en := by rw [← hen]; exact Nat.le_add_right _ _
  have hsl : en < s.size := by omega
  clear hz
  have sg : ((s[0].toNat : Int) == 45) = false := beq_eq_false_iff_ne.2 (by omega)
  clear h SG hen
  go_enter Tryz.func9, Tryz.ntmps9
  go_wp2
  go_loop [5] (fun i => ∃ k : Nat, 0 ≤ k ∧ k ≤ en ∧ i = .int .i64 k) (fun i => en - (intOf i).toNat)
  case atStart => exact ⟨0, by omega, hfe, rfl⟩
  case round =>
    obtain ⟨k, hk1, hk2, rfl⟩ := hrel
    by_cases hlt : k < en
    · have hks : k < s.size := by omega
      have nb : ((s[k].toNat : Int) != 47) = true := bne_iff_ne.2 fun e => NA.out k hks hk1 hlt (UInt8.toNat_inj.1 (by have : s[k].toNat = 47 := by omega
                                                                                                                       rw [this]; rfl))
      go_wp2
      go_round
      case rel => exact ⟨k + 1, by omega, by omega, by go_num⟩
      case measure => simp [intOf]; omega
    · obtain rfl : k = en := by omega
      have hks : k < s.size := by omega
      have nb : ((s[k].toNat : Int) != 47) = false := by
        have e := AS.out hks
        rw [e]; rfl
      have c1 : (0 : Int) ≤ ↑k := by omega
      have c2 : (↑k : Int) ≤ ↑s.size := by omega
      have c3 : (0 : Int) ≤ ↑k + 1 := by omega
      have c4 : (↑k + 1 : Int) ≤ ↑s.size := by omega
      have c5 : k + 1 ≤ 2000 := by omega
      go_wp2_with fail
      rw [CL.out]
      refine (P1.out _).mono ?_
      rintro e w1 ⟨A1, n1, m1, x1, rfl, hn, hb⟩
      have X1 := Lib.hid hn
      have R1 := Lib.hid (R0.out.keep hb)
      have B1 := Lib.hid (B0.out.trans (hb.mono B0.out.size))
      clear hn hb R0 B0
      go_wp2_with fail
      rw [CR.out]
      refine (P2.out _).mono ?_
      rintro e w2 ⟨A2, n2, m2, x2, rfl, hn, hb⟩
      have Y2 := Lib.hid hn
      have X2 := Lib.hid (X1.out.keep hb)
      have R2 := Lib.hid (R1.out.keep hb)
      have B2 := Lib.hid (B1.out.trans (hb.mono B1.out.size))
      clear hn hb R1 B1 X1
      go_wp2_with fail
      refine (MK.out _ _ _ _ _ _ _ _ _ X2.out Y2.out).mono ?_
      rintro e w3 ⟨AP, nP, cP, xP, AQ, nQ, cQ, xQ, rfl, hn, hn', hb⟩
      have f3 : FB (w3.alloc (.cells #[.bool b, .slice AP nP cP, .slice AQ nQ cQ] 25)) w3.heap.size b AP nP cP AQ nQ cQ := FB.new _ _ _ _ _ _ _ _
      have bf : Below w3.heap.size w3 (w3.alloc (.cells #[.bool b, .slice AP nP cP, .slice AQ nQ cQ] 25)) := (Below.refl _ _).alloc (Nat.le_refl _) _
      have F3 := Lib.hid f3
      have R3 := Lib.hid ((R2.out.keep hb).keep bf)
      have P3 := Lib.hid (hn.keep bf)
      have Q3 := Lib.hid (hn'.keep bf)
      have B3 := Lib.hid ((B2.out.trans (hb.mono B2.out.size)).trans (bf.mono (Nat.le_trans B2.out.size hb.size)))
      clear hn hn' hb R2 B2 f3 bf X2 Y2
      obtain ⟨Fa, Fb, Fc, _, _, _⟩ := F3.out.facts
      go_wp2_with fail
      refine (rfformat_any b _ _ _ _ _ _ p q i _ _ _ P3.out Q3.out PP.out PQ.out HI.out).mono ?_
      rintro e w4 ⟨t, rfl, ht, hb⟩
      have nq := NQ.out t ht
      have F4 := Lib.hid (F3.out.keep hb)
      have R4 := Lib.hid (R3.out.keep hb)
      have P4 := Lib.hid (P3.out.keep hb)
      have Q4 := Lib.hid (Q3.out.keep hb)
      have B4 := Lib.hid (B3.out.trans (hb.mono B3.out.size))
      clear ht hb Fa Fb Fc R3 F3 P3 Q3 B3
      obtain ⟨Fa, Fb, Fc, _, _, _⟩ := F4.out.facts
      obtain ⟨Ra, Rb, Rc, Rd, Re, Rf⟩ := R4.out.facts
      go_wp2
      refine bodyPost_ret (v := .tuple #[.agg #[.bool false, .slice none 0 0, .slice none 0 0], .int .i64 2]) (by simp [results, Tryz.results9, go_sem, Ra, Rb, Rc]) rfl ?_
      exact giveFrE (t := ⟨false, 0, 0⟩) B4.out (Nat.le_refl _) R4.out (Num.zero _) (Num.zero _)
set_option maxRecDepth 100000 in
set_option maxHeartbeats 2000000 in
theorem rfp_plus_true_zero (s N D : ByteArray) (h : Split s false N true D) (hs : s.size ≤ 1202) (h0 : 0 < s.size) (a c0 : Nat) (k : Int) (hk : (k != 0) = true)
    (p1 : ∀ w, Calls Tryz.prog 26 #[.string N] w (GivesParse a 0 w)) (p2 : ∀ w, Calls Tryz.prog 26 #[.string D] w (GivesParse c0 0 w))
    (mk : ∀ (A : Option Addr) (n c : Nat) (xs : List Nat) (B : Option Addr) (m d : Nat) (ys : List Nat) (w : World), Num w A n c xs a → Num w B m d ys c0 → Calls Tryz.prog 27 #[.bool false, .slice A n c, .slice B m d] w (GivesRd false 0 0 k w)) (w : World) :
    Calls Tryz.prog 9 #[.string s] w (GivesFrE ⟨false, 0, 0⟩ 2 w) := by
  have B0 := Lib.hid ((Below.refl w.heap.size w).alloc (Nat.le_refl _) (.cells #[.bool false, .slice none 0 0, .slice none 0 0] 25))
  have R0 := Lib.hid (FB.new w false none 0 0 none 0 0)
  have P1 := Lib.hid p1
  have P2 := Lib.hid p2
  have MK := Lib.hid mk
  clear p1 p2 mk
  have hz := h.size
  have CL := Lib.hid h.cut_num
  have NA := Lib.hid (fun k hk h1 h2 => h.at_num k hk h1 h2)
  have CR := Lib.hid h.cut_den
  have AS := Lib.hid (fun hk => h.at_slash hk)
  have SG := h.sign h0
  obtain ⟨en, hen⟩ : ∃ en, Bool.toNat false + N.size = en := ⟨_, rfl⟩
  rw [hen] at hz CL NA CR AS
  simp only [Bool.toNat_false, if_true, Bool.false_eq_true, iff_false] at hz CL NA SG
  have hfe : 0 ≤ en := by rw [← hen]; exact Nat.le_add_right _ _
  have hsl : en < s.size := by omega
  clear hz
  have sg : ((s[0].toNat : Int) == 45) = false := beq_eq_false_iff_ne.2 (by omega)
  clear h SG hen
  go_enter Tryz.func9, Tryz.ntmps9
  go_wp2
  go_loop [5] (fun i => ∃ k : Nat, 0 ≤ k ∧ k ≤ en ∧ i = .int .i64 k) (fun i => en - (intOf i).toNat)
  case atStart => exact ⟨0, by omega, hfe, rfl⟩
  case round =>
    obtain ⟨k, hk1, hk2, rfl⟩ := hrel
    by_cases hlt : k < en
    · have hks : k < s.size := by omega
      have nb : ((s[k].toNat : Int) != 47) = true := bne_iff_ne.2 fun e => NA.out k hks hk1 hlt (UInt8.toNat_inj.1 (by have : s[k].toNat = 47 := by omega
                                                                                                                       rw [this]; rfl))
      go_wp2
      go_round
      case rel => exact ⟨k + 1, by omega, by omega, by go_num⟩
      case measure => simp [intOf]; omega
    · obtain rfl : k = en := by omega
      have hks : k < s.size := by omega
      have nb : ((s[k].toNat : Int) != 47) = false := by
        have e := AS.out hks
        rw [e]; rfl
      have c1 : (0 : Int) ≤ ↑k := by omega
      have c2 : (↑k : Int) ≤ ↑s.size := by omega
      have c3 : (0 : Int) ≤ ↑k + 1 := by omega
      have c4 : (↑k + 1 : Int) ≤ ↑s.size := by omega
      have c5 : k + 1 ≤ 2000 := by omega
      go_wp2_with fail
      rw [CL.out]
      refine (P1.out _).mono ?_
      rintro e w1 ⟨A1, n1, m1, x1, rfl, hn, hb⟩
      have X1 := Lib.hid hn
      have R1 := Lib.hid (R0.out.keep hb)
      have B1 := Lib.hid (B0.out.trans (hb.mono B0.out.size))
      clear hn hb R0 B0
      go_wp2_with fail
      rw [CR.out]
      refine (P2.out _).mono ?_
      rintro e w2 ⟨A2, n2, m2, x2, rfl, hn, hb⟩
      have Y2 := Lib.hid hn
      have X2 := Lib.hid (X1.out.keep hb)
      have R2 := Lib.hid (R1.out.keep hb)
      have B2 := Lib.hid (B1.out.trans (hb.mono B1.out.size))
      clear hn hb R1 B1 X1
      go_wp2_with fail
      refine (MK.out _ _ _ _ _ _ _ _ _ X2.out Y2.out).mono ?_
      rintro e w3 ⟨AP, nP, cP, xP, AQ, nQ, cQ, xQ, rfl, hn, hn', hb⟩
      have f3 : FB (w3.alloc (.cells #[.bool false, .slice AP nP cP, .slice AQ nQ cQ] 25)) w3.heap.size false AP nP cP AQ nQ cQ := FB.new _ _ _ _ _ _ _ _
      have bf : Below w3.heap.size w3 (w3.alloc (.cells #[.bool false, .slice AP nP cP, .slice AQ nQ cQ] 25)) := (Below.refl _ _).alloc (Nat.le_refl _) _
      have F3 := Lib.hid f3
      have R3 := Lib.hid ((R2.out.keep hb).keep bf)
      have P3 := Lib.hid (hn.keep bf)
      have Q3 := Lib.hid (hn'.keep bf)
      have B3 := Lib.hid ((B2.out.trans (hb.mono B2.out.size)).trans (bf.mono (Nat.le_trans B2.out.size hb.size)))
      clear hn hn' hb R2 B2 f3 bf X2 Y2
      obtain ⟨Fa, Fb, Fc, _, _, _⟩ := F3.out.facts
      obtain ⟨Ra, Rb, Rc, Rd, Re, Rf⟩ := R3.out.facts
      go_wp2
      refine bodyPost_ret (v := .tuple #[.agg #[.bool false, .slice none 0 0, .slice none 0 0], .int .i64 2]) (by simp [results, Tryz.results9, go_sem, Ra, Rb, Rc]) rfl ?_
      exact giveFrE (t := ⟨false, 0, 0⟩) B3.out (Nat.le_refl _) R3.out (Num.zero _) (Num.zero _)
set_option maxRecDepth 100000 in
set_option maxHeartbeats 2000000 in
theorem rfp_plus_true_badN (s N D : ByteArray) (h : Split s false N true D) (hs : s.size ≤ 1202) (h0 : 0 < s.size) (a c0 k1 k2 : Nat) (hk : ((k1 : Int) != 0) = true)
    (p1 : ∀ w, Calls Tryz.prog 26 #[.string N] w (GivesParse a k1 w)) (p2 : ∀ w, Calls Tryz.prog 26 #[.string D] w (GivesParse c0 k2 w)) (w : World) :
    Calls Tryz.prog 9 #[.string s] w (GivesFrE ⟨false, 0, 0⟩ 2 w) := by
  have B0 := Lib.hid ((Below.refl w.heap.size w).alloc (Nat.le_refl _) (.cells #[.bool false, .slice none 0 0, .slice none 0 0] 25))
  have R0 := Lib.hid (FB.new w false none 0 0 none 0 0)
  have P1 := Lib.hid p1
  have P2 := Lib.hid p2
  clear p1 p2
  have hz := h.size
  have CL := Lib.hid h.cut_num
  have NA := Lib.hid (fun k hk h1 h2 => h.at_num k hk h1 h2)
  have CR := Lib.hid h.cut_den
  have AS := Lib.hid (fun hk => h.at_slash hk)
  have SG := h.sign h0
  obtain ⟨en, hen⟩ : ∃ en, Bool.toNat false + N.size = en := ⟨_, rfl⟩
  rw [hen] at hz CL NA CR AS
  simp only [Bool.toNat_false, if_true, Bool.false_eq_true, iff_false] at hz CL NA SG
  have hfe : 0 ≤ en := by rw [← hen]; exact Nat.le_add_right _ _
  have hsl : en < s.size := by omega
  clear hz
  have sg : ((s[0].toNat : Int) == 45) = false := beq_eq_false_iff_ne.2 (by omega)
  clear h SG hen
  go_enter Tryz.func9, Tryz.ntmps9
  go_wp2
  go_loop [5] (fun i => ∃ k : Nat, 0 ≤ k ∧ k ≤ en ∧ i = .int .i64 k) (fun i => en - (intOf i).toNat)
  case atStart => exact ⟨0, by omega, hfe, rfl⟩
  case round =>
    obtain ⟨k, hk1, hk2, rfl⟩ := hrel
    by_cases hlt : k < en
    · have hks : k < s.size := by omega
      have nb : ((s[k].toNat : Int) != 47) = true := bne_iff_ne.2 fun e => NA.out k hks hk1 hlt (UInt8.toNat_inj.1 (by have : s[k].toNat = 47 := by omega
                                                                                                                       rw [this]; rfl))
      go_wp2
      go_round
      case rel => exact ⟨k + 1, by omega, by omega, by go_num⟩
      case measure => simp [intOf]; omega
    · obtain rfl : k = en := by omega
      have hks : k < s.size := by omega
      have nb : ((s[k].toNat : Int) != 47) = false := by
        have e := AS.out hks
        rw [e]; rfl
      have c1 : (0 : Int) ≤ ↑k := by omega
      have c2 : (↑k : Int) ≤ ↑s.size := by omega
      have c3 : (0 : Int) ≤ ↑k + 1 := by omega
      have c4 : (↑k + 1 : Int) ≤ ↑s.size := by omega
      have c5 : k + 1 ≤ 2000 := by omega
      go_wp2_with fail
      rw [CL.out]
      refine (P1.out _).mono ?_
      rintro e w1 ⟨A1, n1, m1, x1, rfl, hn, hb⟩
      have X1 := Lib.hid hn
      have R1 := Lib.hid (R0.out.keep hb)
      have B1 := Lib.hid (B0.out.trans (hb.mono B0.out.size))
      clear hn hb R0 B0
      go_wp2_with fail
      rw [CR.out]
      refine (P2.out _).mono ?_
      rintro e w2 ⟨A2, n2, m2, x2, rfl, hn, hb⟩
      have Y2 := Lib.hid hn
      have X2 := Lib.hid (X1.out.keep hb)
      have R2 := Lib.hid (R1.out.keep hb)
      have B2 := Lib.hid (B1.out.trans (hb.mono B1.out.size))
      clear hn hb R1 B1 X1
      obtain ⟨Ra, Rb, Rc, Rd, Re, Rf⟩ := R2.out.facts
      go_wp2
      refine bodyPost_ret (v := .tuple #[.agg #[.bool false, .slice none 0 0, .slice none 0 0], .int .i64 2]) (by simp [results, Tryz.results9, go_sem, Ra, Rb, Rc]) rfl ?_
      exact giveFrE (t := ⟨false, 0, 0⟩) B2.out (Nat.le_refl _) R2.out (Num.zero _) (Num.zero _)
set_option maxRecDepth 100000 in
set_option maxHeartbeats 2000000 in
theorem rfp_plus_true_badD (s N D : ByteArray) (h : Split s false N true D) (hs : s.size ≤ 1202) (h0 : 0 < s.size) (a c0 k2 : Nat) (hk : ((k2 : Int) != 0) = true)
    (p1 : ∀ w, Calls Tryz.prog 26 #[.string N] w (GivesParse a 0 w)) (p2 : ∀ w, Calls Tryz.prog 26 #[.string D] w (GivesParse c0 k2 w)) (w : World) :
    Calls Tryz.prog 9 #[.string s] w (GivesFrE ⟨false, 0, 0⟩ 2 w) := by
  have B0 := Lib.hid ((Below.refl w.heap.size w).alloc (Nat.le_refl _) (.cells #[.bool false, .slice none 0 0, .slice none 0 0] 25))
  have R0 := Lib.hid (FB.new w false none 0 0 none 0 0)
  have P1 := Lib.hid p1
  have P2 := Lib.hid p2
  clear p1 p2
  have hz := h.size
  have CL := Lib.hid h.cut_num
  have NA := Lib.hid (fun k hk h1 h2 => h.at_num k hk h1 h2)
  have CR := Lib.hid h.cut_den
  have AS := Lib.hid (fun hk => h.at_slash hk)
  have SG := h.sign h0
  obtain ⟨en, hen⟩ : ∃ en, Bool.toNat false + N.size = en := ⟨_, rfl⟩
  rw [hen] at hz CL NA CR AS
  simp only [Bool.toNat_false, if_true, Bool.false_eq_true, iff_false] at hz CL NA SG
  have hfe : 0 ≤ en := by rw [← hen]; exact Nat.le_add_right _ _
  have hsl : en < s.size := by omega
  clear hz
  have sg : ((s[0].toNat : Int) == 45) = false := beq_eq_false_iff_ne.2 (by omega)
  clear h SG hen
  go_enter Tryz.func9, Tryz.ntmps9
  go_wp2
  go_loop [5] (fun i => ∃ k : Nat, 0 ≤ k ∧ k ≤ en ∧ i = .int .i64 k) (fun i => en - (intOf i).toNat)
  case atStart => exact ⟨0, by omega, hfe, rfl⟩
  case round =>
    obtain ⟨k, hk1, hk2, rfl⟩ := hrel
    by_cases hlt : k < en
    · have hks : k < s.size := by omega
      have nb : ((s[k].toNat : Int) != 47) = true := bne_iff_ne.2 fun e => NA.out k hks hk1 hlt (UInt8.toNat_inj.1 (by have : s[k].toNat = 47 := by omega
                                                                                                                       rw [this]; rfl))
      go_wp2
      go_round
      case rel => exact ⟨k + 1, by omega, by omega, by go_num⟩
      case measure => simp [intOf]; omega
    · obtain rfl : k = en := by omega
      have hks : k < s.size := by omega
      have nb : ((s[k].toNat : Int) != 47) = false := by
        have e := AS.out hks
        rw [e]; rfl
      have c1 : (0 : Int) ≤ ↑k := by omega
      have c2 : (↑k : Int) ≤ ↑s.size := by omega
      have c3 : (0 : Int) ≤ ↑k + 1 := by omega
      have c4 : (↑k + 1 : Int) ≤ ↑s.size := by omega
      have c5 : k + 1 ≤ 2000 := by omega
      go_wp2_with fail
      rw [CL.out]
      refine (P1.out _).mono ?_
      rintro e w1 ⟨A1, n1, m1, x1, rfl, hn, hb⟩
      have X1 := Lib.hid hn
      have R1 := Lib.hid (R0.out.keep hb)
      have B1 := Lib.hid (B0.out.trans (hb.mono B0.out.size))
      clear hn hb R0 B0
      go_wp2_with fail
      rw [CR.out]
      refine (P2.out _).mono ?_
      rintro e w2 ⟨A2, n2, m2, x2, rfl, hn, hb⟩
      have Y2 := Lib.hid hn
      have X2 := Lib.hid (X1.out.keep hb)
      have R2 := Lib.hid (R1.out.keep hb)
      have B2 := Lib.hid (B1.out.trans (hb.mono B1.out.size))
      clear hn hb R1 B1 X1
      obtain ⟨Ra, Rb, Rc, Rd, Re, Rf⟩ := R2.out.facts
      go_wp2
      refine bodyPost_ret (v := .tuple #[.agg #[.bool false, .slice none 0 0, .slice none 0 0], .int .i64 2]) (by simp [results, Tryz.results9, go_sem, Ra, Rb, Rc]) rfl ?_
      exact giveFrE (t := ⟨false, 0, 0⟩) B2.out (Nat.le_refl _) R2.out (Num.zero _) (Num.zero _)
set_option maxRecDepth 100000 in
set_option maxHeartbeats 2000000 in
theorem rfp_plus_false_kept (s N D : ByteArray) (h : Split s false N false D) (hs : s.size ≤ 1202) (h0 : 0 < s.size) (a c0 p q i : Nat) (b : Bool) (pp : p < 4294967296 ^ i) (pq : q < 4294967296 ^ i) (hi : i ≤ 900000)
    (p1 : ∀ w, Calls Tryz.prog 26 #[.string N] w (GivesParse a 0 w)) (p2 : ∀ w, Calls Tryz.prog 26 #[.string ⟨#[49]⟩] w (GivesParse c0 0 w))
    (mk : ∀ (A : Option Addr) (n c : Nat) (xs : List Nat) (B : Option Addr) (m d : Nat) (ys : List Nat) (w : World), Num w A n c xs a → Num w B m d ys c0 → Calls Tryz.prog 27 #[.bool false, .slice A n c, .slice B m d] w (GivesRd b p q 0 w))
    (nq : ∀ t : ByteArray, fText b p q t.data.toList → (t.toList == s.toList) = true) (w : World) :
    Calls Tryz.prog 9 #[.string s] w (GivesFrE ⟨b, p, q⟩ 0 w) := by
  have B0 := Lib.hid ((Below.refl w.heap.size w).alloc (Nat.le_refl _) (.cells #[.bool false, .slice none 0 0, .slice none 0 0] 25))
  have R0 := Lib.hid (FB.new w false none 0 0 none 0 0)
  have P1 := Lib.hid p1
  have P2 := Lib.hid p2
  have MK := Lib.hid mk
  have NQ := Lib.hid nq
  have PP := Lib.hid pp
  have PQ := Lib.hid pq
  have HI := Lib.hid hi
  clear p1 p2 mk nq pp pq hi
  have hz := h.size
  have CL := Lib.hid h.cut_num
  have NA := Lib.hid (fun k hk h1 h2 => h.at_num k hk h1 h2)
  have SG := h.sign h0
  obtain ⟨en, hen⟩ : ∃ en, Bool.toNat false + N.size = en := ⟨_, rfl⟩
  rw [hen] at hz CL NA
  simp only [Bool.toNat_false, if_false, Bool.false_eq_true, Nat.add_zero, iff_false] at hz CL NA SG
  have hfe : 0 ≤ en := by rw [← hen]; exact Nat.le_add_right _ _
  have hsl : en ≤ s.size := by omega
  have hsl2 : s.size ≤ en := by omega
  clear hz
  have sg : ((s[0].toNat : Int) == 45) = false := beq_eq_false_iff_ne.2 (by omega)
  clear h SG hen
  go_enter Tryz.func9, Tryz.ntmps9
  go_wp2
  go_loop [5] (fun i => ∃ k : Nat, 0 ≤ k ∧ k ≤ en ∧ i = .int .i64 k) (fun i => en - (intOf i).toNat)
  case atStart => exact ⟨0, by omega, hfe, rfl⟩
  case round =>
    obtain ⟨k, hk1, hk2, rfl⟩ := hrel
    by_cases hlt : k < en
    · have hks : k < s.size := by omega
      have nb : ((s[k].toNat : Int) != 47) = true := bne_iff_ne.2 fun e => NA.out k hks hk1 hlt (UInt8.toNat_inj.1 (by have : s[k].toNat = 47 := by omega
                                                                                                                       rw [this]; rfl))
      go_wp2
      go_round
      case rel => exact ⟨k + 1, by omega, by omega, by go_num⟩
      case measure => simp [intOf]; omega
    · obtain rfl : k = en := by omega
      have hks : ¬ k < s.size := by omega
      have c1 : (0 : Int) ≤ ↑k := by omega
      have c2 : (↑k : Int) ≤ ↑s.size := by omega
      go_wp2_with fail
      rw [CL.out]
      refine (P1.out _).mono ?_
      rintro e w1 ⟨A1, n1, m1, x1, rfl, hn, hb⟩
      have X1 := Lib.hid hn
      have R1 := Lib.hid (R0.out.keep hb)
      have B1 := Lib.hid (B0.out.trans (hb.mono B0.out.size))
      clear hn hb R0 B0
      go_wp2_with fail
      refine (P2.out _).mono ?_
      rintro e w2 ⟨A2, n2, m2, x2, rfl, hn, hb⟩
      have Y2 := Lib.hid hn
      have X2 := Lib.hid (X1.out.keep hb)
      have R2 := Lib.hid (R1.out.keep hb)
      have B2 := Lib.hid (B1.out.trans (hb.mono B1.out.size))
      clear hn hb R1 B1 X1
      go_wp2_with fail
      refine (MK.out _ _ _ _ _ _ _ _ _ X2.out Y2.out).mono ?_
      rintro e w3 ⟨AP, nP, cP, xP, AQ, nQ, cQ, xQ, rfl, hn, hn', hb⟩
      have f3 : FB (w3.alloc (.cells #[.bool b, .slice AP nP cP, .slice AQ nQ cQ] 25)) w3.heap.size b AP nP cP AQ nQ cQ := FB.new _ _ _ _ _ _ _ _
      have bf : Below w3.heap.size w3 (w3.alloc (.cells #[.bool b, .slice AP nP cP, .slice AQ nQ cQ] 25)) := (Below.refl _ _).alloc (Nat.le_refl _) _
      have F3 := Lib.hid f3
      have R3 := Lib.hid ((R2.out.keep hb).keep bf)
      have P3 := Lib.hid (hn.keep bf)
      have Q3 := Lib.hid (hn'.keep bf)
      have B3 := Lib.hid ((B2.out.trans (hb.mono B2.out.size)).trans (bf.mono (Nat.le_trans B2.out.size hb.size)))
      clear hn hn' hb R2 B2 f3 bf X2 Y2
      obtain ⟨Fa, Fb, Fc, _, _, _⟩ := F3.out.facts
      go_wp2_with fail
      refine (rfformat_any b _ _ _ _ _ _ p q i _ _ _ P3.out Q3.out PP.out PQ.out HI.out).mono ?_
      rintro e w4 ⟨t, rfl, ht, hb⟩
      have nq := NQ.out t ht
      have F4 := Lib.hid (F3.out.keep hb)
      have R4 := Lib.hid (R3.out.keep hb)
      have P4 := Lib.hid (P3.out.keep hb)
      have Q4 := Lib.hid (Q3.out.keep hb)
      have B4 := Lib.hid (B3.out.trans (hb.mono B3.out.size))
      clear ht hb Fa Fb Fc R3 F3 P3 Q3 B3
      obtain ⟨Fa, Fb, Fc, _, _, _⟩ := F4.out.facts
      obtain ⟨Ra, Rb, Rc, Rd, Re, Rf⟩ := R4.out.facts
      go_wp2
      refine bodyPost_ret (v := .tuple #[.agg #[.bool b, .slice AP nP cP, .slice AQ nQ cQ], .int .i64 0]) (by simp [results, Tryz.results9, go_sem, Ra, Rb, Rc]) rfl ?_
      exact giveFrE (t := ⟨b, p, q⟩) B4.out (Nat.le_refl _) R4.out P4.out Q4.out
set_option maxRecDepth 100000 in
set_option maxHeartbeats 2000000 in
theorem rfp_plus_false_other (s N D : ByteArray) (h : Split s false N false D) (hs : s.size ≤ 1202) (h0 : 0 < s.size) (a c0 p q i : Nat) (b : Bool) (pp : p < 4294967296 ^ i) (pq : q < 4294967296 ^ i) (hi : i ≤ 900000)
    (p1 : ∀ w, Calls Tryz.prog 26 #[.string N] w (GivesParse a 0 w)) (p2 : ∀ w, Calls Tryz.prog 26 #[.string ⟨#[49]⟩] w (GivesParse c0 0 w))
    (mk : ∀ (A : Option Addr) (n c : Nat) (xs : List Nat) (B : Option Addr) (m d : Nat) (ys : List Nat) (w : World), Num w A n c xs a → Num w B m d ys c0 → Calls Tryz.prog 27 #[.bool false, .slice A n c, .slice B m d] w (GivesRd b p q 0 w))
    (nq : ∀ t : ByteArray, fText b p q t.data.toList → (t.toList == s.toList) = false) (w : World) :
    Calls Tryz.prog 9 #[.string s] w (GivesFrE ⟨false, 0, 0⟩ 2 w) := by
  have B0 := Lib.hid ((Below.refl w.heap.size w).alloc (Nat.le_refl _) (.cells #[.bool false, .slice none 0 0, .slice none 0 0] 25))
  have R0 := Lib.hid (FB.new w false none 0 0 none 0 0)
  have P1 := Lib.hid p1
  have P2 := Lib.hid p2
  have MK := Lib.hid mk
  have NQ := Lib.hid nq
  have PP := Lib.hid pp
  have PQ := Lib.hid pq
  have HI := Lib.hid hi
  clear p1 p2 mk nq pp pq hi
  have hz := h.size
  have CL := Lib.hid h.cut_num
  have NA := Lib.hid (fun k hk h1 h2 => h.at_num k hk h1 h2)
  have SG := h.sign h0
  obtain ⟨en, hen⟩ : ∃ en, Bool.toNat false + N.size = en := ⟨_, rfl⟩
  rw [hen] at hz CL NA
  simp only [Bool.toNat_false, if_false, Bool.false_eq_true, Nat.add_zero, iff_false] at hz CL NA SG
  have hfe : 0 ≤ en := by rw [← hen]; exact Nat.le_add_right _ _
  have hsl : en ≤ s.size := by omega
  have hsl2 : s.size ≤ en := by omega
  clear hz
  have sg : ((s[0].toNat : Int) == 45) = false := beq_eq_false_iff_ne.2 (by omega)
  clear h SG hen
  go_enter Tryz.func9, Tryz.ntmps9
  go_wp2
  go_loop [5] (fun i => ∃ k : Nat, 0 ≤ k ∧ k ≤ en ∧ i = .int .i64 k) (fun i => en - (intOf i).toNat)
  case atStart => exact ⟨0, by omega, hfe, rfl⟩
  case round =>
    obtain ⟨k, hk1, hk2, rfl⟩ := hrel
    by_cases hlt : k < en
    · have hks : k < s.size := by omega
      have nb : ((s[k].toNat : Int) != 47) = true := bne_iff_ne.2 fun e => NA.out k hks hk1 hlt (UInt8.toNat_inj.1 (by have : s[k].toNat = 47 := by omega
                                                                                                                       rw [this]; rfl))
      go_wp2
      go_round
      case rel => exact ⟨k + 1, by omega, by omega, by go_num⟩
      case measure => simp [intOf]; omega
    · obtain rfl : k = en := by omega
      have hks : ¬ k < s.size := by omega
      have c1 : (0 : Int) ≤ ↑k := by omega
      have c2 : (↑k : Int) ≤ ↑s.size := by omega
      go_wp2_with fail
      rw [CL.out]
      refine (P1.out _).mono ?_
      rintro e w1 ⟨A1, n1, m1, x1, rfl, hn, hb⟩
      have X1 := Lib.hid hn
      have R1 := Lib.hid (R0.out.keep hb)
      have B1 := Lib.hid (B0.out.trans (hb.mono B0.out.size))
      clear hn hb R0 B0
      go_wp2_with fail
      refine (P2.out _).mono ?_
      rintro e w2 ⟨A2, n2, m2, x2, rfl, hn, hb⟩
      have Y2 := Lib.hid hn
      have X2 := Lib.hid (X1.out.keep hb)
      have R2 := Lib.hid (R1.out.keep hb)
      have B2 := Lib.hid (B1.out.trans (hb.mono B1.out.size))
      clear hn hb R1 B1 X1
      go_wp2_with fail
      refine (MK.out _ _ _ _ _ _ _ _ _ X2.out Y2.out).mono ?_
      rintro e w3 ⟨AP, nP, cP, xP, AQ, nQ, cQ, xQ, rfl, hn, hn', hb⟩
      have f3 : FB (w3.alloc (.cells #[.bool b, .slice AP nP cP, .slice AQ nQ cQ] 25)) w3.heap.size b AP nP cP AQ nQ cQ := FB.new _ _ _ _ _ _ _ _
      have bf : Below w3.heap.size w3 (w3.alloc (.cells #[.bool b, .slice AP nP cP, .slice AQ nQ cQ] 25)) := (Below.refl _ _).alloc (Nat.le_refl _) _
      have F3 := Lib.hid f3
      have R3 := Lib.hid ((R2.out.keep hb).keep bf)
      have P3 := Lib.hid (hn.keep bf)
      have Q3 := Lib.hid (hn'.keep bf)
      have B3 := Lib.hid ((B2.out.trans (hb.mono B2.out.size)).trans (bf.mono (Nat.le_trans B2.out.size hb.size)))
      clear hn hn' hb R2 B2 f3 bf X2 Y2
      obtain ⟨Fa, Fb, Fc, _, _, _⟩ := F3.out.facts
      go_wp2_with fail
      refine (rfformat_any b _ _ _ _ _ _ p q i _ _ _ P3.out Q3.out PP.out PQ.out HI.out).mono ?_
      rintro e w4 ⟨t, rfl, ht, hb⟩
      have nq := NQ.out t ht
      have F4 := Lib.hid (F3.out.keep hb)
      have R4 := Lib.hid (R3.out.keep hb)
      have P4 := Lib.hid (P3.out.keep hb)
      have Q4 := Lib.hid (Q3.out.keep hb)
      have B4 := Lib.hid (B3.out.trans (hb.mono B3.out.size))
      clear ht hb Fa Fb Fc R3 F3 P3 Q3 B3
      obtain ⟨Fa, Fb, Fc, _, _, _⟩ := F4.out.facts
      obtain ⟨Ra, Rb, Rc, Rd, Re, Rf⟩ := R4.out.facts
      go_wp2
      refine bodyPost_ret (v := .tuple #[.agg #[.bool false, .slice none 0 0, .slice none 0 0], .int .i64 2]) (by simp [results, Tryz.results9, go_sem, Ra, Rb, Rc]) rfl ?_
      exact giveFrE (t := ⟨false, 0, 0⟩) B4.out (Nat.le_refl _) R4.out (Num.zero _) (Num.zero _)
set_option maxRecDepth 100000 in
set_option maxHeartbeats 2000000 in
theorem rfp_plus_false_badN (s N D : ByteArray) (h : Split s false N false D) (hs : s.size ≤ 1202) (h0 : 0 < s.size) (a c0 k1 k2 : Nat) (hk : ((k1 : Int) != 0) = true)
    (p1 : ∀ w, Calls Tryz.prog 26 #[.string N] w (GivesParse a k1 w)) (p2 : ∀ w, Calls Tryz.prog 26 #[.string ⟨#[49]⟩] w (GivesParse c0 k2 w)) (w : World) :
    Calls Tryz.prog 9 #[.string s] w (GivesFrE ⟨false, 0, 0⟩ 2 w) := by
  have B0 := Lib.hid ((Below.refl w.heap.size w).alloc (Nat.le_refl _) (.cells #[.bool false, .slice none 0 0, .slice none 0 0] 25))
  have R0 := Lib.hid (FB.new w false none 0 0 none 0 0)
  have P1 := Lib.hid p1
  have P2 := Lib.hid p2
  clear p1 p2
  have hz := h.size
  have CL := Lib.hid h.cut_num
  have NA := Lib.hid (fun k hk h1 h2 => h.at_num k hk h1 h2)
  have SG := h.sign h0
  obtain ⟨en, hen⟩ : ∃ en, Bool.toNat false + N.size = en := ⟨_, rfl⟩
  rw [hen] at hz CL NA
  simp only [Bool.toNat_false, if_false, Bool.false_eq_true, Nat.add_zero, iff_false] at hz CL NA SG
  have hfe : 0 ≤ en := by rw [← hen]; exact Nat.le_add_right _ _
  have hsl : en ≤ s.size := by omega
  have hsl2 : s.size ≤ en := by omega
  clear hz
  have sg : ((s[0].toNat : Int) == 45) = false := beq_eq_false_iff_ne.2 (by omega)
  clear h SG hen
  go_enter Tryz.func9, Tryz.ntmps9
  go_wp2
  go_loop [5] (fun i => ∃ k : Nat, 0 ≤ k ∧ k ≤ en ∧ i = .int .i64 k) (fun i => en - (intOf i).toNat)
  case atStart => exact ⟨0, by omega, hfe, rfl⟩
  case round =>
    obtain ⟨k, hk1, hk2, rfl⟩ := hrel
    by_cases hlt : k < en
    · have hks : k < s.size := by omega
      have nb : ((s[k].toNat : Int) != 47) = true := bne_iff_ne.2 fun e => NA.out k hks hk1 hlt (UInt8.toNat_inj.1 (by have : s[k].toNat = 47 := by omega
                                                                                                                       rw [this]; rfl))
      go_wp2
      go_round
      case rel => exact ⟨k + 1, by omega, by omega, by go_num⟩
      case measure => simp [intOf]; omega
    · obtain rfl : k = en := by omega
      have hks : ¬ k < s.size := by omega
      have c1 : (0 : Int) ≤ ↑k := by omega
      have c2 : (↑k : Int) ≤ ↑s.size := by omega
      go_wp2_with fail
      rw [CL.out]
      refine (P1.out _).mono ?_
      rintro e w1 ⟨A1, n1, m1, x1, rfl, hn, hb⟩
      have X1 := Lib.hid hn
      have R1 := Lib.hid (R0.out.keep hb)
      have B1 := Lib.hid (B0.out.trans (hb.mono B0.out.size))
      clear hn hb R0 B0
      go_wp2_with fail
      refine (P2.out _).mono ?_
      rintro e w2 ⟨A2, n2, m2, x2, rfl, hn, hb⟩
      have Y2 := Lib.hid hn
      have X2 := Lib.hid (X1.out.keep hb)
      have R2 := Lib.hid (R1.out.keep hb)
      have B2 := Lib.hid (B1.out.trans (hb.mono B1.out.size))
      clear hn hb R1 B1 X1
      obtain ⟨Ra, Rb, Rc, Rd, Re, Rf⟩ := R2.out.facts
      go_wp2
      refine bodyPost_ret (v := .tuple #[.agg #[.bool false, .slice none 0 0, .slice none 0 0], .int .i64 2]) (by simp [results, Tryz.results9, go_sem, Ra, Rb, Rc]) rfl ?_
      exact giveFrE (t := ⟨false, 0, 0⟩) B2.out (Nat.le_refl _) R2.out (Num.zero _) (Num.zero _)
set_option maxRecDepth 100000 in
set_option maxHeartbeats 2000000 in
theorem rfp_empty_false_badN (s N D : ByteArray) (h : Split s false N false D) (_hs : s.size ≤ 1202) (h0 : s.size = 0) (a c0 k1 k2 : Nat) (hk : ((k1 : Int) != 0) = true)
    (p1 : ∀ w, Calls Tryz.prog 26 #[.string N] w (GivesParse a k1 w)) (p2 : ∀ w, Calls Tryz.prog 26 #[.string ⟨#[49]⟩] w (GivesParse c0 k2 w)) (w : World) :
    Calls Tryz.prog 9 #[.string s] w (GivesFrE ⟨false, 0, 0⟩ 2 w) := by
  have B0 := Lib.hid ((Below.refl w.heap.size w).alloc (Nat.le_refl _) (.cells #[.bool false, .slice none 0 0, .slice none 0 0] 25))
  have R0 := Lib.hid (FB.new w false none 0 0 none 0 0)
  have P1 := Lib.hid p1
  have P2 := Lib.hid p2
  clear p1 p2
  have hz := h.size
  have CL := Lib.hid h.cut_num
  have NA := Lib.hid (fun k hk h1 h2 => h.at_num k hk h1 h2)
  obtain ⟨en, hen⟩ : ∃ en, Bool.toNat false + N.size = en := ⟨_, rfl⟩
  rw [hen] at hz CL NA
  simp only [Bool.toNat_false, if_false, Bool.false_eq_true, Nat.add_zero] at hz CL NA
  have hfe : 0 ≤ en := by rw [← hen]; exact Nat.le_add_right _ _
  have hsl : en ≤ s.size := by omega
  have hsl2 : s.size ≤ en := by omega
  clear hz
  clear h hen
  go_enter Tryz.func9, Tryz.ntmps9
  go_wp2
  go_loop [5] (fun i => ∃ k : Nat, 0 ≤ k ∧ k ≤ en ∧ i = .int .i64 k) (fun i => en - (intOf i).toNat)
  case atStart => exact ⟨0, by omega, hfe, rfl⟩
  case round =>
    obtain ⟨k, hk1, hk2, rfl⟩ := hrel
    by_cases hlt : k < en
    · exact absurd hlt (by omega)
    · obtain rfl : k = en := by omega
      have hks : ¬ k < s.size := by omega
      have c1 : (0 : Int) ≤ ↑k := by omega
      have c2 : (↑k : Int) ≤ ↑s.size := by omega
      go_wp2_with fail
      rw [CL.out]
      refine (P1.out _).mono ?_
      rintro e w1 ⟨A1, n1, m1, x1, rfl, hn, hb⟩
      have X1 := Lib.hid hn
      have R1 := Lib.hid (R0.out.keep hb)
      have B1 := Lib.hid (B0.out.trans (hb.mono B0.out.size))
      clear hn hb R0 B0
      go_wp2_with fail
      refine (P2.out _).mono ?_
      rintro e w2 ⟨A2, n2, m2, x2, rfl, hn, hb⟩
      have Y2 := Lib.hid hn
      have X2 := Lib.hid (X1.out.keep hb)
      have R2 := Lib.hid (R1.out.keep hb)
      have B2 := Lib.hid (B1.out.trans (hb.mono B1.out.size))
      clear hn hb R1 B1 X1
      obtain ⟨Ra, Rb, Rc, Rd, Re, Rf⟩ := R2.out.facts
      go_wp2
      refine bodyPost_ret (v := .tuple #[.agg #[.bool false, .slice none 0 0, .slice none 0 0], .int .i64 2]) (by simp [results, Tryz.results9, go_sem, Ra, Rb, Rc]) rfl ?_
      exact giveFrE (t := ⟨false, 0, 0⟩) B2.out (Nat.le_refl _) R2.out (Num.zero _) (Num.zero _)
end Go.Proofs.YtbllnkhbahenkaaGreatDoor

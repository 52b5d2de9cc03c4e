/- fraction.read of any parts: no claim of its own. -/
import Derived.Test.YtbllnkhbahenkaaGreatDoorFSplit2
import Derived.Test.YtbllnkhbahenkaaGreatDoorRParse
namespace Go.Proofs.YtbllnkhbahenkaaGreatDoor
open Go.RowKit
theorem dec_pow {l : List UInt8} {k : Nat} (h : parseErr l = 0) (hk : l.length ≤ k) : decVal l < 4294967296 ^ k := by
  have h1 := decVal_lt l (parseErr_zero l h).2.2.2
  exact Nat.lt_of_lt_of_le h1 (Nat.le_trans (Nat.pow_le_pow_left (by decide) _) (Nat.pow_le_pow_right (by decide) hk))
set_option maxRecDepth 100000 in
set_option maxHeartbeats 1000000 in
theorem read_both (u : Bool) (s t : ByteArray) (p q : Nat) (w : World) (hs1 : s.size ≤ 2000) (ht1 : t.size ≤ 2000) (hs : parseErr s.data.toList = 0) (ht : parseErr t.data.toList = 0) (hp : decVal s.data.toList = p) (hq : decVal t.data.toList = q) (q0 : 0 < q) :
    Calls Tryz.prog 25 #[.agg #[.bool u, .string s, .bool true, .string t]] w (GivesFrE (Fr.mk' u p q) 0 w) := by
  have B0 := Lib.hid (((Below.refl w.heap.size w).alloc (Nat.le_refl _) (.cells #[.bool u, .string s, .bool true, .string t] 44)).alloc (by simp) (.cells #[.bool false, .slice none 0 0, .slice none 0 0] 25))
  have W0 := Lib.hid ((WB.new w u s true t).alloc (.cells #[.bool false, .slice none 0 0, .slice none 0 0] 25))
  have R0 := Lib.hid (FB.new (w.alloc (.cells #[.bool u, .string s, .bool true, .string t] 44)) false none 0 0 none 0 0)
  rw [show (w.alloc (.cells #[.bool u, .string s, .bool true, .string t] 44)).heap.size = w.heap.size + 1 by simp] at R0
  have P1 := Lib.hid (fun w' => parsed s p 0 (by omega) (by rw [if_pos hs]; exact hp) hs w')
  have PP : Hid (∃ K, K ≤ 900000 ∧ p < 4294967296 ^ K) := Lib.hid ⟨s.size, by omega, by rw [← hp]; exact dec_pow hs (by rw [size_list]; exact Nat.le_refl _)⟩
  have P2 := Lib.hid (fun w' => parsed t q 0 (by omega) (by rw [if_pos ht]; exact hq) ht w')
  have PQ : Hid (∃ K, K ≤ 900000 ∧ q < 4294967296 ^ K) := Lib.hid ⟨t.size, by omega, by rw [← hq]; exact dec_pow ht (by rw [size_list]; exact Nat.le_refl _)⟩
  have Q0 := Lib.hid q0
  clear hs ht hp hq q0 hs1 ht1
  go_enter Tryz.func25, Tryz.ntmps25
  go_wp2_with fail
  refine (P1.out _).mono ?_
  rintro e w1 ⟨AX, nX, cX, xX, rfl, hn, hb⟩
  have X1 := Lib.hid (hn)
  have W1 := Lib.hid (W0.out.keep hb)
  have R1 := Lib.hid (R0.out.keep hb)
  have B1 := Lib.hid (B0.out.trans (hb.mono B0.out.size))
  clear hb B0 W0 R0 hn
  obtain ⟨Wa, Wb, Wc, Wd, We, Wf, Wg, Wh⟩ := W1.out.facts
  go_wp2_with fail
  refine (P2.out _).mono ?_
  rintro e w2 ⟨AY, nY, cY, xY, rfl, hn, hb⟩
  have Y2 := Lib.hid (hn)
  have W2 := Lib.hid (W1.out.keep hb)
  have R2 := Lib.hid (R1.out.keep hb)
  have X2 := Lib.hid (X1.out.keep hb)
  have B2 := Lib.hid (B1.out.trans (hb.mono B1.out.size))
  clear hb B1 W1 R1 X1 hn
  clear Wa Wb Wc Wd We Wf Wg Wh
  obtain ⟨Wa, Wb, Wc, Wd, We, Wf, Wg, Wh⟩ := W2.out.facts
  go_wp2_with fail
  refine (make_any u _ _ _ _ _ _ _ _ _ _ _ X2.out Y2.out Q0.out (PP.out.elim fun _ h => X2.out.sh h.2 h.1) (PQ.out.elim fun _ h => Y2.out.sh h.2 h.1)).mono ?_
  rintro e w3 ⟨AP, nP, cP, xP, AQ, nQ, cQ, xQ, rfl, hn, hn', hb⟩
  have P3 := Lib.hid (hn)
  have Q3 := Lib.hid (hn')
  have W3 := Lib.hid (W2.out.keep hb)
  have R3 := Lib.hid (R2.out.keep hb)
  have B3 := Lib.hid (B2.out.trans (hb.mono B2.out.size))
  clear hb B2 W2 R2 hn hn'
  clear Wa Wb Wc Wd We Wf Wg Wh
  obtain ⟨Ra, Rb, Rc, Rd, Re, Rf⟩ := R3.out.facts
  obtain ⟨z, hz⟩ : ∃ z, (Fr.mk' u p q).s = z := ⟨_, rfl⟩
  have HZ := Lib.hid hz
  rw [hz]
  clear hz
  go_wp2
  refine bodyPost_ret (v := .tuple #[.agg #[.bool z, .slice AP nP cP, .slice AQ nQ cQ], .int .i64 0]) (by simp [results, Tryz.results25, go_sem, Ra, Rb, Rc]) rfl ?_
  have G := giveFrE (t := Fr.mk' u p q) (k := 0) B3.out (by omega) R3.out P3.out Q3.out
  rw [HZ.out] at G
  exact G
set_option maxRecDepth 100000 in
set_option maxHeartbeats 1000000 in
theorem read_nought (u : Bool) (s t : ByteArray) (p q : Nat) (w : World) (hs1 : s.size ≤ 2000) (ht1 : t.size ≤ 2000) (hs : parseErr s.data.toList = 0) (ht : parseErr t.data.toList = 0) (hp : decVal s.data.toList = p) (hq : decVal t.data.toList = q) (q0 : q = 0) :
    Calls Tryz.prog 25 #[.agg #[.bool u, .string s, .bool true, .string t]] w (GivesFrE ⟨false, 0, 0⟩ 8 w) := by
  have B0 := Lib.hid (((Below.refl w.heap.size w).alloc (Nat.le_refl _) (.cells #[.bool u, .string s, .bool true, .string t] 44)).alloc (by simp) (.cells #[.bool false, .slice none 0 0, .slice none 0 0] 25))
  have W0 := Lib.hid ((WB.new w u s true t).alloc (.cells #[.bool false, .slice none 0 0, .slice none 0 0] 25))
  have R0 := Lib.hid (FB.new (w.alloc (.cells #[.bool u, .string s, .bool true, .string t] 44)) false none 0 0 none 0 0)
  rw [show (w.alloc (.cells #[.bool u, .string s, .bool true, .string t] 44)).heap.size = w.heap.size + 1 by simp] at R0
  have P1 := Lib.hid (fun w' => parsed s p 0 (by omega) (by rw [if_pos hs]; exact hp) hs w')
  have PP : Hid (∃ K, K ≤ 900000 ∧ p < 4294967296 ^ K) := Lib.hid ⟨s.size, by omega, by rw [← hp]; exact dec_pow hs (by rw [size_list]; exact Nat.le_refl _)⟩
  have P2 := Lib.hid (fun w' => parsed t q 0 (by omega) (by rw [if_pos ht]; exact hq) ht w')
  have PQ : Hid (∃ K, K ≤ 900000 ∧ q < 4294967296 ^ K) := Lib.hid ⟨t.size, by omega, by rw [← hq]; exact dec_pow ht (by rw [size_list]; exact Nat.le_refl _)⟩
  clear hs ht hp hq hs1 ht1 PP PQ
  subst q0
  go_enter Tryz.func25, Tryz.ntmps25
  go_wp2_with fail
  refine (P1.out _).mono ?_
  rintro e w1 ⟨AX, nX, cX, xX, rfl, hn, hb⟩
  have X1 := Lib.hid (hn)
  have W1 := Lib.hid (W0.out.keep hb)
  have R1 := Lib.hid (R0.out.keep hb)
  have B1 := Lib.hid (B0.out.trans (hb.mono B0.out.size))
  clear hb B0 W0 R0 hn
  obtain ⟨Wa, Wb, Wc, Wd, We, Wf, Wg, Wh⟩ := W1.out.facts
  go_wp2_with fail
  refine (P2.out _).mono ?_
  rintro e w2 ⟨AY, nY, cY, xY, rfl, hn, hb⟩
  have Y2 := Lib.hid (hn)
  have W2 := Lib.hid (W1.out.keep hb)
  have R2 := Lib.hid (R1.out.keep hb)
  have X2 := Lib.hid (X1.out.keep hb)
  have B2 := Lib.hid (B1.out.trans (hb.mono B1.out.size))
  clear hb B1 W1 R1 X1 hn
  clear Wa Wb Wc Wd We Wf Wg Wh
  obtain ⟨Wa, Wb, Wc, Wd, We, Wf, Wg, Wh⟩ := W2.out.facts
  go_wp2_with fail
  refine (make_zero u _ _ _ _ _ _ _ _ Y2.out).mono ?_
  rintro e w3 ⟨AP, nP, cP, xP, AQ, nQ, cQ, xQ, rfl, hn, hn', hb⟩
  have P3 := Lib.hid (hn)
  have Q3 := Lib.hid (hn')
  have W3 := Lib.hid (W2.out.keep hb)
  have R3 := Lib.hid (R2.out.keep hb)
  have B3 := Lib.hid (B2.out.trans (hb.mono B2.out.size))
  clear hb B2 W2 R2 hn hn'
  clear Wa Wb Wc Wd We Wf Wg Wh
  obtain ⟨Ra, Rb, Rc, Rd, Re, Rf⟩ := R3.out.facts
  go_wp2
  refine bodyPost_ret (v := .tuple #[.agg #[.bool false, .slice AP nP cP, .slice AQ nQ cQ], .int .i64 8]) (by simp [results, Tryz.results25, go_sem, Ra, Rb, Rc]) rfl ?_
  exact giveFrE (t := ⟨false, 0, 0⟩) (k := 8) B3.out (by omega) R3.out P3.out Q3.out
set_option maxRecDepth 100000 in
set_option maxHeartbeats 1000000 in
theorem read_below (u : Bool) (s t : ByteArray) (p k : Nat) (w : World) (hs1 : s.size ≤ 2000) (ht1 : t.size ≤ 2000) (hs : parseErr s.data.toList = 0) (ht : parseErr t.data.toList = k) (k0 : k ≠ 0) (hp : decVal s.data.toList = p) :
    Calls Tryz.prog 25 #[.agg #[.bool u, .string s, .bool true, .string t]] w (GivesFrE ⟨false, 0, 0⟩ k w) := by
  have B0 := Lib.hid (((Below.refl w.heap.size w).alloc (Nat.le_refl _) (.cells #[.bool u, .string s, .bool true, .string t] 44)).alloc (by simp) (.cells #[.bool false, .slice none 0 0, .slice none 0 0] 25))
  have W0 := Lib.hid ((WB.new w u s true t).alloc (.cells #[.bool false, .slice none 0 0, .slice none 0 0] 25))
  have R0 := Lib.hid (FB.new (w.alloc (.cells #[.bool u, .string s, .bool true, .string t] 44)) false none 0 0 none 0 0)
  rw [show (w.alloc (.cells #[.bool u, .string s, .bool true, .string t] 44)).heap.size = w.heap.size + 1 by simp] at R0
  have P1 := Lib.hid (fun w' => parsed s p 0 (by omega) (by rw [if_pos hs]; exact hp) hs w')
  have PP : Hid (∃ K, K ≤ 900000 ∧ p < 4294967296 ^ K) := Lib.hid ⟨s.size, by omega, by rw [← hp]; exact dec_pow hs (by rw [size_list]; exact Nat.le_refl _)⟩
  have P2 := Lib.hid (fun w' => parsed t 0 k (by omega) (if_neg (by rw [ht]; exact k0)) ht w')
  have hk2 : (((k : Nat) : Int) != 0) = true := bne_iff_ne.2 (by omega)
  clear hs ht hp hs1 ht1 k0 PP
  go_enter Tryz.func25, Tryz.ntmps25
  go_wp2_with fail
  refine (P1.out _).mono ?_
  rintro e w1 ⟨AX, nX, cX, xX, rfl, hn, hb⟩
  have X1 := Lib.hid (hn)
  have W1 := Lib.hid (W0.out.keep hb)
  have R1 := Lib.hid (R0.out.keep hb)
  have B1 := Lib.hid (B0.out.trans (hb.mono B0.out.size))
  clear hb B0 W0 R0 hn
  obtain ⟨Wa, Wb, Wc, Wd, We, Wf, Wg, Wh⟩ := W1.out.facts
  go_wp2_with fail
  refine (P2.out _).mono ?_
  rintro e w2 ⟨AY, nY, cY, xY, rfl, hn, hb⟩
  have Y2 := Lib.hid (hn)
  have W2 := Lib.hid (W1.out.keep hb)
  have R2 := Lib.hid (R1.out.keep hb)
  have X2 := Lib.hid (X1.out.keep hb)
  have B2 := Lib.hid (B1.out.trans (hb.mono B1.out.size))
  clear hb B1 W1 R1 X1 hn
  clear Wa Wb Wc Wd We Wf Wg Wh
  obtain ⟨Wa, Wb, Wc, Wd, We, Wf, Wg, Wh⟩ := W2.out.facts
  obtain ⟨Ra, Rb, Rc, Rd, Re, Rf⟩ := R2.out.facts
  go_wp2
  refine bodyPost_ret (v := .tuple #[.agg #[.bool false, .slice none 0 0, .slice none 0 0], .int .i64 k]) (by simp [results, Tryz.results25, go_sem, Ra, Rb, Rc]) rfl ?_
  exact giveFrE (t := ⟨false, 0, 0⟩) (k := k) B2.out (by omega) R2.out (Num.zero _) (Num.zero _)
set_option maxRecDepth 100000 in
set_option maxHeartbeats 1000000 in
theorem read_above (u : Bool) (s t : ByteArray) (k : Nat) (w : World) (hs1 : s.size ≤ 2000) (hs : parseErr s.data.toList = k) (k0 : k ≠ 0) (z : Bool) :
    Calls Tryz.prog 25 #[.agg #[.bool u, .string s, .bool z, .string t]] w (GivesFrE ⟨false, 0, 0⟩ k w) := by
  have B0 := Lib.hid (((Below.refl w.heap.size w).alloc (Nat.le_refl _) (.cells #[.bool u, .string s, .bool z, .string t] 44)).alloc (by simp) (.cells #[.bool false, .slice none 0 0, .slice none 0 0] 25))
  have W0 := Lib.hid ((WB.new w u s z t).alloc (.cells #[.bool false, .slice none 0 0, .slice none 0 0] 25))
  have R0 := Lib.hid (FB.new (w.alloc (.cells #[.bool u, .string s, .bool z, .string t] 44)) false none 0 0 none 0 0)
  rw [show (w.alloc (.cells #[.bool u, .string s, .bool z, .string t] 44)).heap.size = w.heap.size + 1 by simp] at R0
  have P1 := Lib.hid (fun w' => parsed s 0 k (by omega) (if_neg (by rw [hs]; exact k0)) hs w')
  have hk2 : (((k : Nat) : Int) != 0) = true := bne_iff_ne.2 (by omega)
  clear hs hs1 k0
  go_enter Tryz.func25, Tryz.ntmps25
  go_wp2_with fail
  refine (P1.out _).mono ?_
  rintro e w1 ⟨AX, nX, cX, xX, rfl, hn, hb⟩
  have X1 := Lib.hid (hn)
  have W1 := Lib.hid (W0.out.keep hb)
  have R1 := Lib.hid (R0.out.keep hb)
  have B1 := Lib.hid (B0.out.trans (hb.mono B0.out.size))
  clear hb B0 W0 R0 hn
  obtain ⟨Wa, Wb, Wc, Wd, We, Wf, Wg, Wh⟩ := W1.out.facts
  obtain ⟨Ra, Rb, Rc, Rd, Re, Rf⟩ := R1.out.facts
  go_wp2
  refine bodyPost_ret (v := .tuple #[.agg #[.bool false, .slice none 0 0, .slice none 0 0], .int .i64 k]) (by simp [results, Tryz.results25, go_sem, Ra, Rb, Rc]) rfl ?_
  exact giveFrE (t := ⟨false, 0, 0⟩) (k := k) B1.out (by omega) R1.out (Num.zero _) (Num.zero _)
end Go.Proofs.YtbllnkhbahenkaaGreatDoor

/- fraction.Parse of any text: no claim of its own. -/
import Derived.Test.YtbllnkhbahenkaaGreatDoorFNeq
import Derived.Test.YtbllnkhbahenkaaGreatDoorLit2
import Derived.Deep.RegionHeld3
import Derived.Deep.DeepHandedRow
namespace Go.Proofs.YtbllnkhbahenkaaGreatDoor
open Go.RowKit
/-- What read hands back. -/
def GivesRd (b : Bool) (p q : Nat) (k : Int) (w : World) (e : Ending) (w' : World) : Prop :=
  ∃ A n c xs B m d ys, e = .returned (.tuple #[.agg #[.bool b, .slice A n c, .slice B m d], .int .i64 k]) ∧ Num w' A n c xs p ∧ Num w' B m d ys q ∧ Below w.heap.size w w'
/-- What write hands back. -/
def GivesWz (u v : Bool) (p q : Nat) (w : World) (e : Ending) (w' : World) : Prop :=
  ∃ s t, e = .returned (.agg #[.bool u, .string s, .bool v, .string t]) ∧ isText s.data.toList p ∧ (q = 1 → t = ⟨#[]⟩) ∧ (q ≠ 1 → isText t.data.toList q) ∧ Below w.heap.size w w'
theorem write_z {u v : Bool} {A B : Option Addr} {n c m d p q i : Nat} {xs ys : List Nat} {w : World} (hx : Num w A n c xs p) (hy : Num w B m d ys q) (pp : p < 4294967296 ^ i) (pq : q < 4294967296 ^ i) (hi : i ≤ 900000) (hv : (!decide (q = 1)) = v) :
    Calls Tryz.prog 23 #[.agg #[.bool u, .slice A n c, .slice B m d]] w (GivesWz u v p q w) := by subst hv; exact write_any u A B n c m d p q i xs ys w hx hy pp pq hi
set_option maxRecDepth 100000 in
set_option maxHeartbeats 1000000 in
theorem parse_far (s : ByteArray) (h1 : 1202 < s.size) (h2 : s.size ≤ 2000) (w : World) : Calls Tryz.prog 8 #[.string s] w (GivesFrE ⟨false, 0, 0⟩ 3 w) := by
  have B0 := Lib.hid ((Below.refl w.heap.size w).alloc (Nat.le_refl _) (.cells #[.bool false, .slice none 0 0, .slice none 0 0] 25))
  have R0 := Lib.hid (FB.new w false none 0 0 none 0 0)
  go_enter Tryz.func8, Tryz.ntmps8
  obtain ⟨Ra, Rb, Rc, Rd, Re, Rf⟩ := R0.out.facts
  go_wp2
  refine bodyPost_ret (v := .tuple #[.agg #[.bool false, .slice none 0 0, .slice none 0 0], .int .i64 3]) (by simp [results, Tryz.results8, go_sem, Ra, Rb, Rc]) rfl ?_
  exact ⟨none, 0, 0, [], none, 0, 0, [], rfl, Num.zero _, Num.zero _, B0.out⟩
set_option maxRecDepth 100000 in
set_option maxHeartbeats 2000000 in
theorem parse_kept (s N D : ByteArray) (u z : Bool) (h : Split s u N z D) (hs : s.size ≤ 1202) (b zq : Bool) (p q i : Nat) (pp : p < 4294967296 ^ i) (pq : q < 4294967296 ^ i) (hi : i ≤ 900000) (zq1 : (!decide (q = 1)) = zq)
    (rd : ∀ w, Calls Tryz.prog 25 #[.agg #[.bool u, .string N, .bool z, .string D]] w (GivesRd b p q 0 w))
    (nq : ∀ s' t' : ByteArray, isText s'.data.toList p → (q = 1 → t' = ⟨#[]⟩) → (q ≠ 1 → isText t'.data.toList q) → ∀ w, (binOp .neq 44 (.agg #[.bool b, .string s', .bool zq, .string t']) (.agg #[.bool u, .string N, .bool z, .string D])).run Tryz.prog w = .ok (.bool false) w) (w : World) :
    Calls Tryz.prog 8 #[.string s] w (GivesFrE ⟨b, p, q⟩ 0 w) := by
  have RD := Lib.hid rd
  have NQ := Lib.hid nq
  have PP := Lib.hid pp
  have PQ := Lib.hid pq
  have HI := Lib.hid hi
  have ZQ := Lib.hid zq1
  clear rd nq pp pq hi zq1
  have B0 := Lib.hid ((Below.refl w.heap.size w).alloc (Nat.le_refl _) (.cells #[.bool false, .slice none 0 0, .slice none 0 0] 25))
  have R0 := Lib.hid (FB.new w false none 0 0 none 0 0)
  have SP := Lib.hid (fun w' => split_any s N D u z h (by omega) w')
  clear h
  go_enter Tryz.func8, Tryz.ntmps8
  go_wp2_with fail
  refine (SP.out _).mono ?_
  rintro e w1 ⟨rfl, hb⟩
  have R1 := Lib.hid (R0.out.keep hb)
  have B1 := Lib.hid (B0.out.trans (hb.mono B0.out.size))
  clear hb B0 R0
  have w2 := Lib.hid (WB.new w1 u N z D)
  have bw : Below w1.heap.size w1 (w1.alloc (.cells #[.bool u, .string N, .bool z, .string D] 44)) := (Below.refl _ _).alloc (Nat.le_refl _) _
  have R2 := Lib.hid (R1.out.keep bw)
  have B2 := Lib.hid (B1.out.trans (bw.mono B1.out.size))
  clear R1 B1 bw
  go_wp2_with fail
  refine (RD.out _).mono ?_
  rintro e w3 ⟨AP, nP, cP, xP, AQ, nQ, cQ, xQ, rfl, hn, hn', hb⟩
  go_wp2_with fail
  have f3 : FB (w3.alloc (.cells #[.bool b, .slice AP nP cP, .slice AQ nQ cQ] 25)) w3.heap.size b AP nP cP AQ nQ cQ := FB.new _ _ _ _ _ _ _ _
  have bf : Below w3.heap.size w3 (w3.alloc (.cells #[.bool b, .slice AP nP cP, .slice AQ nQ cQ] 25)) := (Below.refl _ _).alloc (Nat.le_refl _) _
  have W3 := Lib.hid ((w2.out.keep hb).keep bf)
  have F3 := Lib.hid f3
  have R3 := Lib.hid ((R2.out.keep hb).keep bf)
  have P3 := Lib.hid (hn.keep bf).drew2
  have Q3 := Lib.hid (hn'.keep bf).drew2
  have B3 := Lib.hid ((B2.out.trans (hb.mono B2.out.size)).trans (bf.mono (Nat.le_trans B2.out.size hb.size)))
  clear hn hn' hb w2 R2 B2 f3 bf
  obtain ⟨Wa, Wb, Wc, Wd, _, _, _, _⟩ := W3.out.facts
  obtain ⟨Fa, Fb, Fc, _, _, _⟩ := F3.out.facts
  obtain ⟨G3, hG3⟩ : ∃ G3, w3.heap.size = G3 := ⟨_, rfl⟩
  obtain ⟨G1, hG1⟩ : ∃ G1, w1.heap.size = G1 := ⟨_, rfl⟩
  obtain ⟨w5, hw5⟩ : ∃ w5, w3.alloc (.cells #[.bool b, .slice AP nP cP, .slice AQ nQ cQ] 25) = w5 := ⟨_, rfl⟩
  rw [hG3] at F3 Fa Fb Fc
  rw [hG1] at W3 Wa Wb Wc Wd
  rw [hw5] at F3 Fa Fb Fc W3 Wa Wb Wc Wd R3 P3 Q3 B3
  rw [hw5, hG3, hG1]
  clear hG3 hG1 hw5
  go_region_held3 (fun w' => w'.cell? ⟨G3, 0, none⟩ = some (.bool b) ∧ w'.cell? ⟨G3, 1, none⟩ = some (.slice AP nP cP) ∧ w'.cell? ⟨G3, 2, none⟩ = some (.slice AQ nQ cQ) ∧ w'.cell? ⟨G1, 0, none⟩ = some (.bool u) ∧ w'.cell? ⟨G1, 1, none⟩ = some (.string N) ∧ w'.cell? ⟨G1, 2, none⟩ = some (.bool z) ∧ w'.cell? ⟨G1, 3, none⟩ = some (.string D)) (go_keep) (first | (go_at_call 23; (with_reducible refine (write_z P3.out Q3.out PP.out PQ.out HI.out ZQ.out).mono ?_); rintro e w6 ⟨s', t', rfl, hs', ht1, ht2, hb⟩; have nq := NQ.out s' t' hs' ht1 ht2; have P6 := Lib.hid (P3.out.keep hb); have Q6 := Lib.hid (Q3.out.keep hb); have hb := ((Below.refl w5.heap.size w5).drew).trans hb; have W6 := Lib.hid (W3.out.keep hb); have F6 := Lib.hid (F3.out.keep hb); have R6 := Lib.hid (R3.out.keep hb); have B6 := Lib.hid (B3.out.trans (hb.mono B3.out.size)); clear hb hs' ht1 ht2 Wa Wb Wc Wd Fa Fb Fc; obtain ⟨Wa, Wb, Wc, Wd, _, _, _, _⟩ := W6.out.facts; obtain ⟨Fa, Fb, Fc, _, _, _⟩ := F6.out.facts; obtain ⟨Ra, Rb, Rc, Rd, Re, Rf⟩ := R6.out.facts))
  go_wp2
  refine bodyPost_ret (v := .tuple #[.agg #[.bool b, .slice AP nP cP, .slice AQ nQ cQ], .int .i64 0]) (by simp [results, Tryz.results8, go_sem, Ra, Rb, Rc]) rfl ?_
  exact giveFrE (t := ⟨b, p, q⟩) B6.out (Nat.le_refl _) R6.out P6.out Q6.out
set_option maxRecDepth 100000 in
set_option maxHeartbeats 2000000 in
theorem parse_other (s N D : ByteArray) (u z : Bool) (h : Split s u N z D) (hs : s.size ≤ 1202) (b zq : Bool) (p q i : Nat) (pp : p < 4294967296 ^ i) (pq : q < 4294967296 ^ i) (hi : i ≤ 900000) (zq1 : (!decide (q = 1)) = zq)
    (rd : ∀ w, Calls Tryz.prog 25 #[.agg #[.bool u, .string N, .bool z, .string D]] w (GivesRd b p q 0 w))
    (nq : ∀ s' t' : ByteArray, isText s'.data.toList p → (q = 1 → t' = ⟨#[]⟩) → (q ≠ 1 → isText t'.data.toList q) → ∀ w, (binOp .neq 44 (.agg #[.bool b, .string s', .bool zq, .string t']) (.agg #[.bool u, .string N, .bool z, .string D])).run Tryz.prog w = .ok (.bool true) w) (w : World) :
    Calls Tryz.prog 8 #[.string s] w (GivesFrE ⟨false, 0, 0⟩ 2 w) := by
  have RD := Lib.hid rd
  have NQ := Lib.hid nq
  have PP := Lib.hid pp
  have PQ := Lib.hid pq
  have HI := Lib.hid hi
  have ZQ := Lib.hid zq1
  clear rd nq pp pq hi zq1
  have B0 := Lib.hid ((Below.refl w.heap.size w).alloc (Nat.le_refl _) (.cells #[.bool false, .slice none 0 0, .slice none 0 0] 25))
  have R0 := Lib.hid (FB.new w false none 0 0 none 0 0)
  have SP := Lib.hid (fun w' => split_any s N D u z h (by omega) w')
  clear h
  go_enter Tryz.func8, Tryz.ntmps8
  go_wp2_with fail
  refine (SP.out _).mono ?_
  rintro e w1 ⟨rfl, hb⟩
  have R1 := Lib.hid (R0.out.keep hb)
  have B1 := Lib.hid (B0.out.trans (hb.mono B0.out.size))
  clear hb B0 R0
  have w2 := Lib.hid (WB.new w1 u N z D)
  have bw : Below w1.heap.size w1 (w1.alloc (.cells #[.bool u, .string N, .bool z, .string D] 44)) := (Below.refl _ _).alloc (Nat.le_refl _) _
  have R2 := Lib.hid (R1.out.keep bw)
  have B2 := Lib.hid (B1.out.trans (bw.mono B1.out.size))
  clear R1 B1 bw
  go_wp2_with fail
  refine (RD.out _).mono ?_
  rintro e w3 ⟨AP, nP, cP, xP, AQ, nQ, cQ, xQ, rfl, hn, hn', hb⟩
  go_wp2_with fail
  have f3 : FB (w3.alloc (.cells #[.bool b, .slice AP nP cP, .slice AQ nQ cQ] 25)) w3.heap.size b AP nP cP AQ nQ cQ := FB.new _ _ _ _ _ _ _ _
  have bf : Below w3.heap.size w3 (w3.alloc (.cells #[.bool b, .slice AP nP cP, .slice AQ nQ cQ] 25)) := (Below.refl _ _).alloc (Nat.le_refl _) _
  have W3 := Lib.hid ((w2.out.keep hb).keep bf)
  have F3 := Lib.hid f3
  have R3 := Lib.hid ((R2.out.keep hb).keep bf)
  have P3 := Lib.hid (hn.keep bf).drew2
  have Q3 := Lib.hid (hn'.keep bf).drew2
  have B3 := Lib.hid ((B2.out.trans (hb.mono B2.out.size)).trans (bf.mono (Nat.le_trans B2.out.size hb.size)))
  clear hn hn' hb w2 R2 B2 f3 bf
  obtain ⟨Wa, Wb, Wc, Wd, _, _, _, _⟩ := W3.out.facts
  obtain ⟨Fa, Fb, Fc, _, _, _⟩ := F3.out.facts
  obtain ⟨G3, hG3⟩ : ∃ G3, w3.heap.size = G3 := ⟨_, rfl⟩
  obtain ⟨G1, hG1⟩ : ∃ G1, w1.heap.size = G1 := ⟨_, rfl⟩
  obtain ⟨w5, hw5⟩ : ∃ w5, w3.alloc (.cells #[.bool b, .slice AP nP cP, .slice AQ nQ cQ] 25) = w5 := ⟨_, rfl⟩
  rw [hG3] at F3 Fa Fb Fc
  rw [hG1] at W3 Wa Wb Wc Wd
  rw [hw5] at F3 Fa Fb Fc W3 Wa Wb Wc Wd R3 P3 Q3 B3
  rw [hw5, hG3, hG1]
  clear hG3 hG1 hw5
  go_region_held3 (fun w' => w'.cell? ⟨G3, 0, none⟩ = some (.bool b) ∧ w'.cell? ⟨G3, 1, none⟩ = some (.slice AP nP cP) ∧ w'.cell? ⟨G3, 2, none⟩ = some (.slice AQ nQ cQ) ∧ w'.cell? ⟨G1, 0, none⟩ = some (.bool u) ∧ w'.cell? ⟨G1, 1, none⟩ = some (.string N) ∧ w'.cell? ⟨G1, 2, none⟩ = some (.bool z) ∧ w'.cell? ⟨G1, 3, none⟩ = some (.string D)) (go_keep) (first | (go_at_call 23; (with_reducible refine (write_z P3.out Q3.out PP.out PQ.out HI.out ZQ.out).mono ?_); rintro e w6 ⟨s', t', rfl, hs', ht1, ht2, hb⟩; have nq := NQ.out s' t' hs' ht1 ht2; have P6 := Lib.hid (P3.out.keep hb); have Q6 := Lib.hid (Q3.out.keep hb); have hb := ((Below.refl w5.heap.size w5).drew).trans hb; have W6 := Lib.hid (W3.out.keep hb); have F6 := Lib.hid (F3.out.keep hb); have R6 := Lib.hid (R3.out.keep hb); have B6 := Lib.hid (B3.out.trans (hb.mono B3.out.size)); clear hb hs' ht1 ht2 Wa Wb Wc Wd Fa Fb Fc; obtain ⟨Wa, Wb, Wc, Wd, _, _, _, _⟩ := W6.out.facts; obtain ⟨Fa, Fb, Fc, _, _, _⟩ := F6.out.facts; obtain ⟨Ra, Rb, Rc, Rd, Re, Rf⟩ := R6.out.facts))
  go_wp2
  refine bodyPost_ret (v := .tuple #[.agg #[.bool false, .slice none 0 0, .slice none 0 0], .int .i64 2]) (by simp [results, Tryz.results8, go_sem, Ra, Rb, Rc]) rfl ?_
  exact giveFrE (t := ⟨false, 0, 0⟩) B6.out (Nat.le_refl _) R6.out (Num.zero _) (Num.zero _)
end Go.Proofs.YtbllnkhbahenkaaGreatDoor

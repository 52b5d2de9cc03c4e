/- The walk of FractionTexts: no claim of its own. -/
import Derived.Test.YtbllnkhbahenkaaGreatDoorRFParse
import Derived.Test.YtbllnkhbahenkaaGreatDoorAwake
import Derived.Test.YtbllnkhbahenkaaGreatDoorShortF
import Derived.Test.YtbllnkhbahenkaaGreatDoorFSame
namespace Go.Proofs.YtbllnkhbahenkaaGreatDoor
open Go.RowKit
set_option maxRecDepth 100000 in
set_option maxHeartbeats 1000000 in
theorem texts_skip (u : Bool) (A B : Option Addr) (n c m d : Nat) (w : World) (s : ByteArray) (v : Bool) (hv : v = false ∨ (v = true ∧ 1300 < s.size))
    (sh : ∀ w', Below w.heap.size w w' → Calls Tryz.prog 5 #[.agg #[.bool u, .slice A n c, .slice B m d]] w' (Gives (.bool v) w')) :
    Calls Tryz.prog 3 #[.agg #[.bool u, .slice A n c, .slice B m d], .string s] w (Gives (.bool true) w) := by
  have B0 := (Below.refl w.heap.size w).alloc (Nat.le_refl _) (.cells #[.bool u, .slice A n c, .slice B m d] 25)
  have SH := Lib.hid (sh _ B0)
  have H := Lib.hid (FB.new w u A n c B m d)
  have J := Lib.hid awake2
  have B := Lib.hid B0
  clear sh B0
  rcases hv with rfl | ⟨rfl, hv⟩
  all_goals
    go_enter Tryz.func3, Tryz.ntmps3
    obtain ⟨Ha, Hb, Hc, _, _, _⟩ := H.out.facts
    go_wp2_with fail
    refine SH.out.mono ?_
    rintro e w1 ⟨rfl, hb⟩
    have B1 := Lib.hid (B.out.trans (hb.mono B.out.size))
    clear hb
    go_wp2_with fail
    refine (J.out _).mono ?_
    rintro e w9 ⟨rfl, hb⟩
    have B9 := Lib.hid (B1.out.trans (hb.mono B1.out.size))
    clear hb B1
    go_wp2
    go_ret
    exact ⟨rfl, B9.out⟩
set_option maxRecDepth 100000 in
set_option maxHeartbeats 4000000 in
theorem texts_ok (u : Bool) (A B : Option Addr) (n c m d p q : Nat) (xs ys : List Nat) (w : World) (s : ByteArray) (hs : s.size ≤ 1300) (hx : Num w A n c xs p) (hy : Num w B m d ys q) (hp : p < 4294967296 ^ 20) (hq : q < 4294967296 ^ 20)
    (sh : ∀ w', Below w.heap.size w w' → Calls Tryz.prog 5 #[.agg #[.bool u, .slice A n c, .slice B m d]] w' (Gives (.bool true) w'))
    (pa : ∀ (t : ByteArray), fText u p q t.data.toList → ∀ w, Calls Tryz.prog 8 #[.string t] w (GivesRd u p q 0 w))
    (b : Bool) (p' q' : Nat) (ps : ∀ w, Calls Tryz.prog 8 #[.string s] w (GivesRd b p' q' 0 w)) (rs : ∀ w, Calls Tryz.prog 9 #[.string s] w (GivesRd b p' q' 0 w)) :
    Calls Tryz.prog 3 #[.agg #[.bool u, .slice A n c, .slice B m d], .string s] w (Gives (.bool true) w) := by
  have B0 := (Below.refl w.heap.size w).alloc (Nat.le_refl _) (.cells #[.bool u, .slice A n c, .slice B m d] 25)
  have SH := Lib.hid (sh _ B0)
  have H := Lib.hid (FB.new w u A n c B m d)
  have X := Lib.hid (hx.keep B0)
  have Y := Lib.hid (hy.keep B0)
  have PA := Lib.hid pa
  have PS := Lib.hid ps
  have RS := Lib.hid rs
  have PP := Lib.hid hp
  have PQ := Lib.hid hq
  have J := Lib.hid awake2
  have ee : ((0 : Int) == 0) = true := beq_self_eq_true _
  have B := Lib.hid B0
  clear sh hx hy hp hq pa ps rs B0
  go_enter Tryz.func3, Tryz.ntmps3
  obtain ⟨Ha, Hb, Hc, _, _, _⟩ := H.out.facts
  go_wp2_with fail
  refine SH.out.mono ?_
  rintro e w1 ⟨rfl, hb⟩
  clear Ha Hb Hc SH
  have H' := Lib.hid (H.out.keep hb)
  have X' := Lib.hid (X.out.keep hb)
  have Y' := Lib.hid (Y.out.keep hb)
  have B' := Lib.hid (B.out.trans (hb.mono B.out.size))
  clear hb B H X Y
  have H := Lib.hid H'.out
  have X := Lib.hid X'.out
  have Y := Lib.hid Y'.out
  have B := Lib.hid B'.out
  clear B' H' X' Y'
  obtain ⟨Ha, Hb, Hc, _, _, _⟩ := H.out.facts
  go_wp2_with fail
  refine (fformat_any u _ _ _ _ _ _ p q 20 _ _ _ X.out Y.out PP.out PQ.out (by decide)).mono ?_
  rintro e w2 ⟨t, rfl, ht, hb⟩
  have PT := Lib.hid (PA.out t ht)
  have HT := Lib.hid ht
  clear ht PA Ha Hb Hc
  have H' := Lib.hid (H.out.keep hb)
  have X' := Lib.hid (X.out.keep hb)
  have Y' := Lib.hid (Y.out.keep hb)
  have B' := Lib.hid (B.out.trans (hb.mono B.out.size))
  clear hb B H X Y
  have H := Lib.hid H'.out
  have X := Lib.hid X'.out
  have Y := Lib.hid Y'.out
  have B := Lib.hid B'.out
  clear B' H' X' Y'
  go_wp2_with fail
  refine (PT.out _).mono ?_
  rintro e w3 ⟨A1, n1, c1, x1, D1, m1, d1, y1, rfl, hn, hn', hb⟩
  have bf : Below w3.heap.size w3 (w3.alloc (.cells #[.bool u, .slice A1 n1 c1, .slice D1 m1 d1] 25)) := (Below.refl _ _).alloc (Nat.le_refl _) _
  have f := FB.new w3 u A1 n1 c1 D1 m1 d1
  have P1 := Lib.hid (hn.keep bf)
  have Q1 := Lib.hid (hn'.keep bf)
  have F1 := Lib.hid f
  have hb := hb.trans (bf.mono hb.size)
  clear hn hn' bf f
  have H' := Lib.hid (H.out.keep hb)
  have X' := Lib.hid (X.out.keep hb)
  have Y' := Lib.hid (Y.out.keep hb)
  have B' := Lib.hid (B.out.trans (hb.mono B.out.size))
  clear hb B H X Y
  have H := Lib.hid H'.out
  have X := Lib.hid X'.out
  have Y := Lib.hid Y'.out
  have B := Lib.hid B'.out
  clear B' H' X' Y'
  go_wp2_with fail
  refine (PS.out _).mono ?_
  rintro e w4 ⟨A2, n2, c2, x2, D2, m2, d2, y2, rfl, hn, hn', hb⟩
  have bf : Below w4.heap.size w4 (w4.alloc (.cells #[.bool b, .slice A2 n2 c2, .slice D2 m2 d2] 25)) := (Below.refl _ _).alloc (Nat.le_refl _) _
  have f := FB.new w4 b A2 n2 c2 D2 m2 d2
  have P2 := Lib.hid (hn.keep bf)
  have Q2 := Lib.hid (hn'.keep bf)
  have F2 := Lib.hid f
  have hb := hb.trans (bf.mono hb.size)
  clear hn hn' bf f
  have H' := Lib.hid (H.out.keep hb)
  have X' := Lib.hid (X.out.keep hb)
  have Y' := Lib.hid (Y.out.keep hb)
  have P1' := Lib.hid (P1.out.keep hb)
  have Q1' := Lib.hid (Q1.out.keep hb)
  have F1' := Lib.hid (F1.out.keep hb)
  have B' := Lib.hid (B.out.trans (hb.mono B.out.size))
  clear hb B H X Y P1 Q1 F1
  have H := Lib.hid H'.out
  have X := Lib.hid X'.out
  have Y := Lib.hid Y'.out
  have P1 := Lib.hid P1'.out
  have Q1 := Lib.hid Q1'.out
  have F1 := Lib.hid F1'.out
  have B := Lib.hid B'.out
  clear B' H' X' Y' P1' Q1' F1'
  go_wp2_with fail
  refine (RS.out _).mono ?_
  rintro e w5 ⟨A3, n3, c3, x3, D3, m3, d3, y3, rfl, hn, hn', hb⟩
  have bf : Below w5.heap.size w5 (w5.alloc (.cells #[.bool b, .slice A3 n3 c3, .slice D3 m3 d3] 25)) := (Below.refl _ _).alloc (Nat.le_refl _) _
  have f := FB.new w5 b A3 n3 c3 D3 m3 d3
  have P3 := Lib.hid (hn.keep bf)
  have Q3 := Lib.hid (hn'.keep bf)
  have F3 := Lib.hid f
  have hb := hb.trans (bf.mono hb.size)
  clear hn hn' bf f
  have H' := Lib.hid (H.out.keep hb)
  have X' := Lib.hid (X.out.keep hb)
  have Y' := Lib.hid (Y.out.keep hb)
  have P1' := Lib.hid (P1.out.keep hb)
  have Q1' := Lib.hid (Q1.out.keep hb)
  have F1' := Lib.hid (F1.out.keep hb)
  have P2' := Lib.hid (P2.out.keep hb)
  have Q2' := Lib.hid (Q2.out.keep hb)
  have F2' := Lib.hid (F2.out.keep hb)
  have B' := Lib.hid (B.out.trans (hb.mono B.out.size))
  clear hb B H X Y P1 Q1 F1 P2 Q2 F2
  have H := Lib.hid H'.out
  have X := Lib.hid X'.out
  have Y := Lib.hid Y'.out
  have P1 := Lib.hid P1'.out
  have Q1 := Lib.hid Q1'.out
  have F1 := Lib.hid F1'.out
  have P2 := Lib.hid P2'.out
  have Q2 := Lib.hid Q2'.out
  have F2 := Lib.hid F2'.out
  have B := Lib.hid B'.out
  clear B' H' X' Y' P1' Q1' F1' P2' Q2' F2'
  obtain ⟨Ha, Hb, Hc, _, _, _⟩ := H.out.facts
  go_wp2_with fail
  refine (rfformat_any u _ _ _ _ _ _ p q 20 _ _ _ X.out Y.out PP.out PQ.out (by decide)).mono ?_
  rintro e w6 ⟨t', rfl, ht, hb⟩
  have te := toList_same (fText_inj HT.out ht)
  clear ht Ha Hb Hc
  have H' := Lib.hid (H.out.keep hb)
  have X' := Lib.hid (X.out.keep hb)
  have Y' := Lib.hid (Y.out.keep hb)
  have P1' := Lib.hid (P1.out.keep hb)
  have Q1' := Lib.hid (Q1.out.keep hb)
  have F1' := Lib.hid (F1.out.keep hb)
  have P2' := Lib.hid (P2.out.keep hb)
  have Q2' := Lib.hid (Q2.out.keep hb)
  have F2' := Lib.hid (F2.out.keep hb)
  have P3' := Lib.hid (P3.out.keep hb)
  have Q3' := Lib.hid (Q3.out.keep hb)
  have F3' := Lib.hid (F3.out.keep hb)
  have B' := Lib.hid (B.out.trans (hb.mono B.out.size))
  clear hb B H X Y P1 Q1 F1 P2 Q2 F2 P3 Q3 F3
  have H := Lib.hid H'.out
  have X := Lib.hid X'.out
  have Y := Lib.hid Y'.out
  have P1 := Lib.hid P1'.out
  have Q1 := Lib.hid Q1'.out
  have F1 := Lib.hid F1'.out
  have P2 := Lib.hid P2'.out
  have Q2 := Lib.hid Q2'.out
  have F2 := Lib.hid F2'.out
  have P3 := Lib.hid P3'.out
  have Q3 := Lib.hid Q3'.out
  have F3 := Lib.hid F3'.out
  have B := Lib.hid B'.out
  clear B' H' X' Y' P1' Q1' F1' P2' Q2' F2' P3' Q3' F3'
  obtain ⟨Ha, Hb, Hc, _, _, _⟩ := H.out.facts
  obtain ⟨Ka, Kb, Kc, _, _, _⟩ := F1.out.facts
  go_wp2_with fail
  refine (sameFr_yes (t := ⟨u, p, q⟩) rfl rfl X.out Y.out P1.out Q1.out).mono ?_
  rintro e w7 ⟨rfl, hb⟩
  clear Ha Hb Hc Ka Kb Kc
  have H' := Lib.hid (H.out.keep hb)
  have X' := Lib.hid (X.out.keep hb)
  have Y' := Lib.hid (Y.out.keep hb)
  have P1' := Lib.hid (P1.out.keep hb)
  have Q1' := Lib.hid (Q1.out.keep hb)
  have F1' := Lib.hid (F1.out.keep hb)
  have P2' := Lib.hid (P2.out.keep hb)
  have Q2' := Lib.hid (Q2.out.keep hb)
  have F2' := Lib.hid (F2.out.keep hb)
  have P3' := Lib.hid (P3.out.keep hb)
  have Q3' := Lib.hid (Q3.out.keep hb)
  have F3' := Lib.hid (F3.out.keep hb)
  have B' := Lib.hid (B.out.trans (hb.mono B.out.size))
  clear hb B H X Y P1 Q1 F1 P2 Q2 F2 P3 Q3 F3
  have H := Lib.hid H'.out
  have X := Lib.hid X'.out
  have Y := Lib.hid Y'.out
  have P1 := Lib.hid P1'.out
  have Q1 := Lib.hid Q1'.out
  have F1 := Lib.hid F1'.out
  have P2 := Lib.hid P2'.out
  have Q2 := Lib.hid Q2'.out
  have F2 := Lib.hid F2'.out
  have P3 := Lib.hid P3'.out
  have Q3 := Lib.hid Q3'.out
  have F3 := Lib.hid F3'.out
  have B := Lib.hid B'.out
  clear B' H' X' Y' P1' Q1' F1' P2' Q2' F2' P3' Q3' F3'
  obtain ⟨Ha, Hb, Hc, _, _, _⟩ := F2.out.facts
  obtain ⟨Ka, Kb, Kc, _, _, _⟩ := F3.out.facts
  go_wp2_with fail
  refine (sameFr_yes (t := ⟨b, p', q'⟩) rfl rfl P2.out Q2.out P3.out Q3.out).mono ?_
  rintro e w8 ⟨rfl, hb⟩
  clear Ha Hb Hc Ka Kb Kc
  have H' := Lib.hid (H.out.keep hb)
  have X' := Lib.hid (X.out.keep hb)
  have Y' := Lib.hid (Y.out.keep hb)
  have P1' := Lib.hid (P1.out.keep hb)
  have Q1' := Lib.hid (Q1.out.keep hb)
  have F1' := Lib.hid (F1.out.keep hb)
  have P2' := Lib.hid (P2.out.keep hb)
  have Q2' := Lib.hid (Q2.out.keep hb)
  have F2' := Lib.hid (F2.out.keep hb)
  have P3' := Lib.hid (P3.out.keep hb)
  have Q3' := Lib.hid (Q3.out.keep hb)
  have F3' := Lib.hid (F3.out.keep hb)
  have B' := Lib.hid (B.out.trans (hb.mono B.out.size))
  clear hb B H X Y P1 Q1 F1 P2 Q2 F2 P3 Q3 F3
  have H := Lib.hid H'.out
  have X := Lib.hid X'.out
  have Y := Lib.hid Y'.out
  have P1 := Lib.hid P1'.out
  have Q1 := Lib.hid Q1'.out
  have F1 := Lib.hid F1'.out
  have P2 := Lib.hid P2'.out
  have Q2 := Lib.hid Q2'.out
  have F2 := Lib.hid F2'.out
  have P3 := Lib.hid P3'.out
  have Q3 := Lib.hid Q3'.out
  have F3 := Lib.hid F3'.out
  have B := Lib.hid B'.out
  clear B' H' X' Y' P1' Q1' F1' P2' Q2' F2' P3' Q3' F3'
  go_wp2_with fail
  refine (J.out _).mono ?_
  rintro e w9 ⟨rfl, hb⟩
  have H' := Lib.hid (H.out.keep hb)
  have X' := Lib.hid (X.out.keep hb)
  have Y' := Lib.hid (Y.out.keep hb)
  have P1' := Lib.hid (P1.out.keep hb)
  have Q1' := Lib.hid (Q1.out.keep hb)
  have F1' := Lib.hid (F1.out.keep hb)
  have P2' := Lib.hid (P2.out.keep hb)
  have Q2' := Lib.hid (Q2.out.keep hb)
  have F2' := Lib.hid (F2.out.keep hb)
  have P3' := Lib.hid (P3.out.keep hb)
  have Q3' := Lib.hid (Q3.out.keep hb)
  have F3' := Lib.hid (F3.out.keep hb)
  have B' := Lib.hid (B.out.trans (hb.mono B.out.size))
  clear hb B H X Y P1 Q1 F1 P2 Q2 F2 P3 Q3 F3
  have H := Lib.hid H'.out
  have X := Lib.hid X'.out
  have Y := Lib.hid Y'.out
  have P1 := Lib.hid P1'.out
  have Q1 := Lib.hid Q1'.out
  have F1 := Lib.hid F1'.out
  have P2 := Lib.hid P2'.out
  have Q2 := Lib.hid Q2'.out
  have F2 := Lib.hid F2'.out
  have P3 := Lib.hid P3'.out
  have Q3 := Lib.hid Q3'.out
  have F3 := Lib.hid F3'.out
  have B := Lib.hid B'.out
  clear B' H' X' Y' P1' Q1' F1' P2' Q2' F2' P3' Q3' F3'
  go_wp2
  go_ret
  exact ⟨rfl, B.out⟩
set_option maxRecDepth 100000 in
set_option maxHeartbeats 4000000 in
theorem texts_err (u : Bool) (A B : Option Addr) (n c m d p q : Nat) (xs ys : List Nat) (w : World) (s : ByteArray) (hs : s.size ≤ 1300) (hx : Num w A n c xs p) (hy : Num w B m d ys q) (hp : p < 4294967296 ^ 20) (hq : q < 4294967296 ^ 20)
    (sh : ∀ w', Below w.heap.size w w' → Calls Tryz.prog 5 #[.agg #[.bool u, .slice A n c, .slice B m d]] w' (Gives (.bool true) w'))
    (pa : ∀ (t : ByteArray), fText u p q t.data.toList → ∀ w, Calls Tryz.prog 8 #[.string t] w (GivesRd u p q 0 w))
    (b : Bool) (p' q' : Nat) (k : Int) (hk : (k != 0) = true) (ps : ∀ w, Calls Tryz.prog 8 #[.string s] w (GivesRd b p' q' k w)) (rs : ∀ w, Calls Tryz.prog 9 #[.string s] w (GivesRd b p' q' k w)) :
    Calls Tryz.prog 3 #[.agg #[.bool u, .slice A n c, .slice B m d], .string s] w (Gives (.bool true) w) := by
  have B0 := (Below.refl w.heap.size w).alloc (Nat.le_refl _) (.cells #[.bool u, .slice A n c, .slice B m d] 25)
  have SH := Lib.hid (sh _ B0)
  have H := Lib.hid (FB.new w u A n c B m d)
  have X := Lib.hid (hx.keep B0)
  have Y := Lib.hid (hy.keep B0)
  have PA := Lib.hid pa
  have PS := Lib.hid ps
  have RS := Lib.hid rs
  have PP := Lib.hid hp
  have PQ := Lib.hid hq
  have J := Lib.hid awake2
  have ee : ((k : Int) == k) = true := beq_self_eq_true _
  have B := Lib.hid B0
  clear sh hx hy hp hq pa ps rs B0
  go_enter Tryz.func3, Tryz.ntmps3
  obtain ⟨Ha, Hb, Hc, _, _, _⟩ := H.out.facts
  go_wp2_with fail
  refine SH.out.mono ?_
  rintro e w1 ⟨rfl, hb⟩
  clear Ha Hb Hc SH
  have H' := Lib.hid (H.out.keep hb)
  have X' := Lib.hid (X.out.keep hb)
  have Y' := Lib.hid (Y.out.keep hb)
  have B' := Lib.hid (B.out.trans (hb.mono B.out.size))
  clear hb B H X Y
  have H := Lib.hid H'.out
  have X := Lib.hid X'.out
  have Y := Lib.hid Y'.out
  have B := Lib.hid B'.out
  clear B' H' X' Y'
  obtain ⟨Ha, Hb, Hc, _, _, _⟩ := H.out.facts
  go_wp2_with fail
  refine (fformat_any u _ _ _ _ _ _ p q 20 _ _ _ X.out Y.out PP.out PQ.out (by decide)).mono ?_
  rintro e w2 ⟨t, rfl, ht, hb⟩
  have PT := Lib.hid (PA.out t ht)
  have HT := Lib.hid ht
  clear ht PA Ha Hb Hc
  have H' := Lib.hid (H.out.keep hb)
  have X' := Lib.hid (X.out.keep hb)
  have Y' := Lib.hid (Y.out.keep hb)
  have B' := Lib.hid (B.out.trans (hb.mono B.out.size))
  clear hb B H X Y
  have H := Lib.hid H'.out
  have X := Lib.hid X'.out
  have Y := Lib.hid Y'.out
  have B := Lib.hid B'.out
  clear B' H' X' Y'
  go_wp2_with fail
  refine (PT.out _).mono ?_
  rintro e w3 ⟨A1, n1, c1, x1, D1, m1, d1, y1, rfl, hn, hn', hb⟩
  have bf : Below w3.heap.size w3 (w3.alloc (.cells #[.bool u, .slice A1 n1 c1, .slice D1 m1 d1] 25)) := (Below.refl _ _).alloc (Nat.le_refl _) _
  have f := FB.new w3 u A1 n1 c1 D1 m1 d1
  have P1 := Lib.hid (hn.keep bf)
  have Q1 := Lib.hid (hn'.keep bf)
  have F1 := Lib.hid f
  have hb := hb.trans (bf.mono hb.size)
  clear hn hn' bf f
  have H' := Lib.hid (H.out.keep hb)
  have X' := Lib.hid (X.out.keep hb)
  have Y' := Lib.hid (Y.out.keep hb)
  have B' := Lib.hid (B.out.trans (hb.mono B.out.size))
  clear hb B H X Y
  have H := Lib.hid H'.out
  have X := Lib.hid X'.out
  have Y := Lib.hid Y'.out
  have B := Lib.hid B'.out
  clear B' H' X' Y'
  go_wp2_with fail
  refine (PS.out _).mono ?_
  rintro e w4 ⟨A2, n2, c2, x2, D2, m2, d2, y2, rfl, hn, hn', hb⟩
  have bf : Below w4.heap.size w4 (w4.alloc (.cells #[.bool b, .slice A2 n2 c2, .slice D2 m2 d2] 25)) := (Below.refl _ _).alloc (Nat.le_refl _) _
  have f := FB.new w4 b A2 n2 c2 D2 m2 d2
  have P2 := Lib.hid (hn.keep bf)
  have Q2 := Lib.hid (hn'.keep bf)
  have F2 := Lib.hid f
  have hb := hb.trans (bf.mono hb.size)
  clear hn hn' bf f
  have H' := Lib.hid (H.out.keep hb)
  have X' := Lib.hid (X.out.keep hb)
  have Y' := Lib.hid (Y.out.keep hb)
  have P1' := Lib.hid (P1.out.keep hb)
  have Q1' := Lib.hid (Q1.out.keep hb)
  have F1' := Lib.hid (F1.out.keep hb)
  have B' := Lib.hid (B.out.trans (hb.mono B.out.size))
  clear hb B H X Y P1 Q1 F1
  have H := Lib.hid H'.out
  have X := Lib.hid X'.out
  have Y := Lib.hid Y'.out
  have P1 := Lib.hid P1'.out
  have Q1 := Lib.hid Q1'.out
  have F1 := Lib.hid F1'.out
  have B := Lib.hid B'.out
  clear B' H' X' Y' P1' Q1' F1'
  go_wp2_with fail
  refine (RS.out _).mono ?_
  rintro e w5 ⟨A3, n3, c3, x3, D3, m3, d3, y3, rfl, hn, hn', hb⟩
  have bf : Below w5.heap.size w5 (w5.alloc (.cells #[.bool b, .slice A3 n3 c3, .slice D3 m3 d3] 25)) := (Below.refl _ _).alloc (Nat.le_refl _) _
  have f := FB.new w5 b A3 n3 c3 D3 m3 d3
  have P3 := Lib.hid (hn.keep bf)
  have Q3 := Lib.hid (hn'.keep bf)
  have F3 := Lib.hid f
  have hb := hb.trans (bf.mono hb.size)
  clear hn hn' bf f
  have H' := Lib.hid (H.out.keep hb)
  have X' := Lib.hid (X.out.keep hb)
  have Y' := Lib.hid (Y.out.keep hb)
  have P1' := Lib.hid (P1.out.keep hb)
  have Q1' := Lib.hid (Q1.out.keep hb)
  have F1' := Lib.hid (F1.out.keep hb)
  have P2' := Lib.hid (P2.out.keep hb)
  have Q2' := Lib.hid (Q2.out.keep hb)
  have F2' := Lib.hid (F2.out.keep hb)
  have B' := Lib.hid (B.out.trans (hb.mono B.out.size))
  clear hb B H X Y P1 Q1 F1 P2 Q2 F2
  have H := Lib.hid H'.out
  have X := Lib.hid X'.out
  have Y := Lib.hid Y'.out
  have P1 := Lib.hid P1'.out
  have Q1 := Lib.hid Q1'.out
  have F1 := Lib.hid F1'.out
  have P2 := Lib.hid P2'.out
  have Q2 := Lib.hid Q2'.out
  have F2 := Lib.hid F2'.out
  have B := Lib.hid B'.out
  clear B' H' X' Y' P1' Q1' F1' P2' Q2' F2'
  obtain ⟨Ha, Hb, Hc, _, _, _⟩ := H.out.facts
  go_wp2_with fail
  refine (rfformat_any u _ _ _ _ _ _ p q 20 _ _ _ X.out Y.out PP.out PQ.out (by decide)).mono ?_
  rintro e w6 ⟨t', rfl, ht, hb⟩
  have te := toList_same (fText_inj HT.out ht)
  clear ht Ha Hb Hc
  have H' := Lib.hid (H.out.keep hb)
  have X' := Lib.hid (X.out.keep hb)
  have Y' := Lib.hid (Y.out.keep hb)
  have P1' := Lib.hid (P1.out.keep hb)
  have Q1' := Lib.hid (Q1.out.keep hb)
  have F1' := Lib.hid (F1.out.keep hb)
  have P2' := Lib.hid (P2.out.keep hb)
  have Q2' := Lib.hid (Q2.out.keep hb)
  have F2' := Lib.hid (F2.out.keep hb)
  have P3' := Lib.hid (P3.out.keep hb)
  have Q3' := Lib.hid (Q3.out.keep hb)
  have F3' := Lib.hid (F3.out.keep hb)
  have B' := Lib.hid (B.out.trans (hb.mono B.out.size))
  clear hb B H X Y P1 Q1 F1 P2 Q2 F2 P3 Q3 F3
  have H := Lib.hid H'.out
  have X := Lib.hid X'.out
  have Y := Lib.hid Y'.out
  have P1 := Lib.hid P1'.out
  have Q1 := Lib.hid Q1'.out
  have F1 := Lib.hid F1'.out
  have P2 := Lib.hid P2'.out
  have Q2 := Lib.hid Q2'.out
  have F2 := Lib.hid F2'.out
  have P3 := Lib.hid P3'.out
  have Q3 := Lib.hid Q3'.out
  have F3 := Lib.hid F3'.out
  have B := Lib.hid B'.out
  clear B' H' X' Y' P1' Q1' F1' P2' Q2' F2' P3' Q3' F3'
  obtain ⟨Ha, Hb, Hc, _, _, _⟩ := H.out.facts
  obtain ⟨Ka, Kb, Kc, _, _, _⟩ := F1.out.facts
  go_wp2_with fail
  refine (sameFr_yes (t := ⟨u, p, q⟩) rfl rfl X.out Y.out P1.out Q1.out).mono ?_
  rintro e w7 ⟨rfl, hb⟩
  clear Ha Hb Hc Ka Kb Kc
  have H' := Lib.hid (H.out.keep hb)
  have X' := Lib.hid (X.out.keep hb)
  have Y' := Lib.hid (Y.out.keep hb)
  have P1' := Lib.hid (P1.out.keep hb)
  have Q1' := Lib.hid (Q1.out.keep hb)
  have F1' := Lib.hid (F1.out.keep hb)
  have P2' := Lib.hid (P2.out.keep hb)
  have Q2' := Lib.hid (Q2.out.keep hb)
  have F2' := Lib.hid (F2.out.keep hb)
  have P3' := Lib.hid (P3.out.keep hb)
  have Q3' := Lib.hid (Q3.out.keep hb)
  have F3' := Lib.hid (F3.out.keep hb)
  have B' := Lib.hid (B.out.trans (hb.mono B.out.size))
  clear hb B H X Y P1 Q1 F1 P2 Q2 F2 P3 Q3 F3
  have H := Lib.hid H'.out
  have X := Lib.hid X'.out
  have Y := Lib.hid Y'.out
  have P1 := Lib.hid P1'.out
  have Q1 := Lib.hid Q1'.out
  have F1 := Lib.hid F1'.out
  have P2 := Lib.hid P2'.out
  have Q2 := Lib.hid Q2'.out
  have F2 := Lib.hid F2'.out
  have P3 := Lib.hid P3'.out
  have Q3 := Lib.hid Q3'.out
  have F3 := Lib.hid F3'.out
  have B := Lib.hid B'.out
  clear B' H' X' Y' P1' Q1' F1' P2' Q2' F2' P3' Q3' F3'
  go_wp2_with fail
  refine (J.out _).mono ?_
  rintro e w9 ⟨rfl, hb⟩
  have H' := Lib.hid (H.out.keep hb)
  have X' := Lib.hid (X.out.keep hb)
  have Y' := Lib.hid (Y.out.keep hb)
  have P1' := Lib.hid (P1.out.keep hb)
  have Q1' := Lib.hid (Q1.out.keep hb)
  have F1' := Lib.hid (F1.out.keep hb)
  have P2' := Lib.hid (P2.out.keep hb)
  have Q2' := Lib.hid (Q2.out.keep hb)
  have F2' := Lib.hid (F2.out.keep hb)
  have P3' := Lib.hid (P3.out.keep hb)
  have Q3' := Lib.hid (Q3.out.keep hb)
  have F3' := Lib.hid (F3.out.keep hb)
  have B' := Lib.hid (B.out.trans (hb.mono B.out.size))
  clear hb B H X Y P1 Q1 F1 P2 Q2 F2 P3 Q3 F3
  have H := Lib.hid H'.out
  have X := Lib.hid X'.out
  have Y := Lib.hid Y'.out
  have P1 := Lib.hid P1'.out
  have Q1 := Lib.hid Q1'.out
  have F1 := Lib.hid F1'.out
  have P2 := Lib.hid P2'.out
  have Q2 := Lib.hid Q2'.out
  have F2 := Lib.hid F2'.out
  have P3 := Lib.hid P3'.out
  have Q3 := Lib.hid Q3'.out
  have F3 := Lib.hid F3'.out
  have B := Lib.hid B'.out
  clear B' H' X' Y' P1' Q1' F1' P2' Q2' F2' P3' Q3' F3'
  go_wp2
  go_ret
  exact ⟨rfl, B.out⟩
end Go.Proofs.YtbllnkhbahenkaaGreatDoor

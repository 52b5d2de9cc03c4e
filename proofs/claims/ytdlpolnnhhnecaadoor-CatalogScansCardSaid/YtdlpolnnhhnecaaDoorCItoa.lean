/- The decimal text of a digit; fits; the reference's Fits: no claim of its own. -/
import Derived.Test.YtdlpolnnhhnecaaDoorCRSum
namespace Go.Proofs.YtdlpolnnhhnecaaDoor
open Go.RowKit
open MC (Pr)
/-- A call hands back v and turns nothing at all. -/
def Same (v : Value) (w : World) (e : Ending) (w' : World) : Prop := e = .returned v ∧ w' = w
theorem dig_lit (k : Nat) (h : k < 10) : str [UInt8.ofNat (48 + k)] = (⟨#[48, 49, 50, 51, 52, 53, 54, 55, 56, 57, 97, 98, 99, 100, 101, 102, 103, 104, 105, 106, 107, 108, 109, 110, 111, 112, 113, 114, 115, 116, 117, 118, 119, 120, 121, 122]⟩ : ByteArray).extract k (k + 1) := by
  have : k = 0 ∨ k = 1 ∨ k = 2 ∨ k = 3 ∨ k = 4 ∨ k = 5 ∨ k = 6 ∨ k = 7 ∨ k = 8 ∨ k = 9 := by omega
  rcases this with rfl | rfl | rfl | rfl | rfl | rfl | rfl | rfl | rfl | rfl <;> rfl
set_option maxRecDepth 100000 in
theorem small_dig (k : Nat) (h : k < 10) (w : World) : Calls Tryd.prog 81 #[.int .i64 k] w (Same (.string (str [UInt8.ofNat (48 + k)])) w) := by
  have E := Lib.hid (dig_lit k h)
  rw [E.out]
  go_enter Tryd.func81, Tryd.ntmps81
  go_wp2
  go_ret
  exact ⟨rfl, rfl⟩
set_option maxRecDepth 100000 in
theorem fmtInt_dig (k : Nat) (h : k < 10) (w : World) : Calls Tryd.prog 78 #[.int .i64 k, .int .i64 10] w (Same (.string (str [UInt8.ofNat (48 + k)])) w) := by
  have S := Lib.hid (fun w' => small_dig k h w')
  have d1 : decide (0 ≤ (k : Int)) = true := decide_eq_true (by omega)
  have d2 : decide ((k : Int) < 100) = true := decide_eq_true (by omega)
  generalize str [UInt8.ofNat (48 + k)] = s at *
  go_enter Tryd.func78, Tryd.ntmps78
  go_wp2_with fail
  refine (S.out _).mono ?_
  rintro e w1 ⟨rfl, rfl⟩
  go_wp2
  go_ret
  exact ⟨rfl, rfl⟩
set_option maxRecDepth 100000 in
theorem itoaI_dig (k : Nat) (h : k < 10) (w : World) : Calls Tryd.prog 60 #[.int .i64 k] w (Same (.string (str [UInt8.ofNat (48 + k)])) w) := by
  have S := Lib.hid (fun w' => fmtInt_dig k h w')
  generalize str [UInt8.ofNat (48 + k)] = s at *
  go_enter Tryd.func60, Tryd.ntmps60
  go_wp2_with fail
  refine (S.out _).mono ?_
  rintro e w1 ⟨rfl, rfl⟩
  go_wp2
  go_ret
  exact ⟨rfl, rfl⟩
set_option maxRecDepth 100000 in
theorem itoa_dig (k : Nat) (h : k < 10) (w : World) : Calls Tryd.prog 44 #[.int .i64 k] w (Same (.string (str [UInt8.ofNat (48 + k)])) w) := by
  have S := Lib.hid (fun w' => itoaI_dig k h w')
  generalize str [UInt8.ofNat (48 + k)] = s at *
  go_enter Tryd.func44, Tryd.ntmps44
  go_wp2_with fail
  refine (S.out _).mono ?_
  rintro e w1 ⟨rfl, rfl⟩
  go_wp2
  go_ret
  exact ⟨rfl, rfl⟩
/-- Nothing of a product that the list lacks. -/
def restB (n : Nat) (b : List Int) : Bool := (List.range 6).all fun j => decide (j < n) || decide (MB.at_ b j = 0)
theorem rest_iff {n : Nat} {b : List Int} : restB n b = true ↔ ∀ j, j < 6 → n ≤ j → MB.at_ b j = 0 := by
  unfold restB
  simp only [List.all_eq_true, List.mem_range, Bool.or_eq_true, decide_eq_true_eq]
  constructor
  · intro h j h6 hn
    rcases h j h6 with g | g
    · omega
    · exact g
  · intro h j h6
    rcases Nat.lt_or_ge j n with g | g
    · exact .inl g
    · exact .inr (h j h6 g)
theorem rest_bad {n k : Nat} {b : List Int} (hk : k < 6) (hn : n ≤ k) (h : MB.at_ b k ≠ 0) : restB n b = false := by
  cases e : restB n b with
  | false => rfl
  | true => exact absurd (rest_iff.1 e k hk hn) h
theorem rest_good {n : Nat} {b : List Int} (h : ∀ j, n ≤ j → j < 6 → MB.at_ b j = 0) : restB n b = true := rest_iff.2 fun j h1 h2 => h j h2 h1
theorem fits_iff {L : List Pr} {b : List Int} (hb : b.length = 6) : MC.Fits L b ↔ MC.chkL L = 0 ∧ MB.okB b = true ∧ restB L.length b = true := by
  unfold MC.Fits
  rw [rest_iff]
  constructor
  · rintro ⟨h1, h2, h3⟩; exact ⟨h1, h2, fun j _ hj => h3 j hj⟩
  · rintro ⟨h1, h2, h3⟩
    refine ⟨h1, h2, fun j hj => ?_⟩
    by_cases h6 : j < 6
    · exact h3 j h6 hj
    · unfold MB.at_; rw [List.getD_eq_getElem?_getD, List.getElem?_eq_none (by omega)]; rfl
/-- What fits answers. -/
def fitB (n : Nat) (b : List Int) : Bool := restB n b && MB.okB b
theorem fit_no {n : Nat} {b : List Int} (h : restB n b = false) : fitB n b = false := by unfold fitB; rw [h]; rfl
theorem fit_ok {n : Nat} {b : List Int} (h : restB n b = true) : fitB n b = MB.okB b := by unfold fitB; rw [h]; rfl
theorem slice_bun (g n : Nat) (hn : n ≤ 6) : ∃ o r : Nat, n + r = 6 ∧ (0 < r → o = n) ∧ ∀ w : World, (Instr.sliceAt 29 (.pointer (some ⟨g, 0, none⟩)) (some (.int .i64 n)) none none).run Tryd.prog w = .ok (.slice (some ⟨g, o, none⟩) r r) w := by
  have : n = 0 ∨ n = 1 ∨ n = 2 ∨ n = 3 ∨ n = 4 ∨ n = 5 ∨ n = 6 := by omega
  rcases this with rfl | rfl | rfl | rfl | rfl | rfl | rfl
  · exact ⟨0, 6, rfl, fun _ => rfl, fun w => by kernel_rfl⟩
  · exact ⟨1, 5, rfl, fun _ => rfl, fun w => by kernel_rfl⟩
  · exact ⟨2, 4, rfl, fun _ => rfl, fun w => by kernel_rfl⟩
  · exact ⟨3, 3, rfl, fun _ => rfl, fun w => by kernel_rfl⟩
  · exact ⟨4, 2, rfl, fun _ => rfl, fun w => by kernel_rfl⟩
  · exact ⟨5, 1, rfl, fun _ => rfl, fun w => by kernel_rfl⟩
  · exact ⟨0, 0, rfl, fun h => absurd h (by decide), fun w => by kernel_rfl⟩
set_option maxRecDepth 100000 in
set_option maxHeartbeats 2000000 in
theorem fits8_any (A : Option Addr) (n cp : Nat) (hn : n ≤ 6) (a b c d e f : Int) (w : World) :
    Calls Tryd.prog 43 #[.slice A n cp, .agg #[.int .i64 a, .int .i64 b, .int .i64 c, .int .i64 d, .int .i64 e, .int .i64 f]] w (Gives (.bool (fitB n [a, b, c, d, e, f])) w) := by
  have H1 := Lib.hid (BB.new w 29 a b c d e f)
  have HB := Lib.hid (below_new w (.cells #[.int .i64 a, .int .i64 b, .int .i64 c, .int .i64 d, .int .i64 e, .int .i64 f] 29))
  have BC := Lib.hid (fun w' => bcheck_any a b c d e f w')
  obtain ⟨o, r, hr, ho, hs⟩ := slice_bun w.heap.size n hn
  obtain ⟨ad, had⟩ : ∃ ad : Addr, ad = ⟨w.heap.size, o, none⟩ := ⟨_, rfl⟩
  rw [← had] at hs
  have HA := Lib.hid had
  have HO := Lib.hid ho
  have HR := Lib.hid hr
  have hr6 : r ≤ 6 := by omega
  clear had ho hr
  have HX : Hid (([a, b, c, d, e, f] : List Int).length = 6) := Lib.hid rfl
  go_enter Tryd.func43, Tryd.ntmps43
  go_wp2
  obtain ⟨W, hW⟩ : ∃ W, W = w.alloc (.cells #[.int .i64 a, .int .i64 b, .int .i64 c, .int .i64 d, .int .i64 e, .int .i64 f] 29) := ⟨_, rfl⟩
  rw [← hW] at H1 HB ⊢
  clear hW hs
  go_loop [11] (fun i => ∃ k : Nat, k ≤ r ∧ i = .int .i64 k ∧ Hid (∀ j, n ≤ j → j < n + k → MB.at_ [a, b, c, d, e, f] j = 0)) (fun i => r - (intOf i).toNat)
  case atStart => exact ⟨0, Nat.zero_le _, rfl, Lib.hid (fun j h1 h2 => absurd h1 (by omega))⟩
  case round =>
    obtain ⟨k, hk, rfl, HN⟩ := hrel
    by_cases hlt : k < r
    · have hc : W.cell? (ad.add k) = some (.int .i64 (MB.at_ [a, b, c, d, e, f] (n + k))) := by
        rw [HA.out, addr_add, HO.out (by omega)]
        exact H1.out.cell (by have := HR.out; omega)
      have hc' : W.cell? (ad.add (k * 1)) = some (.int .i64 (MB.at_ [a, b, c, d, e, f] (n + k))) := by rw [Nat.mul_one]; exact hc
      by_cases hz : MB.at_ [a, b, c, d, e, f] (n + k) = 0
      · have G : Hid (∀ j, n ≤ j → j < n + (k + 1) → MB.at_ [a, b, c, d, e, f] j = 0) := Lib.hid (fun j h1 h2 => by
          rcases Nat.lt_or_ge j (n + k) with g | g
          · exact HN.out j h1 g
          · have : j = n + k := by omega
            subst this; exact hz)
        rw [hz] at hc hc'
        clear HN hz
        go_wp2
        go_round
        case rel => exact ⟨k + 1, by omega, by go_num, G⟩
        case measure => simp [intOf]; omega
      · have G := Lib.hid (ret_b (fit_no (rest_bad (b := [a, b, c, d, e, f]) (by have := HR.out; omega) (Nat.le_add_right n k) hz)).symm)
        have hb : (MB.at_ [a, b, c, d, e, f] (n + k) != 0) = true := bne_iff_ne.2 hz
        clear HN hz
        generalize MB.at_ [a, b, c, d, e, f] (n + k) = y at *
        go_wp2
        go_ret
        exact ⟨G.out, HB.out⟩
    · obtain rfl : k = r := by omega
      have hf := fit_ok (rest_good (n := n) (b := [a, b, c, d, e, f]) fun j h1 h2 => HN.out j h1 (by have := HR.out; omega))
      obtain ⟨c0, c1, c2, c3, c4, c5⟩ := cells6 H1.out
      cases hok : MB.okB [a, b, c, d, e, f] with
      | true =>
        rw [chk_ok hok] at BC
        rw [hok] at hf
        have G := Lib.hid (ret_b hf.symm)
        clear hok hf HN
        go_wp2_with fail
        refine (BC.out _).mono ?_
        rintro e1 w1 ⟨rfl, hb⟩
        have B1 := Lib.hid (HB.out.trans (hb.mono HB.out.size))
        clear hb
        go_wp2
        go_ret
        exact ⟨G.out, B1.out⟩
      | false =>
        rw [chk_no hok] at BC
        rw [hok] at hf
        have G := Lib.hid (ret_b hf.symm)
        clear hok hf HN
        go_wp2_with fail
        refine (BC.out _).mono ?_
        rintro e1 w1 ⟨rfl, hb⟩
        have B1 := Lib.hid (HB.out.trans (hb.mono HB.out.size))
        clear hb
        go_wp2
        go_ret
        exact ⟨G.out, B1.out⟩
/-- What the reference's Fits answers. -/
def fitsB (L : List Pr) (b : List Int) : Bool := restB L.length b && (decide (MC.chkL L = 0) && MB.okB b)
theorem fitsB_iff {L : List Pr} {b : List Int} (hb : b.length = 6) : fitsB L b = true ↔ MC.Fits L b := by
  rw [fits_iff hb]
  unfold fitsB
  rw [Bool.and_eq_true, Bool.and_eq_true, decide_eq_true_eq]
  exact ⟨fun ⟨h1, h2, h3⟩ => ⟨h2, h3, h1⟩, fun ⟨h1, h2, h3⟩ => ⟨h3, h1, h2⟩⟩
theorem fitsB_no {L : List Pr} {b : List Int} (h : restB L.length b = false) : fitsB L b = false := by unfold fitsB; rw [h]; rfl
theorem fitsB_bad {L : List Pr} {b : List Int} (h : MC.chkL L ≠ 0) : fitsB L b = false := by unfold fitsB; rw [decide_eq_false h]; simp
theorem fitsB_ok {L : List Pr} {b : List Int} (h1 : restB L.length b = true) (h : MC.chkL L = 0) : fitsB L b = MB.okB b := by unfold fitsB; rw [h1, decide_eq_true h]; simp
set_option maxRecDepth 100000 in
set_option maxHeartbeats 2000000 in
theorem rfits_any (A : Option Addr) (n cp : Nat) (L : List Pr) (a b c d e f : Int) (w : World) (h : Prs w A n cp L) :
    Calls Tryd.prog 26 #[.slice A n cp, .agg #[.int .i64 a, .int .i64 b, .int .i64 c, .int .i64 d, .int .i64 e, .int .i64 f]] w (Gives (.bool (fitsB L [a, b, c, d, e, f])) w) := by
  have hn := h.few
  have HL := Lib.hid h.len
  have H1 := Lib.hid (BB.new w 29 a b c d e f)
  have HB := Lib.hid (below_new w (.cells #[.int .i64 a, .int .i64 b, .int .i64 c, .int .i64 d, .int .i64 e, .int .i64 f] 29))
  have BC := Lib.hid (fun w' => valid8_any a b c d e f w')
  have CK := Lib.hid (fun w' (hb : Below w.heap.size w w') => rcheck8_any A n cp L w' (h.keep hb))
  clear h
  go_enter Tryd.func26, Tryd.ntmps26
  go_wp2
  obtain ⟨W, hW⟩ : ∃ W, W = w.alloc (.cells #[.int .i64 a, .int .i64 b, .int .i64 c, .int .i64 d, .int .i64 e, .int .i64 f] 29) := ⟨_, rfl⟩
  rw [← hW] at H1 HB ⊢
  clear hW
  go_loop [5] (fun i => ∃ k : Nat, n ≤ k ∧ i = .int .i64 k ∧ Hid (∀ j, n ≤ j → j < k → MB.at_ [a, b, c, d, e, f] j = 0)) (fun i => 6 - (intOf i).toNat)
  case atStart => exact ⟨n, Nat.le_refl _, rfl, Lib.hid (fun j h1 h2 => absurd h1 (by omega))⟩
  case round =>
    obtain ⟨k, hk, rfl, HN⟩ := hrel
    by_cases hlt : k < 6
    · have hc := H1.out.cell hlt
      by_cases hz : MB.at_ [a, b, c, d, e, f] k = 0
      · have G : Hid (∀ j, n ≤ j → j < k + 1 → MB.at_ [a, b, c, d, e, f] j = 0) := Lib.hid (fun j h1 h2 => by
          rcases Nat.lt_or_ge j k with g | g
          · exact HN.out j h1 g
          · have : j = k := by omega
            subst this; exact hz)
        rw [hz] at hc
        clear HN hz
        go_wp2
        go_round
        case rel => exact ⟨k + 1, by omega, by go_num, G⟩
        case measure => simp [intOf]; omega
      · have G := Lib.hid (ret_b (fitsB_no (L := L) (b := [a, b, c, d, e, f]) (rest_bad hlt (by rw [HL.out]; exact hk) hz)).symm)
        have hb : (MB.at_ [a, b, c, d, e, f] k != 0) = true := bne_iff_ne.2 hz
        clear HN hz
        generalize MB.at_ [a, b, c, d, e, f] k = y at *
        go_wp2
        go_ret
        exact ⟨G.out, HB.out⟩
    · have hrest : restB L.length [a, b, c, d, e, f] = true := rest_good fun j h1 h2 => HN.out j (by rw [← HL.out]; exact h1) (by omega)
      obtain ⟨c0, c1, c2, c3, c4, c5⟩ := cells6 H1.out
      have hd : decide ((k : Int) < 6) = false := decide_eq_false (by omega)
      by_cases hg : MC.chkL L = 0
      · have hf := fitsB_ok hrest hg
        rw [hg] at CK
        cases hok : MB.okB [a, b, c, d, e, f] with
        | true =>
          rw [hok] at BC
          rw [hok] at hf
          have G := Lib.hid (ret_b hf.symm)
          clear hok hf HN hg hrest
          go_wp2_with fail
          refine (CK.out _ HB.out).mono ?_
          rintro e1 w1 ⟨rfl, hb⟩
          have B1 := Lib.hid (HB.out.trans (hb.mono HB.out.size))
          obtain ⟨y0, y1, y2, y3, y4, y5⟩ := cells6 (H1.out.keep hb H1.out.lt)
          clear hb
          go_wp2_with fail
          refine (BC.out _).mono ?_
          rintro e2 w2 ⟨rfl, hb⟩
          have B2 := Lib.hid (B1.out.trans (hb.mono B1.out.size))
          clear hb
          go_wp2
          go_ret
          exact ⟨G.out, B2.out⟩
        | false =>
          rw [hok] at BC
          rw [hok] at hf
          have G := Lib.hid (ret_b hf.symm)
          clear hok hf HN hg hrest
          go_wp2_with fail
          refine (CK.out _ HB.out).mono ?_
          rintro e1 w1 ⟨rfl, hb⟩
          have B1 := Lib.hid (HB.out.trans (hb.mono HB.out.size))
          obtain ⟨y0, y1, y2, y3, y4, y5⟩ := cells6 (H1.out.keep hb H1.out.lt)
          clear hb
          go_wp2_with fail
          refine (BC.out _).mono ?_
          rintro e2 w2 ⟨rfl, hb⟩
          have B2 := Lib.hid (B1.out.trans (hb.mono B1.out.size))
          clear hb
          go_wp2
          go_ret
          exact ⟨G.out, B2.out⟩
      · have G := Lib.hid (ret_b (fitsB_bad (b := [a, b, c, d, e, f]) hg).symm)
        have hb0 : (MC.chkL L == 0) = false := beq_eq_false_iff_ne.2 hg
        clear hg HN hrest
        generalize MC.chkL L = er at *
        go_wp2_with fail
        refine (CK.out _ HB.out).mono ?_
        rintro e1 w1 ⟨rfl, hb⟩
        have B1 := Lib.hid (HB.out.trans (hb.mono HB.out.size))
        clear hb
        go_wp2
        go_ret
        exact ⟨G.out, B1.out⟩
end Go.Proofs.YtdlpolnnhhnecaaDoor

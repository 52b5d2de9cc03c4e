/- The walk of WireFractions: no claim of its own. -/
import Derived.Test.YtebfnbnaheolgaaWRefFrac
import Derived.Test.YtebfnbnaheolgaaOpenFr
namespace Go.Proofs.Ytebfnbnaheolgaa
open Go.RowKit
theorem FracPost.ok {g : Nat} {l : List UInt8} {w : World} {en : Ending} {w' : World} {s : Bool} {xs ys : List Nat} {l3 : List UInt8} (hf : fracS l = (s, xs, ys, l3, 0)) (hv : validB s xs ys = true) (h : FracPost g l w en w') :
    ∃ A n c B m d, en = .returned (.agg #[.bool s, .slice A n c, .slice B m d]) ∧ Lst w' A n c xs ∧ Lst w' B m d ys ∧ RP w' g l3 0 ∧ w.grownBy w' (some g) ∧ n ≤ 2000 ∧ m ≤ 2000 := by
  unfold FracPost at h; rw [hf] at h; rwa [if_neg (fun h => h rfl), if_neg (by rw [hv]; decide)] at h
theorem digS_fwd : ∀ (ds acc : List Nat) (t : List UInt8), (∀ d ∈ ds, d < 4294967296) → digS ds.length (ds.flatMap leb ++ t) acc = (acc ++ ds, t, 0)
  | [], acc, t, _ => by simp [digS]
  | d :: ds, acc, t, h => by
    have hd := h d (List.mem_cons_self ..)
    rw [List.length_cons, digS, List.flatMap_cons, List.append_assoc, uintS_leb d _ 4294967295 (by omega) (by omega)]
    rw [if_neg (fun h => h rfl)]
    have := digS_fwd ds (acc ++ [d]) t (fun x hx => h x (List.mem_cons_of_mem _ hx))
    rw [this, List.append_assoc]
    rfl
theorem natS_fwd (xs : List Nat) (t : List UInt8) (h : ∀ d ∈ xs, d < 4294967296) (hl : xs.length ≤ 2000) : natS (natEnc xs ++ t) = (xs, t, 0) := by
  unfold natS natEnc
  rw [List.append_assoc, uintS_leb xs.length _ 2000 (by omega) hl]
  rw [if_neg (fun h => h rfl)]
  have := digS_fwd xs [] t h
  rw [List.nil_append] at this
  exact this
theorem fracS_fwd (s : Bool) (xs ys : List Nat) (h : ∀ d ∈ xs, d < 4294967296) (h' : ∀ d ∈ ys, d < 4294967296) (hl : xs.length ≤ 2000) (hl' : ys.length ≤ 2000) : fracS (fracEnc s xs ys) = (s, xs, ys, [], 0) := by
  have e0 : uintS (fracEnc s xs ys) 1 = (sg s, natEnc xs ++ natEnc ys, 0) := by
    unfold fracEnc
    rw [List.append_assoc]
    exact uintS_leb (sg s) _ 1 (sg_lt s) (by cases s <;> decide)
  have e1 : natS2 (natEnc xs ++ natEnc ys, 0) = (xs, natEnc ys, 0) := by
    unfold natS2
    rw [if_neg (fun h => h rfl)]
    exact natS_fwd xs _ h hl
  have e2 : natS2 (natEnc ys, 0) = (ys, [], 0) := by
    unfold natS2
    rw [if_neg (fun h => h rfl)]
    have := natS_fwd ys [] h' hl'
    rwa [List.append_nil] at this
  have e3 : decide (sg s = 1) = s := by cases s <;> rfl
  simp only [fracS, e0, e1, e2, e3]
set_option maxRecDepth 100000 in
set_option maxHeartbeats 4000000 in
theorem fracs_no (s : Bool) (A B : Option Addr) (n c m d : Nat) (w : World) (hn : n ≤ 9223372036854775807) (hm : m ≤ 9223372036854775807)
    (h : 8 < n ∨ 8 < m ∨ ∀ W, Below w.heap.size w W → Calls Try.prog 22 #[.agg #[.bool s, .slice A n c, .slice B m d]] W (Gives (.bool false) W)) :
    Calls Try.prog 5 #[.agg #[.bool s, .slice A n c, .slice B m d]] w (Gives (.bool true) w) := by
  have LL := Lib.hid lives_wire
  have H0 := Lib.hid (FB.new w s A n c B m d)
  have B0 := Lib.hid (below_new w (.cells #[.bool s, .slice A n c, .slice B m d] 40))
  obtain ⟨h0, h1, h2, _, _, _⟩ := H0.out.facts
  by_cases c1 : 8 < n
  · clear h
    go_enter Try.func5, Try.ntmps5
    go_wp2_with fail
    refine (LL.out _).mono ?_
    rintro e w9 ⟨rfl, hb⟩
    have B9 := Lib.hid (B0.out.trans (hb.mono B0.out.size))
    clear hb
    go_wp2
    go_ret
    exact ⟨rfl, B9.out⟩
  by_cases c2 : 8 < m
  · clear h
    go_enter Try.func5, Try.ntmps5
    go_wp2_with fail
    refine (LL.out _).mono ?_
    rintro e w9 ⟨rfl, hb⟩
    have B9 := Lib.hid (B0.out.trans (hb.mono B0.out.size))
    clear hb
    go_wp2
    go_ret
    exact ⟨rfl, B9.out⟩
  · have V := Lib.hid ((h.resolve_left c1).resolve_left c2 _ B0.out)
    clear h
    go_enter Try.func5, Try.ntmps5
    go_wp2_with fail
    refine V.out.mono ?_
    rintro e w1 ⟨rfl, hb⟩
    have B1 := Lib.hid (B0.out.trans (hb.mono B0.out.size))
    clear hb
    go_wp2_with fail
    refine (LL.out _).mono ?_
    rintro e w9 ⟨rfl, hb⟩
    have B9 := Lib.hid (B1.out.trans (hb.mono B1.out.size))
    clear hb
    go_wp2
    go_ret
    exact ⟨rfl, B9.out⟩
set_option maxRecDepth 100000 in
set_option maxHeartbeats 8000000 in
theorem fracs_yes (s : Bool) (A B : Option Addr) (n c m d : Nat) (xs ys : List Nat) (w : World) (hx : Lst w A n c xs) (hy : Lst w B m d ys) (hn : n ≤ 8) (hm : m ≤ 8) (hv : validB s xs ys = true) :
    Calls Try.prog 5 #[.agg #[.bool s, .slice A n c, .slice B m d]] w (Gives (.bool true) w) := by
  have c1 : ¬ 8 < n := by omega
  have c2 : ¬ 8 < m := by omega
  have LL := Lib.hid lives_wire
  have H0 := Lib.hid (FB.new w s A n c B m d)
  have B0 := Lib.hid (below_new w (.cells #[.bool s, .slice A n c, .slice B m d] 40))
  have HX := Lib.hid hx
  have HY := Lib.hid hy
  have V : Hid (∀ W, Below w.heap.size w W → Calls Try.prog 22 #[.agg #[.bool s, .slice A n c, .slice B m d]] W (Gives (.bool true) W)) := Lib.hid (fun W hb => by
    have h := lowest_any s A B n c m d xs ys W (hx.keep hb) (hy.keep hb) (by omega) (by omega)
    rwa [hv] at h)
  have PF := Lib.hid (fun W (hb : Below w.heap.size w W) => putFrac_any s A B n c m d xs ys W (hx.keep hb) (hy.keep hb) (by omega) (by omega))
  have RF := Lib.hid (fun W (hb : Below w.heap.size w W) => rputFrac_any s A B n c m d xs ys W (hx.keep hb) (hy.keep hb) (by omega) (by omega))
  have hf := fracS_fwd s xs ys hx.lt hy.lt (by rw [hx.len]; omega) (by rw [hy.len]; omega)
  have ll : (fracEnc s xs ys).length ≤ 1000000 := by
    have l1 := leb_len 10 (sg s) (Nat.lt_of_le_of_lt (show sg s ≤ 1 by cases s <;> decide) (by decide)) (by decide)
    have l2 := natEnc_len xs hx.lt (by rw [hx.len]; omega)
    have l3 := natEnc_len ys hy.lt (by rw [hy.len]; omega)
    rw [hx.len] at l2
    rw [hy.len] at l3
    unfold fracEnc
    simp only [List.length_append]
    omega
  have FR := Lib.hid (fun W g hr => (fractionR_any g (fracEnc s xs ys) W hr ll).mono fun en w' h => FracPost.ok hf hv h)
  have RN : Hid (∀ W : World, RP (W.alloc (.cells #[.string (str (fracEnc s xs ys)), .int .i64 0] 59)) W.heap.size (fracEnc s xs ys) 0) := Lib.hid (fun W => by
    have h := RP.new W (str (fracEnc s xs ys))
    rwa [str_data] at h)
  have ER := Lib.hid (fun W g hr => endR_done g W hr)
  obtain ⟨h0, h1, h2, _, _, _⟩ := H0.out.facts
  clear hx hy hf ll hv
  generalize fracEnc s xs ys = l at *
  generalize hst : str l = t at *
  clear hst
  go_enter Try.func5, Try.ntmps5
  go_wp2_with fail
  refine (V.out _ B0.out).mono ?_
  rintro e w1 ⟨rfl, hb⟩
  have B1 := Lib.hid (B0.out.trans (hb.mono B0.out.size))
  have H1 := Lib.hid (H0.out.keep hb)
  clear hb B0 H0 h0 h1 h2 V
  obtain ⟨h0, h1, h2, _, _, _⟩ := H1.out.facts
  go_wp2_with fail
  refine (PF.out _ B1.out).mono ?_
  rintro e w2 ⟨rfl, hb⟩
  have B2 := Lib.hid (B1.out.trans (hb.mono B1.out.size))
  have H2 := Lib.hid (H1.out.keep hb)
  clear hb B1 H1 h0 h1 h2 PF
  go_wp2_with fail
  refine (newReader_any _ _).mono ?_
  rintro e w3 ⟨rfl, rfl⟩
  have R3 := Lib.hid (RN.out w2)
  have hb := below_new w2 (.cells #[.string t, .int .i64 0] 59)
  have B3 := Lib.hid (B2.out.trans (hb.mono B2.out.size))
  have H3 := Lib.hid (H2.out.keep hb)
  have hg : w.heap.size < w2.heap.size := H2.out.lt
  clear hb B2 H2 RN
  generalize w2.alloc (.cells #[.string t, .int .i64 0] 59) = w3 at *
  generalize w2.heap.size = g at *
  obtain ⟨h0, h1, h2, _, _, _⟩ := H3.out.facts
  go_wp2_with fail
  have X0 := Lib.hid B3.out.drew
  have Y0 := Lib.hid H3.out.drew
  have R0 : Hid (RP w3.drew g l 0) := Lib.hid R3.out
  clear B3 H3 R3
  go_region_held3 (fun w' => w'.cell? ⟨w.heap.size, 0, none⟩ = some (.bool s) ∧ w'.cell? ⟨w.heap.size, 1, none⟩ = some (.slice A n c) ∧ w'.cell? ⟨w.heap.size, 2, none⟩ = some (.slice B m d)) (go_keep) (first | (go_at_call 24; (with_reducible refine (RF.out _ X0.out).mono ?_); rintro e w4 ⟨rfl, hb⟩; have X1 := Lib.hid (X0.out.trans (hb.mono X0.out.size)); have Y1 := Lib.hid (Y0.out.keep hb); have R1 := Lib.hid (R0.out.keep hb); obtain ⟨k0, k1, k2, _, _, _⟩ := Y1.out.facts; clear hb) | (go_at_call 26; (with_reducible refine (FR.out _ _ R1.out).mono ?_); rintro e w5 ⟨A1, n1, c1', A2, n2, c2', rfl, hx', hy', hr, hG, _, _⟩; have X2 := Lib.hid (X1.out.trans (grown_below hG (Nat.le_of_lt hg) X1.out.size)); have Y2 := Lib.hid (Y1.out.off1 hG (Nat.ne_of_lt hg)); have R2 := Lib.hid hr; have LX := Lib.hid hx'; have LY := Lib.hid hy'; obtain ⟨j0, j1, j2, _, _, _⟩ := Y2.out.facts; clear hr hG hx' hy') | (go_at_call 25; (with_reducible refine (same04_yes s A1 A2 A B n1 c1' n2 c2' n c m d xs ys _ LX.out LY.out (HX.out.keep X2.out) (HY.out.keep X2.out)).mono ?_); rintro e w6 ⟨rfl, hb⟩; have X3 := Lib.hid (X2.out.trans (hb.mono X2.out.size)); have Y3 := Lib.hid (Y2.out.keep hb); have R3 := Lib.hid (R2.out.keep hb); obtain ⟨i0, i1, i2, _, _, _⟩ := Y3.out.facts; clear hb) | (go_at_call 16; (with_reducible refine (ER.out _ _ R3.out).mono ?_); rintro e w' ⟨rfl, rfl⟩) | (go_at_call 17; (with_reducible refine (LL.out _).mono ?_); rintro e w7 ⟨rfl, hb⟩; have X4 := Lib.hid (X3.out.trans (hb.mono X3.out.size)); have Y4 := Lib.hid (Y3.out.keep hb); obtain ⟨q0, q1, q2, _, _, _⟩ := Y4.out.facts; clear hb))
  go_wp2
  go_ret
  exact ⟨rfl, X4.out⟩
theorem fracs_walk (s : Bool) (A : Option Addr) (n c : Nat) (z0 : List Int) (B : Option Addr) (m d : Nat) (z1 : List Int) (w : World) (w0 : IsRow .u32 w A n c z0) (w1 : IsRow .u32 w B m d z1) :
    Calls Try.prog 5 #[.agg #[.bool s, .slice A n c, .slice B m d]] w (Gives (.bool true) w) := by
  by_cases h1 : 8 < n
  · exact fracs_no s A B n c m d w w0.len_le w1.len_le (.inl h1)
  by_cases h2 : 8 < m
  · exact fracs_no s A B n c m d w w0.len_le w1.len_le (.inr (.inl h2))
  obtain ⟨xs, hx⟩ := w0.lst (by omega)
  obtain ⟨ys, hy⟩ := w1.lst (by omega)
  cases hv : validB s xs ys
  · refine fracs_no s A B n c m d w w0.len_le w1.len_le (.inr (.inr fun W hb => ?_))
    have h := lowest_any s A B n c m d xs ys W (hx.keep hb) (hy.keep hb) (by omega) (by omega)
    rwa [hv] at h
  · exact fracs_yes s A B n c m d xs ys w hx hy (by omega) (by omega) hv
end Go.Proofs.Ytebfnbnaheolgaa

/- CRTokA, CRTok, joined: no claim of its own. -/
import Derived.Test.YtcokplikmjegcaaGreatDoorJU
import Derived.Test.YtcokplikmjegcaaGreatDoorJI
namespace Go.Proofs.YtcokplikmjegcaaGreatDoor
open Go.RowKit
open MC (Pr)
theorem Tks.reads' {w : World} {A : Option Addr} {n c : Nat} {ts : List Tk} (h : Tks w A n c ts) {k : Nat} {t : Tk} (ht : ts[k]? = some t) : k < n := by
  have := (List.getElem?_eq_some_iff.1 ht).1
  rw [h.len] at this; exact this
set_option maxRecDepth 100000 in
set_option maxHeartbeats 2000000 in
theorem is_any (A : Option Addr) (n c : Nat) (ts : List Tk) (k : Nat) (m : UInt8) (w : World) (h : Tks w A n c ts) :
    Calls Tryz.prog 116 #[.slice A n c, .int .i64 k, .string ⟨#[m]⟩] w (Same (.bool (MC.isO m ts[k]?)) w) := by
  have hf := h.few
  have hc := h.cap
  have hl := h.len
  cases ht : ts[k]? with
  | none =>
    have hk : n ≤ k := by
      rcases Nat.lt_or_ge k n with g | g
      · rw [List.getElem?_eq_getElem (by omega)] at ht; cases ht
      · exact g
    have hd : decide ((k : Int) < (n : Int)) = false := decide_eq_false (by omega)
    have hd2 : decide (k < n) = false := decide_eq_false (by omega)
    clear h ht
    go_enter Tryz.func116, Tryz.ntmps116
    go_wp2
    go_ret
    exact ⟨rfl, rfl⟩
  | some t =>
    have hk := h.reads' ht
    obtain ⟨ad, u, rfl, q1, hbk, x0, x1, x2, x3⟩ := h.at_ hk
    obtain rfl : u = t := by rw [ht] at q1; injection q1 with q1; exact q1.symm
    have hd : decide ((k : Int) < (n : Int)) = true := decide_eq_true (by omega)
    have G : ∀ b, MC.isM m u = b → Hid (Ending.returned (.bool b) = Ending.returned (.bool (MC.isO m (some u)))) := fun b hb => Lib.hid (by rw [← hb]; rfl)
    have hn : ∀ b, ¬ (u.kind = 3 ∧ u.text = [m]) → b = false → MC.isM m u = b := fun b hh hb => by
      subst hb
      cases e : MC.isM m u with
      | false => rfl
      | true => exact absurd (isM_iff.1 e) hh
    by_cases hk3 : u.kind = 3
    · have hb3 : ((u.kind : Int) == 3) = true := beq_iff_eq.2 hk3
      by_cases htx : u.text = [m]
      · have htt : ((str u.text).toList == (⟨#[m]⟩ : ByteArray).toList) = true := test_yes (by rw [str_data, htx])
        have htt2 : ((str u.text).toList == [m]) = true := by rw [ByteArray.toList_eq, str_data, htx]; exact beq_self_eq_true _
        have g := G true (isM_iff.2 ⟨hk3, htx⟩)
        clear h ht q1 hbk x2 x3 G hn hk3 htx
        obtain ⟨kd, tx, vv, a⟩ := u
        simp only at *
        generalize str tx = sx at *
        go_enter Tryz.func116, Tryz.ntmps116
        go_wp2
        go_ret
        exact ⟨g.out, rfl⟩
      · have htt : ((str u.text).toList == (⟨#[m]⟩ : ByteArray).toList) = false := test_no (by rw [str_data]; exact htx)
        have htt2 : ((str u.text).toList == [m]) = false := by rw [ByteArray.toList_eq, str_data]; exact beq_eq_false_iff_ne.2 htx
        have g := G false (hn _ (fun hh => htx hh.2) rfl)
        clear h ht q1 hbk x2 x3 G hn hk3 htx
        obtain ⟨kd, tx, vv, a⟩ := u
        simp only at *
        generalize str tx = sx at *
        go_enter Tryz.func116, Tryz.ntmps116
        go_wp2
        go_ret
        exact ⟨g.out, rfl⟩
    · have hb3 : ((u.kind : Int) == 3) = false := beq_eq_false_iff_ne.2 hk3
      have g := G false (hn _ (fun hh => hk3 hh.1) rfl)
      clear h ht q1 hbk x1 x2 x3 G hn hk3
      obtain ⟨kd, tx, vv, a⟩ := u
      simp only at *
      go_enter Tryz.func116, Tryz.ntmps116
      go_wp2
      go_ret
      exact ⟨g.out, rfl⟩
set_option maxRecDepth 100000 in
set_option maxHeartbeats 2000000 in
theorem wrong_any (A : Option Addr) (n c : Nat) (ts : List Tk) (k : Nat) (w : World) (h : Tks w A n c ts) :
    Calls Tryz.prog 117 #[.slice A n c, .int .i64 k] w (Same (.int .i64 (MC.wrongE ts[k]?)) w) := by
  have hf := h.few
  have hl := h.len
  clear h
  by_cases hk : k < n
  · have G := Lib.hid (ret_int (k := .i64) (show (2 : Int) = MC.wrongE ts[k]? by rw [List.getElem?_eq_getElem (by omega)]; rfl))
    have hd : decide ((n : Int) ≤ (k : Int)) = false := decide_eq_false (by omega)
    go_enter Tryz.func117, Tryz.ntmps117
    go_wp2
    go_ret
    exact ⟨G.out, rfl⟩
  · have G := Lib.hid (ret_int (k := .i64) (show (1 : Int) = MC.wrongE ts[k]? by rw [List.getElem?_eq_none (by omega)]; rfl))
    have hd : decide ((n : Int) ≤ (k : Int)) = true := decide_eq_true (by omega)
    go_enter Tryz.func117, Tryz.ntmps117
    go_wp2
    go_ret
    exact ⟨G.out, rfl⟩
/-- How many tokens were consumed. -/
def used (ts : List Tk) (R : List Int × List Tk × Int) : Nat := if R.2.2 = 0 then ts.length - R.2.1.length else 0
/-- What the reference's Tokens answers. -/
def tokV (ts : List Tk) (R : List Int × List Tk × Int) : Value := .tuple #[aggB R.1, .int .i64 (used ts R : Nat), .int .i64 R.2.2]
theorem ret_bad {ts : List Tk} {R : List Int × List Tk × Int} {er : Int} (h : R = (MC.Z6, [], er)) (he : er ≠ 0) : Ending.returned (.tuple #[.agg #[.int .i64 0, .int .i64 0, .int .i64 0, .int .i64 0, .int .i64 0, .int .i64 0], .int .i64 0, .int .i64 er]) = .returned (tokV ts R) := by
  subst h
  have hu : used ts (MC.Z6, [], er) = 0 := if_neg he
  unfold tokV
  rw [hu]; rfl
theorem ret_good {ts us : List Tk} {R : List Int × List Tk × Int} {a b c d e f : Int} {k : Nat} (h : R = ([a, b, c, d, e, f], us, 0)) (hk : ts.length - us.length = k) : Ending.returned (.tuple #[.agg #[.int .i64 a, .int .i64 b, .int .i64 c, .int .i64 d, .int .i64 e, .int .i64 f], .int .i64 (k : Int), .int .i64 0]) = .returned (tokV ts R) := by
  subst h
  have hu : used ts ([a, b, c, d, e, f], us, 0) = k := by unfold used; rw [if_pos rfl]; exact hk
  unfold tokV
  rw [hu]; rfl
/-- Where the loop stands. -/
structure Rl (L : List Pr) (ts : List Tk) (T : List Int × List Tk × Int) (k : Nat) (xs : List Int) : Prop where
  fin : T = MC.elems L (ts.length + 1) xs (ts.drop k)
  le : k ≤ ts.length
theorem Rl.bad {L : List Pr} {ts : List Tk} {T : List Int × List Tk × Int} {k : Nat} {xs : List Int} (h : Rl L ts T k xs) {er : Int} (he : MC.elE L xs (ts.drop k) = er) (h0 : er ≠ 0) : T = (MC.Z6, [], er) := by
  rw [h.fin, MC.elems_bad (by rw [he]; exact h0), he]
theorem drop_at (ts : List Tk) (k j : Nat) : (ts.drop k)[j]? = ts[k + j]? := by rw [List.getElem?_drop]
theorem el_none {L : List Pr} {ts : List Tk} {k : Nat} {xs : List Int} (h : ts[k]? = none) : MC.elE L xs (ts.drop k) = 1 := by unfold MC.elE; rw [drop_at, Nat.add_zero, h]
theorem el_kind {L : List Pr} {ts : List Tk} {k : Nat} {xs : List Int} {t : Tk} (h : ts[k]? = some t) (hk : t.kind ≠ 1) : MC.elE L xs (ts.drop k) = 2 := by unfold MC.elE; rw [drop_at, Nat.add_zero, h]; simp [hk]
theorem el_lack {L : List Pr} {ts : List Tk} {k : Nat} {xs : List Int} {t : Tk} (h : ts[k]? = some t) (hk : t.kind = 1) (hf : MC.findL L t.text = none) : MC.elE L xs (ts.drop k) = 6 := by unfold MC.elE; rw [drop_at, Nat.add_zero, h]; simp [hk, hf]
theorem el_twice {L : List Pr} {ts : List Tk} {k i : Nat} {xs : List Int} {t : Tk} (h : ts[k]? = some t) (hk : t.kind = 1) (hf : MC.findL L t.text = some i) (hz : MB.at_ xs i ≠ 0) : MC.elE L xs (ts.drop k) = 7 := by unfold MC.elE; rw [drop_at, Nat.add_zero, h]; simp [hk, hf, hz]
theorem el_colon {L : List Pr} {ts : List Tk} {k i : Nat} {xs : List Int} {t : Tk} (h : ts[k]? = some t) (hk : t.kind = 1) (hf : MC.findL L t.text = some i) (hz : MB.at_ xs i = 0) (hm : MC.isO 58 ts[k + 1]? = false) : MC.elE L xs (ts.drop k) = MC.wrongE ts[k + 1]? := by
  unfold MC.elE; rw [drop_at, Nat.add_zero, h, drop_at]; simp [hk, hf, hz, hm]
theorem el_number {L : List Pr} {ts : List Tk} {k i : Nat} {xs : List Int} {t : Tk} (h : ts[k]? = some t) (hk : t.kind = 1) (hf : MC.findL L t.text = some i) (hz : MB.at_ xs i = 0) (hm : MC.isO 58 ts[k + 1]? = true) (hv : ∀ v, ts[k + 2]? = some v → v.kind ≠ 2) : MC.elE L xs (ts.drop k) = MC.wrongE ts[k + 2]? := by
  unfold MC.elE; rw [drop_at, Nat.add_zero, h, drop_at, drop_at]
  cases e : ts[k + 2]? with
  | none => simp [hk, hf, hz, hm, MC.wrongE]
  | some v => simp [hk, hf, hz, hm, MC.wrongE, hv v e]
theorem el_range {L : List Pr} {ts : List Tk} {k i : Nat} {xs : List Int} {t v : Tk} (h : ts[k]? = some t) (hk : t.kind = 1) (hf : MC.findL L t.text = some i) (hz : MB.at_ xs i = 0) (hm : MC.isO 58 ts[k + 1]? = true) (hv : ts[k + 2]? = some v) (h2 : v.kind = 2) (ho : v.value < 1 ∨ 4 < v.value) : MC.elE L xs (ts.drop k) = 4 := by
  unfold MC.elE; rw [drop_at, Nat.add_zero, h, drop_at, drop_at]; simp [hk, hf, hz, hm, hv, h2]; omega
theorem el_tail {L : List Pr} {ts : List Tk} {k i : Nat} {xs : List Int} {t v : Tk} (h : ts[k]? = some t) (hk : t.kind = 1) (hf : MC.findL L t.text = some i) (hz : MB.at_ xs i = 0) (hm : MC.isO 58 ts[k + 1]? = true) (hv : ts[k + 2]? = some v) (h2 : v.kind = 2) (h1 : 1 ≤ v.value) (h4 : v.value ≤ 4) :
    MC.elE L xs (ts.drop k) = (if MC.isO 125 ts[k + 3]? = true then 0 else if MC.isO 44 ts[k + 3]? = true then 0 else MC.wrongE ts[k + 3]?) ∧ MC.elB L xs (ts.drop k) = xs.set i v.value := by
  constructor
  · unfold MC.elE; rw [drop_at, Nat.add_zero, h, drop_at, drop_at, drop_at]
    have hno : ¬ (v.value < 1 ∨ 4 < v.value) := by omega
    simp only [hk, hf, hz, hm, hv, h2, hno]
    simp
  · unfold MC.elB; rw [drop_at, Nat.add_zero, drop_at, h, hv]; simp [hf]
theorem isO_lt {ts : List Tk} {k : Nat} {c : UInt8} (h : MC.isO c ts[k]? = true) : k < ts.length := by
  rcases Nat.lt_or_ge k ts.length with g | g
  · exact g
  · rw [List.getElem?_eq_none g] at h; cases h
theorem Rl.end_ {L : List Pr} {ts : List Tk} {T : List Int × List Tk × Int} {k : Nat} {xs ys : List Int} (h : Rl L ts T k xs) (he : MC.elE L xs (ts.drop k) = 0) (hb : MC.elB L xs (ts.drop k) = ys) (h1 : MC.isO 125 ts[k + 3]? = true) : T = (ys, ts.drop (k + 4), 0) := by
  rw [h.fin, MC.elems_end he (by rw [drop_at]; exact h1), hb, List.drop_drop]
theorem Rl.on {L : List Pr} {ts : List Tk} {T : List Int × List Tk × Int} {k : Nat} {xs ys : List Int} (h : Rl L ts T k xs) (he : MC.elE L xs (ts.drop k) = 0) (hb : MC.elB L xs (ts.drop k) = ys) (h1 : MC.isO 125 ts[k + 3]? = false) (h2 : MC.isO 44 ts[k + 3]? = true) : Rl L ts T (k + 4) ys := by
  have hl := isO_lt h2
  refine ⟨?_, by omega⟩
  rw [h.fin, MC.elems_on he (by rw [drop_at]; exact h1), hb, List.drop_drop]
  exact MC.elems_fuel L _ _ _ _ (by rw [List.length_drop]; omega) (by rw [List.length_drop]; omega)
end Go.Proofs.YtcokplikmjegcaaGreatDoor
namespace Go.Proofs.YtcokplikmjegcaaGreatDoor
open Go.RowKit
open MC (Pr)
set_option maxRecDepth 100000 in
set_option maxHeartbeats 16000000 in
theorem rtok_any (A : Option Addr) (n cp : Nat) (L : List Pr) (hL6 : L.length ≤ 6) (A1 : Option Addr) (m c1 : Nat) (ts : List Tk) (w : World) (h : Prs w A n cp L) (ht : Tks w A1 m c1 ts) :
    Calls Tryz.prog 102 #[.slice A n cp, .slice A1 m c1] w (Gives (tokV ts (MC.scanL L ts)) w) := by
  have hf := ht.few
  have hc := ht.cap
  have HLen := Lib.hid ht.len
  have W1 : World := w
  have B0 := Lib.hid (below_two w (.cells #[.int .i64 0, .int .i64 0, .int .i64 0, .int .i64 0, .int .i64 0, .int .i64 0] 24) (.cells #[.int .i64 0, .int .i64 0, .int .i64 0, .int .i64 0, .int .i64 0, .int .i64 0] 24))
  have R0 := Lib.hid (two_boxes w 24 24 0 0 0 0 0 0 0 0 0 0 0 0).1
  have Q0 := Lib.hid (two_boxes w 24 24 0 0 0 0 0 0 0 0 0 0 0 0).2
  have FN := Lib.hid (fun (nm : List UInt8) w' (hb : Below w.heap.size w w') => rfind_any A n cp L nm w' (h.keep hb))
  have HT := Lib.hid (fun w' (hb : Below w.heap.size w w') => ht.keep hb)
  have IS := Lib.hid (fun (c : UInt8) (k : Nat) w' (hb : Below w.heap.size w w') => is_any A1 m c1 ts k c w' (ht.keep hb))
  have WR := Lib.hid (fun (k : Nat) w' (hb : Below w.heap.size w w') => wrong_any A1 m c1 ts k w' (ht.keep hb))
  clear h ht W1
  go_enter Tryz.func102, Tryz.ntmps102
  go_wp2_with fail
  generalize (w.alloc (.cells #[.int .i64 0, .int .i64 0, .int .i64 0, .int .i64 0, .int .i64 0, .int .i64 0] 24)).alloc (.cells #[.int .i64 0, .int .i64 0, .int .i64 0, .int .i64 0, .int .i64 0, .int .i64 0] 24) = W at *
  generalize hBr : w.heap.size + 1 = Br at *
  have hBr' : w.heap.size < Br := by omega
  have HBr := Lib.hid hBr
  clear hBr
  cases h0 : MC.isO 123 ts[0]? with
  | false =>
    have G := Lib.hid (ret_bad (ts := ts) (MC.scan_bad (l := L) h0) (wrong_ne _))
    have I0 := Lib.hid (IS.out 123 0 _ B0.out)
    rw [h0] at I0
    have W0 := Lib.hid (WR.out 0 _ B0.out)
    clear h0
    generalize MC.wrongE ts[0]? = er at *
    refine I0.out.mono ?_
    rintro q1 w1 ⟨rfl, rfl⟩
    go_wp2_with fail
    refine W0.out.mono ?_
    rintro q2 w2 ⟨rfl, rfl⟩
    obtain ⟨r0, r1, r2, r3, r4, r5⟩ := cells6 R0.out
    obtain ⟨g0, g1, g2, g3, g4, g5⟩ := free6 R0.out
    have hsz := R0.out.lt
    go_wp2_with fail
    exact bodyPost_ret (v := .tuple #[.agg #[.int .i64 0, .int .i64 0, .int .i64 0, .int .i64 0, .int .i64 0, .int .i64 0], .int .i64 0, .int .i64 er]) (by simp [results, Tryz.results102, go_sem, r0, r1, r2, r3, r4, r5]) rfl ⟨G.out, below_six B0.out _ (by omega) _ _ _ _ _ _⟩
  | true =>
    have I0 := Lib.hid (IS.out 123 0 _ B0.out)
    rw [h0] at I0
    have I1 := Lib.hid (IS.out 125 1 _ B0.out)
    cases h1 : MC.isO 125 ts[1]? with
    | true =>
      rw [h1] at I1
      have hl := isO_lt h1
      have G := Lib.hid (ret_good (ts := ts) (k := 2) (MC.scan_empty (l := L) h0 h1) (by rw [List.length_drop]; omega))
      clear h0 h1
      refine I0.out.mono ?_
      rintro q1 w1 ⟨rfl, rfl⟩
      go_wp2_with fail
      refine I1.out.mono ?_
      rintro q2 w2 ⟨rfl, rfl⟩
      obtain ⟨r0, r1, r2, r3, r4, r5⟩ := cells6 R0.out
      obtain ⟨g0, g1, g2, g3, g4, g5⟩ := free6 R0.out
      have hsz := R0.out.lt
      obtain ⟨c0, c1', c2', c3, c4, c5⟩ := cells6 Q0.out
      go_wp2_with fail
      exact bodyPost_ret (v := .tuple #[.agg #[.int .i64 0, .int .i64 0, .int .i64 0, .int .i64 0, .int .i64 0, .int .i64 0], .int .i64 2, .int .i64 0]) (by simp [results, Tryz.results102, go_sem, r0, r1, r2, r3, r4, r5]) rfl ⟨G.out, below_six B0.out _ (by omega) _ _ _ _ _ _⟩
    | false =>
      rw [h1] at I1
      have HR : Hid (Rl L ts (MC.scanL L ts) 1 [0, 0, 0, 0, 0, 0]) := Lib.hid ⟨MC.scan_on h0 h1, isO_lt h0⟩
      generalize MC.scanL L ts = T at *
      clear h0 h1
      refine I0.out.mono ?_
      rintro q1 w1 ⟨rfl, rfl⟩
      go_wp2_with fail
      refine I1.out.mono ?_
      rintro q2 w2 ⟨rfl, rfl⟩
      clear I0 I1
      go_wp2_with fail
      go_loopw [8] (fun i wr => ∃ (k : Nat) (xs : List Int), i = .int .i64 k ∧ k ≤ m ∧ Hid (Rl L ts T k xs) ∧ Hid (BB wr Br 24 xs) ∧ Hid (BB wr w.heap.size 24 [0, 0, 0, 0, 0, 0]) ∧ Hid (Below w.heap.size w wr)) (fun i _ => m + 1 - (intOf i).toNat)
      case atStart => exact ⟨1, _, rfl, by have := HR.out.le; rw [HLen.out] at this; exact this, HR, Q0, R0, B0⟩
      case round =>
        clear HR Q0 R0 B0
        obtain ⟨k, xs, rfl, hkm, HR, HQ, HZ, HB⟩ := hrel
        cases ht0 : ts[k]? with
        | none =>
          have G := Lib.hid (ret_bad (ts := ts) (HR.out.bad (el_none ht0) (by decide)) (by decide))
          have hk' : m ≤ k := by
            rcases Nat.lt_or_ge k m with g | g
            · rw [List.getElem?_eq_getElem (by rw [HLen.out]; exact g)] at ht0; cases ht0
            · exact g
          have hd : decide ((m : Int) ≤ (k : Int)) = true := decide_eq_true (by omega)
          have W0 := Lib.hid (WR.out k _ HB.out)
          rw [ht0] at W0
          change Hid (Calls _ _ _ _ (Same (.int .i64 1) _)) at W0
          clear ht0
          obtain ⟨r0, r1, r2, r3, r4, r5⟩ := cells6 HZ.out
          obtain ⟨g0, g1, g2, g3, g4, g5⟩ := free6 HZ.out
          have hsz := HZ.out.lt
          go_wp2_with fail
          refine W0.out.mono ?_
          rintro q1 w1 ⟨rfl, rfl⟩
          go_wp2_with fail
          exact bodyPost_ret (v := .tuple #[.agg #[.int .i64 0, .int .i64 0, .int .i64 0, .int .i64 0, .int .i64 0, .int .i64 0], .int .i64 0, .int .i64 1]) (by simp [results, Tryz.results102, go_sem, r0, r1, r2, r3, r4, r5]) rfl ⟨G.out, below_six HB.out _ (by omega) _ _ _ _ _ _⟩
        | some t =>
          have hkm' : k < m := by rw [← HLen.out]; exact (List.getElem?_eq_some_iff.1 ht0).1
          have hd : decide ((m : Int) ≤ (k : Int)) = false := decide_eq_false (by omega)
          obtain ⟨ad, t', rfl, p1, hbk, x0, x1, x2, x3⟩ := (HT.out _ HB.out).at_ hkm'
          obtain rfl : t' = t := by rw [ht0] at p1; injection p1 with p1; exact p1.symm
          by_cases hk1 : t'.kind = 1
          · have hb1 : ((t'.kind : Int) != 1) = false := bne_eq_false_iff_eq.2 hk1
            have F0 := Lib.hid (FN.out t'.text _ HB.out)
            have HT0 := Lib.hid ht0
            have HK1 := Lib.hid hk1
            cases hfi : MC.findL L t'.text with
            | none =>
              have G := Lib.hid (ret_bad (ts := ts) (HR.out.bad (el_lack ht0 hk1 hfi) (by decide)) (by decide))
              rw [hfi] at F0
              unfold fndV at F0
              clear hfi ht0 hk1 p1 hbk x2 x3 HT0 HK1
              obtain ⟨kd, tx, vv, a⟩ := t'
              simp only at *
              generalize str tx = sx at *
              go_wp2_with fail
              refine F0.out.mono ?_
              rintro q1 w1 ⟨rfl, hb⟩
              have B1 := Lib.hid (HB.out.trans (hb.mono HB.out.size))
              have Z1 := Lib.hid (HZ.out.keep hb HZ.out.lt)
              obtain ⟨r0, r1, r2, r3, r4, r5⟩ := cells6 Z1.out
              obtain ⟨g0, g1, g2, g3, g4, g5⟩ := free6 Z1.out
              have hsz := Z1.out.lt
              clear hb F0 HZ HB x0 x1
              go_wp2_with fail
              exact bodyPost_ret (v := .tuple #[.agg #[.int .i64 0, .int .i64 0, .int .i64 0, .int .i64 0, .int .i64 0, .int .i64 0], .int .i64 0, .int .i64 6]) (by simp [results, Tryz.results102, go_sem, r0, r1, r2, r3, r4, r5]) rfl ⟨G.out, below_six B1.out _ (by omega) _ _ _ _ _ _⟩
            | some i =>
              have hi6 : i < 6 := Nat.lt_of_lt_of_le (MC.find_lt hfi) hL6
              rw [hfi] at F0
              unfold fndV at F0
              have HFI := Lib.hid hfi
              clear hfi p1 hbk x2 x3 ht0 hk1
              by_cases hz : MB.at_ xs i = 0
              · have hc9' := HQ.out.cell hi6
                rw [hz] at hc9'
                clear hc9'
                have HZ0 := Lib.hid hz
                clear hz
                obtain ⟨tx, htx⟩ : ∃ tx, tx = str t'.text := ⟨_, rfl⟩
                rw [← htx] at F0 x1
                clear htx
                go_wp2_with fail
                refine F0.out.mono ?_
                rintro q1 w1 ⟨rfl, hb⟩
                have B1 := Lib.hid (HB.out.trans (hb.mono HB.out.size))
                have Z1 := Lib.hid (HZ.out.keep hb HZ.out.lt)
                have Q1 := Lib.hid (HQ.out.keep hb HQ.out.lt)
                have c9 := Q1.out.cell hi6
                rw [HZ0.out] at c9
                clear hb F0 HZ HB HQ x0 x1
                have e1 : ((k + 1 : Nat) : Int) = (k : Int) + 1 := rfl
                have e2 : ((k + 2 : Nat) : Int) = (k : Int) + 2 := rfl
                have e3 : ((k + 3 : Nat) : Int) = (k : Int) + 3 := rfl
                have I1 := Lib.hid (IS.out 58 (k + 1) _ B1.out)
                rw [e1] at I1
                have W1 := Lib.hid (WR.out (k + 1) _ B1.out)
                rw [e1] at W1
                have W2 := Lib.hid (WR.out (k + 2) _ B1.out)
                rw [e2] at W2
                clear e1 e2 e3
                cases hm1 : MC.isO 58 ts[k + 1]? with
                | false =>
                  rw [hm1] at I1
                  have G := Lib.hid (ret_bad (ts := ts) (HR.out.bad (el_colon HT0.out HK1.out HFI.out HZ0.out hm1) (wrong_ne _)) (wrong_ne _))
                  clear hm1 W2
                  generalize MC.wrongE ts[k + 1]? = er at *
                  obtain ⟨r0, r1, r2, r3, r4, r5⟩ := cells6 Z1.out
                  obtain ⟨g0, g1, g2, g3, g4, g5⟩ := free6 Z1.out
                  have hsz := Z1.out.lt
                  go_wp2_with fail
                  refine I1.out.mono ?_
                  rintro q2 w2 ⟨rfl, rfl⟩
                  go_wp2_with fail
                  refine W1.out.mono ?_
                  rintro q3 w3 ⟨rfl, rfl⟩
                  go_wp2_with fail
                  exact bodyPost_ret (v := .tuple #[.agg #[.int .i64 0, .int .i64 0, .int .i64 0, .int .i64 0, .int .i64 0, .int .i64 0], .int .i64 0, .int .i64 er]) (by simp [results, Tryz.results102, go_sem, r0, r1, r2, r3, r4, r5]) rfl ⟨G.out, below_six B1.out _ (by omega) _ _ _ _ _ _⟩
                | true =>
                  rw [hm1] at I1
                  have HM1 := Lib.hid hm1
                  clear hm1 W1
                  cases ht2 : ts[k + 2]? with
                  | none =>
                    have G := Lib.hid (ret_bad (ts := ts) (HR.out.bad (el_number HT0.out HK1.out HFI.out HZ0.out HM1.out (fun v hv => by rw [ht2] at hv; cases hv)) (wrong_ne _)) (wrong_ne _))
                    have hk2 : m ≤ k + 2 := by
                      rcases Nat.lt_or_ge (k + 2) m with g | g
                      · rw [List.getElem?_eq_getElem (by rw [HLen.out]; exact g)] at ht2; cases ht2
                      · exact g
                    have hd2 : decide ((m : Int) ≤ (k : Int) + 2) = true := decide_eq_true (by omega)
                    clear ht2
                    generalize MC.wrongE ts[k + 2]? = er at *
                    obtain ⟨r0, r1, r2, r3, r4, r5⟩ := cells6 Z1.out
                    obtain ⟨g0, g1, g2, g3, g4, g5⟩ := free6 Z1.out
                    have hsz := Z1.out.lt
                    go_wp2_with fail
                    refine I1.out.mono ?_
                    rintro q2 w2 ⟨rfl, rfl⟩
                    go_wp2_with fail
                    refine W2.out.mono ?_
                    rintro q3 w3 ⟨rfl, rfl⟩
                    go_wp2_with fail
                    exact bodyPost_ret (v := .tuple #[.agg #[.int .i64 0, .int .i64 0, .int .i64 0, .int .i64 0, .int .i64 0, .int .i64 0], .int .i64 0, .int .i64 er]) (by simp [results, Tryz.results102, go_sem, r0, r1, r2, r3, r4, r5]) rfl ⟨G.out, below_six B1.out _ (by omega) _ _ _ _ _ _⟩
                  | some v =>
                    have hkm2 : k + 2 < m := by rw [← HLen.out]; exact (List.getElem?_eq_some_iff.1 ht2).1
                    have hd2 : decide ((m : Int) ≤ (k : Int) + 2) = false := decide_eq_false (by omega)
                    have hlt2 : (k : Int) + 2 < (m : Int) := by omega
                    obtain ⟨ad', v', hA2, p1, hbk, y0, y1, y2, y3⟩ := (HT.out _ B1.out).at_ hkm2
                    injection hA2 with hA2
                    subst hA2
                    obtain rfl : v' = v := by rw [ht2] at p1; injection p1 with p1; exact p1.symm
                    have HT2 := Lib.hid ht2
                    clear p1 hbk y1 y3
                    by_cases h2 : v'.kind = 2
                    · have hb2 : ((v'.kind : Int) != 2) = false := bne_eq_false_iff_eq.2 h2
                      clear W2
                      by_cases hout : v'.value < 1 ∨ 4 < v'.value
                      · have G := Lib.hid (ret_bad (ts := ts) (HR.out.bad (el_range HT0.out HK1.out HFI.out HZ0.out HM1.out ht2 h2 hout) (by decide)) (by decide))
                        clear ht2 HT2 h2
                        generalize v'.kind = vk at *
                        generalize v'.value = vv at *
                        obtain ⟨r0, r1, r2, r3, r4, r5⟩ := cells6 Z1.out
                        obtain ⟨g0, g1, g2, g3, g4, g5⟩ := free6 Z1.out
                        have hsz := Z1.out.lt
                        by_cases hv1 : vv < 1
                        · go_wp2_with fail
                          refine I1.out.mono ?_
                          rintro q2 w2 ⟨rfl, rfl⟩
                          go_wp2_with fail
                          exact bodyPost_ret (v := .tuple #[.agg #[.int .i64 0, .int .i64 0, .int .i64 0, .int .i64 0, .int .i64 0, .int .i64 0], .int .i64 0, .int .i64 4]) (by simp [results, Tryz.results102, go_sem, r0, r1, r2, r3, r4, r5]) rfl ⟨G.out, below_six B1.out _ (by omega) _ _ _ _ _ _⟩
                        · have hv4 : 4 < vv := by omega
                          have hd3 : decide (vv < 1) = false := decide_eq_false (by omega)
                          have hd4 : decide (4 < vv) = true := decide_eq_true (by omega)
                          go_wp2_with fail
                          refine I1.out.mono ?_
                          rintro q2 w2 ⟨rfl, rfl⟩
                          go_wp2_with fail
                          exact bodyPost_ret (v := .tuple #[.agg #[.int .i64 0, .int .i64 0, .int .i64 0, .int .i64 0, .int .i64 0, .int .i64 0], .int .i64 0, .int .i64 4]) (by simp [results, Tryz.results102, go_sem, r0, r1, r2, r3, r4, r5]) rfl ⟨G.out, below_six B1.out _ (by omega) _ _ _ _ _ _⟩
                      · obtain ⟨ELT, ELB⟩ := el_tail HT0.out HK1.out HFI.out HZ0.out HM1.out ht2 h2 (by omega : 1 ≤ v'.value) (by omega : v'.value ≤ 4)
                        have HELT := Lib.hid ELT
                        have HELB := Lib.hid ELB
                        have hd3 : decide (v'.value < 1) = false := decide_eq_false (by omega)
                        have hd4 : decide (4 < v'.value) = false := decide_eq_false (by omega)
                        clear ht2 HT2 h2 ELT ELB hout
                        have g9 := Q1.out.free i
                        have z9 := Q1.out.lt
                        generalize v'.kind = vk at *
                        generalize v'.value = vv at *
                        have Q2 := Lib.hid (Q1.out.set i vv)
                        have Z2 := Lib.hid (Z1.out.other (B' := Br) (k := i) (.int .i64 vv) (Nat.ne_of_lt hBr'))
                        have B2 := Lib.hid (B1.out.setCell (p := ⟨Br, i, none⟩) (Nat.le_of_lt hBr') (.int .i64 vv))
                        go_wp2_with fail
                        refine I1.out.mono ?_
                        rintro q2 w2 ⟨rfl, rfl⟩
                        go_wp2_with fail
                        clear c9 g9 z9 y0 y2 I1 Q1 Z1 B1
                        generalize w2.setCell ⟨Br, i, none⟩ (.int .i64 vv) = w5 at *
                        have e3 : ((k + 3 : Nat) : Int) = (k : Int) + 3 := rfl
                        have I3 := Lib.hid (IS.out 125 (k + 3) _ B2.out)
                        rw [e3] at I3
                        have J3 := Lib.hid (IS.out 44 (k + 3) _ B2.out)
                        rw [e3] at J3
                        have W3 := Lib.hid (WR.out (k + 3) _ B2.out)
                        rw [e3] at W3
                        clear e3
                        cases h125 : MC.isO 125 ts[k + 3]? with
                        | true =>
                          rw [h125] at I3
                          have hl := isO_lt h125
                          have hT := HR.out.end_ (by rw [HELT.out, if_pos h125]) HELB.out h125
                          obtain ⟨z0, z1, z2, z3, z4, z5, hz⟩ := six Q2.out.2
                          have hq := Q2.out
                          rw [hz] at hT hq
                          have G := Lib.hid (ret_good (ts := ts) (k := k + 4) hT (by rw [List.length_drop]; omega))
                          obtain ⟨c0, c1', c2', c3, c4, c5⟩ := cells6 hq
                          obtain ⟨r0, r1, r2, r3, r4, r5⟩ := cells6 Z2.out
                          obtain ⟨g0, g1, g2, g3, g4, g5⟩ := free6 Z2.out
                          have hsz := Z2.out.lt
                          clear hT hz hq h125 hl J3 W3 HELT HELB
                          rw [show ((k + 4 : Nat) : Int) = (k : Int) + 4 from rfl] at G
                          refine I3.out.mono ?_
                          rintro q6 w6 ⟨rfl, rfl⟩
                          go_wp2_with fail
                          exact bodyPost_ret (v := .tuple #[.agg #[.int .i64 z0, .int .i64 z1, .int .i64 z2, .int .i64 z3, .int .i64 z4, .int .i64 z5], .int .i64 ((k : Int) + 4), .int .i64 0]) (by simp [results, Tryz.results102, go_sem, r0, r1, r2, r3, r4, r5]) rfl ⟨G.out, below_six B2.out _ (by omega) _ _ _ _ _ _⟩
                        | false =>
                          rw [h125] at I3
                          refine I3.out.mono ?_
                          rintro q6 w6 ⟨rfl, rfl⟩
                          cases h44 : MC.isO 44 ts[k + 3]? with
                          | true =>
                            rw [h44] at J3
                            have hl := isO_lt h44
                            rw [HLen.out] at hl
                            have G := Lib.hid (HR.out.on (by rw [HELT.out, h125, if_neg (by decide), if_pos h44]) HELB.out h125 h44)
                            clear h125 h44 HELT HELB W3 I3
                            go_wp2_with fail
                            refine J3.out.mono ?_
                            rintro q7 w7 ⟨rfl, rfl⟩
                            go_wp2_with fail
                            go_roundw
                            case rel => exact ⟨k + 4, _, by go_num, by omega, G, Q2, Z2, B2⟩
                            case measure => simp [intOf]; omega
                          | false =>
                            rw [h44] at J3
                            have G := Lib.hid (ret_bad (ts := ts) (HR.out.bad (show MC.elE L xs (ts.drop k) = MC.wrongE ts[k + 3]? by rw [HELT.out, h125, if_neg (by decide), h44, if_neg (by decide)]) (wrong_ne _)) (wrong_ne _))
                            clear h125 h44 HELT HELB I3
                            generalize MC.wrongE ts[k + 3]? = er at *
                            obtain ⟨r0, r1, r2, r3, r4, r5⟩ := cells6 Z2.out
                            obtain ⟨g0, g1, g2, g3, g4, g5⟩ := free6 Z2.out
                            have hsz := Z2.out.lt
                            go_wp2_with fail
                            refine J3.out.mono ?_
                            rintro q7 w7 ⟨rfl, rfl⟩
                            go_wp2_with fail
                            refine W3.out.mono ?_
                            rintro q8 w8 ⟨rfl, rfl⟩
                            go_wp2_with fail
                            exact bodyPost_ret (v := .tuple #[.agg #[.int .i64 0, .int .i64 0, .int .i64 0, .int .i64 0, .int .i64 0, .int .i64 0], .int .i64 0, .int .i64 er]) (by simp [results, Tryz.results102, go_sem, r0, r1, r2, r3, r4, r5]) rfl ⟨G.out, below_six B2.out _ (by omega) _ _ _ _ _ _⟩
                    · have hb2 : ((v'.kind : Int) != 2) = true := bne_iff_ne.2 h2
                      have G := Lib.hid (ret_bad (ts := ts) (HR.out.bad (el_number HT0.out HK1.out HFI.out HZ0.out HM1.out (fun v hv => by rw [ht2] at hv; injection hv with hv; subst hv; exact h2)) (wrong_ne _)) (wrong_ne _))
                      clear ht2 HT2 h2 y2
                      generalize MC.wrongE ts[k + 2]? = er at *
                      generalize v'.kind = vk at *
                      obtain ⟨r0, r1, r2, r3, r4, r5⟩ := cells6 Z1.out
                      obtain ⟨g0, g1, g2, g3, g4, g5⟩ := free6 Z1.out
                      have hsz := Z1.out.lt
                      go_wp2_with fail
                      refine I1.out.mono ?_
                      rintro q2 w2 ⟨rfl, rfl⟩
                      go_wp2_with fail
                      refine W2.out.mono ?_
                      rintro q3 w3 ⟨rfl, rfl⟩
                      go_wp2_with fail
                      exact bodyPost_ret (v := .tuple #[.agg #[.int .i64 0, .int .i64 0, .int .i64 0, .int .i64 0, .int .i64 0, .int .i64 0], .int .i64 0, .int .i64 er]) (by simp [results, Tryz.results102, go_sem, r0, r1, r2, r3, r4, r5]) rfl ⟨G.out, below_six B1.out _ (by omega) _ _ _ _ _ _⟩
              · have G := Lib.hid (ret_bad (ts := ts) (HR.out.bad (el_twice HT0.out HK1.out HFI.out hz) (by decide)) (by decide))
                have hb7 : (MB.at_ xs i != 0) = true := bne_iff_ne.2 hz
                clear hz HFI HT0 HK1
                obtain ⟨tx, htx⟩ : ∃ tx, tx = str t'.text := ⟨_, rfl⟩
                rw [← htx] at F0 x1
                clear htx
                go_wp2_with fail
                refine F0.out.mono ?_
                rintro q1 w1 ⟨rfl, hb⟩
                have B1 := Lib.hid (HB.out.trans (hb.mono HB.out.size))
                have Z1 := Lib.hid (HZ.out.keep hb HZ.out.lt)
                have c9 := (HQ.out.keep hb HQ.out.lt).cell hi6
                obtain ⟨r0, r1, r2, r3, r4, r5⟩ := cells6 Z1.out
                obtain ⟨g0, g1, g2, g3, g4, g5⟩ := free6 Z1.out
                have hsz := Z1.out.lt
                clear hb F0 HZ HB HQ x0 x1
                generalize MB.at_ xs i = y at *
                go_wp2_with fail
                exact bodyPost_ret (v := .tuple #[.agg #[.int .i64 0, .int .i64 0, .int .i64 0, .int .i64 0, .int .i64 0, .int .i64 0], .int .i64 0, .int .i64 7]) (by simp [results, Tryz.results102, go_sem, r0, r1, r2, r3, r4, r5]) rfl ⟨G.out, below_six B1.out _ (by omega) _ _ _ _ _ _⟩
          · have hb1 : ((t'.kind : Int) != 1) = true := bne_iff_ne.2 hk1
            have G := Lib.hid (ret_bad (ts := ts) (HR.out.bad (el_kind ht0 hk1) (by decide)) (by decide))
            have W0 := Lib.hid (WR.out k _ HB.out)
            rw [ht0] at W0
            change Hid (Calls _ _ _ _ (Same (.int .i64 2) _)) at W0
            clear ht0 p1 hbk x1 x2 x3 hk1
            generalize t'.kind = tk at *
            obtain ⟨r0, r1, r2, r3, r4, r5⟩ := cells6 HZ.out
            obtain ⟨g0, g1, g2, g3, g4, g5⟩ := free6 HZ.out
            have hsz := HZ.out.lt
            go_wp2_with fail
            refine W0.out.mono ?_
            rintro q1 w1 ⟨rfl, rfl⟩
            go_wp2_with fail
            exact bodyPost_ret (v := .tuple #[.agg #[.int .i64 0, .int .i64 0, .int .i64 0, .int .i64 0, .int .i64 0, .int .i64 0], .int .i64 0, .int .i64 2]) (by simp [results, Tryz.results102, go_sem, r0, r1, r2, r3, r4, r5]) rfl ⟨G.out, below_six HB.out _ (by omega) _ _ _ _ _ _⟩
end Go.Proofs.YtcokplikmjegcaaGreatDoor

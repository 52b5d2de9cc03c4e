/- The walk of LexerCovers: no claim of its own. -/
import Derived.Test.YtdgflkkdcejadaaLAwake
import Derived.Test.YtdgflkkdcejadaaLFine
namespace Go.Proofs.Ytdgflkkdcejadaa
open Go.RowKit
theorem extract_take (s : ByteArray) (k m : Nat) (_h : k + m ≤ s.size) : (s.extract k (k + m)).data.toList = (s.data.toList.drop k).take m := by
  rw [ByteArray.data_extract, Array.toList_extract, List.extract_eq_take_drop, Nat.add_sub_cancel_left]
theorem Cov.next {l : List UInt8} {p : Nat} {t : Tk} {ts : List Tk} (h : Cov l p (t :: ts)) : ∃ k : Nat, t.at_ = k ∧ p ≤ k ∧ t.text ≠ [] ∧ k + t.text.length ≤ l.length ∧ (l.drop k).take t.text.length = t.text ∧ (∀ j c, p ≤ j → j < k → l[j]? = some c → c.toNat = 32) ∧ Cov l (k + t.text.length) ts := by
  obtain ⟨k, e1, e2, _, e4, e5, e6, e7, e8⟩ := h
  exact ⟨k, e1, e2, e4, e5, e6, e7, e8⟩
set_option maxRecDepth 100000 in
set_option maxHeartbeats 8000000 in
theorem covers_walk (s : ByteArray) (w : World) (hs : s.size ≤ maxLen) :
    Calls Try.prog 6 #[.string s] w (Gives (.bool true) w) := by
  unfold maxLen at hs
  have AW := Lib.hid (fun w' => awake6 w')
  have T1 := Lib.hid (fun w' => tokens_any s hs w')
  by_cases hgo : s.size ≤ 4000 ∧ (toks s.data.toList).2 = 0
  · obtain ⟨h4, h0⟩ := hgo
    have CV := Lib.hid (toks_cov h0)
    generalize toks s.data.toList = T at *
    obtain ⟨ts, er⟩ := T
    simp only at h0 CV
    subst h0
    go_enter Try.func6, Try.ntmps6
    go_wp2_with fail
    refine (T1.out _).mono ?_
    rintro e w1 ⟨A1, n1, c1, rfl, ht, hb⟩
    have hn := ht.few
    have hc := ht.cap
    have hl := Lib.hid ht.len
    have U1 := Lib.hid ht
    have B1 := Lib.hid hb
    have O1 := Lib.hid (Below.refl w1.heap.size w1)
    clear hb ht T1
    go_wp2_with fail
    go_loopw [5, 23] (fun pv i wr => ∃ (j p : Nat), j ≤ n1 ∧ i = .int .i64 j ∧ p ≤ s.size ∧ pv = .int .i64 p ∧ Hid (Cov s.data.toList p (ts.drop j)) ∧ Hid (Below w1.heap.size w1 wr)) (fun _ i _ => n1 - (intOf i).toNat)
    case atStart => exact ⟨0, 0, by omega, rfl, by omega, rfl, CV, O1⟩
    case round =>
      rename_i _ _ wr
      clear CV O1
      obtain ⟨j, p, hj, rfl, hp, rfl, HC, HB⟩ := hrel
      by_cases hlt : j < n1
      · obtain ⟨ad, t, rfl, e1, hbk, x0, x1, x2, x3⟩ := (U1.out.keep HB.out).at_ hlt
        have hd : ts.drop j = t :: ts.drop (j + 1) := by
          obtain ⟨h1, h2⟩ := List.getElem?_eq_some_iff.1 e1
          rw [List.drop_eq_getElem_cons h1, h2]
        have HC1 := HC.out
        rw [hd] at HC1
        obtain ⟨k, q1, q2, q3, q4, q5, q6, q7⟩ := HC1.next
        obtain ⟨kd, tx, vv, a⟩ := t
        simp only at x0 x1 x2 x3 q1 q3 q4 q5 q6 q7
        subst q1
        rw [size_list] at q4
        have SP := Lib.hid q6
        have C2 := Lib.hid q7
        have hx := str_size tx
        have hxd : (s.extract k (k + tx.length)).data.toList = (str tx).data.toList := by rw [extract_take s k _ q4, q5, str_data]
        have hx0 : 0 < (str tx).size := by
          rw [str_size]
          cases tx with
          | nil => exact absurd rfl q3
          | cons _ _ => simp
        rw [← hx] at q4 hxd C2
        clear q3 q5 q6 q7 hd HC HC1 e1 hx
        generalize str tx = x at *
        have n1' : x.toList.isEmpty = false := by cases h : x.toList with | nil => exact absurd h (ne_empty hx0) | cons _ _ => rfl
        have n2' : (x.toList == []) = false := beq_eq_false_iff_ne.2 (ne_empty hx0)
        have d1 : decide ((k : Int) < (p : Int)) = false := decide_eq_false (by omega)
        have d1' : decide (k < p) = false := decide_eq_false (by omega)
        have d2 : decide ((s.size : Int) < (k : Int)) = false := decide_eq_false (by omega)
        have d2' : decide (s.size < k) = false := decide_eq_false (by omega)
        have w3 : IntKind.i64.wrap ((s.size : Int) - (k : Int)) = (s.size : Int) - (k : Int) := IntWalk.i64_in _ (by omega)
        have d3 : decide ((s.size : Int) - (k : Int) < (x.size : Int)) = false := decide_eq_false (by omega)
        have w4 : IntKind.i64.wrap ((k : Int) + (x.size : Int)) = (k : Int) + (x.size : Int) := IntWalk.i64_in _ (by omega)
        have z4 : ((k : Int) + (x.size : Int)).toNat = k + x.size := by omega
        have g4 : (0 : Int) ≤ (k : Int) + (x.size : Int) := by omega
        have g5 : (k : Int) ≤ (k : Int) + (x.size : Int) := by omega
        have g6 : (k : Int) + (x.size : Int) ≤ (s.size : Int) := by omega
        have q7 : ((s.extract k (k + x.size)).toList == x.toList) = true := test_yes hxd
        clear hxd
        go_wp2_with fail
        go_quiet (fail)
        have BX := Lib.hid (HB.out.trans ((below_new wr (.cells #[.int .i64 kd, .string x, .int .i64 vv, .int .i64 k] 33)).mono HB.out.size))
        clear x0 x1 x2 x3 n1' n2' d1 d1' d2 d2' w3 d3 w4 z4 g4 g5 g6 q7 HB
        go_wp2_with fail
        go_loop [5] (fun v => ∃ q : Nat, p ≤ q ∧ q ≤ k ∧ v = .int .i64 q) (fun v => k - (intOf v).toNat)
        case atStart => exact ⟨p, by omega, by omega, rfl⟩
        case round =>
          obtain ⟨q, hq1, hq2, rfl⟩ := hrel
          by_cases hqk : q < k
          · have hqs : q < s.size := by omega
            have h32 := SP.out q s[q] hq1 hqk (at_list s q hqs)
            have hb : (((s[q]).toNat : Int) != 32) = false := bne_eq_false_iff_eq.2 (by rw [h32]; rfl)
            clear h32
            go_wp2_with fail
            go_round
            case rel => exact ⟨q + 1, by omega, by omega, by go_num⟩
            case measure => simp [intOf]; omega
          · obtain rfl : q = k := by omega
            clear SP
            go_wp2_with fail
            go_roundw
            case rel => exact ⟨j + 1, q + x.size, by omega, by go_num, by omega, by go_num, C2, Lib.hid (below_drewN BX.out _)⟩
            case measure => simp [intOf]; omega
      · have e0 : ts.drop j = [] := List.drop_of_length_le (by rw [hl.out]; omega)
        have HC1 := HC.out
        rw [e0] at HC1
        have SP : Hid (∀ j c, p ≤ j → s.data.toList[j]? = some c → c.toNat = 32) := Lib.hid HC1
        have B2 := Lib.hid (B1.out.trans (HB.out.mono B1.out.size))
        clear HC HC1 e0 U1 HB B1
        go_wp2_with fail
        go_loop [5] (fun v => ∃ q : Nat, p ≤ q ∧ q ≤ s.size ∧ v = .int .i64 q) (fun v => s.size - (intOf v).toNat)
        case atStart => exact ⟨p, by omega, by omega, rfl⟩
        case round =>
          obtain ⟨q, hq1, hq2, rfl⟩ := hrel
          by_cases hqk : q < s.size
          · have h32 := SP.out q s[q] hq1 (at_list s q hqk)
            have hb : (((s[q]).toNat : Int) != 32) = false := bne_eq_false_iff_eq.2 (by rw [h32]; rfl)
            clear h32
            go_wp2_with fail
            go_round
            case rel => exact ⟨q + 1, by omega, by omega, by go_num⟩
            case measure => simp [intOf]; omega
          · clear SP
            go_wp2_with fail
            refine (AW.out _).mono ?_
            rintro e w9 ⟨rfl, hb⟩
            have B9 := Lib.hid (B2.out.trans (hb.mono B2.out.size))
            clear hb
            go_wp2
            go_ret
            exact ⟨rfl, B9.out⟩
  · by_cases h4 : 4000 < s.size
    all_goals
      first
        | (have hne : decide ((4000 : Int) < (s.size : Int)) = true := decide_eq_true (by omega); clear hgo; generalize toks s.data.toList = T at *)
        | (have he : (toks s.data.toList).2 ≠ 0 := fun h => hgo ⟨by omega, h⟩; clear hgo; generalize toks s.data.toList = T at *; have hne : ((T.2 : Int) != 0) = true := bne_iff_ne.2 he; clear he)
      obtain ⟨ts, er⟩ := T
      try simp only at hne
      go_enter Try.func6, Try.ntmps6
      go_wp2_with fail
      refine (T1.out _).mono ?_
      rintro e w1 ⟨A1, n1, c1, rfl, ht, hb⟩
      have B1 := Lib.hid hb
      clear hb ht T1
      go_wp2_with fail
      refine (AW.out _).mono ?_
      rintro e w9 ⟨rfl, hb⟩
      have B9 := Lib.hid (B1.out.trans (hb.mono B1.out.size))
      clear hb
      go_wp2
      go_ret
      exact ⟨rfl, B9.out⟩
end Go.Proofs.Ytdgflkkdcejadaa

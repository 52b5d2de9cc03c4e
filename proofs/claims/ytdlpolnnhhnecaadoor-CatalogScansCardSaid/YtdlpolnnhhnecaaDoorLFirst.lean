/- The first token of a text, of the package: no claim of its own. -/
import Derived.Test.YtdlpolnnhhnecaaDoorLNum
import Derived.Test.YtdlpolnnhhnecaaDoorLMark
namespace Go.Proofs.YtdlpolnnhhnecaaDoor
open Go.RowKit
theorem list_head (s : ByteArray) (h : 0 < s.size) : s.data.toList = s[0] :: s.data.toList.drop 1 := by
  have := List.drop_eq_getElem_cons (l := s.data.toList) (i := 0) (by rw [size_list]; exact h)
  rw [List.drop_zero] at this
  exact this
theorem one_letter (s : ByteArray) (h : 0 < s.size) (hl : letterN (s[0]).toNat = true) : oneT s.data.toList = if 12 < (fits partN s.data.toList).length then (.zero, 3) else (⟨1, fits partN s.data.toList, 0, 0⟩, 0) := by
  rw [list_head s h, oneT_cons, if_pos hl]
theorem one_digit (s : ByteArray) (h : 0 < s.size) (hl : letterN (s[0]).toNat = false) (hd : digitN (s[0]).toNat = true) : oneT s.data.toList = numT (fits digitN s.data.toList) := by
  rw [list_head s h, oneT_cons, if_neg (by rw [hl]; decide), if_pos hd, fits_cons hd]
  unfold numT
  simp only [List.head?_cons, Option.map_some, Option.some.injEq]
theorem one_mark (s : ByteArray) (h : 0 < s.size) (hl : letterN (s[0]).toNat = false) (hd : digitN (s[0]).toNat = false) (hm : markN (s[0]).toNat = true) : oneT s.data.toList = (⟨3, s.data.toList.take 1, 0, 0⟩, 0) := by
  rw [list_head s h, oneT_cons, if_neg (by rw [hl]; decide), if_neg (by rw [hd]; decide), if_pos hm]
  rfl
theorem one_none (s : ByteArray) (h : 0 < s.size) (hl : letterN (s[0]).toNat = false) (hd : digitN (s[0]).toNat = false) (hm : markN (s[0]).toNat = false) : oneT s.data.toList = (.zero, 2) := by
  rw [list_head s h, oneT_cons, if_neg (by rw [hl]; decide), if_neg (by rw [hd]; decide), if_neg (by rw [hm]; decide)]
theorem digits_all (l : List UInt8) (j : Nat) (hj : j < (str (fits digitN l)).size) : digitN ((str (fits digitN l))[j]).toNat = true := by
  obtain ⟨c, h1, h2⟩ := fits_in digitN l j (by rw [str_size] at hj; exact hj)
  have e := at_list (str (fits digitN l)) j hj
  have e' : (fits digitN l)[j]? = l[j]? := by
    conv => lhs; rw [← fits_take digitN l]
    exact List.getElem?_take_of_lt (by rw [str_size] at hj; exact hj)
  rw [str_data, e', h1] at e
  injection e with e
  rw [← e]; exact h2
set_option maxRecDepth 100000 in
set_option maxHeartbeats 2000000 in
theorem first_any (s : ByteArray) (h0 : 0 < s.size) (hs : s.size ≤ 9223372036854775807) (w : World) :
    Calls Tryd.prog 46 #[.string s] w (GivesTk (oneT s.data.toList) w) := by
  have hr := (s[0]).toNat_lt
  have LE := Lib.hid (fun B => Nat.le_trans (fits_le B s.data.toList) (Nat.le_of_eq (size_list s)))
  have L := Lib.hid (fun w' => isLetter_any (s[0]).toNat w')
  have D := Lib.hid (fun w' => isDigit_any (s[0]).toNat w')
  have M := Lib.hid (fun w' => isMark_any (s[0]).toNat w')
  have hb0 := TB.new w 57 (.int .i64 0) (.string ⟨#[]⟩) (.int .i64 0) (.int .i64 0)
  have B0 := Lib.hid (below_new w (.cells #[.int .i64 0, .string ⟨#[]⟩, .int .i64 0, .int .i64 0] 57))
  have H0 := Lib.hid hb0
  clear hb0
  cases hl : letterN (s[0]).toNat with
  | true =>
    rw [hl] at L
    have PW := Lib.hid (fun w' => prefix_part s hs w')
    have WD : Hid (∀ w', Calls Tryd.prog 65 #[.string (str (fits partN s.data.toList))] w' (GivesTk (oneT s.data.toList) w')) := Lib.hid fun w' => by
      have := word_any (str (fits partN s.data.toList)) (by rw [str_size]; have := LE.out partN; omega) w'
      rw [str_data, ← one_letter s h0 hl] at this
      exact this
    clear D M LE hl
    generalize oneT s.data.toList = T at *
    generalize str (fits partN s.data.toList) = x at *
    obtain ⟨⟨k, t, v, a⟩, er⟩ := T
    go_enter Tryd.func46, Tryd.ntmps46
    go_wp2_with fail
    (with_reducible refine (L.out _).mono ?_)
    rintro e w' ⟨rfl, rfl⟩
    go_wp2_with fail
    (with_reducible refine (PW.out _).mono ?_)
    rintro e w1 ⟨rfl, hb⟩
    have H1 := Lib.hid (H0.out.keep hb)
    have B1 := Lib.hid (B0.out.trans (hb.mono B0.out.size))
    clear hb H0 B0
    go_wp2_with fail
    (with_reducible refine (WD.out _).mono ?_)
    rintro e w2 ⟨rfl, hb⟩
    have B2 := Lib.hid (B1.out.trans (hb.mono B1.out.size))
    obtain ⟨c0, c1, c2, c3⟩ := (H1.out.keep hb).cells
    obtain ⟨f0, f1, f2, f3⟩ := (H1.out.keep hb).free
    clear hb H1 B1
    unfold aggT
    go_wp2
    exact bodyPost_ret (v := .tuple #[.agg #[.int .i64 k, .string (str t), .int .i64 v, .int .i64 a], .int .i64 er]) (by simp [results, Tryd.results46, go_sem, c0, c1, c2, c3]) rfl ⟨rfl, (((B2.out.setCell (by simp) _).setCell (by simp) _).setCell (by simp) _).setCell (by simp) _⟩
  | false =>
    rw [hl] at L
    cases hd : digitN (s[0]).toNat with
    | true =>
      rw [hd] at D
      have PW := Lib.hid (fun w' => prefix_digit s hs w')
      have WD : Hid (∀ w', Calls Tryd.prog 69 #[.string (str (fits digitN s.data.toList))] w' (GivesTk (oneT s.data.toList) w')) := Lib.hid fun w' => by
        have := number_any (str (fits digitN s.data.toList)) (by rw [str_size, list_head s h0, fits_cons hd]; simp) (by rw [str_size]; have := LE.out digitN; omega) (digits_all _) w'
        rw [str_data, ← one_digit s h0 hl hd] at this
        exact this
      clear M LE hl hd
      generalize oneT s.data.toList = T at *
      generalize str (fits digitN s.data.toList) = x at *
      obtain ⟨⟨k, t, v, a⟩, er⟩ := T
      go_enter Tryd.func46, Tryd.ntmps46
      go_wp2_with fail
      (with_reducible refine (L.out _).mono ?_)
      rintro e w' ⟨rfl, rfl⟩
      go_wp2_with fail
      (with_reducible refine (D.out _).mono ?_)
      rintro e w' ⟨rfl, rfl⟩
      go_wp2_with fail
      (with_reducible refine (PW.out _).mono ?_)
      rintro e w1 ⟨rfl, hb⟩
      have H1 := Lib.hid (H0.out.keep hb)
      have B1 := Lib.hid (B0.out.trans (hb.mono B0.out.size))
      clear hb H0 B0
      go_wp2_with fail
      (with_reducible refine (WD.out _).mono ?_)
      rintro e w2 ⟨rfl, hb⟩
      have B2 := Lib.hid (B1.out.trans (hb.mono B1.out.size))
      obtain ⟨c0, c1, c2, c3⟩ := (H1.out.keep hb).cells
      obtain ⟨f0, f1, f2, f3⟩ := (H1.out.keep hb).free
      clear hb H1 B1
      unfold aggT
      go_wp2
      exact bodyPost_ret (v := .tuple #[.agg #[.int .i64 k, .string (str t), .int .i64 v, .int .i64 a], .int .i64 er]) (by simp [results, Tryd.results46, go_sem, c0, c1, c2, c3]) rfl ⟨rfl, (((B2.out.setCell (by simp) _).setCell (by simp) _).setCell (by simp) _).setCell (by simp) _⟩
    | false =>
      rw [hd] at D
      cases hm : markN (s[0]).toNat with
      | true =>
        rw [hm] at M
        have E := Lib.hid (one_mark s h0 hl hd hm)
        have E2 := Lib.hid (str_take s 1)
        clear LE hl hd hm H0
        rw [E.out]
        clear E
        go_enter Tryd.func46, Tryd.ntmps46
        go_wp2_with fail
        (with_reducible refine (L.out _).mono ?_)
        rintro e w' ⟨rfl, rfl⟩
        go_wp2_with fail
        (with_reducible refine (D.out _).mono ?_)
        rintro e w' ⟨rfl, rfl⟩
        go_wp2_with fail
        (with_reducible refine (M.out _).mono ?_)
        rintro e w' ⟨rfl, rfl⟩
        go_wp2
        exact bodyPost_ret (v := .tuple #[.agg #[.int .i64 3, .string (s.extract 0 1), .int .i64 0, .int .i64 0], .int .i64 0]) (by simp [results, Tryd.results46, go_sem]) rfl ⟨by rw [E2.out]; rfl, below_new _ _⟩
      | false =>
        rw [hm] at M
        have E := Lib.hid (one_none s h0 hl hd hm)
        clear LE hl hd hm H0
        rw [E.out]
        clear E
        go_enter Tryd.func46, Tryd.ntmps46
        go_wp2_with fail
        (with_reducible refine (L.out _).mono ?_)
        rintro e w' ⟨rfl, rfl⟩
        go_wp2_with fail
        (with_reducible refine (D.out _).mono ?_)
        rintro e w' ⟨rfl, rfl⟩
        go_wp2_with fail
        (with_reducible refine (M.out _).mono ?_)
        rintro e w' ⟨rfl, rfl⟩
        go_wp2
        exact bodyPost_ret (v := .tuple #[.agg #[.int .i64 0, .string ⟨#[]⟩, .int .i64 0, .int .i64 0], .int .i64 2]) (by simp [results, Tryd.results46, go_sem]) rfl ⟨rfl, below_new _ _⟩
end Go.Proofs.YtdlpolnnhhnecaaDoor

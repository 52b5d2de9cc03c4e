/- The contracts of a reader's Uint, Int, End: no claim of its own. -/
import Derived.Test.YtebfnbnaheolgaaWRead
namespace Go.Proofs.Ytebfnbnaheolgaa
open Go.RowKit
/-- What Uint reads: the value, the bytes left, the error. -/
def uintS (l : List UInt8) (most : Nat) : Nat × List UInt8 × Nat :=
  if (decGo l 0 0).2.2 ≠ 0 then (0, [], (decGo l 0 0).2.2) else if most < (decGo l 0 0).1 then (0, [], 4) else ((decGo l 0 0).1, l.drop (decGo l 0 0).2.1, 0)
theorem uintS_err {l : List UInt8} {most x n e : Nat} (h : decGo l 0 0 = (x, n, e)) (he : e ≠ 0) : uintS l most = (0, [], e) := by unfold uintS; rw [h]; exact if_pos he
theorem uintS_most {l : List UInt8} {most x n : Nat} (h : decGo l 0 0 = (x, n, 0)) (hm : most < x) : uintS l most = (0, [], 4) := by unfold uintS; rw [h]; simp [hm]
theorem uintS_ok {l : List UInt8} {most x n : Nat} (h : decGo l 0 0 = (x, n, 0)) (hm : x ≤ most) : uintS l most = (x, l.drop n, 0) := by unfold uintS; rw [h]; simp [Nat.not_lt.2 hm]
theorem uintS_dead {l : List UInt8} {most : Nat} (h : (uintS l most).2.2 ≠ 0) : (uintS l most).1 = 0 ∧ (uintS l most).2.1 = [] := by
  unfold uintS at h ⊢
  split
  · exact ⟨rfl, rfl⟩
  · rename_i h1
    rw [if_neg h1] at h
    split
    · exact ⟨rfl, rfl⟩
    · rename_i h2; rw [if_neg h2] at h; exact absurd rfl h
theorem uintS_lt (l : List UInt8) (most : Nat) : (uintS l most).1 < 18446744073709551616 := by
  have := decGo_lt l 0 0 (by decide) (by decide)
  unfold uintS
  split
  · exact Nat.zero_lt_succ _
  · split
    · exact Nat.zero_lt_succ _
    · exact this
theorem uintS_len (l : List UInt8) (most : Nat) : (uintS l most).2.1.length ≤ l.length := by
  unfold uintS
  split
  · simp
  · split <;> simp
theorem str_drop (l : List UInt8) (n : Nat) : (str l).extract n (str l).size = str (l.drop n) := bytes_ext _ _ (by
  rw [ByteArray.data_extract, Array.toList_extract, str_data, str_data, str_size]
  show (l.drop n).take (l.length - n) = _
  rw [List.take_of_length_le (by simp)])
theorem str_take (l : List UInt8) (n : Nat) : (str l).extract 0 n = str (l.take n) := bytes_ext _ _ (by
  rw [ByteArray.data_extract, Array.toList_extract, str_data, str_data]
  simp [List.extract])
set_option maxRecDepth 100000 in
theorem uintR_dead (v : Value) (e : Int) (most : Nat) (w : World) (h : Dead w v e) :
    Calls Try.prog 14 #[v, .int .u64 most] w fun en w' => en = .returned (.int .u64 0) ∧ w = w' := by
  have E := Lib.hid (err_dead v e w h)
  have n0 : (e != 0) = true := bne_iff_ne.2 h.ne
  clear h
  go_enter Try.func14, Try.ntmps14
  go_wp2_with fail
  refine E.out.mono ?_
  rintro en w' ⟨rfl, rfl⟩
  go_wp2
  go_ret
  exact ⟨rfl, rfl⟩
set_option maxRecDepth 100000 in
set_option maxHeartbeats 1000000 in
theorem uintR_any (g : Nat) (l : List UInt8) (most : Nat) (w : World) (h : RP w g l 0) (hl : l.length ≤ 1000000) :
    Calls Try.prog 14 #[.pointer (some ⟨g, 0, none⟩), .int .u64 most] w (Rd (.int .u64 (uintS l most).1) g (uintS l most).2.1 (uintS l most).2.2 w) := by
  have E := Lib.hid (err_live g l 0 w h)
  obtain ⟨h0, h1, h2, h3⟩ := h.facts
  have hz : (str l).size ≤ 1000000 := by rw [str_size]; exact hl
  have HL := Lib.hid (str_size l)
  obtain ⟨x, n, k, hd⟩ : ∃ x n k, decGo l 0 0 = (x, n, k) := ⟨_, _, _, rfl⟩
  have D0 := decode_any (str l) (by omega) w
  rw [str_data, hd] at D0
  have D : Hid (Calls Try.prog 34 #[.string (str l)] w fun e w' => e = .returned (.tuple #[.int .u64 (x : Int), .int .i64 (n : Int), .int .i64 (k : Int)]) ∧ w = w') := Lib.hid D0
  have FL := fun (k : Int) (hk : k ≠ 0) => Lib.hid (fail_live g l k w h hk)
  have H := Lib.hid h
  clear h D0
  by_cases hk : k = 0
  · subst hk
    have hnl : n ≤ l.length := by
      obtain ⟨_, _, _, _, _, h1, _⟩ := decGo_back l 0 0 x n (by decide) hd
      rwa [Nat.sub_zero] at h1
    by_cases hm : most < x
    · have F := FL 4 (by decide)
      rw [uintS_most hd hm]
      clear FL hd
      go_enter Try.func14, Try.ntmps14
      go_wp2_with fail
      refine E.out.mono ?_
      rintro en w' ⟨rfl, rfl⟩
      go_wp2_with fail
      refine D.out.mono ?_
      rintro en w' ⟨rfl, rfl⟩
      go_wp2_with fail
      refine F.out.mono ?_
      rintro en w1 ⟨rfl, hr, hg⟩
      have R := Lib.hid hr
      have G := Lib.hid hg
      clear hr hg
      go_wp2
      go_ret
      exact ⟨rfl, R.out, G.out⟩
    · rw [uintS_ok hd (by omega)]
      have T := Lib.hid (H.out.rest (str_drop l n))
      have hnz : n ≤ (str l).size := by rw [HL.out]; exact hnl
      clear FL hd
      generalize str l = s at *
      go_enter Try.func14, Try.ntmps14
      go_wp2_with fail
      refine E.out.mono ?_
      rintro en w' ⟨rfl, rfl⟩
      go_wp2_with fail
      refine D.out.mono ?_
      rintro en w' ⟨rfl, rfl⟩
      go_wp2_with fail
      go_ret
      exact ⟨rfl, T.out, grown_set _ _ _ _⟩
  · rw [uintS_err hd hk]
    have F := FL k (by omega)
    have n0 : ((k : Int) != 0) = true := bne_iff_ne.2 (by omega)
    clear FL hd hk
    go_enter Try.func14, Try.ntmps14
    go_wp2_with fail
    refine E.out.mono ?_
    rintro en w' ⟨rfl, rfl⟩
    go_wp2_with fail
    refine D.out.mono ?_
    rintro en w' ⟨rfl, rfl⟩
    go_wp2_with fail
    refine F.out.mono ?_
    rintro en w1 ⟨rfl, hr, hg⟩
    have R := Lib.hid hr
    have G := Lib.hid hg
    clear hr hg
    go_wp2
    go_ret
    exact ⟨rfl, R.out, G.out⟩
set_option maxRecDepth 100000 in
theorem intR_dead (v : Value) (e : Int) (w : World) (h : Dead w v e) :
    Calls Try.prog 15 #[v] w fun en w' => en = .returned (.int .i64 0) ∧ w = w' := by
  have E := Lib.hid (uintR_dead v e 18446744073709551615 w h)
  have U := Lib.hid (unfold_any 0 (by decide) w)
  clear h
  go_enter Try.func15, Try.ntmps15
  go_wp2_with fail
  refine E.out.mono ?_
  rintro en w' ⟨rfl, rfl⟩
  go_wp2_with fail
  refine U.out.mono ?_
  rintro en w' ⟨rfl, rfl⟩
  go_wp2
  go_ret
  exact ⟨rfl, rfl⟩
set_option maxRecDepth 100000 in
theorem intR_any (g : Nat) (l : List UInt8) (w : World) (h : RP w g l 0) (hl : l.length ≤ 1000000) :
    Calls Try.prog 15 #[.pointer (some ⟨g, 0, none⟩)] w (Rd (.int .i64 (unfoldI (uintS l 18446744073709551615).1)) g (uintS l 18446744073709551615).2.1 (uintS l 18446744073709551615).2.2 w) := by
  have E := Lib.hid (uintR_any g l 18446744073709551615 w h hl)
  have U := Lib.hid (unfold_any (uintS l 18446744073709551615).1 (uintS_lt _ _))
  clear h
  generalize uintS l 18446744073709551615 = r at *
  obtain ⟨x, l', e⟩ := r
  go_enter Try.func15, Try.ntmps15
  go_wp2_with fail
  refine E.out.mono ?_
  rintro en w1 ⟨rfl, hr, hg⟩
  have R := Lib.hid hr
  have G := Lib.hid hg
  clear hr hg
  go_wp2_with fail
  refine (U.out _).mono ?_
  rintro en w' ⟨rfl, rfl⟩
  go_wp2
  go_ret
  exact ⟨rfl, R.out, G.out⟩
set_option maxRecDepth 100000 in
theorem endR_dead (v : Value) (e : Int) (w : World) (h : Dead w v e) :
    Calls Try.prog 16 #[v] w fun en w' => en = .returned (.int .i64 e) ∧ w = w' := by
  have L := Lib.hid (left_dead v e w h)
  have E := Lib.hid (err_dead v e w h)
  clear h
  go_enter Try.func16, Try.ntmps16
  go_wp2_with fail
  refine L.out.mono ?_
  rintro en w' ⟨rfl, rfl⟩
  go_wp2_with fail
  refine E.out.mono ?_
  rintro en w' ⟨rfl, rfl⟩
  go_wp2
  go_ret
  exact ⟨rfl, rfl⟩
set_option maxRecDepth 100000 in
theorem endR_done (g : Nat) (w : World) (h : RP w g [] 0) :
    Calls Try.prog 16 #[.pointer (some ⟨g, 0, none⟩)] w fun en w' => en = .returned (.int .i64 0) ∧ w = w' := by
  have L := Lib.hid (left_live g [] 0 w h)
  have E := Lib.hid (err_live g [] 0 w h)
  clear h
  go_enter Try.func16, Try.ntmps16
  go_wp2_with fail
  refine L.out.mono ?_
  rintro en w' ⟨rfl, rfl⟩
  go_wp2_with fail
  refine E.out.mono ?_
  rintro en w' ⟨rfl, rfl⟩
  go_wp2
  go_ret
  exact ⟨rfl, rfl⟩
set_option maxRecDepth 100000 in
theorem endR_long (g : Nat) (l : List UInt8) (w : World) (h : RP w g l 0) (hl : 0 < l.length) :
    Calls Try.prog 16 #[.pointer (some ⟨g, 0, none⟩)] w (Rd (.int .i64 3) g [] 3 w) := by
  have L := Lib.hid (left_live g l 0 w h)
  have F := Lib.hid (fail_live g l 3 w h (by decide))
  have E := Lib.hid (fun w' h => err_live g [] 3 w' h)
  clear h
  generalize l.length = n at *
  go_enter Try.func16, Try.ntmps16
  go_wp2_with fail
  refine L.out.mono ?_
  rintro en w' ⟨rfl, rfl⟩
  go_wp2_with fail
  refine F.out.mono ?_
  rintro en w1 ⟨rfl, hr, hg⟩
  have R := Lib.hid hr
  have G := Lib.hid hg
  clear hr hg
  go_wp2_with fail
  refine (E.out _ R.out).mono ?_
  rintro en w' ⟨rfl, rfl⟩
  go_wp2
  go_ret
  exact ⟨rfl, R.out, G.out⟩
end Go.Proofs.Ytebfnbnaheolgaa

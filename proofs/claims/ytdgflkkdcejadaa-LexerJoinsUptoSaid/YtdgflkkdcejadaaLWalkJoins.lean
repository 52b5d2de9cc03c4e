/- The walk of LexerJoins: no claim of its own. -/
import Derived.Test.YtdgflkkdcejadaaLAwake
import Derived.Test.YtdgflkkdcejadaaLRJoin
import Derived.Test.YtdgflkkdcejadaaLOpen
namespace Go.Proofs.Ytdgflkkdcejadaa
open Go.RowKit
set_option maxRecDepth 100000 in
set_option maxHeartbeats 4000000 in
theorem joins_walk (A : Option Addr) (len cap : Nat) (ts : List Tk) (w : World) (h : ToksIn w A len cap ts) (hb0 : letters ts ≤ 2000000) :
    Calls Try.prog 5 #[.slice A len cap] w (Gives (.bool true) w) := by
  have hc := h.cap_
  unfold maxLen at hc
  have AW := Lib.hid (fun w' => awake6 w')
  by_cases h2 : 200 < len
  · clear h
    go_enter Try.func5, Try.ntmps5
    go_wp2_with fail
    refine (AW.out _).mono ?_
    rintro e w1 ⟨rfl, hb⟩
    have B1 := Lib.hid hb
    clear hb
    go_wp2
    go_ret
    exact ⟨rfl, B1.out⟩
  · obtain ⟨i0, hi, hz0, hz1, hz2⟩ := info_parts infoRTok
    have U0 := Lib.hid (h.tks (by omega))
    have HL := Lib.hid h.len_
    have JB : Hid ((joinP ts len).length ≤ 10000000) := Lib.hid (by
      have := joinP_letters ts len (by rw [h.len_]; exact Nat.le_refl _)
      rw [List.take_of_length_le (by rw [h.len_]; exact Nat.le_refl _)] at this
      omega)
    have O0 := Lib.hid (OwnT.nil 34 w w.heap.size)
    have B0 := Lib.hid (Below.refl w.heap.size w)
    clear h
    go_enter Try.func5, Try.ntmps5
    go_wp2
    go_loopw [3, 12] (fun v i wr => ∃ j : Nat, j ≤ len ∧ i = .int .i64 j ∧ Hid (OwnT 34 wr w.heap.size v (ts.take j)) ∧ Hid (Below w.heap.size w wr)) (fun _ i _ => len - (intOf i).toNat)
    case atStart => exact ⟨0, by omega, rfl, O0, B0⟩
    case round =>
      rename_i v0 _ wr
      obtain ⟨j, hj, rfl, HO, HB⟩ := hrel
      clear O0 B0
      by_cases hlt : j < len
      · obtain ⟨ad, t, rfl, e1, hbk, x0, x1, x2, x3⟩ := (U0.out.keep HB.out).at_ hlt
        have TK : Hid (ts.take (j + 1) = ts.take j ++ [t] ∧ (ts.take j).length = j) := Lib.hid (by
          obtain ⟨h1, h2⟩ := List.getElem?_eq_some_iff.1 e1
          exact ⟨by rw [List.take_succ_eq_append_getElem h1, h2], by rw [List.length_take]; omega⟩)
        obtain ⟨us, hus⟩ : ∃ us, ts.take j = us := ⟨_, rfl⟩
        rw [hus] at HO TK
        clear hus
        obtain ⟨kd, tx, vv, a⟩ := t
        simp only at x0 x1 x2 x3
        have b1 := below_new wr (.cells #[.int .i64 kd, .string (str tx), .int .i64 vv, .int .i64 a] 33)
        have b2 := b1.trans ((below_new (wr.alloc (.cells #[.int .i64 kd, .string (str tx), .int .i64 vv, .int .i64 a] 33)) (.cells #[.int .i64 kd, .string (str tx), .int .i64 vv, .int .i64 a] 34)).mono b1.size)
        have O2 := Lib.hid (HO.out.keep b2)
        have B2 := Lib.hid (HB.out.trans (b2.mono HB.out.size))
        have X2 := TB.new (wr.alloc (.cells #[.int .i64 kd, .string (str tx), .int .i64 vv, .int .i64 a] 33)) 34 (.int .i64 kd) (.string (str tx)) (.int .i64 vv) (.int .i64 a)
        rw [show (wr.alloc (.cells #[.int .i64 kd, .string (str tx), .int .i64 vv, .int .i64 a] 33)).heap.size = wr.heap.size + 1 by simp] at X2
        have HX2 := Lib.hid X2.row
        have hB1 := HB.out.size
        clear b1 b2 HO HB X2 e1
        go_wp2_with (at_builtin; refine wpList_append_own _ rfl _ _ 27 rfl w.heap.size 34 i0 (.agg #[.int .i64 0, .string ⟨#[]⟩, .int .i64 0, .int .i64 0]) 4 40 Try.underlying27 hi hz0 hz1 hz2 rfl (by decide) _ _ _ rfl O2.out ⟨wr.heap.size + 1, 0, none⟩ 1 1 (cellsT ⟨kd, tx, vv, a⟩) rfl rfl ?c1 ?c2 ?c3 ?c4 ?c5 ?_)
        case c1 => exact HX2.out
        case c2 => exact cellsT_one _
        case c3 => rw [TK.out.2]; unfold maxLen; omega
        case c4 => rw [TK.out.2]; omega
        case c5 => simp; omega
        intro v' w2 hown' hgrow _
        have R := OwnT.app O2.out B2.out B2.out.size hown' hgrow
        rw [← TK.out.1] at R
        have O3 := Lib.hid R.1
        have B3 := Lib.hid R.2
        clear R hown' hgrow HX2 O2 B2
        go_wp2
        go_roundw
        case rel => exact ⟨j + 1, by omega, by go_num, O3, B3⟩
        case measure => simp [intOf]; omega
      · have e0 : ts.take j = ts := List.take_of_length_le (by rw [HL.out]; omega)
        have O1 := HO.out
        rw [e0] at O1
        obtain ⟨A', c', hv, ht⟩ := O1.form (by rw [HL.out]; omega)
        rw [HL.out] at hv ht
        subst hv
        have V1 := Lib.hid ht
        have U1 := Lib.hid (U0.out.keep HB.out)
        have J1 := Lib.hid (join_any A len cap ts _ U1.out JB.out)
        have hq : ((str (joinP ts len)).toList == (str (joinP ts len)).toList) = true := test_yes rfl
        clear HO e0 O1 ht
        go_wp2_with fail
        refine J1.out.mono ?_
        rintro e w1 ⟨rfl, hb⟩
        have J2 := Lib.hid (rjoin_any A' len c' ts _ (V1.out.keep hb) JB.out)
        have B1 := Lib.hid (HB.out.trans (hb.mono HB.out.size))
        clear hb J1 U1 V1 HB
        go_wp2_with fail
        refine J2.out.mono ?_
        rintro e w2 ⟨rfl, hb⟩
        have B2 := Lib.hid (B1.out.trans (hb.mono B1.out.size))
        clear hb B1 J2
        go_wp2_with fail
        refine (AW.out _).mono ?_
        rintro e w3 ⟨rfl, hb⟩
        have B3 := Lib.hid (B2.out.trans (hb.mono B2.out.size))
        clear hb B2
        go_wp2
        go_ret
        exact ⟨rfl, B3.out⟩
end Go.Proofs.Ytdgflkkdcejadaa

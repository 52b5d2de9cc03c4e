/- The reference's Atoms: no claim of its own. -/
import Derived.Test.YtdopgoagadpccaaERef2
import Derived.Test.YtdopgoagadpccaaEPre
namespace Go.Proofs.Ytdopgoagadpccaa
open Go.RowKit
open ME (F Nd)
/-- The atoms among nodes in memory. -/
def pickA (l : List NT) : List NT := l.filter fun y => decide (y.o = 1)
theorem pickA_n : ∀ l : List NT, (pickA l).map NT.n = ME.atomsL (l.map NT.n)
  | [] => rfl
  | y :: r => by
    have ih := pickA_n r
    unfold pickA ME.atomsL at *
    rw [List.map_cons, List.filter_cons, List.filter_cons]
    by_cases h : y.o = 1
    · rw [if_pos (decide_eq_true h), if_pos (by first | exact decide_eq_true h | exact beq_iff_eq.2 h), List.map_cons, ih]
    · rw [if_neg (by simp [h]), if_neg (by intro q; exact h (of_decide_eq_true q)), ih]
theorem pickA_drop {L : List NT} {i : Nat} {x : NT} (h : L[i]? = some x) : pickA (L.drop i) = (if x.o = 1 then [x] else []) ++ pickA (L.drop (i + 1)) := by
  obtain ⟨hl, rfl⟩ := List.getElem?_eq_some_iff.1 h
  rw [List.drop_eq_getElem_cons hl]
  unfold pickA
  rw [List.filter_cons]
  split
  · rename_i q; rw [if_pos (of_decide_eq_true q)]; rfl
  · rename_i q; rw [if_neg (fun z => q (decide_eq_true z))]; rfl
theorem pickA_len (l : List NT) : (pickA l).length ≤ l.length := List.length_filter_le _ _
set_option maxRecDepth 100000 in
set_option maxHeartbeats 8000000 in
theorem ratoms_any (x : NT) (hx : x.size ≤ 1000000) (w : World) (ok : Nat → Prop) (hok : x.Ok w ok) : Calls Try.prog 24 #[x.val] w (GivesL ntE (pickA x.pre) w) := by
  have PL := Lib.hid (NT.pre_length x)
  have CP := Lib.hid (fun w' (hb : Below w.heap.size w w') => rpre_any 2000000 (Nat.le_refl _) x (by omega) w' _ (hok.below hb))
  obtain ⟨o, b, v, A, c, k⟩ := x
  obtain ⟨x0, x1, x2, x3, x4, x5, rfl⟩ := six hok.six
  obtain ⟨i0, hi, hz0, hz1, hz2⟩ := info_parts infoExpr
  have hn := hok.kids.few
  have HB := Lib.hid (below_new w (.cells #[.int .i64 o, .int .i64 x0, .int .i64 x1, .int .i64 x2, .int .i64 x3, .int .i64 x4, .int .i64 x5, .int .i64 v, .slice A k.len c] 26))
  have X0 : Hid (B9 (w.alloc (.cells #[.int .i64 o, .int .i64 x0, .int .i64 x1, .int .i64 x2, .int .i64 x3, .int .i64 x4, .int .i64 x5, .int .i64 v, .slice A k.len c] 26)) w.heap.size (.int .i64 o) (.int .i64 x0) (.int .i64 x1) (.int .i64 x2) (.int .i64 x3) (.int .i64 x4) (.int .i64 x5) (.int .i64 v) (.slice A k.len c)) := Lib.hid (heap_new _ _)
  rw [NT.val_lit] at CP
  rw [NT.val_lit]
  clear hok
  generalize NT.pre ⟨o, [x0, x1, x2, x3, x4, x5], v, A, c, k⟩ = L at *
  generalize NT.size ⟨o, [x0, x1, x2, x3, x4, x5], v, A, c, k⟩ = sz at *
  obtain ⟨W0, hW0⟩ : ∃ W0, W0 = w.alloc (.cells #[.int .i64 o, .int .i64 x0, .int .i64 x1, .int .i64 x2, .int .i64 x3, .int .i64 x4, .int .i64 x5, .int .i64 v, .slice A k.len c] 26) := ⟨_, rfl⟩
  rw [← hW0] at X0 HB
  obtain ⟨a0, a1, a2, a3, a4, a5, a6, a7, a8⟩ := X0.out.cells
  go_enter Try.func24, Try.ntmps24
  go_upto_region 1 with (fail)
  rw [← hW0]
  clear hW0
  go_wp2_with fail
  refine (CP.out _ HB.out).mono ?_
  rintro ev w3 ⟨Al, nl, cl, rfl, hl, hb⟩
  have B3 := Lib.hid (HB.out.trans (hb.mono HB.out.size))
  have HL := Lib.hid hl
  have hnl : nl = sz := hl.len.symm.trans PL.out
  subst hnl
  have hcl := hl.cap
  clear hb hl HB X0 CP a0 a1 a2 a3 a4 a5 a6 a7 a8
  go_wp2
  go_loopw [3, 5] (fun v i wr => ∃ (n : Nat) (L' : List NT), n ≤ nl ∧ L'.length ≤ n ∧ i = .int .i64 n ∧ Hid (OwnL ntE 26 wr w3.heap.size v L') ∧ Hid (L' ++ pickA (L.drop n) = pickA L) ∧ Hid (Below w3.heap.size w3 wr)) (fun _ i _ => nl - (intOf i).toNat)
  case atStart => exact ⟨0, [], Nat.zero_le _, Nat.zero_le _, rfl, Lib.hid (OwnL.nil _ _ _), Lib.hid rfl, Lib.hid (Below.refl _ _)⟩
  case round =>
    obtain ⟨i, L', hi', hL', rfl, HO, HJ, HQ⟩ := hrel
    by_cases hlt : i < nl
    · obtain ⟨ad, o', y0, y1, y2, y3, y4, y5, v', A', c', k', rfl, hLi, z0, z1, z2, z3, z4, z5, z6, z7, z8⟩ := nt_at (HL.out.keep HQ.out) hlt
      have hlt' : (i : Int) < (nl : Int) := by omega
      have HJ2 : Hid (L' ++ ((if o' = 1 then [⟨o', [y0, y1, y2, y3, y4, y5], v', A', c', k'⟩] else []) ++ pickA (L.drop (i + 1))) = pickA L) := Lib.hid (by rw [← HJ.out, pickA_drop hLi])
      clear hLi HJ
      by_cases h1 : o' = 1
      · subst h1
        have e1 : ((1 : Int) == 1) = true := rfl
        have HJ3 : Hid ((L' ++ [⟨1, [y0, y1, y2, y3, y4, y5], v', A', c', k'⟩]) ++ pickA (L.drop (i + 1)) = pickA L) := Lib.hid (by rw [← HJ2.out, if_pos rfl, List.append_assoc])
        have O2 := Lib.hid (HO.out.keep (below_new wr (.cells #[.int .i64 1, .int .i64 y0, .int .i64 y1, .int .i64 y2, .int .i64 y3, .int .i64 y4, .int .i64 y5, .int .i64 v', .slice A' k'.len c'] 26)))
        have B2 := Lib.hid (HQ.out.alloc HQ.out.size (.cells #[.int .i64 1, .int .i64 y0, .int .i64 y1, .int .i64 y2, .int .i64 y3, .int .i64 y4, .int .i64 y5, .int .i64 v', .slice A' k'.len c'] 26))
        have HX : Hid (∀ j u, (ntE.cells ⟨1, [y0, y1, y2, y3, y4, y5], v', A', c', k'⟩)[j]? = some u → (wr.alloc (.cells #[.int .i64 1, .int .i64 y0, .int .i64 y1, .int .i64 y2, .int .i64 y3, .int .i64 y4, .int .i64 y5, .int .i64 v', .slice A' k'.len c'] 26)).cell? ((⟨wr.heap.size, 0, none⟩ : Addr).add j) = some u) := Lib.hid (fun j u hu => by
          rw [addr_add, Nat.zero_add, cell_of_row _ _ _ _ _ _ (heap_new wr (.cells #[.int .i64 1, .int .i64 y0, .int .i64 y1, .int .i64 y2, .int .i64 y3, .int .i64 y4, .int .i64 y5, .int .i64 v', .slice A' k'.len c'] 26))]
          have : ntE.cells ⟨1, [y0, y1, y2, y3, y4, y5], v', A', c', k'⟩ = #[.int .i64 1, .int .i64 y0, .int .i64 y1, .int .i64 y2, .int .i64 y3, .int .i64 y4, .int .i64 y5, .int .i64 v', .slice A' k'.len c'].toList := rfl
          rw [this] at hu
          simpa using hu)
        have hsz := HQ.out.size
        clear HJ2 HO HQ
        go_wp2_with (at_builtin; refine wpList_append_own _ rfl _ _ 24 rfl w3.heap.size 26 i0 (.agg #[.int .i64 0, .int .i64 0, .int .i64 0, .int .i64 0, .int .i64 0, .int .i64 0, .int .i64 0, .int .i64 0, .slice none 0 0]) 9 88 Try.underlying24 hi hz0 hz1 hz2 rfl (by decide) _ _ _ rfl O2.out.1 ⟨wr.heap.size, 0, none⟩ 1 1 (ntE.cells ⟨1, [y0, y1, y2, y3, y4, y5], v', A', c', k'⟩) rfl rfl ?c1 ?c2 ?c3 ?c4 ?c5 ?_)
        case c1 => exact HX.out
        case c2 => exact ntE.one _
        case c3 => unfold maxLen; omega
        case c4 => omega
        case c5 => simp; omega
        intro v'' w4 hown' hgrow _
        have R := OwnL.app (x := ⟨1, [y0, y1, y2, y3, y4, y5], v', A', c', k'⟩) O2.out (show _ = 6 from rfl) B2.out (by simp; omega) hown' hgrow
        have O3 := Lib.hid R.1
        have B4 := Lib.hid R.2
        clear R hown' hgrow O2 B2 HX z0 z1 z2 z3 z4 z5 z6 z7 z8
        go_wp2
        go_roundw
        case rel => exact ⟨i + 1, _, by omega, by rw [List.length_append, List.length_singleton]; omega, by go_num, O3, HJ3, B4⟩
        case measure => simp [intOf]; omega
      · have e1 : (o' == 1) = false := beq_eq_false_iff_ne.2 h1
        have HJ3 : Hid (L' ++ pickA (L.drop (i + 1)) = pickA L) := Lib.hid (by rw [← HJ2.out, if_neg h1, List.nil_append])
        clear HJ2
        go_wp2
        go_roundw
        case rel => exact ⟨i + 1, L', by omega, by omega, by go_num, HO, HJ3, HQ⟩
        case measure => simp [intOf]; omega
    · have hlt' : ¬ (i : Int) < (nl : Int) := by omega
      have HE : Hid (L' = pickA L) := Lib.hid (by rw [← HJ.out, List.drop_of_length_le (by rw [PL.out]; omega)]; show _ = _ ++ []; rw [List.append_nil])
      obtain ⟨Ar, cr, rfl, hl⟩ := HO.out.form (by omega)
      have HRES : Hid (GivesL ntE (pickA L) w (.returned (.slice Ar L'.length cr)) wr) := Lib.hid (by rw [← HE.out]; exact ⟨_, _, _, rfl, hl, B3.out.trans (HQ.out.mono B3.out.size)⟩)
      clear hl HO HJ HE HQ
      go_wp2
      go_ret
      exact HRES.out
end Go.Proofs.Ytdopgoagadpccaa

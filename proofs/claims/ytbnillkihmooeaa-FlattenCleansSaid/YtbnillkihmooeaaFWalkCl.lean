/- The law FlattenCleans. No claim of its own. -/
import Derived.Test.YtbnillkihmooeaaJFG
import Derived.Test.YtbnillkihmooeaaFRClean
import Derived.Test.YtbnillkihmooeaaMathFD
namespace Go.Proofs.Ytbnillkihmooeaa
open Go.RowKit
attribute [local go_sem] Oper.semAt_some
set_option maxRecDepth 100000 in
set_option maxHeartbeats 8000000 in
theorem flattenCleans_walk (A : Option Addr) (n c : Nat) (l : List MF.Of) (z : Int) (q0 q1 q2 q3 q4 q5 : Int) (w : World) (hl : LstIn ofE w A n c l) : Calls Try.prog 8 #[.slice A n c, .int .i64 z, .agg #[.int .i64 q0, .int .i64 q1, .int .i64 q2, .int .i64 q3, .int .i64 q4, .int .i64 q5]] w (Gives (.bool true) w) := by
  have hb0 := below_new w (.cells #[.int .i64 q0, .int .i64 q1, .int .i64 q2, .int .i64 q3, .int .i64 q4, .int .i64 q5] 23)
  have B0 := Lib.hid hb0
  have S0 := Lib.hid (BB.new w 23 q0 q1 q2 q3 q4 q5)
  have L0 := Lib.hid (hl.lst.keep hb0)
  have HLN := Lib.hid hl.lst.len
  clear hb0 hl
  obtain ⟨i1, hi1, hy0, hy1, hy2⟩ := info_parts infoOff
  have hmo : Try.prog.follows .mixedOrders = true := by kernel_rfl
  go_enter Try.func8, Try.ntmps8
  go_upto_region 1 with (fail)
  generalize w.alloc (.cells #[.int .i64 q0, .int .i64 q1, .int .i64 q2, .int .i64 q3, .int .i64 q4, .int .i64 q5] 23) = w1 at *
  by_cases h60 : 60 < n
  · have d1 : decide ((60 : Int) < n) = true := decide_eq_true (by omega)
    go_wp2_with fail
    refine (awake14_any _).mono ?_
    rintro ev w9 ⟨rfl, nb⟩
    have B9_ := Lib.hid (B0.out.trans (nb.mono B0.out.size))
    clear nb
    go_wp2
    go_ret
    exact ⟨rfl, B9_.out⟩
  · have d1 : decide ((60 : Int) < n) = false := decide_eq_false (by omega)
    have hn60 : n ≤ 60 := by omega
    go_wp2_with fail
    refine (fclean_any A n c l (by omega) _ L0.out).mono ?_
    rintro ev w2 ⟨A3, n3, c3, rfl, hl3, nb⟩
    have B2 := Lib.hid (B0.out.trans (nb.mono B0.out.size))
    have S2 := Lib.hid (S0.out.keep nb S0.out.lt)
    have L2 := Lib.hid (L0.out.keep nb)
    have C2 := Lib.hid hl3
    have hn3 : n3 ≤ 60 := by
      have h1 := hl3.len
      have h2 := cleanL_le l l.length
      rw [List.take_length, HLN.out, h1] at h2
      omega
    clear nb hl3 B0 S0 L0
    go_wp2_with fail
    go_loopw [8, 22] (fun v i wr => ∃ k : Nat, k ≤ n ∧ i = .int .i64 k ∧ OwnL ofE 52 wr w2.heap.size v (MF.ofBid z (l.take k)) ∧ Below w2.heap.size w2 wr) (fun _ i _ => n - (intOf i).toNat)
    case atStart => exact ⟨0, Nat.zero_le _, rfl, OwnL.nil _ _ _, Below.refl _ _⟩
    case round =>
      obtain ⟨k, hk, rfl, hown, hbw⟩ := hrel
      have O0 := Lib.hid hown
      have W0 := Lib.hid hbw
      clear hown hbw
      have hlen := MF.ofBid_len z l k
      by_cases hlt : k < n
      · obtain ⟨ad, x, had, hrow, hfx, hadl, e0, e1, e2, e3, e4, e5, e6, e7⟩ := of_at (L2.out.keep W0.out) hlt
        subst had
        have HFX := Lib.hid hfx
        have HY := Lib.hid (fun h => MF.ofBid_yes (z := z) hrow h)
        have HN := Lib.hid (fun h => MF.ofBid_no (z := z) hrow h)
        obtain ⟨xi, x0, x1, x2, x3, x4, x5, xv⟩ := x
        dsimp only at e0 e1 e2 e3 e4 e5 e6 e7 HY HN
        clear hrow hfx
        go_upto_region 8 with (fail)
        have nb := below_new wr (.cells #[.int .i64 xi, .int .i64 x0, .int .i64 x1, .int .i64 x2, .int .i64 x3, .int .i64 x4, .int .i64 x5, .int .i64 xv] 52)
        have hh := heap_new wr (.cells #[.int .i64 xi, .int .i64 x0, .int .i64 x1, .int .i64 x2, .int .i64 x3, .int .i64 x4, .int .i64 x5, .int .i64 xv] 52)
        have qq0 := (cell_of_row _ _ 0 _ _ _ hh).trans rfl
        have qq1 := (cell_of_row _ _ 1 _ _ _ hh).trans rfl
        have qq2 := (cell_of_row _ _ 2 _ _ _ hh).trans rfl
        have qq3 := (cell_of_row _ _ 3 _ _ _ hh).trans rfl
        have qq4 := (cell_of_row _ _ 4 _ _ _ hh).trans rfl
        have qq5 := (cell_of_row _ _ 5 _ _ _ hh).trans rfl
        have qq6 := (cell_of_row _ _ 6 _ _ _ hh).trans rfl
        have qq7 := (cell_of_row _ _ 7 _ _ _ hh).trans rfl
        have O1 := Lib.hid (O0.out.keep nb)
        have W1 := Lib.hid (W0.out.trans (nb.mono W0.out.size))
        have hB1 : wr.heap.size < (wr.alloc (.cells #[.int .i64 xi, .int .i64 x0, .int .i64 x1, .int .i64 x2, .int .i64 x3, .int .i64 x4, .int .i64 x5, .int .i64 xv] 52)).heap.size := by simp
        clear nb hh e0 e1 e2 e3 e4 e5 e6 e7 hadl O0 W0
        generalize wr.alloc (.cells #[.int .i64 xi, .int .i64 x0, .int .i64 x1, .int .i64 x2, .int .i64 x3, .int .i64 x4, .int .i64 x5, .int .i64 xv] 52) = wa at *
        generalize wr.heap.size = Bx at *
        by_cases hz : xi = z
        · have dz : (xi == z) = true := beq_iff_eq.2 hz
          have HE := Lib.hid (HY.out hz)
          clear HY HN hz
          generalize MF.ofBid z (l.take k) = Os at *
          have hX := heap_new wa (.cells #[.int .i64 xi, .int .i64 x0, .int .i64 x1, .int .i64 x2, .int .i64 x3, .int .i64 x4, .int .i64 x5, .int .i64 xv] 52)
          have O3 := Lib.hid (O1.out.keep (below_new wa (.cells #[.int .i64 xi, .int .i64 x0, .int .i64 x1, .int .i64 x2, .int .i64 x3, .int .i64 x4, .int .i64 x5, .int .i64 xv] 52)))
          have W3 := Lib.hid (W1.out.trans ((below_new wa (.cells #[.int .i64 xi, .int .i64 x0, .int .i64 x1, .int .i64 x2, .int .i64 x3, .int .i64 x4, .int .i64 x5, .int .i64 xv] 52)).mono W1.out.size))
          have hs3 : w2.heap.size ≤ (wa.alloc (.cells #[.int .i64 xi, .int .i64 x0, .int .i64 x1, .int .i64 x2, .int .i64 x3, .int .i64 x4, .int .i64 x5, .int .i64 xv] 52)).heap.size := W3.out.size
          go_wp2_with (at_builtin; refine wpList_append_own _ rfl _ _ 29 rfl w2.heap.size 52 i1 (.agg #[.int .i64 0, .int .i64 0, .int .i64 0, .int .i64 0, .int .i64 0, .int .i64 0, .int .i64 0, .int .i64 0]) 8 64 Try.underlying29 hi1 hy0 hy1 hy2 rfl (by decide) _ _ _ rfl O3.out.1 ⟨wa.heap.size, 0, none⟩ 1 1 [.int .i64 xi, .int .i64 x0, .int .i64 x1, .int .i64 x2, .int .i64 x3, .int .i64 x4, .int .i64 x5, .int .i64 xv] rfl rfl ?c1 ?c2 ?c3 ?c4 ?c5 ?_)
          case c1 => exact World.news_of_block hX
          case c2 => exact ofE.one ⟨xi, x0, x1, x2, x3, x4, x5, xv⟩
          case c3 => unfold maxLen; omega
          case c4 => omega
          case c5 => exact hs3
          intro v' w4 hown' hgrow _
          have RR := O3.out.app (x := ⟨xi, x0, x1, x2, x3, x4, x5, xv⟩) HFX.out W3.out W3.out.size (by exact hown') hgrow
          have O4 := Lib.hid RR.1
          have W4 := Lib.hid RR.2
          clear RR hown' hgrow O3 W3 hX qq0 qq1 qq2 qq3 qq4 qq5 qq6 qq7 O1 W1
          rw [← HE.out] at O4
          go_wp2
          go_roundw
          case rel => exact ⟨k + 1, by omega, by go_num, O4.out, W4.out⟩
          case measure => simp [intOf]; omega
        · have dz : (xi == z) = false := beq_eq_false_iff_ne.2 hz
          have HE := Lib.hid (HN.out hz)
          clear HY HN hz
          rw [← HE.out] at O1
          go_wp2
          go_roundw
          case rel => exact ⟨k + 1, by omega, by go_num, O1.out, W1.out⟩
          case measure => simp [intOf]; omega
      · have hkn : l.take k = l := by rw [show k = n by omega, ← HLN.out, List.take_length]
        rw [hkn] at O0 hlen
        obtain ⟨A8, c8, hv8, hl8, _⟩ := O0.out.form2 (by omega)
        have B3 := Lib.hid (B2.out.trans (W0.out.mono B2.out.size))
        have S3 := Lib.hid (show BB wr w.heap.size 23 [q0, q1, q2, q3, q4, q5] from ⟨(W0.out.block _ S2.out.lt).trans S2.out.1, S2.out.2⟩)
        have L3 := Lib.hid (L2.out.keep W0.out)
        have C3 := Lib.hid (C2.out.keep W0.out)
        generalize hn8 : (MF.ofBid z l).length = n8 at *
        have K3 := Lib.hid hl8
        clear hl8 hkn O0 W0 hlen hn8 B2 S2 L2 C2
        subst hv8
        obtain ⟨w3, rfl⟩ : ∃ w3, w3 = wr := ⟨_, rfl⟩
        go_wp2_with fail
        go_loopw [9, 37] (fun v i wr => ∃ k : Nat, k ≤ n3 ∧ i = .int .i64 k ∧ OwnL ofE 52 wr w3.heap.size v (MF.ofBid z ((MF.cleanL l).take k)) ∧ Below w3.heap.size w3 wr) (fun _ i _ => n3 - (intOf i).toNat)
        case atStart => exact ⟨0, Nat.zero_le _, rfl, OwnL.nil _ _ _, Below.refl _ _⟩
        case round =>
          obtain ⟨k, hk, rfl, hown, hbw⟩ := hrel
          have O0 := Lib.hid hown
          have W0 := Lib.hid hbw
          clear hown hbw
          have hlen := MF.ofBid_len z (MF.cleanL l) k
          by_cases hlt : k < n3
          · obtain ⟨ad, x, had, hrow, hfx, hadl, e0, e1, e2, e3, e4, e5, e6, e7⟩ := of_at (C3.out.keep W0.out) hlt
            subst had
            have HFX := Lib.hid hfx
            have HY := Lib.hid (fun h => MF.ofBid_yes (z := z) hrow h)
            have HN := Lib.hid (fun h => MF.ofBid_no (z := z) hrow h)
            obtain ⟨xi, x0, x1, x2, x3, x4, x5, xv⟩ := x
            dsimp only at e0 e1 e2 e3 e4 e5 e6 e7 HY HN
            clear hrow hfx
            go_upto_region 14 with (fail)
            have nb := below_new wr (.cells #[.int .i64 xi, .int .i64 x0, .int .i64 x1, .int .i64 x2, .int .i64 x3, .int .i64 x4, .int .i64 x5, .int .i64 xv] 52)
            have hh := heap_new wr (.cells #[.int .i64 xi, .int .i64 x0, .int .i64 x1, .int .i64 x2, .int .i64 x3, .int .i64 x4, .int .i64 x5, .int .i64 xv] 52)
            have qq0 := (cell_of_row _ _ 0 _ _ _ hh).trans rfl
            have qq1 := (cell_of_row _ _ 1 _ _ _ hh).trans rfl
            have qq2 := (cell_of_row _ _ 2 _ _ _ hh).trans rfl
            have qq3 := (cell_of_row _ _ 3 _ _ _ hh).trans rfl
            have qq4 := (cell_of_row _ _ 4 _ _ _ hh).trans rfl
            have qq5 := (cell_of_row _ _ 5 _ _ _ hh).trans rfl
            have qq6 := (cell_of_row _ _ 6 _ _ _ hh).trans rfl
            have qq7 := (cell_of_row _ _ 7 _ _ _ hh).trans rfl
            have O1 := Lib.hid (O0.out.keep nb)
            have W1 := Lib.hid (W0.out.trans (nb.mono W0.out.size))
            have hB1 : wr.heap.size < (wr.alloc (.cells #[.int .i64 xi, .int .i64 x0, .int .i64 x1, .int .i64 x2, .int .i64 x3, .int .i64 x4, .int .i64 x5, .int .i64 xv] 52)).heap.size := by simp
            clear nb hh e0 e1 e2 e3 e4 e5 e6 e7 hadl O0 W0
            generalize wr.alloc (.cells #[.int .i64 xi, .int .i64 x0, .int .i64 x1, .int .i64 x2, .int .i64 x3, .int .i64 x4, .int .i64 x5, .int .i64 xv] 52) = wa at *
            generalize wr.heap.size = Bx at *
            by_cases hz : xi = z
            · have dz : (xi == z) = true := beq_iff_eq.2 hz
              have HE := Lib.hid (HY.out hz)
              clear HY HN hz
              generalize MF.ofBid z ((MF.cleanL l).take k) = Os at *
              have hX := heap_new wa (.cells #[.int .i64 xi, .int .i64 x0, .int .i64 x1, .int .i64 x2, .int .i64 x3, .int .i64 x4, .int .i64 x5, .int .i64 xv] 52)
              have O3 := Lib.hid (O1.out.keep (below_new wa (.cells #[.int .i64 xi, .int .i64 x0, .int .i64 x1, .int .i64 x2, .int .i64 x3, .int .i64 x4, .int .i64 x5, .int .i64 xv] 52)))
              have W3 := Lib.hid (W1.out.trans ((below_new wa (.cells #[.int .i64 xi, .int .i64 x0, .int .i64 x1, .int .i64 x2, .int .i64 x3, .int .i64 x4, .int .i64 x5, .int .i64 xv] 52)).mono W1.out.size))
              have hs3 : w3.heap.size ≤ (wa.alloc (.cells #[.int .i64 xi, .int .i64 x0, .int .i64 x1, .int .i64 x2, .int .i64 x3, .int .i64 x4, .int .i64 x5, .int .i64 xv] 52)).heap.size := W3.out.size
              go_wp2_with (at_builtin; refine wpList_append_own _ rfl _ _ 29 rfl w3.heap.size 52 i1 (.agg #[.int .i64 0, .int .i64 0, .int .i64 0, .int .i64 0, .int .i64 0, .int .i64 0, .int .i64 0, .int .i64 0]) 8 64 Try.underlying29 hi1 hy0 hy1 hy2 rfl (by decide) _ _ _ rfl O3.out.1 ⟨wa.heap.size, 0, none⟩ 1 1 [.int .i64 xi, .int .i64 x0, .int .i64 x1, .int .i64 x2, .int .i64 x3, .int .i64 x4, .int .i64 x5, .int .i64 xv] rfl rfl ?c1 ?c2 ?c3 ?c4 ?c5 ?_)
              case c1 => exact World.news_of_block hX
              case c2 => exact ofE.one ⟨xi, x0, x1, x2, x3, x4, x5, xv⟩
              case c3 => unfold maxLen; omega
              case c4 => omega
              case c5 => exact hs3
              intro v' w4 hown' hgrow _
              have RR := O3.out.app (x := ⟨xi, x0, x1, x2, x3, x4, x5, xv⟩) HFX.out W3.out W3.out.size (by exact hown') hgrow
              have O4 := Lib.hid RR.1
              have W4 := Lib.hid RR.2
              clear RR hown' hgrow O3 W3 hX qq0 qq1 qq2 qq3 qq4 qq5 qq6 qq7 O1 W1
              rw [← HE.out] at O4
              go_wp2
              go_roundw
              case rel => exact ⟨k + 1, by omega, by go_num, O4.out, W4.out⟩
              case measure => simp [intOf]; omega
            · have dz : (xi == z) = false := beq_eq_false_iff_ne.2 hz
              have HE := Lib.hid (HN.out hz)
              clear HY HN hz
              rw [← HE.out] at O1
              go_wp2
              go_roundw
              case rel => exact ⟨k + 1, by omega, by go_num, O1.out, W1.out⟩
              case measure => simp [intOf]; omega
          · have hkn2 : (MF.cleanL l).take k = MF.cleanL l := by rw [show k = n3 by omega, ← C3.out.len, List.take_length]
            rw [hkn2] at O0 hlen
            obtain ⟨A9, c9, hv9, hl9, _⟩ := O0.out.form2 (by omega)
            have HB := Lib.hid ((B3.out.trans (W0.out.mono B3.out.size)).trans ((below_drawn wr).mono (B3.out.trans (W0.out.mono B3.out.size)).size))
            have HS := Lib.hid ((show BB wr w.heap.size 23 [q0, q1, q2, q3, q4, q5] from ⟨(W0.out.block _ S3.out.lt).trans S3.out.1, S3.out.2⟩).keep (below_drawn wr) (Nat.lt_of_lt_of_le S3.out.lt W0.out.size))
            have HL := Lib.hid ((L3.out.keep W0.out).keep (below_drawn wr))
            have HC := Lib.hid ((C3.out.keep W0.out).keep (below_drawn wr))
            have HAl := Lib.hid ((K3.out.keep W0.out).keep (below_drawn wr))
            generalize hn9 : (MF.ofBid z (MF.cleanL l)).length = n9 at *
            have HSo := Lib.hid (hl9.keep (below_drawn wr))
            clear hl9 hkn2 O0 W0 hlen hn9 B3 S3 L3 C3 K3
            subst hv9
            go_wp2_with fail
            refine wp_region_held_drew (S := fun w' => BB w' w.heap.size 23 [q0, q1, q2, q3, q4, q5]) hmo HS.out (fun hHeld => ?_)
            generalize wr.drew = Y at *
            refine wpAnyH_take (i := 0) (oi := { dst := some 50, op := Op.move (Operand.tmp 7), type := 29, pos := "law.go:108", after := #[], guard := none }) (v := ?_) rfl (by kernel_rfl) (by kernel_rfl) (by kernel_rfl) (fun _ _ _ h => h) (Or.inl ⟨by rfl, ?_⟩) (by assumption) ?_
            rotate_left
            · intro w hSw; (try dsimp only at hSw); go_simp; try with_reducible rfl
            (try simp only [Act.put, List.setIfInBounds_toArray, List.set_cons_zero, List.set_cons_succ])
            refine wpAnyH_take (i := 1) (oi := { dst := some 51, op := Op.move (Operand.tmp 0), type := 29, pos := "law.go:108", after := #[], guard := none }) (v := ?_) rfl (by kernel_rfl) (by kernel_rfl) (by kernel_rfl) (fun _ _ _ h => h) (Or.inl ⟨by rfl, ?_⟩) (by assumption) ?_
            rotate_left
            · intro w hSw; (try dsimp only at hSw); go_simp; try with_reducible rfl
            (try simp only [Act.put, List.setIfInBounds_toArray, List.set_cons_zero, List.set_cons_succ])
            refine wpAnyH_ready (rs := [2]) (by kernel_rfl) (by simp) ?_
            refine AllReadyH.cons (o := { dst := some 52, op := Op.call { callee := Callee.value (Operand.func 34), args := #[Operand.tmp 51], argTypes := #[29] }, type := 29, pos := "law.go:108", after := #[{ on := 1, ground := Ground.data }], guard := none }) rfl (fun K hK => ?_) AllReadyH.nil
            go_simp
            refine (rclean_any A n c l (by omega) Y HL.out).mono ?_
            rintro ev v1 ⟨A5, n5, c5, rfl, hl5, nb⟩
            replace HS := Lib.hid (HS.out.keep nb HS.out.lt)
            replace HB := Lib.hid (HB.out.trans (nb.mono HB.out.size))
            replace HL := Lib.hid (HL.out.keep nb)
            replace HC := Lib.hid (HC.out.keep nb)
            replace HSo := Lib.hid (HSo.out.keep nb)
            replace HAl := Lib.hid (HAl.out.keep nb)
            have HRc := Lib.hid hl5
            clear hl5
            clear nb
            refine hK.out _ _ ?_ (fun hHeld => ?_)
            · exact HS.out
            clear hK K
            (try simp only [Act.put, List.setIfInBounds_toArray, List.set_cons_zero, List.set_cons_succ])
            refine wpAnyH_ready (rs := [3]) (by kernel_rfl) (by simp) ?_
            refine AllReadyH.cons (o := { dst := some 53, op := Op.call { callee := Callee.value (Operand.func 19), args := #[Operand.tmp 50, Operand.tmp 52], argTypes := #[29, 29] }, type := 4, pos := "law.go:108", after := #[{ on := 0, ground := Ground.data }, { on := 2, ground := Ground.data }, { on := 2, ground := Ground.chain }], guard := none }) rfl (fun K hK => ?_) AllReadyH.nil
            go_simp
            refine (rsame14_any A3 A5 n3 c3 n5 c5 (MF.cleanL l) v1 HC.out HRc.out).mono ?_
            rintro ev v2 ⟨rfl, nb⟩
            replace HS := Lib.hid (HS.out.keep nb HS.out.lt)
            replace HB := Lib.hid (HB.out.trans (nb.mono HB.out.size))
            replace HL := Lib.hid (HL.out.keep nb)
            replace HC := Lib.hid (HC.out.keep nb)
            replace HSo := Lib.hid (HSo.out.keep nb)
            replace HAl := Lib.hid (HAl.out.keep nb)
            replace HRc := Lib.hid (HRc.out.keep nb)
            clear nb
            refine hK.out _ _ ?_ (fun hHeld => ?_)
            · exact HS.out
            clear hK K
            (try simp only [Act.put, List.setIfInBounds_toArray, List.set_cons_zero, List.set_cons_succ])
            refine wpAnyH_take (i := 4) (oi := { dst := some 54, op := Op.move (Operand.tmp 53), type := 4, pos := "law.go:108", after := #[{ on := 3, ground := Ground.data }, { on := 3, ground := Ground.chain }], guard := none }) (v := ?_) rfl (by kernel_rfl) (by kernel_rfl) (by kernel_rfl) (fun _ _ _ h => h) (Or.inl ⟨by rfl, ?_⟩) (by assumption) ?_
            rotate_left
            · intro w hSw; (try dsimp only at hSw); go_simp; try with_reducible rfl
            (try simp only [Act.put, List.setIfInBounds_toArray, List.set_cons_zero, List.set_cons_succ])
            refine wpAnyH_take (i := 5) (oi := { dst := some 55, op := Op.move (Operand.tmp 7), type := 29, pos := "law.go:108", after := #[{ on := 4, ground := Ground.guard }], guard := some (4, true) }) (v := ?_) rfl (by kernel_rfl) (by kernel_rfl) (by kernel_rfl) (fun _ _ _ h => h) (Or.inl ⟨by rfl, ?_⟩) (by assumption) ?_
            rotate_left
            · intro w hSw; (try dsimp only at hSw); go_simp; try with_reducible rfl
            (try simp only [Act.put, List.setIfInBounds_toArray, List.set_cons_zero, List.set_cons_succ])
            refine wpAnyH_take (i := 7) (oi := { dst := some 57, op := Op.move (Operand.tmp 7), type := 29, pos := "law.go:108", after := #[{ on := 4, ground := Ground.guard }], guard := some (4, true) }) (v := ?_) rfl (by kernel_rfl) (by kernel_rfl) (by kernel_rfl) (fun _ _ _ h => h) (Or.inl ⟨by rfl, ?_⟩) (by assumption) ?_
            rotate_left
            · intro w hSw; (try dsimp only at hSw); go_simp; try with_reducible rfl
            (try simp only [Act.put, List.setIfInBounds_toArray, List.set_cons_zero, List.set_cons_succ])
            refine wpAnyH_ready (rs := [6]) (by kernel_rfl) (by simp) ?_
            refine AllReadyH.cons (o := { dst := some 56, op := Op.call { callee := Callee.value (Operand.func 33), args := #[Operand.tmp 55], argTypes := #[29] }, type := 29, pos := "law.go:108", after := #[{ on := 5, ground := Ground.data }, { on := 4, ground := Ground.chain }, { on := 4, ground := Ground.guard }], guard := some (4, true) }) rfl (fun K hK => ?_) AllReadyH.nil
            go_simp
            have HV := fclean_any A3 n3 c3 (MF.cleanL l) (by omega) v2 HC.out
            rw [MF.clean_twice] at HV
            refine HV.mono ?_
            rintro ev v3 ⟨A6, n6, c6, rfl, hl6, nb⟩
            replace HS := Lib.hid (HS.out.keep nb HS.out.lt)
            replace HB := Lib.hid (HB.out.trans (nb.mono HB.out.size))
            replace HL := Lib.hid (HL.out.keep nb)
            replace HC := Lib.hid (HC.out.keep nb)
            replace HSo := Lib.hid (HSo.out.keep nb)
            replace HAl := Lib.hid (HAl.out.keep nb)
            replace HRc := Lib.hid (HRc.out.keep nb)
            have HCc := Lib.hid hl6
            clear hl6 HV
            clear nb
            refine hK.out _ _ ?_ (fun hHeld => ?_)
            · exact HS.out
            clear hK K
            (try simp only [Act.put, List.setIfInBounds_toArray, List.set_cons_zero, List.set_cons_succ])
            refine wpAnyH_ready (rs := [8]) (by kernel_rfl) (by simp) ?_
            refine AllReadyH.cons (o := { dst := some 58, op := Op.call { callee := Callee.value (Operand.func 19), args := #[Operand.tmp 56, Operand.tmp 57], argTypes := #[29, 29] }, type := 4, pos := "law.go:108", after := #[{ on := 6, ground := Ground.data }, { on := 7, ground := Ground.data }, { on := 6, ground := Ground.chain }, { on := 4, ground := Ground.guard }], guard := some (4, true) }) rfl (fun K hK => ?_) AllReadyH.nil
            go_simp
            refine (rsame14_any A6 A3 n6 c6 n3 c3 (MF.cleanL l) v3 HCc.out HC.out).mono ?_
            rintro ev v4 ⟨rfl, nb⟩
            replace HS := Lib.hid (HS.out.keep nb HS.out.lt)
            replace HB := Lib.hid (HB.out.trans (nb.mono HB.out.size))
            replace HL := Lib.hid (HL.out.keep nb)
            replace HC := Lib.hid (HC.out.keep nb)
            replace HSo := Lib.hid (HSo.out.keep nb)
            replace HAl := Lib.hid (HAl.out.keep nb)
            replace HRc := Lib.hid (HRc.out.keep nb)
            replace HCc := Lib.hid (HCc.out.keep nb)
            clear nb
            refine hK.out _ _ ?_ (fun hHeld => ?_)
            · exact HS.out
            clear hK K
            (try simp only [Act.put, List.setIfInBounds_toArray, List.set_cons_zero, List.set_cons_succ])
            refine wpAnyH_take (i := 9) (oi := { dst := some 59, op := Op.pick (Operand.tmp 54) (Operand.tmp 58) (Operand.const (Value.bool false)), type := 4, pos := "law.go:108", after := #[{ on := 4, ground := Ground.data }, { on := 8, ground := Ground.data }], guard := none }) (v := ?_) rfl (by kernel_rfl) (by kernel_rfl) (by kernel_rfl) (fun _ _ _ h => h) (Or.inl ⟨by rfl, ?_⟩) (by assumption) ?_
            rotate_left
            · intro w hSw; (try dsimp only at hSw); go_simp; try with_reducible rfl
            (try simp only [Act.put, List.setIfInBounds_toArray, List.set_cons_zero, List.set_cons_succ])
            refine wpAnyH_take (i := 10) (oi := { dst := some 60, op := Op.move (Operand.tmp 59), type := 4, pos := "law.go:108", after := #[{ on := 9, ground := Ground.data }, { on := 8, ground := Ground.chain }], guard := none }) (v := ?_) rfl (by kernel_rfl) (by kernel_rfl) (by kernel_rfl) (fun _ _ _ h => h) (Or.inl ⟨by rfl, ?_⟩) (by assumption) ?_
            rotate_left
            · intro w hSw; (try dsimp only at hSw); go_simp; try with_reducible rfl
            (try simp only [Act.put, List.setIfInBounds_toArray, List.set_cons_zero, List.set_cons_succ])
            refine wpAnyH_take (i := 11) (oi := { dst := some 61, op := Op.move (Operand.tmp 9), type := 29, pos := "law.go:108", after := #[{ on := 10, ground := Ground.guard }], guard := some (10, true) }) (v := ?_) rfl (by kernel_rfl) (by kernel_rfl) (by kernel_rfl) (fun _ _ _ h => h) (Or.inl ⟨by rfl, ?_⟩) (by assumption) ?_
            rotate_left
            · intro w hSw; (try dsimp only at hSw); go_simp; try with_reducible rfl
            (try simp only [Act.put, List.setIfInBounds_toArray, List.set_cons_zero, List.set_cons_succ])
            refine wpAnyH_take (i := 12) (oi := { dst := some 62, op := Op.load 23 (Operand.tmp 5), type := 23, pos := "law.go:108", after := #[{ on := 10, ground := Ground.guard }], guard := some (10, true) }) (v := ?_) rfl (by kernel_rfl) (by kernel_rfl) (by kernel_rfl) (fun _ _ _ h => h) (Or.inl ⟨by rfl, ?_⟩) (by assumption) ?_
            rotate_left
            · intro w hSw; (try dsimp only at hSw); obtain ⟨r0, r1, r2, r3, r4, r5⟩ := cells6 hSw; go_simp; try with_reducible rfl
            (try simp only [Act.put, List.setIfInBounds_toArray, List.set_cons_zero, List.set_cons_succ])
            refine wpAnyH_take (i := 14) (oi := { dst := some 64, op := Op.move (Operand.tmp 8), type := 29, pos := "law.go:108", after := #[{ on := 10, ground := Ground.guard }], guard := some (10, true) }) (v := ?_) rfl (by kernel_rfl) (by kernel_rfl) (by kernel_rfl) (fun _ _ _ h => h) (Or.inl ⟨by rfl, ?_⟩) (by assumption) ?_
            rotate_left
            · intro w hSw; (try dsimp only at hSw); go_simp; try with_reducible rfl
            (try simp only [Act.put, List.setIfInBounds_toArray, List.set_cons_zero, List.set_cons_succ])
            refine wpAnyH_take (i := 15) (oi := { dst := some 65, op := Op.load 23 (Operand.tmp 5), type := 23, pos := "law.go:108", after := #[{ on := 10, ground := Ground.guard }], guard := some (10, true) }) (v := ?_) rfl (by kernel_rfl) (by kernel_rfl) (by kernel_rfl) (fun _ _ _ h => h) (Or.inl ⟨by rfl, ?_⟩) (by assumption) ?_
            rotate_left
            · intro w hSw; (try dsimp only at hSw); obtain ⟨r0, r1, r2, r3, r4, r5⟩ := cells6 hSw; go_simp; try with_reducible rfl
            (try simp only [Act.put, List.setIfInBounds_toArray, List.set_cons_zero, List.set_cons_succ])
            refine wpAnyH_ready (rs := [13]) (by kernel_rfl) (by simp) ?_
            refine AllReadyH.cons (o := { dst := some 63, op := Op.call { callee := Callee.value (Operand.func 25), args := #[Operand.tmp 61, Operand.tmp 62], argTypes := #[29, 23] }, type := 2, pos := "law.go:108", after := #[{ on := 11, ground := Ground.data }, { on := 12, ground := Ground.data }, { on := 10, ground := Ground.chain }, { on := 10, ground := Ground.guard }], guard := some (10, true) }) rfl (fun K hK => ?_) AllReadyH.nil
            go_simp
            have HV := fval_any (MF.ofBid z (MF.cleanL l)) A9 n9 c9 q0 q1 q2 q3 q4 q5 v4 HSo.out
            rw [MF.clean_worth] at HV
            refine HV.mono ?_
            rintro ev v5 ⟨rfl, nb⟩
            replace HS := Lib.hid (HS.out.keep nb HS.out.lt)
            replace HB := Lib.hid (HB.out.trans (nb.mono HB.out.size))
            replace HL := Lib.hid (HL.out.keep nb)
            replace HC := Lib.hid (HC.out.keep nb)
            replace HSo := Lib.hid (HSo.out.keep nb)
            replace HAl := Lib.hid (HAl.out.keep nb)
            replace HRc := Lib.hid (HRc.out.keep nb)
            replace HCc := Lib.hid (HCc.out.keep nb)
            clear HV
            clear nb
            refine hK.out _ _ ?_ (fun hHeld => ?_)
            · exact HS.out
            clear hK K
            (try simp only [Act.put, List.setIfInBounds_toArray, List.set_cons_zero, List.set_cons_succ])
            refine wpAnyH_ready (rs := [16]) (by kernel_rfl) (by simp) ?_
            refine AllReadyH.cons (o := { dst := some 66, op := Op.call { callee := Callee.value (Operand.func 25), args := #[Operand.tmp 64, Operand.tmp 65], argTypes := #[29, 23] }, type := 2, pos := "law.go:108", after := #[{ on := 14, ground := Ground.data }, { on := 15, ground := Ground.data }, { on := 13, ground := Ground.chain }, { on := 10, ground := Ground.guard }], guard := some (10, true) }) rfl (fun K hK => ?_) AllReadyH.nil
            go_simp
            refine (fval_any (MF.ofBid z l) A8 n8 c8 q0 q1 q2 q3 q4 q5 v5 HAl.out).mono ?_
            rintro ev v6 ⟨rfl, nb⟩
            replace HS := Lib.hid (HS.out.keep nb HS.out.lt)
            replace HB := Lib.hid (HB.out.trans (nb.mono HB.out.size))
            replace HL := Lib.hid (HL.out.keep nb)
            replace HC := Lib.hid (HC.out.keep nb)
            replace HSo := Lib.hid (HSo.out.keep nb)
            replace HAl := Lib.hid (HAl.out.keep nb)
            replace HRc := Lib.hid (HRc.out.keep nb)
            replace HCc := Lib.hid (HCc.out.keep nb)
            clear nb
            refine hK.out _ _ ?_ (fun hHeld => ?_)
            · exact HS.out
            clear hK K
            (try simp only [Act.put, List.setIfInBounds_toArray, List.set_cons_zero, List.set_cons_succ])
            refine wpAnyH_take (i := 17) (oi := { dst := some 67, op := Op.binOp BinOp.eql 2 (Operand.tmp 63) (Operand.tmp 66) 2, type := 4, pos := "law.go:108", after := #[{ on := 13, ground := Ground.data }, { on := 16, ground := Ground.data }, { on := 10, ground := Ground.guard }], guard := some (10, true) }) (v := ?_) rfl (by kernel_rfl) (by kernel_rfl) (by kernel_rfl) (fun _ _ _ h => h) (Or.inl ⟨by rfl, ?_⟩) (by assumption) ?_
            rotate_left
            · intro w hSw; (try dsimp only at hSw); go_simp; try with_reducible rfl
            (try simp only [Act.put, List.setIfInBounds_toArray, List.set_cons_zero, List.set_cons_succ])
            refine wpAnyH_take (i := 18) (oi := { dst := some 68, op := Op.pick (Operand.tmp 60) (Operand.tmp 67) (Operand.const (Value.bool false)), type := 4, pos := "law.go:108", after := #[{ on := 10, ground := Ground.data }, { on := 17, ground := Ground.data }], guard := none }) (v := ?_) rfl (by kernel_rfl) (by kernel_rfl) (by kernel_rfl) (fun _ _ _ h => h) (Or.inl ⟨by rfl, ?_⟩) (by assumption) ?_
            rotate_left
            · intro w hSw; (try dsimp only at hSw); go_simp; try with_reducible rfl
            (try simp only [Act.put, List.setIfInBounds_toArray, List.set_cons_zero, List.set_cons_succ])
            refine wpAnyH_take (i := 19) (oi := { dst := some 69, op := Op.move (Operand.tmp 68), type := 4, pos := "law.go:108", after := #[{ on := 18, ground := Ground.data }, { on := 16, ground := Ground.chain }], guard := none }) (v := ?_) rfl (by kernel_rfl) (by kernel_rfl) (by kernel_rfl) (fun _ _ _ h => h) (Or.inl ⟨by rfl, ?_⟩) (by assumption) ?_
            rotate_left
            · intro w hSw; (try dsimp only at hSw); go_simp; try with_reducible rfl
            (try simp only [Act.put, List.setIfInBounds_toArray, List.set_cons_zero, List.set_cons_succ])
            refine wpAnyH_ready (rs := [20]) (by kernel_rfl) (by simp) ?_
            refine AllReadyH.cons (o := { dst := some 70, op := Op.call { callee := Callee.value (Operand.func 16), args := #[], argTypes := #[] }, type := 4, pos := "law.go:108", after := #[{ on := 19, ground := Ground.chain }, { on := 19, ground := Ground.guard }], guard := some (19, true) }) rfl (fun K hK => ?_) AllReadyH.nil
            go_simp
            refine (awake14_any v6).mono ?_
            rintro ev v7 ⟨rfl, nb⟩
            replace HS := Lib.hid (HS.out.keep nb HS.out.lt)
            replace HB := Lib.hid (HB.out.trans (nb.mono HB.out.size))
            replace HL := Lib.hid (HL.out.keep nb)
            replace HC := Lib.hid (HC.out.keep nb)
            replace HSo := Lib.hid (HSo.out.keep nb)
            replace HAl := Lib.hid (HAl.out.keep nb)
            replace HRc := Lib.hid (HRc.out.keep nb)
            replace HCc := Lib.hid (HCc.out.keep nb)
            clear nb
            refine hK.out _ _ ?_ (fun hHeld => ?_)
            · exact HS.out
            clear hK K
            (try simp only [Act.put, List.setIfInBounds_toArray, List.set_cons_zero, List.set_cons_succ])
            refine wpAnyH_take (i := 21) (oi := { dst := some 71, op := Op.pick (Operand.tmp 69) (Operand.tmp 70) (Operand.const (Value.bool false)), type := 4, pos := "law.go:108", after := #[{ on := 19, ground := Ground.data }, { on := 20, ground := Ground.data }], guard := none }) (v := ?_) rfl (by kernel_rfl) (by kernel_rfl) (by kernel_rfl) (fun _ _ _ h => h) (Or.inl ⟨by rfl, ?_⟩) (by assumption) ?_
            rotate_left
            · intro w hSw; (try dsimp only at hSw); go_simp; try with_reducible rfl
            (try simp only [Act.put, List.setIfInBounds_toArray, List.set_cons_zero, List.set_cons_succ])
            refine wpAnyH_take (i := 22) (oi := { dst := some 6, op := Op.assign (Operand.tmp 71), type := 4, pos := "law.go:108", after := #[{ on := 21, ground := Ground.data }, { on := 20, ground := Ground.chain }, { on := 0, ground := Ground.phase }, { on := 1, ground := Ground.phase }, { on := 2, ground := Ground.phase }, { on := 3, ground := Ground.phase }, { on := 4, ground := Ground.phase }, { on := 5, ground := Ground.phase }, { on := 6, ground := Ground.phase }, { on := 7, ground := Ground.phase }, { on := 8, ground := Ground.phase }, { on := 9, ground := Ground.phase }, { on := 10, ground := Ground.phase }, { on := 11, ground := Ground.phase }, { on := 12, ground := Ground.phase }, { on := 13, ground := Ground.phase }, { on := 14, ground := Ground.phase }, { on := 15, ground := Ground.phase }, { on := 16, ground := Ground.phase }, { on := 17, ground := Ground.phase }, { on := 18, ground := Ground.phase }, { on := 19, ground := Ground.phase }, { on := 20, ground := Ground.phase }, { on := 21, ground := Ground.phase }], guard := none }) (v := ?_) rfl (by kernel_rfl) (by kernel_rfl) (by kernel_rfl) (fun _ _ _ h => h) (Or.inl ⟨by rfl, ?_⟩) (by assumption) ?_
            rotate_left
            · intro w hSw; (try dsimp only at hSw); go_simp; try with_reducible rfl
            (try simp only [Act.put, List.setIfInBounds_toArray, List.set_cons_zero, List.set_cons_succ])
            refine wpAnyH_done (by kernel_rfl) ?_ _
            clear hHeld
            go_wp2
            go_ret
            exact ⟨rfl, HB.out⟩
end Go.Proofs.Ytbnillkihmooeaa

/- The iterators of Sets and of elements: no claim of its own. -/
import Derived.Test.YtooeafpcbejpdaaGIter
import Derived.Test.YtooeafpcbejpdaaRBits
import Derived.Test.YtooeafpcbejpdaaMathR4
namespace Go.Proofs.Ytooeafpcbejpdaa
open Go.RowKit
attribute [local go_sem] Oper.semAt_some
theorem round_any {m m' l : Nat} {fn : FuncId} {tmps : Array Value} {assign body : Code} {w : World} {R : Ending → World → Prop} (h : RoundIn Fence.wide m Try.prog l fn tmps assign body w R) : RoundIn Fence.wide m' Try.prog l fn tmps assign body w R := ⟨h.1, fun c cs _ => h.2 c cs (room_wide _)⟩
/-- What an iterator leaves. -/
def RI {α : Type} (J Jx : Nat → List α → World → Prop) (xs : List α) (b : Nat) (v : Ending) (Y : World) : Prop := (∃ u, v = .returned u) ∧ ∃ e, b ≤ e ∧ e ≤ Y.heap.size ∧ (J e xs Y ∨ ∃ pre, pre <+: xs ∧ Jx e pre Y)
def encI (x : Int) : Array Value := #[.int .i64 x]
theorem sets_any (n : Int) (w : World) : Calls Try.prog 25 #[.int .i64 n] w fun v w' => v = .returned (.func (.func 32) #[] #[.pointer (some ⟨w.heap.size, 0, none⟩)]) ∧ w' = w.alloc (.cells #[.int .i64 n] 3) := by
  have hmf : ∀ (fn : Fn) (first cap : Array Value) (w : World), (Instr.makeFunc fn first cap).run Try.prog w = .ok (.func fn first cap) w := fun _ _ _ _ => rfl
  go_enter Try.func25, Try.ntmps25
  go_wp2
  go_ret
  exact ⟨rfl, rfl⟩
theorem elements_any (n : Int) (w : World) : Calls Try.prog 31 #[.int .i64 n] w fun v w' => v = .returned (.func (.func 36) #[] #[.pointer (some ⟨w.heap.size, 0, none⟩)]) ∧ w' = w.alloc (.cells #[.int .i64 n] 3) := by
  have hmf : ∀ (fn : Fn) (first cap : Array Value) (w : World), (Instr.makeFunc fn first cap).run Try.prog w = .ok (.func fn first cap) w := fun _ _ _ _ => rfl
  go_enter Try.func31, Try.ntmps31
  go_wp2
  go_ret
  exact ⟨rfl, rfl⟩
theorem shl_bit {N : Nat} (h : N ≤ 8) : wrap64 ((2 : Int) ^ N) = ((2 ^ N : Nat) : Int) := by
  have : N = 0 ∨ N = 1 ∨ N = 2 ∨ N = 3 ∨ N = 4 ∨ N = 5 ∨ N = 6 ∨ N = 7 ∨ N = 8 := by omega
  rcases this with rfl | rfl | rfl | rfl | rfl | rfl | rfl | rfl | rfl <;> decide +kernel
set_option maxRecDepth 100000 in
set_option maxHeartbeats 4000000 in
theorem sets_iter_out (n : Int) (hn : ¬ (0 ≤ n ∧ n ≤ 8)) (Bn : Nat) (w : World) (hbox : Boxed w Bn 3 (.int .i64 n)) :
    Iter 32 #[.pointer (some ⟨Bn, 0, none⟩)] encI (MR.setsL n) Bn w := by
  intro l W J Jx hW hJ hJx hY h0
  show CallsIn Fence.wide 5 Try.prog 32 #[.func (.yield l) #[] #[], .pointer (some ⟨Bn, 0, none⟩)] W (RI J Jx (MR.setsL n) W.heap.size)
  have H0 := Lib.hid (h0 W.heap.size W (Nat.le_refl _) (Nat.le_refl _) (Below.refl _ _))
  have HBn := Lib.hid ((hW.block _ hbox.lt).trans hbox)
  have HX := Lib.hid (MR.setsL_out hn)
  clear hJ hJx hY h0 hbox hW
  rw [HX.out]
  have hb := (show Boxed W Bn 3 (.int .i64 n) from HBn.out).cell
  have fin : RI J Jx [] W.heap.size (.returned (.tuple #[])) W := ⟨⟨_, rfl⟩, W.heap.size, Nat.le_refl _, Nat.le_refl _, .inl H0.out⟩
  refine callsIn_of_wp Try.func32 rfl trivial ?_ rfl
  simp only [Try.ntmps32, List.size_toArray, List.length_cons, List.length_nil, Nat.reduceAdd, Nat.reduceSub, Array.replicate_succ, Array.replicate_zero, List.push_toArray, List.append_toArray, List.nil_append, List.cons_append]
  by_cases h1 : n < 0
  · have d1 : decide (n < 0) = true := decide_eq_true h1
    gi_wp2
    go_end0
    exact ⟨⟨_, rfl⟩, W.heap.size, Nat.le_refl _, Nat.le_refl _, .inl H0.out⟩
  · have d1 : decide (n < 0) = false := decide_eq_false h1
    have d2 : decide (8 < n) = true := decide_eq_true (by omega)
    gi_wp2
    go_end0
    exact ⟨⟨_, rfl⟩, W.heap.size, Nat.le_refl _, Nat.le_refl _, .inl H0.out⟩
set_option maxRecDepth 100000 in
set_option maxHeartbeats 4000000 in
theorem sets_iter_in (N : Nat) (hn : N ≤ 8) (Bn : Nat) (w : World) (hbox : Boxed w Bn 3 (.int .i64 (N : Int))) :
    Iter 32 #[.pointer (some ⟨Bn, 0, none⟩)] encI (MR.setsP (2 ^ N)) Bn w := by
  intro l W J Jx hW hJ hJx hY h0
  show CallsIn Fence.wide 5 Try.prog 32 #[.func (.yield l) #[] #[], .pointer (some ⟨Bn, 0, none⟩)] W (RI J Jx (MR.setsP (2 ^ N)) W.heap.size)
  have HY := Lib.hid hY
  have H0 := Lib.hid (h0 W.heap.size W (Nat.le_refl _) (Nat.le_refl _) (Below.refl _ _))
  have HBn := Lib.hid ((hW.block _ hbox.lt).trans hbox)
  have hs := shl_bit hn
  have hM : (2 ^ N : Nat) ≤ 256 := by
    calc 2 ^ N ≤ 2 ^ 8 := Nat.pow_le_pow_right (by decide) hn
      _ = 256 := by decide
  clear hJ hJx hY h0 hbox hW
  have hb := (show Boxed W Bn 3 (.int .i64 (N : Int)) from HBn.out).cell
  generalize (2 ^ N : Nat) = M at *
  have d1 : decide ((N : Int) < 0) = false := decide_eq_false (by omega)
  have d2 : decide (8 < (N : Int)) = false := decide_eq_false (by omega)
  refine callsIn_of_wp Try.func32 rfl trivial ?_ rfl
  simp only [Try.ntmps32, List.size_toArray, List.length_cons, List.length_nil, Nat.reduceAdd, Nat.reduceSub, Array.replicate_succ, Array.replicate_zero, List.push_toArray, List.append_toArray, List.nil_append, List.cons_append]
  gi_wp2
  rw [hs]
  gi_loopw [12] (fun i wr => ∃ k : Nat, k ≤ M ∧ i = .int .i64 k ∧ J W.heap.size (MR.setsP k) wr ∧ W.heap.size ≤ wr.heap.size) (fun i _ => M - (intOf i).toNat)
  case atStart => exact ⟨0, Nat.zero_le _, rfl, H0.out, Nat.le_refl _⟩
  case round =>
    obtain ⟨k, hk, rfl, hj, hsz⟩ := hrel
    by_cases hlt : k < M
    · obtain ⟨fn, tmps, assign, body, hy, hRd⟩ := HY.out W.heap.size (MR.setsP k) (k : Int) wr (Nat.le_refl _) hsz hj (by rw [MR.setsP_succ]; exact MR.setsP_pre hlt)
      have HRd := Lib.hid hRd
      clear hRd
      unfold encI at hy
      gi_wp2
      refine (round_any HRd.out).mono ?_
      rintro ev W3 (⟨rfl, hJ3, hk3⟩ | ⟨rfl, hJx3, hk3⟩)
      · rw [MR.setsP_succ] at hJ3
        have hsz3 := hk3.size
        have HJ3 := Lib.hid hJ3
        clear hJ3 hk3 hy
        gi_wp2
        go_roundw
        case rel => exact ⟨k + 1, by omega, by go_num, HJ3.out, by omega⟩
        case measure => simp [intOf]; omega
      · have hsz3 := hk3.size
        have HJ3 := Lib.hid hJx3
        clear hJx3 hk3 hy
        gi_wp2
        go_end0
        exact ⟨⟨_, rfl⟩, W.heap.size, Nat.le_refl _, by omega, .inr ⟨_, by rw [MR.setsP_succ]; exact MR.setsP_pre hlt, HJ3.out⟩⟩
    · obtain rfl : k = M := by omega
      have HJ3 := Lib.hid hj
      clear hj
      gi_wp2
      go_end0
      exact ⟨⟨_, rfl⟩, W.heap.size, Nat.le_refl _, hsz, .inl HJ3.out⟩
theorem sets_iter (n : Int) (Bn : Nat) (w : World) (hbox : Boxed w Bn 3 (.int .i64 n)) :
    Iter 32 #[.pointer (some ⟨Bn, 0, none⟩)] encI (MR.setsL n) Bn w := by
  by_cases h : 0 ≤ n ∧ n ≤ 8
  · obtain ⟨N, rfl⟩ := Int.eq_ofNat_of_zero_le h.1
    have hN : N ≤ 8 := by omega
    have e := MR.setsL_in hN
    rw [e]
    exact sets_iter_in N hN Bn w hbox
  · exact sets_iter_out n h Bn w hbox
set_option maxRecDepth 100000 in
set_option maxHeartbeats 4000000 in
theorem elements_iter (m : Int) (Bn : Nat) (w : World) (hbox : Boxed w Bn 3 (.int .i64 m)) :
    Iter 36 #[.pointer (some ⟨Bn, 0, none⟩)] encI (MR.elemsK m 8) Bn w := by
  intro l W J Jx hW hJ hJx hY h0
  show CallsIn Fence.wide 5 Try.prog 36 #[.func (.yield l) #[] #[], .pointer (some ⟨Bn, 0, none⟩)] W (RI J Jx (MR.elemsK m 8) W.heap.size)
  have HY := Lib.hid hY
  have H0 := Lib.hid (h0 W.heap.size W (Nat.le_refl _) (Nat.le_refl _) (Below.refl _ _))
  have HBn := Lib.hid ((hW.block _ hbox.lt).trans hbox)
  have HH := Lib.hid (fun i (hi : i < 8) w' => p_has_any m i hi w')
  clear hJ hJx hY h0 hbox hW
  refine callsIn_of_wp Try.func36 rfl trivial ?_ rfl
  simp only [Try.ntmps36, List.size_toArray, List.length_cons, List.length_nil, Nat.reduceAdd, Nat.reduceSub, Array.replicate_succ, Array.replicate_zero, List.push_toArray, List.append_toArray, List.nil_append, List.cons_append]
  gi_wp2
  gi_loopw [4] (fun i wr => ∃ k : Nat, k ≤ 8 ∧ i = .int .i64 k ∧ J W.heap.size (MR.elemsK m k) wr ∧ W.heap.size ≤ wr.heap.size ∧ Boxed wr Bn 3 (.int .i64 m)) (fun i _ => 8 - (intOf i).toNat)
  case atStart => exact ⟨0, Nat.zero_le _, rfl, H0.out, Nat.le_refl _, HBn.out⟩
  case round =>
    obtain ⟨k, hk, rfl, hj, hsz, hbx⟩ := hrel
    by_cases hlt : k < 8
    · have hb := hbx.cell
      have HHk := Lib.hid (fun w' => HH.out k hlt w')
      cases hh : MR.has m k with
      | true =>
        obtain ⟨fn, tmps, assign, body, hy, hRd⟩ := HY.out W.heap.size (MR.elemsK m k) (k : Int) wr (Nat.le_refl _) hsz hj (by rw [MR.elemsK_yes hh]; exact MR.elemsK_pre m hlt)
        have HRd := Lib.hid hRd
        have HX := Lib.hid hbx
        have HHH := Lib.hid hh
        rw [hh] at HHk
        clear hRd hbx hh
        unfold encI at hy
        gi_wp2_with fail
        refine ⟨trivial, (callsIn_wide.2 (HHk.out _)).mono ?_⟩
        rintro ev1 W1 ⟨rfl, rfl⟩
        gi_wp2
        refine (round_any HRd.out).mono ?_
        rintro ev W3 (⟨rfl, hJ3, hk3⟩ | ⟨rfl, hJx3, hk3⟩)
        · rw [MR.elemsK_yes HHH.out] at hJ3
          have hsz3 := hk3.size
          have HJ3 := Lib.hid hJ3
          have HX3 := Lib.hid (hk3.one.trans HX.out)
          clear hJ3 hk3 hy
          gi_wp2
          go_roundw
          case rel => exact ⟨k + 1, by omega, by go_num, HJ3.out, by omega, HX3.out⟩
          case measure => simp [intOf]; omega
        · have hsz3 := hk3.size
          have HJ3 := Lib.hid hJx3
          clear hJx3 hk3 hy
          gi_wp2
          go_end0
          exact ⟨⟨_, rfl⟩, W.heap.size, Nat.le_refl _, by omega, .inr ⟨_, by rw [MR.elemsK_yes HHH.out]; exact MR.elemsK_pre m hlt, HJ3.out⟩⟩
      | false =>
        rw [← MR.elemsK_no hh] at hj
        rw [hh] at HHk
        have HJ3 := Lib.hid hj
        have HX := Lib.hid hbx
        clear hj hbx hh
        gi_wp2_with fail
        refine ⟨trivial, (callsIn_wide.2 (HHk.out _)).mono ?_⟩
        rintro ev1 W1 ⟨rfl, rfl⟩
        gi_wp2
        refine ⟨(fun f h => by cases h), ?_⟩
        gi_wp2
        go_roundw
        case rel => exact ⟨k + 1, by omega, by go_num, HJ3.out, hsz, HX.out⟩
        case measure => simp [intOf]; omega
    · obtain rfl : k = 8 := by omega
      have HJ3 := Lib.hid hj
      clear hj hbx
      gi_wp2
      go_end0
      exact ⟨⟨_, rfl⟩, W.heap.size, Nat.le_refl _, hsz, .inl HJ3.out⟩
end Go.Proofs.Ytooeafpcbejpdaa

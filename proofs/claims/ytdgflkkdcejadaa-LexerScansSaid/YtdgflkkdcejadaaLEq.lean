/- Tokens compared: no claim of its own. -/
import Derived.Test.YtdgflkkdcejadaaLBase
import Derived.DeepKeys
namespace Go.Proofs.Ytdgflkkdcejadaa
open Go.RowKit
theorem lit_int (d : Nat) (z : Int) (h : Lit.wf (.int .i64 z) = true) : Try.prog.keyLits (d + 1) 3 [.int .i64 z] = some [.int .i64 z] := by
  unfold Program.keyLits
  simp only [Try.underlying3]
  simp [h]
theorem lit_i64 (d : Nat) (z : Int) (h : Lit.wf (.int .i64 z) = true) : Try.prog.keyLits (d + 1) 2 [.int .i64 z] = some [.int .i64 z] := by
  unfold Program.keyLits
  simp only [Try.underlying2]
  simp [h]
theorem lit_str (d : Nat) (s : ByteArray) (hs : s.size ≤ maxLen) : Try.prog.keyLits (d + 1) 9 [.string s] = some [.string s.data.toList] := by
  unfold Program.keyLits
  simp only [Try.underlying9]
  exact if_pos hs
/-- What a token must be for a comparison. -/
structure Fine (t : Tk) : Prop where
  k0 : -9223372036854775808 ≤ t.kind
  k1 : t.kind ≤ 9223372036854775807
  v0 : -9223372036854775808 ≤ t.value
  v1 : t.value ≤ 9223372036854775807
  a0 : -9223372036854775808 ≤ t.at_
  a1 : t.at_ ≤ 9223372036854775807
  txt : t.text.length ≤ maxLen
theorem tok_lits (t : Tk) (h : Fine t) : Try.prog.keyLits 10 33 (cellsT t) = some [.int .i64 t.kind, .string t.text, .int .i64 t.value, .int .i64 t.at_] := by
  have c0 : Try.prog.cellsOf 33 = 4 := by kernel_rfl
  have c1 : Try.prog.cellsOf 3 = 1 := by kernel_rfl
  have c2 : Try.prog.cellsOf 9 = 1 := by kernel_rfl
  have c3 : Try.prog.cellsOf 2 = 1 := by kernel_rfl
  have l1 := lit_int 8 t.kind (WalkArith.wf_i64 ⟨h.k0, h.k1⟩)
  have l2 := lit_str 8 (str t.text) (by rw [str_size]; exact h.txt)
  have l3 := lit_i64 8 t.value (WalkArith.wf_i64 ⟨h.v0, h.v1⟩)
  have l4 := lit_int 8 t.at_ (WalkArith.wf_i64 ⟨h.a0, h.a1⟩)
  rw [str_data] at l2
  unfold Program.keyLits
  simp only [Try.underlying33]
  rw [if_pos ⟨c0.symm ▸ rfl, by kernel_rfl⟩]
  simp only [cellsT, List.mapM_cons, List.mapM_nil, List.drop_zero, List.drop_succ_cons, c1, c2, c3, List.take_succ_cons, List.take_zero, l1, l2, l3, l4]
  rfl
theorem eq_run (t u : Tk) (ht : Fine t) (hu : Fine u) (w : World) :
    ∃ r : Bool, (Op.equal 33 (aggT t) (aggT u)).run Try.prog w = .ok r w ∧ (r = true ↔ t = u) := by
  obtain ⟨r, hr, hiff⟩ := run_equalIn_deep (P := Try.prog) 9998 2 33 (by kernel_rfl) w 10 10 (aggT t) (aggT u) _ _ (by kernel_rfl) (by kernel_rfl) (tok_lits t ht) (tok_lits u hu)
  refine ⟨r, hr, ?_⟩
  rw [hiff]
  obtain ⟨a, b, c, d⟩ := t
  obtain ⟨a', b', c', d'⟩ := u
  constructor
  · intro h
    injection h with h1 h
    injection h with h2 h
    injection h with h3 h
    injection h with h4 _
    injection h1 with _ h1
    injection h2 with h2
    injection h3 with _ h3
    injection h4 with _ h4
    exact (Tk.mk.injEq ..).mpr ⟨h1, h2, h3, h4⟩
  · intro h
    obtain ⟨rfl, rfl, rfl, rfl⟩ := (Tk.mk.injEq ..).mp h
    rfl
theorem tok_neq_same (t : Tk) (ht : Fine t) (w : World) : (binOp .neq 33 (aggT t) (aggT t)).run Try.prog w = .ok (.bool false) w := by
  obtain ⟨r, hr, hiff⟩ := eq_run t t ht ht w
  have : r = true := hiff.2 rfl
  subst this
  unfold aggT at hr ⊢
  unfold binOp
  simp only [Sem.run_bind, hr, Result.andThen_ok]
  rfl
theorem tok_eql_same (t : Tk) (ht : Fine t) (w : World) : (binOp .eql 33 (aggT t) (aggT t)).run Try.prog w = .ok (.bool true) w := by
  obtain ⟨r, hr, hiff⟩ := eq_run t t ht ht w
  have : r = true := hiff.2 rfl
  subst this
  unfold aggT at hr ⊢
  unfold binOp
  simp only [Sem.run_bind, hr, Result.andThen_ok]
  rfl
/-- Every token is fine. -/
def AllFine (ts : List Tk) : Prop := ∀ t ∈ ts, Fine t

set_option maxRecDepth 100000 in
set_option maxHeartbeats 2000000 in
theorem equal_yes (A B : Option Addr) (n c m d : Nat) (ts : List Tk) (w : World) (h : Tks w A n c ts) (h' : Tks w B m d ts) (hf : AllFine ts) :
    Calls Try.prog 34 #[.slice A n c, .slice B m d] w (Gives (.bool true) w) := by
  obtain rfl : n = m := h.len.symm.trans h'.len
  have hr := h.few
  have hc := h.cap
  have hd := h'.cap
  have H := Lib.hid h
  have H' := Lib.hid h'
  have HF := Lib.hid hf
  clear h h' hf
  go_enter Try.func34, Try.ntmps34
  go_wp2
  go_loopw [13] (fun i wr => ∃ k q : Nat, k ≤ n ∧ i = .int .i64 k ∧ wr = w.drewN q) (fun i _ => n - (intOf i).toNat)
  case atStart => exact ⟨0, 0, by omega, rfl, rfl⟩
  case round =>
    obtain ⟨k, q, hk, rfl, rfl⟩ := hrel
    by_cases hlt : k < n
    · obtain ⟨ad, t, rfl, e1, hb, x0, x1, x2, x3⟩ := H.out.at_ hlt
      obtain ⟨ad', t', rfl, e2, hb', y0, y1, y2, y3⟩ := H'.out.at_ hlt
      obtain rfl : t = t' := by rw [e1] at e2; injection e2
      have NE := tok_neq_same t (HF.out t (List.mem_of_getElem? e1))
      unfold aggT at NE
      clear e1 e2 hb hb'
      obtain ⟨kd, tx, vv, a⟩ := t
      simp only at x0 x1 x2 x3 y0 y1 y2 y3 NE
      go_wp2
      go_quiet (fail)
      go_wp2
      go_roundw
      case rel => exact ⟨k + 1, _, by omega, by go_num, rfl⟩
      case measure => simp [intOf]; omega
    · go_wp2
      go_ret
      exact ⟨rfl, by first | exact (Below.refl _ _) | exact below_drewN (Below.refl _ _) _⟩
set_option maxRecDepth 100000 in
set_option maxHeartbeats 2000000 in
theorem like_yes (A B : Option Addr) (n c m d : Nat) (ts : List Tk) (w : World) (h : Tks w A n c ts) (h' : Tks w B m d ts) (hf : AllFine ts) :
    Calls Try.prog 11 #[.slice A n c, .slice B m d] w (Gives (.bool true) w) := by
  obtain rfl : n = m := h.len.symm.trans h'.len
  have hr := h.few
  have hc := h.cap
  have hd := h'.cap
  have H := Lib.hid h
  have H' := Lib.hid h'
  have HF := Lib.hid hf
  clear h h' hf
  go_enter Try.func11, Try.ntmps11
  go_wp2
  go_loopw [13] (fun i wr => ∃ k q : Nat, k ≤ n ∧ i = .int .i64 k ∧ wr = w.drewN q) (fun i _ => n - (intOf i).toNat)
  case atStart => exact ⟨0, 0, by omega, rfl, rfl⟩
  case round =>
    obtain ⟨k, q, hk, rfl, rfl⟩ := hrel
    by_cases hlt : k < n
    · obtain ⟨ad, t, rfl, e1, hb, x0, x1, x2, x3⟩ := H.out.at_ hlt
      obtain ⟨ad', t', rfl, e2, hb', y0, y1, y2, y3⟩ := H'.out.at_ hlt
      obtain rfl : t = t' := by rw [e1] at e2; injection e2
      have NE := tok_neq_same t (HF.out t (List.mem_of_getElem? e1))
      unfold aggT at NE
      clear e1 e2 hb hb'
      obtain ⟨kd, tx, vv, a⟩ := t
      simp only at x0 x1 x2 x3 y0 y1 y2 y3 NE
      go_wp2
      go_quiet (fail)
      go_wp2
      go_roundw
      case rel => exact ⟨k + 1, _, by omega, by go_num, rfl⟩
      case measure => simp [intOf]; omega
    · go_wp2
      go_ret
      exact ⟨rfl, by first | exact (Below.refl _ _) | exact below_drewN (Below.refl _ _) _⟩
end Go.Proofs.Ytdgflkkdcejadaa

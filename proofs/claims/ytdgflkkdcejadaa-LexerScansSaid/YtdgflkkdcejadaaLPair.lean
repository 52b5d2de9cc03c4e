/- Both scanners, call by call: no claim of its own. -/
import Derived.Test.YtdgflkkdcejadaaLRMeth
import Derived.Test.YtdgflkkdcejadaaLEq
namespace Go.Proofs.Ytdgflkkdcejadaa
open Go.RowKit
theorem fine_zero : Fine .zero := ⟨by decide, by decide, by decide, by decide, by decide, by decide, by decide⟩
theorem AllFine.nil : AllFine [] := fun _ h => by cases h
theorem AllFine.tail {t : Tk} {r : List Tk} (h : AllFine (t :: r)) : AllFine r := fun u hu => h u (List.mem_cons_of_mem _ hu)
theorem AllFine.head {t : Tk} {r : List Tk} (h : AllFine (t :: r)) : Fine t := h t List.mem_cons_self
/-- What a call of the two scanners must answer alike: v, and behind it the tokens ts' and the error e'. -/
def Both (fp fr : FuncId) (mk : Value → Array Value) (ts : List Tk) (e : Int) (v : Value) (ts' : List Tk) (e' : Int) : Prop :=
  (∀ bad w g, SP bad w g ts e → Calls Try.prog fp (mk (.pointer (some ⟨g, 0, none⟩))) w (Did (fun w' => SP bad w' g ts' e') g v w)) ∧
  (∀ bad w g, SR bad w g ts e → Calls Try.prog fr (mk (.pointer (some ⟨g, 0, none⟩))) w (Did (fun w' => SR bad w' g ts' e') g v w))
theorem SR.dead {bad : Nat → Prop} {w : World} {g : Nat} {e : Int} (h : SR bad w g [] e) : ∃ A n c L, SB 41 bad w g A n c L e ∧ (e ≠ 0 ∨ L = []) := by
  obtain ⟨A, n, c, L, h1, h2, _⟩ := h
  by_cases he : e = 0
  · exact ⟨A, n, c, L, h1, .inr (h2 he)⟩
  · exact ⟨A, n, c, L, h1, .inl he⟩
theorem SR.live {bad : Nat → Prop} {w : World} {g : Nat} {ts : List Tk} (h : SR bad w g ts 0) : ∃ A n c, SB 41 bad w g A n c ts 0 := by
  obtain ⟨A, n, c, L, h1, h2, _⟩ := h
  exact ⟨A, n, c, h2 rfl ▸ h1⟩
theorem SP.at_ {bad : Nat → Prop} {w : World} {g : Nat} {ts : List Tk} {e : Int} (h : SP bad w g ts e) : ∃ A n c, SB 73 bad w g A n c ts e := by obtain ⟨A, n, c, h1, _⟩ := h; exact ⟨A, n, c, h1⟩
theorem did_gives {S : World → Prop} {g : Nat} {v : Value} {w w' : World} {e : Ending} (h : Gives v w e w') (hS : S w') : Did S g v w e w' := ⟨h.1, hS, grown_of_below h.2 _⟩
theorem did_quiet {S : World → Prop} {g : Nat} {v : Value} {w w' : World} {e : Ending} (h : e = .returned v ∧ w = w') (hS : S w) : Did S g v w e w' := ⟨h.1, h.2 ▸ hS, h.2 ▸ World.grownBy.refl _ _⟩
theorem did_took {bad : Nat → Prop} {g : Nat} {t : Tk} {r : List Tk} {w w' : World} {e : Ending} (h : Took 73 bad g t r 0 w e w') : Did (fun w' => SP bad w' g r 0) g (aggT t) w e w' := by
  obtain ⟨h1, ⟨A, n, c, h2⟩, h3⟩ := h; exact ⟨h1, h2.sp (fun k => absurd rfl k), h3⟩
theorem did_rtook {bad : Nat → Prop} {g : Nat} {t : Tk} {r : List Tk} {w w' : World} {e : Ending} (h : Took 41 bad g t r 0 w e w') : Did (fun w' => SR bad w' g r 0) g (aggT t) w e w' := by
  obtain ⟨h1, ⟨A, n, c, h2⟩, h3⟩ := h; exact ⟨h1, h2.srl, h3⟩
theorem peek_both (ts : List Tk) (e : Int) (hi : e ≠ 0 → ts = []) (hf : AllFine ts) : ∃ t, Fine t ∧ Both 17 18 (fun p => #[p]) ts e (aggT t) ts e := by
  cases ts with
  | nil =>
    refine ⟨.zero, fine_zero, fun bad w g h => ?_, fun bad w g h => ?_⟩
    · obtain ⟨A, n, c, h1⟩ := h.at_
      exact (peek_none h1).mono fun _ _ k => did_gives k (h.keep k.2)
    · obtain ⟨A, n, c, L, h1, hd⟩ := h.dead
      exact (rpeek_D h1 hd).mono fun _ _ k => did_gives k (h.keep k.2)
  | cons t r =>
    have he : e = 0 := Classical.byContradiction fun k => by cases hi k
    subst he
    refine ⟨t, hf.head, fun bad w g h => ?_, fun bad w g h => ?_⟩
    · obtain ⟨A, n, c, h1⟩ := h.at_
      exact (peek_some h1).mono fun _ _ k => did_gives k (h.keep k.2)
    · obtain ⟨A, n, c, h1⟩ := h.live
      exact (rpeek_some h1).mono fun _ _ k => did_gives k (h.keep k.2)
theorem next_both (ts : List Tk) (e : Int) (hi : e ≠ 0 → ts = []) (hf : AllFine ts) : ∃ t ts', Fine t ∧ AllFine ts' ∧ (e ≠ 0 → ts' = []) ∧ Both 19 20 (fun p => #[p]) ts e (aggT t) ts' e := by
  cases ts with
  | nil =>
    refine ⟨.zero, [], fine_zero, AllFine.nil, fun _ => rfl, fun bad w g h => ?_, fun bad w g h => ?_⟩
    · obtain ⟨A, n, c, h1⟩ := h.at_
      exact (next_none h1).mono fun _ _ k => did_gives k (h.keep k.2)
    · obtain ⟨A, n, c, L, h1, hd⟩ := h.dead
      exact (rnext_D h1 hd).mono fun _ _ k => did_gives k (h.keep k.2)
  | cons t r =>
    have he : e = 0 := Classical.byContradiction fun k => by cases hi k
    subst he
    refine ⟨t, r, hf.head, hf.tail, fun k => absurd rfl k, fun bad w g h => ?_, fun bad w g h => ?_⟩
    · obtain ⟨A, n, c, h1⟩ := h.at_
      exact (next_some h1).mono fun _ _ k => did_took k
    · obtain ⟨A, n, c, h1⟩ := h.live
      exact (rnext_some h1).mono fun _ _ k => did_rtook k
theorem accept_both (m : ByteArray) (ts : List Tk) (e : Int) (hi : e ≠ 0 → ts = []) (hf : AllFine ts) : ∃ b ts', AllFine ts' ∧ (e ≠ 0 → ts' = []) ∧ Both 21 22 (fun p => #[p, .string m]) ts e (.bool b) ts' e := by
  cases ts with
  | nil =>
    refine ⟨false, [], AllFine.nil, fun _ => rfl, fun bad w g h => ?_, fun bad w g h => ?_⟩
    · obtain ⟨A, n, c, h1⟩ := h.at_
      exact accept_empty m h1 (fun _ => rfl)
    · obtain ⟨A, n, c, L, h1, hd⟩ := h.dead
      exact (raccept_D m h1 hd).mono fun _ _ k => k.mono fun _ s => s.sr hd
  | cons t r =>
    have he : e = 0 := Classical.byContradiction fun k => by cases hi k
    subst he
    by_cases hy : t.kind = 3 ∧ t.text = m.data.toList
    · refine ⟨true, r, hf.tail, fun k => absurd rfl k, fun bad w g h => ?_, fun bad w g h => ?_⟩
      · obtain ⟨A, n, c, h1⟩ := h.at_
        exact accept_yes m h1 hy.1 hy.2
      · obtain ⟨A, n, c, h1⟩ := h.live
        exact raccept_yes m h1 hy.1 hy.2
    · refine ⟨false, t :: r, hf, fun k => absurd rfl k, fun bad w g h => ?_, fun bad w g h => ?_⟩
      · obtain ⟨A, n, c, h1⟩ := h.at_
        exact accept_no m h1 hy
      · obtain ⟨A, n, c, h1⟩ := h.live
        exact (raccept_no m h1 hy).mono fun _ _ k => k.mono fun _ s => s.srl
theorem expect_both (m : ByteArray) (ts : List Tk) (e : Int) (hi : e ≠ 0 → ts = []) (hf : AllFine ts) : ∃ ts' e', AllFine ts' ∧ (e' ≠ 0 → ts' = []) ∧ Both 23 24 (fun p => #[p, .string m]) ts e (.tuple #[]) ts' e' := by
  cases ts with
  | nil =>
    refine ⟨[], refE e, AllFine.nil, fun _ => rfl, fun bad w g h => ?_, fun bad w g h => ?_⟩
    · obtain ⟨A, n, c, h1⟩ := h.at_
      exact expect_empty m h1
    · obtain ⟨A, n, c, L, h1, hd⟩ := h.dead
      exact rexpect_D m h1 hd
  | cons t r =>
    have he : e = 0 := Classical.byContradiction fun k => by cases hi k
    subst he
    by_cases hy : t.kind = 3 ∧ t.text = m.data.toList
    · refine ⟨r, 0, hf.tail, fun k => absurd rfl k, fun bad w g h => ?_, fun bad w g h => ?_⟩
      · obtain ⟨A, n, c, h1⟩ := h.at_
        exact expect_yes m h1 hy.1 hy.2
      · obtain ⟨A, n, c, h1⟩ := h.live
        exact rexpect_yes m h1 hy.1 hy.2
    · refine ⟨[], 2, AllFine.nil, fun _ => rfl, fun bad w g h => ?_, fun bad w g h => ?_⟩
      · obtain ⟨A, n, c, h1⟩ := h.at_
        exact expect_no m h1 hy
      · obtain ⟨A, n, c, h1⟩ := h.live
        exact rexpect_no m h1 hy
theorem name_both (ts : List Tk) (e : Int) (hi : e ≠ 0 → ts = []) (hf : AllFine ts) : ∃ x ts' e', AllFine ts' ∧ (e' ≠ 0 → ts' = []) ∧ Both 25 26 (fun p => #[p]) ts e (.string x) ts' e' := by
  cases ts with
  | nil =>
    refine ⟨⟨#[]⟩, [], refE e, AllFine.nil, fun _ => rfl, fun bad w g h => ?_, fun bad w g h => ?_⟩
    · obtain ⟨A, n, c, h1⟩ := h.at_
      exact name_empty h1
    · obtain ⟨A, n, c, L, h1, hd⟩ := h.dead
      exact rname_D h1 hd
  | cons t r =>
    have he : e = 0 := Classical.byContradiction fun k => by cases hi k
    subst he
    by_cases hy : t.kind = 1
    · refine ⟨str t.text, r, 0, hf.tail, fun k => absurd rfl k, fun bad w g h => ?_, fun bad w g h => ?_⟩
      · obtain ⟨A, n, c, h1⟩ := h.at_
        exact name_yes h1 hy
      · obtain ⟨A, n, c, h1⟩ := h.live
        exact rname_yes h1 hy
    · refine ⟨⟨#[]⟩, [], 2, AllFine.nil, fun _ => rfl, fun bad w g h => ?_, fun bad w g h => ?_⟩
      · obtain ⟨A, n, c, h1⟩ := h.at_
        exact name_no h1 hy
      · obtain ⟨A, n, c, h1⟩ := h.live
        exact rname_no h1 hy
theorem amount_both (most : Int) (ts : List Tk) (e : Int) (hi : e ≠ 0 → ts = []) (hf : AllFine ts) : ∃ z ts' e', AllFine ts' ∧ (e' ≠ 0 → ts' = []) ∧ Both 27 28 (fun p => #[p, .int .i64 most]) ts e (.int .i64 z) ts' e' := by
  cases ts with
  | nil =>
    refine ⟨0, [], refE e, AllFine.nil, fun _ => rfl, fun bad w g h => ?_, fun bad w g h => ?_⟩
    · obtain ⟨A, n, c, h1⟩ := h.at_
      exact amount_empty most h1
    · obtain ⟨A, n, c, L, h1, hd⟩ := h.dead
      exact ramount_D most h1 hd
  | cons t r =>
    have he : e = 0 := Classical.byContradiction fun k => by cases hi k
    subst he
    by_cases hy : t.kind = 2
    · by_cases h0 : t.value < 0
      · refine ⟨0, [], 4, AllFine.nil, fun _ => rfl, fun bad w g h => ?_, fun bad w g h => ?_⟩
        · obtain ⟨A, n, c, h1⟩ := h.at_
          exact amount_neg most h1 hy h0
        · obtain ⟨A, n, c, h1⟩ := h.live
          exact ramount_neg most h1 hy h0
      · by_cases hm : most < t.value
        · refine ⟨0, [], 4, AllFine.nil, fun _ => rfl, fun bad w g h => ?_, fun bad w g h => ?_⟩
          · obtain ⟨A, n, c, h1⟩ := h.at_
            exact amount_most most h1 hy (by omega) hm
          · obtain ⟨A, n, c, h1⟩ := h.live
            exact ramount_most most h1 hy (by omega) hm
        · refine ⟨t.value, r, 0, hf.tail, fun k => absurd rfl k, fun bad w g h => ?_, fun bad w g h => ?_⟩
          · obtain ⟨A, n, c, h1⟩ := h.at_
            exact amount_yes most h1 hy (by omega) (by omega)
          · obtain ⟨A, n, c, h1⟩ := h.live
            exact ramount_yes most h1 hy (by omega) (by omega)
    · refine ⟨0, [], 2, AllFine.nil, fun _ => rfl, fun bad w g h => ?_, fun bad w g h => ?_⟩
      · obtain ⟨A, n, c, h1⟩ := h.at_
        exact amount_kind most h1 hy
      · obtain ⟨A, n, c, h1⟩ := h.live
        exact ramount_kind most h1 hy
theorem fail_both (x : Int) (ts : List Tk) (e : Int) (hi : e ≠ 0 → ts = []) (hf : AllFine ts) : ∃ ts' e', AllFine ts' ∧ (e' ≠ 0 → ts' = []) ∧ Both 29 30 (fun p => #[p, .int .i64 x]) ts e (.tuple #[]) ts' e' := by
  by_cases he : e = 0
  · subst he
    by_cases hx : x = 0
    · subst hx
      refine ⟨ts, 0, hf, fun k => absurd rfl k, fun bad w g h => ?_, fun bad w g h => ?_⟩
      · obtain ⟨A, n, c, h1⟩ := h.at_
        exact (fail_zero h1).mono fun _ _ k => did_quiet k h
      · obtain ⟨A, n, c, h1⟩ := h.live
        exact (rfail_set 0 h1).mono fun _ _ k => k.mono fun _ s => s.srl
    · refine ⟨[], x, AllFine.nil, fun _ => rfl, fun bad w g h => ?_, fun bad w g h => ?_⟩
      · obtain ⟨A, n, c, h1⟩ := h.at_
        exact fail_set x h1 hx
      · obtain ⟨A, n, c, h1⟩ := h.live
        exact (rfail_set x h1).mono fun _ _ k => k.mono fun _ s => s.sr (.inl hx)
  · have ht := hi he
    subst ht
    refine ⟨[], e, AllFine.nil, fun _ => rfl, fun bad w g h => ?_, fun bad w g h => ?_⟩
    · obtain ⟨A, n, c, h1⟩ := h.at_
      exact (fail_dead x h1 he).mono fun _ _ k => did_quiet k h
    · obtain ⟨A, n, c, L, h1, hd⟩ := h.dead
      exact (rfail_dead x h1 he).mono fun _ _ k => did_quiet k h
/-- What End answers. -/
theorem end_both (ts : List Tk) (e : Int) (hi : e ≠ 0 → ts = []) : ∃ z : Int, (∀ bad w g, SP bad w g ts e → Calls Try.prog 32 #[.pointer (some ⟨g, 0, none⟩)] w fun en w' => en = .returned (.int .i64 z) ∧ w = w') ∧
    (∀ bad w g, SR bad w g ts e → Calls Try.prog 33 #[.pointer (some ⟨g, 0, none⟩)] w fun en w' => en = .returned (.int .i64 z) ∧ w = w') := by
  cases ts with
  | nil =>
    refine ⟨e, fun bad w g h => ?_, fun bad w g h => ?_⟩
    · obtain ⟨A, n, c, h1⟩ := h.at_
      exact end_empty h1
    · obtain ⟨A, n, c, L, h1, hd⟩ := h.dead
      exact rend_D h1 hd
  | cons t r =>
    have he : e = 0 := Classical.byContradiction fun k => by cases hi k
    subst he
    refine ⟨3, fun bad w g h => ?_, fun bad w g h => ?_⟩
    · obtain ⟨A, n, c, h1⟩ := h.at_
      exact end_live h1
    · obtain ⟨A, n, c, h1⟩ := h.live
      exact rend_live h1
end Go.Proofs.Ytdgflkkdcejadaa

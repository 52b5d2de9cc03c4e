/- The other calls of the package's scanner: no claim of its own. -/
import Derived.Test.YtdlpolnnhhnecaaDoorLNext
namespace Go.Proofs.YtdlpolnnhhnecaaDoor
open Go.RowKit
/-- The package's scanner without the record of its tokens' place. -/
theorem SB.sp {bad : Nat → Prop} {w : World} {g : Nat} {A : Option Addr} {n c : Nat} {ts : List Tk} {e : Int} (h : SB 78 bad w g A n c ts e) (hi : e ≠ 0 → ts = []) : SP bad w g ts e := ⟨A, n, c, h, hi⟩
theorem Did.mono {S S' : World → Prop} {g : Nat} {v : Value} {w w' : World} {e : Ending} (h : Did S g v w e w') (hS : ∀ x, S x → S' x) : Did S' g v w e w' := ⟨h.1, hS _ h.2.1, h.2.2⟩
theorem did_same {S : World → Prop} {g : Nat} {v : Value} {w w' : World} (hS : S w') (hb : Below w.heap.size w w') : Did S g v w (.returned v) w' := ⟨rfl, hS, grown_of_below hb _⟩
/-- Calls one behind the other. -/
theorem Did.after {S : World → Prop} {g : Nat} {v : Value} {w w1 w2 : World} {e : Ending} (hg : w.grownBy w1 (some g)) (h : Did S g v w1 e w2) : Did S g v w e w2 := ⟨h.1, h.2.1, hg.trans h.2.2⟩
theorem field_0 (k v a : Int) (s : ByteArray) (w : World) : (Instr.field 57 (.agg #[.int .i64 k, .string s, .int .i64 v, .int .i64 a]) 0).run Tryd.prog w = .ok (.int .i64 k) w := by kernel_rfl
theorem field_1 (k v a : Int) (s : ByteArray) (w : World) : (Instr.field 57 (.agg #[.int .i64 k, .string s, .int .i64 v, .int .i64 a]) 1).run Tryd.prog w = .ok (.string s) w := by kernel_rfl
theorem field_2 (k v a : Int) (s : ByteArray) (w : World) : (Instr.field 57 (.agg #[.int .i64 k, .string s, .int .i64 v, .int .i64 a]) 2).run Tryd.prog w = .ok (.int .i64 v) w := by kernel_rfl
def refE (er : Int) : Int := if er = 0 then 1 else er
theorem refE_ne (er : Int) : refE er ≠ 0 := by unfold refE; split <;> omega
set_option maxRecDepth 100000 in
set_option maxHeartbeats 2000000 in
theorem fail_dead {bad : Nat → Prop} {w : World} {g : Nat} {A : Option Addr} {n c : Nat} {L : List Tk} {er : Int} (x : Int) (h : SB 78 bad w g A n c L er) (he : er ≠ 0) :
    Calls Tryd.prog 49 #[.pointer (some ⟨g, 0, none⟩), .int .i64 x] w (fun e w' => e = .returned (.tuple #[]) ∧ w = w') := by
  have E := Lib.hid (err_any h)
  have hne : ((er : Int) != 0) = true := bne_iff_ne.2 he
  clear h
  go_enter Tryd.func49, Tryd.ntmps49
  go_wp2_with fail
  refine E.out.mono ?_
  rintro e w' ⟨rfl, rfl⟩
  go_wp2
  exact bodyPost_ret (v := .tuple #[]) (by simp [results, Tryd.results49, go_sem]) rfl ⟨rfl, rfl⟩
set_option maxRecDepth 100000 in
set_option maxHeartbeats 2000000 in
theorem fail_zero {bad : Nat → Prop} {w : World} {g : Nat} {A : Option Addr} {n c : Nat} {L : List Tk} (h : SB 78 bad w g A n c L 0) :
    Calls Tryd.prog 49 #[.pointer (some ⟨g, 0, none⟩), .int .i64 0] w (fun e w' => e = .returned (.tuple #[]) ∧ w = w') := by
  have E := Lib.hid (err_any h)
  clear h
  go_enter Tryd.func49, Tryd.ntmps49
  go_wp2_with fail
  refine E.out.mono ?_
  rintro e w' ⟨rfl, rfl⟩
  go_wp2
  exact bodyPost_ret (v := .tuple #[]) (by simp [results, Tryd.results49, go_sem]) rfl ⟨rfl, rfl⟩
set_option maxRecDepth 100000 in
set_option maxHeartbeats 2000000 in
theorem fail_set {bad : Nat → Prop} {w : World} {g : Nat} {A : Option Addr} {n c : Nat} {L : List Tk} (x : Int) (h : SB 78 bad w g A n c L 0) (hx : x ≠ 0) :
    Calls Tryd.prog 49 #[.pointer (some ⟨g, 0, none⟩), .int .i64 x] w (Did (fun w' => SP bad w' g [] x) g (.tuple #[]) w) := by
  have E := Lib.hid (err_any h)
  have hne : ((x : Int) == 0) = false := beq_eq_false_iff_ne.2 hx
  have h1 := h.put1 x
  have h2 := h1.put0 (Tks.nil _) (fun _ k => nomatch k)
  have G : Hid (Did (fun w' => SP bad w' g [] x) g (.tuple #[]) w (.returned (.tuple #[])) ((w.setCell ⟨g, 1, none⟩ (.int .i64 x)).setCell ⟨g, 0, none⟩ (.slice none 0 0))) :=
    Lib.hid ⟨rfl, h2.sp (fun _ => rfl), (grown_set w g 1 _).trans (grown_set _ g 0 _)⟩
  have c1 := h.c1
  have f1 := h.f 1
  have c0 := h1.c0
  have f0 := h1.f 0
  clear h h1 h2
  go_enter Tryd.func49, Tryd.ntmps49
  go_wp2_with fail
  refine E.out.mono ?_
  rintro e w' ⟨rfl, rfl⟩
  go_wp2
  go_end0
  exact G.out
set_option maxRecDepth 100000 in
set_option maxHeartbeats 2000000 in
theorem refuse_empty {bad : Nat → Prop} {w : World} {g : Nat} {A : Option Addr} {n c : Nat} {er : Int} (h : SB 78 bad w g A n c [] er) :
    Calls Tryd.prog 74 #[.pointer (some ⟨g, 0, none⟩)] w (Did (fun w' => SP bad w' g [] (refE er)) g (.tuple #[]) w) := by
  have LF := left_any h
  rw [h.tks.empty] at LF
  have L := Lib.hid LF
  clear LF
  by_cases he : er = 0
  · subst he
    have FS := Lib.hid (fail_set 1 h (by decide))
    clear h
    go_enter Tryd.func74, Tryd.ntmps74
    go_wp2_with fail
    refine L.out.mono ?_
    rintro e w' ⟨rfl, rfl⟩
    go_wp2_with fail
    refine FS.out.mono ?_
    rintro e w1 ⟨rfl, h1, h2⟩
    have G : Hid (Did (fun w' => SP bad w' g [] (refE 0)) g (.tuple #[]) w (.returned (.tuple #[])) w1) := Lib.hid ⟨rfl, h1, h2⟩
    clear h1 h2
    go_wp2
    go_end0
    exact G.out
  · have FS := Lib.hid (fail_dead 1 h he)
    have G : Hid (Did (fun w' => SP bad w' g [] (refE er)) g (.tuple #[]) w (.returned (.tuple #[])) w) := Lib.hid ⟨rfl, by unfold refE; rw [if_neg he]; exact h.sp (fun _ => rfl), World.grownBy.refl _ _⟩
    clear h
    go_enter Tryd.func74, Tryd.ntmps74
    go_wp2_with fail
    refine L.out.mono ?_
    rintro e w' ⟨rfl, rfl⟩
    go_wp2_with fail
    refine FS.out.mono ?_
    rintro e w' ⟨rfl, rfl⟩
    go_wp2
    go_end0
    exact G.out
set_option maxRecDepth 100000 in
set_option maxHeartbeats 2000000 in
theorem refuse_live {bad : Nat → Prop} {w : World} {g : Nat} {A : Option Addr} {n c : Nat} {t : Tk} {r : List Tk} (h : SB 78 bad w g A n c (t :: r) 0) :
    Calls Tryd.prog 74 #[.pointer (some ⟨g, 0, none⟩)] w (Did (fun w' => SP bad w' g [] 2) g (.tuple #[]) w) := by
  have L := Lib.hid (left_any h)
  have hn : 0 < n := by rw [← h.tks.len]; simp
  have hf := h.tks.few
  have FS := Lib.hid (fail_set 2 h (by decide))
  have hb : ((n : Int) == 0) = false := beq_eq_false_iff_ne.2 (by omega)
  clear h
  go_enter Tryd.func74, Tryd.ntmps74
  go_wp2_with fail
  refine L.out.mono ?_
  rintro e w' ⟨rfl, rfl⟩
  go_wp2_with fail
  refine FS.out.mono ?_
  rintro e w1 ⟨rfl, h1, h2⟩
  have G : Hid (Did (fun w' => SP bad w' g [] 2) g (.tuple #[]) w (.returned (.tuple #[])) w1) := Lib.hid ⟨rfl, h1, h2⟩
  clear h1 h2
  go_wp2
  go_end0
  exact G.out
set_option maxRecDepth 100000 in
set_option maxHeartbeats 2000000 in
theorem end_empty {bad : Nat → Prop} {w : World} {g : Nat} {A : Option Addr} {n c : Nat} {er : Int} (h : SB 78 bad w g A n c [] er) :
    Calls Tryd.prog 34 #[.pointer (some ⟨g, 0, none⟩)] w (fun e w' => e = .returned (.int .i64 er) ∧ w = w') := by
  have LF := left_any h
  rw [h.tks.empty] at LF
  have L := Lib.hid LF
  have E := Lib.hid (err_any h)
  clear LF h
  go_enter Tryd.func34, Tryd.ntmps34
  go_wp2_with fail
  refine L.out.mono ?_
  rintro e w' ⟨rfl, rfl⟩
  go_wp2_with fail
  refine E.out.mono ?_
  rintro e w' ⟨rfl, rfl⟩
  go_wp2
  go_ret
  exact ⟨rfl, rfl⟩
set_option maxRecDepth 100000 in
set_option maxHeartbeats 2000000 in
theorem end_live {bad : Nat → Prop} {w : World} {g : Nat} {A : Option Addr} {n c : Nat} {t : Tk} {r : List Tk} {er : Int} (h : SB 78 bad w g A n c (t :: r) er) :
    Calls Tryd.prog 34 #[.pointer (some ⟨g, 0, none⟩)] w (fun e w' => e = .returned (.int .i64 3) ∧ w = w') := by
  have L := Lib.hid (left_any h)
  have hn : 0 < n := by rw [← h.tks.len]; simp
  have hf := h.tks.few
  clear h
  go_enter Tryd.func34, Tryd.ntmps34
  go_wp2_with fail
  refine L.out.mono ?_
  rintro e w' ⟨rfl, rfl⟩
  go_wp2
  go_ret
  exact ⟨rfl, rfl⟩
set_option maxRecDepth 100000 in
set_option maxHeartbeats 2000000 in
theorem accept_empty {bad : Nat → Prop} {w : World} {g : Nat} {A : Option Addr} {n c : Nat} {er : Int} (m : ByteArray) (h : SB 78 bad w g A n c [] er) (hi : er ≠ 0 → ([] : List Tk) = []) :
    Calls Tryd.prog 51 #[.pointer (some ⟨g, 0, none⟩), .string m] w (Did (fun w' => SP bad w' g [] er) g (.bool false) w) := by
  have PK := Lib.hid (peek_none h)
  have H := Lib.hid (h.sp hi)
  clear h
  go_enter Tryd.func51, Tryd.ntmps51
  go_wp2_with fail
  refine PK.out.mono ?_
  rintro e w1 ⟨rfl, hb⟩
  have B1 := Lib.hid (hb.trans ((below_new w1 (.cells #[.int .i64 0, .string ⟨#[]⟩, .int .i64 0, .int .i64 0] 57)).mono hb.size))
  clear hb PK
  unfold aggT
  go_wp2
  go_ret
  exact did_same (H.out.keep B1.out) B1.out
set_option maxRecDepth 100000 in
set_option maxHeartbeats 2000000 in
theorem accept_no {bad : Nat → Prop} {w : World} {g : Nat} {A : Option Addr} {n c : Nat} {t : Tk} {r : List Tk} (m : ByteArray) (h : SB 78 bad w g A n c (t :: r) 0) (hno : ¬ (t.kind = 3 ∧ t.text = m.data.toList)) :
    Calls Tryd.prog 51 #[.pointer (some ⟨g, 0, none⟩), .string m] w (Did (fun w' => SP bad w' g (t :: r) 0) g (.bool false) w) := by
  have PK := Lib.hid (peek_some h)
  have H := Lib.hid (h.sp (fun k => absurd rfl k))
  clear h
  by_cases hk : t.kind = 3
  · have hm : ((str t.text).toList == m.toList) = false := test_no (by rw [str_data]; exact fun k => hno ⟨hk, k⟩)
    clear hno
    obtain ⟨kd, tx, vv, a⟩ := t
    simp only at hk hm
    subst hk
    go_enter Tryd.func51, Tryd.ntmps51
    go_wp2_with fail
    refine PK.out.mono ?_
    rintro e w1 ⟨rfl, hb⟩
    have B1 := Lib.hid (hb.trans ((below_new w1 (.cells #[.int .i64 3, .string (str tx), .int .i64 vv, .int .i64 a] 57)).mono hb.size))
    clear hb PK
    unfold aggT
    go_wp2
    go_ret
    exact did_same (H.out.keep B1.out) B1.out
  · have hm : ((t.kind : Int) != 3) = true := bne_iff_ne.2 hk
    clear hno hk
    obtain ⟨kd, tx, vv, a⟩ := t
    simp only at hm
    go_enter Tryd.func51, Tryd.ntmps51
    go_wp2_with fail
    refine PK.out.mono ?_
    rintro e w1 ⟨rfl, hb⟩
    have B1 := Lib.hid (hb.trans ((below_new w1 (.cells #[.int .i64 kd, .string (str tx), .int .i64 vv, .int .i64 a] 57)).mono hb.size))
    clear hb PK
    unfold aggT
    go_wp2
    go_ret
    exact did_same (H.out.keep B1.out) B1.out
set_option maxRecDepth 100000 in
set_option maxHeartbeats 2000000 in
theorem accept_yes {bad : Nat → Prop} {w : World} {g : Nat} {A : Option Addr} {n c : Nat} {t : Tk} {r : List Tk} (m : ByteArray) (h : SB 78 bad w g A n c (t :: r) 0) (hk : t.kind = 3) (ht : t.text = m.data.toList) :
    Calls Tryd.prog 51 #[.pointer (some ⟨g, 0, none⟩), .string m] w (Did (fun w' => SP bad w' g r 0) g (.bool true) w) := by
  have PK := Lib.hid (peek_some h)
  have H := Lib.hid h
  have hm : ((str t.text).toList == m.toList) = true := test_yes (by rw [str_data]; exact ht)
  clear h ht
  obtain ⟨kd, tx, vv, a⟩ := t
  simp only at hk hm
  subst hk
  go_enter Tryd.func51, Tryd.ntmps51
  go_wp2_with fail
  refine PK.out.mono ?_
  rintro e w1 ⟨rfl, hb⟩
  have b1 := hb.trans ((below_new w1 (.cells #[.int .i64 3, .string (str tx), .int .i64 vv, .int .i64 a] 57)).mono hb.size)
  have NX := Lib.hid (next_some (H.out.keep b1))
  have B1 := Lib.hid b1
  clear hb PK b1 H
  unfold aggT
  go_wp2_with fail
  refine NX.out.mono ?_
  rintro e w2 ⟨rfl, ⟨A', n', c', h2⟩, hg⟩
  have G : Hid (Did (fun w' => SP bad w' g r 0) g (.bool true) w (.returned (.bool true)) w2) := Lib.hid ⟨rfl, h2.sp (fun k => absurd rfl k), (grown_of_below B1.out _).trans hg⟩
  clear h2 hg NX B1
  go_wp2
  go_ret
  exact G.out
set_option maxRecDepth 100000 in
set_option maxHeartbeats 2000000 in
theorem expect_empty {bad : Nat → Prop} {w : World} {g : Nat} {A : Option Addr} {n c : Nat} {er : Int} (m : ByteArray) (h : SB 78 bad w g A n c [] er) :
    Calls Tryd.prog 50 #[.pointer (some ⟨g, 0, none⟩), .string m] w (Did (fun w' => SP bad w' g [] (refE er)) g (.tuple #[]) w) := by
  have AC := Lib.hid (accept_empty m h (fun _ => rfl))
  clear h
  go_enter Tryd.func50, Tryd.ntmps50
  go_wp2_with fail
  refine AC.out.mono ?_
  rintro e w1 ⟨rfl, ⟨A1, n1, c1, h1, _⟩, h2⟩
  have RF := Lib.hid (refuse_empty h1)
  have G1 := Lib.hid h2
  clear h1 h2 AC
  go_wp2_with fail
  refine RF.out.mono ?_
  rintro e w2 ⟨rfl, h1, h2⟩
  have G : Hid (Did (fun w' => SP bad w' g [] (refE er)) g (.tuple #[]) w (.returned (.tuple #[])) w2) := Lib.hid ⟨rfl, h1, G1.out.trans h2⟩
  clear h1 h2
  go_wp2
  go_end0
  exact G.out
set_option maxRecDepth 100000 in
set_option maxHeartbeats 2000000 in
theorem expect_no {bad : Nat → Prop} {w : World} {g : Nat} {A : Option Addr} {n c : Nat} {t : Tk} {r : List Tk} (m : ByteArray) (h : SB 78 bad w g A n c (t :: r) 0) (hno : ¬ (t.kind = 3 ∧ t.text = m.data.toList)) :
    Calls Tryd.prog 50 #[.pointer (some ⟨g, 0, none⟩), .string m] w (Did (fun w' => SP bad w' g [] 2) g (.tuple #[]) w) := by
  have AC := Lib.hid (accept_no m h hno)
  clear h
  go_enter Tryd.func50, Tryd.ntmps50
  go_wp2_with fail
  refine AC.out.mono ?_
  rintro e w1 ⟨rfl, ⟨A1, n1, c1, h1, _⟩, h2⟩
  have RF := Lib.hid (refuse_live h1)
  have G1 := Lib.hid h2
  clear h1 h2 AC
  go_wp2_with fail
  refine RF.out.mono ?_
  rintro e w2 ⟨rfl, h1, h2⟩
  have G : Hid (Did (fun w' => SP bad w' g [] 2) g (.tuple #[]) w (.returned (.tuple #[])) w2) := Lib.hid ⟨rfl, h1, G1.out.trans h2⟩
  clear h1 h2
  go_wp2
  go_end0
  exact G.out
set_option maxRecDepth 100000 in
set_option maxHeartbeats 2000000 in
theorem expect_yes {bad : Nat → Prop} {w : World} {g : Nat} {A : Option Addr} {n c : Nat} {t : Tk} {r : List Tk} (m : ByteArray) (h : SB 78 bad w g A n c (t :: r) 0) (hk : t.kind = 3) (ht : t.text = m.data.toList) :
    Calls Tryd.prog 50 #[.pointer (some ⟨g, 0, none⟩), .string m] w (Did (fun w' => SP bad w' g r 0) g (.tuple #[]) w) := by
  have AC := Lib.hid (accept_yes m h hk ht)
  clear h
  go_enter Tryd.func50, Tryd.ntmps50
  go_wp2_with fail
  refine AC.out.mono ?_
  rintro e w1 ⟨rfl, h1, h2⟩
  have G : Hid (Did (fun w' => SP bad w' g r 0) g (.tuple #[]) w (.returned (.tuple #[])) w1) := Lib.hid ⟨rfl, h1, h2⟩
  clear h1 h2
  go_wp2
  go_end0
  exact G.out
set_option maxRecDepth 100000 in
set_option maxHeartbeats 2000000 in
theorem name_empty {bad : Nat → Prop} {w : World} {g : Nat} {A : Option Addr} {n c : Nat} {er : Int} (h : SB 78 bad w g A n c [] er) :
    Calls Tryd.prog 76 #[.pointer (some ⟨g, 0, none⟩)] w (Did (fun w' => SP bad w' g [] (refE er)) g (.string ⟨#[]⟩) w) := by
  have PK := Lib.hid (peek_none h)
  have H := Lib.hid h
  clear h
  have F0 := field_0
  have F1 := field_1
  go_enter Tryd.func76, Tryd.ntmps76
  go_wp2_with fail
  refine PK.out.mono ?_
  rintro e w1 ⟨rfl, hb⟩
  have RF := Lib.hid (refuse_empty (H.out.keep hb))
  have B1 := Lib.hid hb
  clear hb PK H
  unfold aggT
  go_wp2_with fail
  refine RF.out.mono ?_
  rintro e w2 ⟨rfl, h1, h2⟩
  have G : Hid (Did (fun w' => SP bad w' g [] (refE er)) g (.string ⟨#[]⟩) w (.returned (.string ⟨#[]⟩)) w2) := Lib.hid ⟨rfl, h1, (grown_of_below B1.out _).trans h2⟩
  clear h1 h2 RF B1
  go_wp2
  go_ret
  exact G.out
set_option maxRecDepth 100000 in
set_option maxHeartbeats 2000000 in
theorem name_no {bad : Nat → Prop} {w : World} {g : Nat} {A : Option Addr} {n c : Nat} {t : Tk} {r : List Tk} (h : SB 78 bad w g A n c (t :: r) 0) (hk : t.kind ≠ 1) :
    Calls Tryd.prog 76 #[.pointer (some ⟨g, 0, none⟩)] w (Did (fun w' => SP bad w' g [] 2) g (.string ⟨#[]⟩) w) := by
  have PK := Lib.hid (peek_some h)
  have H := Lib.hid h
  clear h
  have hm : ((t.kind : Int) != 1) = true := bne_iff_ne.2 hk
  clear hk
  obtain ⟨kd, tx, vv, a⟩ := t
  simp only at hm
  have F0 := field_0
  have F1 := field_1
  go_enter Tryd.func76, Tryd.ntmps76
  go_wp2_with fail
  refine PK.out.mono ?_
  rintro e w1 ⟨rfl, hb⟩
  have RF := Lib.hid (refuse_live (H.out.keep hb))
  have B1 := Lib.hid hb
  clear hb PK H
  unfold aggT
  go_wp2_with fail
  refine RF.out.mono ?_
  rintro e w2 ⟨rfl, h1, h2⟩
  have G : Hid (Did (fun w' => SP bad w' g [] 2) g (.string ⟨#[]⟩) w (.returned (.string ⟨#[]⟩)) w2) := Lib.hid ⟨rfl, h1, (grown_of_below B1.out _).trans h2⟩
  clear h1 h2 RF B1
  go_wp2
  go_ret
  exact G.out
set_option maxRecDepth 100000 in
set_option maxHeartbeats 2000000 in
theorem name_yes {bad : Nat → Prop} {w : World} {g : Nat} {A : Option Addr} {n c : Nat} {t : Tk} {r : List Tk} (h : SB 78 bad w g A n c (t :: r) 0) (hk : t.kind = 1) :
    Calls Tryd.prog 76 #[.pointer (some ⟨g, 0, none⟩)] w (Did (fun w' => SP bad w' g r 0) g (.string (str t.text)) w) := by
  have PK := Lib.hid (peek_some h)
  have H := Lib.hid h
  clear h
  obtain ⟨kd, tx, vv, a⟩ := t
  simp only at hk
  subst hk
  simp only
  have F0 := field_0
  have F1 := field_1
  go_enter Tryd.func76, Tryd.ntmps76
  go_wp2_with fail
  refine PK.out.mono ?_
  rintro e w1 ⟨rfl, hb⟩
  have RF := Lib.hid (next_some (H.out.keep hb))
  have B1 := Lib.hid hb
  clear hb PK H
  unfold aggT
  go_wp2_with fail
  refine RF.out.mono ?_
  rintro e w2 ⟨rfl, h1, h2⟩
  obtain ⟨A', n', c', h3⟩ := h1
  have G : Hid (Did (fun w' => SP bad w' g r 0) g (.string (str tx)) w (.returned (.string (str tx))) w2) := Lib.hid ⟨rfl, h3.sp (fun k => absurd rfl k), (grown_of_below B1.out _).trans h2⟩
  clear h3 h2 RF B1
  unfold aggT
  go_wp2
  go_ret
  exact G.out
set_option maxRecDepth 100000 in
set_option maxHeartbeats 2000000 in
theorem amount_empty {bad : Nat → Prop} {w : World} {g : Nat} {A : Option Addr} {n c : Nat} {er : Int} (most : Int) (h : SB 78 bad w g A n c [] er) :
    Calls Tryd.prog 77 #[.pointer (some ⟨g, 0, none⟩), .int .i64 most] w (Did (fun w' => SP bad w' g [] (refE er)) g (.int .i64 0) w) := by
  have PK := Lib.hid (peek_none h)
  have H := Lib.hid h
  clear h
  have F2 := field_2
  go_enter Tryd.func77, Tryd.ntmps77
  go_wp2_with fail
  refine PK.out.mono ?_
  rintro e w1 ⟨rfl, hb⟩
  have b1 := hb.trans ((below_new w1 (.cells #[.int .i64 0, .string ⟨#[]⟩, .int .i64 0, .int .i64 0] 57)).mono hb.size)
  have RF := Lib.hid (refuse_empty (H.out.keep b1))
  have B1 := Lib.hid b1
  clear hb PK H b1
  unfold aggT
  go_wp2_with fail
  refine RF.out.mono ?_
  rintro e w2 ⟨rfl, h1, h2⟩
  have G : Hid (Did (fun w' => SP bad w' g [] (refE er)) g (.int .i64 0) w (.returned (.int .i64 0)) w2) := Lib.hid ⟨rfl, h1, (grown_of_below B1.out _).trans h2⟩
  clear h1 h2 RF B1
  go_wp2
  go_ret
  exact G.out
set_option maxRecDepth 100000 in
set_option maxHeartbeats 2000000 in
theorem amount_kind {bad : Nat → Prop} {w : World} {g : Nat} {A : Option Addr} {n c : Nat} {t : Tk} {r : List Tk} (most : Int) (h : SB 78 bad w g A n c (t :: r) 0) (hk : t.kind ≠ 2) :
    Calls Tryd.prog 77 #[.pointer (some ⟨g, 0, none⟩), .int .i64 most] w (Did (fun w' => SP bad w' g [] 2) g (.int .i64 0) w) := by
  have PK := Lib.hid (peek_some h)
  have H := Lib.hid h
  clear h
  have hm : ((t.kind : Int) != 2) = true := bne_iff_ne.2 hk
  clear hk
  obtain ⟨kd, tx, vv, a⟩ := t
  simp only at hm
  have F2 := field_2
  go_enter Tryd.func77, Tryd.ntmps77
  go_wp2_with fail
  refine PK.out.mono ?_
  rintro e w1 ⟨rfl, hb⟩
  have b1 := hb.trans ((below_new w1 (.cells #[.int .i64 kd, .string (str tx), .int .i64 vv, .int .i64 a] 57)).mono hb.size)
  have RF := Lib.hid (refuse_live (H.out.keep b1))
  have B1 := Lib.hid b1
  clear hb PK H b1
  unfold aggT
  go_wp2_with fail
  refine RF.out.mono ?_
  rintro e w2 ⟨rfl, h1, h2⟩
  have G : Hid (Did (fun w' => SP bad w' g [] 2) g (.int .i64 0) w (.returned (.int .i64 0)) w2) := Lib.hid ⟨rfl, h1, (grown_of_below B1.out _).trans h2⟩
  clear h1 h2 RF B1
  go_wp2
  go_ret
  exact G.out
set_option maxRecDepth 100000 in
set_option maxHeartbeats 2000000 in
theorem amount_neg {bad : Nat → Prop} {w : World} {g : Nat} {A : Option Addr} {n c : Nat} {t : Tk} {r : List Tk} (most : Int) (h : SB 78 bad w g A n c (t :: r) 0) (hk : t.kind = 2) (hv : t.value < 0) :
    Calls Tryd.prog 77 #[.pointer (some ⟨g, 0, none⟩), .int .i64 most] w (Did (fun w' => SP bad w' g [] 4) g (.int .i64 0) w) := by
  have PK := Lib.hid (peek_some h)
  have H := Lib.hid h
  clear h
  obtain ⟨kd, tx, vv, a⟩ := t
  simp only at hk hv
  subst hk
  have F2 := field_2
  go_enter Tryd.func77, Tryd.ntmps77
  go_wp2_with fail
  refine PK.out.mono ?_
  rintro e w1 ⟨rfl, hb⟩
  have b1 := hb.trans ((below_new w1 (.cells #[.int .i64 2, .string (str tx), .int .i64 vv, .int .i64 a] 57)).mono hb.size)
  have RF := Lib.hid (fail_set 4 (H.out.keep b1) (by decide))
  have B1 := Lib.hid b1
  clear hb PK H b1
  unfold aggT
  go_wp2_with fail
  refine RF.out.mono ?_
  rintro e w2 ⟨rfl, h1, h2⟩
  have G : Hid (Did (fun w' => SP bad w' g [] 4) g (.int .i64 0) w (.returned (.int .i64 0)) w2) := Lib.hid ⟨rfl, h1, (grown_of_below B1.out _).trans h2⟩
  clear h1 h2 RF B1
  go_wp2
  go_ret
  exact G.out
set_option maxRecDepth 100000 in
set_option maxHeartbeats 2000000 in
theorem amount_most {bad : Nat → Prop} {w : World} {g : Nat} {A : Option Addr} {n c : Nat} {t : Tk} {r : List Tk} (most : Int) (h : SB 78 bad w g A n c (t :: r) 0) (hk : t.kind = 2) (hv : 0 ≤ t.value) (hv2 : most < t.value) :
    Calls Tryd.prog 77 #[.pointer (some ⟨g, 0, none⟩), .int .i64 most] w (Did (fun w' => SP bad w' g [] 4) g (.int .i64 0) w) := by
  have PK := Lib.hid (peek_some h)
  have H := Lib.hid h
  clear h
  obtain ⟨kd, tx, vv, a⟩ := t
  simp only at hk hv hv2
  subst hk
  have hd : decide (vv < 0) = false := decide_eq_false (by omega)
  have hd2 : decide (most < vv) = true := decide_eq_true hv2
  have F2 := field_2
  go_enter Tryd.func77, Tryd.ntmps77
  go_wp2_with fail
  refine PK.out.mono ?_
  rintro e w1 ⟨rfl, hb⟩
  have b1 := hb.trans ((below_new w1 (.cells #[.int .i64 2, .string (str tx), .int .i64 vv, .int .i64 a] 57)).mono hb.size)
  have RF := Lib.hid (fail_set 4 (H.out.keep b1) (by decide))
  have B1 := Lib.hid b1
  clear hb PK H b1
  unfold aggT
  go_wp2_with fail
  refine RF.out.mono ?_
  rintro e w2 ⟨rfl, h1, h2⟩
  have G : Hid (Did (fun w' => SP bad w' g [] 4) g (.int .i64 0) w (.returned (.int .i64 0)) w2) := Lib.hid ⟨rfl, h1, (grown_of_below B1.out _).trans h2⟩
  clear h1 h2 RF B1
  go_wp2
  go_ret
  exact G.out
set_option maxRecDepth 100000 in
set_option maxHeartbeats 2000000 in
theorem amount_yes {bad : Nat → Prop} {w : World} {g : Nat} {A : Option Addr} {n c : Nat} {t : Tk} {r : List Tk} (most : Int) (h : SB 78 bad w g A n c (t :: r) 0) (hk : t.kind = 2) (hv : 0 ≤ t.value) (hv2 : t.value ≤ most) :
    Calls Tryd.prog 77 #[.pointer (some ⟨g, 0, none⟩), .int .i64 most] w (Did (fun w' => SP bad w' g r 0) g (.int .i64 t.value) w) := by
  have PK := Lib.hid (peek_some h)
  have H := Lib.hid h
  clear h
  obtain ⟨kd, tx, vv, a⟩ := t
  simp only at hk hv hv2
  subst hk
  have hd : decide (vv < 0) = false := decide_eq_false (by omega)
  have hd2 : decide (most < vv) = false := decide_eq_false (by omega)
  have F2 := field_2
  go_enter Tryd.func77, Tryd.ntmps77
  go_wp2_with fail
  refine PK.out.mono ?_
  rintro e w1 ⟨rfl, hb⟩
  have b1 := hb.trans ((below_new w1 (.cells #[.int .i64 2, .string (str tx), .int .i64 vv, .int .i64 a] 57)).mono hb.size)
  have RF := Lib.hid (next_some (H.out.keep b1))
  have B1 := Lib.hid b1
  clear hb PK H b1
  unfold aggT
  go_wp2_with fail
  refine RF.out.mono ?_
  rintro e w2 ⟨rfl, h1, h2⟩
  obtain ⟨A', n', c', h3⟩ := h1
  have G : Hid (Did (fun w' => SP bad w' g r 0) g (.int .i64 vv) w (.returned (.int .i64 vv)) w2) := Lib.hid ⟨rfl, h3.sp (fun k => absurd rfl k), (grown_of_below B1.out _).trans h2⟩
  clear h3 h2 RF B1
  unfold aggT
  go_wp2
  go_ret
  exact G.out
end Go.Proofs.YtdlpolnnhhnecaaDoor

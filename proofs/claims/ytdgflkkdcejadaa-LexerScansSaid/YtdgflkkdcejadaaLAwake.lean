/- awake of chapter 6's law: no claim of its own. -/
import Derived.Test.YtdgflkkdcejadaaLMeth
import Derived.Test.YtdgflkkdcejadaaLNew
import Derived.Test.YtdgflkkdcejadaaLJoin
import Derived.Test.YtdgflkkdcejadaaLName
namespace Go.Proofs.Ytdgflkkdcejadaa
open Go.RowKit
def tA : Tk := ⟨1, [97, 49], 0, 0⟩
def tB : Tk := ⟨3, [123], 0, 3⟩
def tC : Tk := ⟨2, [50], 2, 4⟩
theorem toks_a : toks (⟨#[97, 49, 32, 123, 50]⟩ : ByteArray).data.toList = ([tA, tB, tC], 0) := by rfl
theorem toks_x : toks (⟨#[120, 32, 48, 48, 55]⟩ : ByteArray).data.toList = ([], 2) := by rfl
theorem name_a : nameB (⟨#[97, 95, 49]⟩ : ByteArray).data.toList = true := by rfl
theorem name_1 : nameB (⟨#[49, 97]⟩ : ByteArray).data.toList = false := by rfl
theorem name_0 : nameB (⟨#[]⟩ : ByteArray).data.toList = false := by rfl
theorem join_a : joinP [tA, tB, tC] 3 = [97, 49, 123, 50] := by rfl
theorem Tks.lit {w : World} {b : Nat} {T : TypeId} {cs : Array Value} (ts : List Tk) (n : Nat) (h : w.heap[b]? = some (.cells cs T (0, 0))) (hc : cs.toList = cellsTs ts) (hn : ts.length = n) (hf : n ≤ 100000) : Tks w (some ⟨b, 0, none⟩) n n ts := by
  refine ⟨⟨by rw [cellsTs_length, hn], fun _ => ⟨_, rfl, (Array.getElem?_eq_some_iff.1 h).1, fun j u hu => ?_⟩⟩, hn, Nat.le_refl _, hf⟩
  rw [addr_add, Nat.zero_add, cell_of_row w b j _ _ _ h, ← hu, ← hc]
  simp
set_option maxRecDepth 100000 in
set_option maxHeartbeats 1000000 in
theorem next_nil (w : World) : Calls Try.prog 19 #[.pointer none] w (Gives (aggT .zero) w) := by
  have R0 := Lib.hid (TB.new w 33 (.int .i64 0) (.string ⟨#[]⟩) (.int .i64 0) (.int .i64 0))
  have B0 := Lib.hid (below_new w (.cells #[.int .i64 0, .string ⟨#[]⟩, .int .i64 0, .int .i64 0] 33))
  go_enter Try.func19, Try.ntmps19
  go_wp2_with fail
  refine (peek_nil _).mono ?_
  rintro e w1 ⟨rfl, hb⟩
  have b2 := hb.trans ((below_new w1 (.cells #[.int .i64 0, .string ⟨#[]⟩, .int .i64 0, .int .i64 0] 33)).mono hb.size)
  have R2 := R0.out.keep b2
  have B2 := Lib.hid (B0.out.trans (b2.mono B0.out.size))
  have X2 := TB.new w1 33 (.int .i64 0) (.string ⟨#[]⟩) (.int .i64 0) (.int .i64 0)
  obtain ⟨c0, c1, c2, c3⟩ := R2.cells
  obtain ⟨f0, f1, f2, f3⟩ := R2.free
  obtain ⟨x0, x1, x2, x3⟩ := X2.cells
  clear hb b2 R0 B0 R2 X2
  rw [show aggT .zero = Value.agg #[.int .i64 0, .string ⟨#[]⟩, .int .i64 0, .int .i64 0] from rfl]
  go_wp2_with fail
  refine (left_nil _).mono ?_
  rintro e w' ⟨rfl, rfl⟩
  go_wp2
  exact bodyPost_ret (v := .agg #[.int .i64 0, .string ⟨#[]⟩, .int .i64 0, .int .i64 0]) (by simp [results, Try.results19, go_sem, c0, c1, c2, c3]) rfl ⟨rfl, (((B2.out.setCell (by simp) _).setCell (by simp) _).setCell (by simp) _).setCell (by simp) _⟩
theorem zero_same (w : World) : (binOp .eql 33 (aggT .zero) (aggT .zero)).run Try.prog w = .ok (.bool true) w :=
  tok_eql_same _ ⟨by decide, by decide, by decide, by decide, by decide, by decide, by decide⟩ w
theorem fine_abc : AllFine [tA, tB, tC] := by
  intro t ht
  simp only [List.mem_cons, List.not_mem_nil, or_false] at ht
  rcases ht with rfl | rfl | rfl <;> exact ⟨by decide, by decide, by decide, by decide, by decide, by decide, by decide⟩
set_option maxRecDepth 100000 in
set_option maxHeartbeats 8000000 in
theorem awake6 (w : World) : Calls Try.prog 8 #[] w (Gives (.bool true) w) := by
  have J1 : Hid (∀ w', Calls Try.prog 9 #[.string ⟨#[97, 49, 32, 123, 50]⟩] w' (GivesToks ([tA, tB, tC], 0) w')) := Lib.hid fun w' => by
    have := tokens_any ⟨#[97, 49, 32, 123, 50]⟩ (by decide) w'
    rw [toks_a] at this; exact this
  have J2 : Hid (∀ w', Calls Try.prog 9 #[.string ⟨#[120, 32, 48, 48, 55]⟩] w' (GivesToks ([], 2) w')) := Lib.hid fun w' => by
    have := tokens_any ⟨#[120, 32, 48, 48, 55]⟩ (by decide) w'
    rw [toks_x] at this; exact this
  have N1 : Hid (∀ w', Calls Try.prog 12 #[.string ⟨#[97, 95, 49]⟩] w' (Gives (.bool true) w')) := Lib.hid fun w' => by
    have := isName_any ⟨#[97, 95, 49]⟩ (by decide) w'
    rw [name_a] at this; exact this
  have N2 : Hid (∀ w', Calls Try.prog 12 #[.string ⟨#[49, 97]⟩] w' (Gives (.bool false) w')) := Lib.hid fun w' => by
    have := isName_any ⟨#[49, 97]⟩ (by decide) w'
    rw [name_1] at this; exact this
  have N3 : Hid (∀ w', Calls Try.prog 12 #[.string ⟨#[]⟩] w' (Gives (.bool false) w')) := Lib.hid fun w' => by
    have := isName_any ⟨#[]⟩ (by decide) w'
    rw [name_0] at this; exact this
  have B0 := Lib.hid (Below.refl w.heap.size w)
  have ZS := zero_same
  rw [show aggT .zero = Value.agg #[.int .i64 0, .string ⟨#[]⟩, .int .i64 0, .int .i64 0] from rfl] at ZS
  go_enter Try.func8, Try.ntmps8
  go_wp2_with fail
  refine (J1.out _).mono ?_
  rintro e w1 ⟨A1, n1, c1, rfl, ht, hb⟩
  obtain rfl : n1 = 3 := ht.len.symm
  have T1 := Lib.hid ht
  have B1 := Lib.hid (B0.out.trans (hb.mono B0.out.size))
  clear ht hb J1 B0
  go_wp2_with fail
  refine (J2.out _).mono ?_
  rintro e w2 ⟨A2, n2, c2, rfl, ht, hb⟩
  have T2 := Lib.hid (T1.out.keep hb)
  have B2 := Lib.hid (B1.out.trans (hb.mono B1.out.size))
  clear ht hb J2 B1 T1
  go_wp2_with fail
  have bw := below_new w2 (.cells #[.int .i64 1, .string ⟨#[97, 49]⟩, .int .i64 0, .int .i64 0, .int .i64 3, .string ⟨#[123]⟩, .int .i64 0, .int .i64 3, .int .i64 2, .string ⟨#[50]⟩, .int .i64 2, .int .i64 4] 33)
  have W3 := Lib.hid (Tks.lit [tA, tB, tC] 3 (heap_new w2 (.cells #[.int .i64 1, .string ⟨#[97, 49]⟩, .int .i64 0, .int .i64 0, .int .i64 3, .string ⟨#[123]⟩, .int .i64 0, .int .i64 3, .int .i64 2, .string ⟨#[50]⟩, .int .i64 2, .int .i64 4] 33)) rfl rfl (by decide))
  have T3 := Lib.hid (T2.out.keep bw)
  have B3 := Lib.hid (B2.out.trans (bw.mono B2.out.size))
  clear bw T2 B2
  refine (new_any _ _ _ _ _ T3.out).mono ?_
  rintro e w4 ⟨g, A4, n4, c4, rfl, hblk, ht, hfar, hg, hb⟩
  have SB4 : SB 73 (fun k => k = g) w4 g A4 n4 c4 [tA, tB, tC] 0 := ⟨hblk, ht, fun ad ha => by have := (hfar ad ha).2; show ¬ ad.block = g; omega, rfl⟩
  have T4 := Lib.hid (T3.out.keep hb)
  have W4 := Lib.hid (W3.out.keep hb)
  have B4 := Lib.hid (B3.out.trans (hb.mono B3.out.size))
  have hgw : w.heap.size ≤ g := Nat.le_trans B3.out.size hg
  have NM := Lib.hid (name_yes SB4 rfl)
  have GT := Lib.hid (show ∀ ad, A1 = some ad → ad.block ≠ g from fun ad ha => by
    obtain ⟨ad', e', hb', _⟩ := T3.out.reads.2 (by decide)
    rw [ha] at e'; injection e' with e'; subst e'; omega)
  have hw2 : w2.heap.size + 1 ≤ g := by simpa using hg
  have GW := Lib.hid (show w2.heap.size ≠ g from by omega)
  clear hblk ht hfar hg hb SB4 T3 W3 B3
  go_wp2_with fail
  refine NM.out.mono ?_
  rintro e w5 ⟨rfl, ⟨A5, n5, c5, h5, _⟩, hg5⟩
  have T5 := Lib.hid (T4.out.far (bad := fun k => k = g) (fun ad ha => GT.out ad ha) hg5 rfl)
  have W5 := Lib.hid (W4.out.far (bad := fun k => k = g) (fun ad ha => by injection ha with ha; rw [← ha]; exact GW.out) hg5 rfl)
  have B5 := Lib.hid (B4.out.trans (grown_below hg5 hgw B4.out.size))
  have EX := Lib.hid (expect_yes ⟨#[123]⟩ h5 rfl rfl)
  clear h5 hg5 NM T4 W4 B4
  rw [show str tA.text = (⟨#[97, 49]⟩ : ByteArray) from rfl]
  go_wp2_with fail
  refine EX.out.mono ?_
  rintro e w6 ⟨rfl, ⟨A6, n6, c6, h6, _⟩, hg6⟩
  have T6 := Lib.hid (T5.out.far (bad := fun k => k = g) (fun ad ha => GT.out ad ha) hg6 rfl)
  have W6 := Lib.hid (W5.out.far (bad := fun k => k = g) (fun ad ha => by injection ha with ha; rw [← ha]; exact GW.out) hg6 rfl)
  have B6 := Lib.hid (B5.out.trans (grown_below hg6 hgw B5.out.size))
  have AM := Lib.hid (amount_most 1 h6 rfl (by decide) (by decide))
  clear h6 hg6 EX T5 W5 B5
  go_wp2_with fail
  refine AM.out.mono ?_
  rintro e w7 ⟨rfl, ⟨A7, n7, c7, h7, _⟩, hg7⟩
  have T7 := Lib.hid (T6.out.far (bad := fun k => k = g) (fun ad ha => GT.out ad ha) hg7 rfl)
  have W7 := Lib.hid (W6.out.far (bad := fun k => k = g) (fun ad ha => by injection ha with ha; rw [← ha]; exact GW.out) hg7 rfl)
  have B7 := Lib.hid (B6.out.trans (grown_below hg7 hgw B6.out.size))
  have S7 := Lib.hid h7
  clear h7 hg7 AM T6 W6 B6
  go_wp2_with fail
  refine (equal_yes _ _ _ _ _ _ _ _ T7.out W7.out fine_abc).mono ?_
  rintro e w8 ⟨rfl, hb⟩
  have T8 := Lib.hid (T7.out.keep hb)
  have S8 := Lib.hid (S7.out.keep hb)
  have B8 := Lib.hid (B7.out.trans (hb.mono B7.out.size))
  clear hb T7 W7 S7 B7
  go_wp2_with fail
  refine (N1.out _).mono ?_
  rintro e w9 ⟨rfl, hb⟩
  have T9 := Lib.hid (T8.out.keep hb)
  have S9 := Lib.hid (S8.out.keep hb)
  have B9 := Lib.hid (B8.out.trans (hb.mono B8.out.size))
  clear hb T8 S8 B8 N1
  go_wp2_with fail
  refine (N2.out _).mono ?_
  rintro e w10 ⟨rfl, hb⟩
  have T10 := Lib.hid (T9.out.keep hb)
  have S10 := Lib.hid (S9.out.keep hb)
  have B10 := Lib.hid (B9.out.trans (hb.mono B9.out.size))
  clear hb T9 S9 B9 N2
  go_wp2_with fail
  refine (N3.out _).mono ?_
  rintro e w11 ⟨rfl, hb⟩
  have T11 := Lib.hid (T10.out.keep hb)
  have S11 := Lib.hid (S10.out.keep hb)
  have B11 := Lib.hid (B10.out.trans (hb.mono B10.out.size))
  have JN : Hid (∀ w', Tks w' A1 3 c1 [tA, tB, tC] → Calls Try.prog 14 #[.slice A1 3 c1] w' (Gives (.string ⟨#[97, 49, 123, 50]⟩) w')) := Lib.hid fun w' h => by
    have := join_any A1 3 c1 _ w' h (by rw [join_a]; decide)
    rw [join_a] at this
    exact this
  clear hb T10 S10 B10 N3
  go_wp2_with fail
  refine (JN.out _ T11.out).mono ?_
  rintro e w12 ⟨rfl, hb⟩
  have S12 := Lib.hid (S11.out.keep hb)
  have B12 := Lib.hid (B11.out.trans (hb.mono B11.out.size))
  clear hb T11 S11 B11 JN
  go_wp2_with fail
  refine (err_any S12.out).mono ?_
  rintro e w' ⟨rfl, rfl⟩
  go_wp2_with fail
  refine (end_empty S12.out).mono ?_
  rintro e w' ⟨rfl, rfl⟩
  go_wp2_with fail
  refine (err_nil _).mono ?_
  rintro e w' ⟨rfl, rfl⟩
  go_wp2_with fail
  refine (next_nil _).mono ?_
  rintro e w13 ⟨rfl, hb⟩
  have B13 := Lib.hid (B12.out.trans (hb.mono B12.out.size))
  clear hb S12 B12
  rw [show aggT .zero = Value.agg #[.int .i64 0, .string ⟨#[]⟩, .int .i64 0, .int .i64 0] from rfl]
  go_wp2
  go_ret
  exact ⟨rfl, B13.out⟩
end Go.Proofs.Ytdgflkkdcejadaa

/- Next, of the package's scanner: no claim of its own. -/
import Derived.Test.YtdlpolnnhhnecaaDoorLScan
namespace Go.Proofs.YtdlpolnnhhnecaaDoor
open Go.RowKit
section
variable {T : TypeId} {bad : Nat → Prop} {w w' : World} {g q : Nat} {A : Option Addr} {n c : Nat} {L : List Tk} {e : Int}
theorem SB.poke (h : SB T bad w g A n c L e) (hq : g ≠ q) (hf : ∀ ad, A = some ad → ad.block ≠ q) (i : Nat) (u : Value) : SB T bad (w.setCell ⟨q, i, none⟩ u) g A n c L e :=
  ⟨(Below.heap_setCell w ⟨q, i, none⟩ u g hq).trans h.blk, h.tks.far (bad := fun k => k = q) (fun ad ha => hf ad ha) (grown_set w q i u) rfl, h.far, h.own⟩
theorem grown_poke (h : w.grownBy w' (some g)) (hq : w.heap.size ≤ q) (i : Nat) (u : Value) : w.grownBy (w'.setCell ⟨q, i, none⟩ u) (some g) :=
  ⟨h.os, h.tape, h.output, by have := h.size; simpa [World.setCell] using this, fun k hk hne => (Below.heap_setCell w' ⟨q, i, none⟩ u k (by show k ≠ q; omega)).trans (h.block k hk hne)⟩
theorem tail_block {ad : Addr} {k : Nat} {B : Option Addr} (h : B = (if c = 1 then some ad else (some ad).map (·.add k))) : ∀ x, B = some x → x.block = ad.block := by
  intro x hx
  rw [h] at hx
  by_cases hc : c = 1
  · rw [if_pos hc] at hx; injection hx with hx; rw [← hx]
  · rw [if_neg hc] at hx; injection hx with hx; rw [← hx, block_of_add]
end
set_option maxRecDepth 100000 in
set_option maxHeartbeats 1000000 in
theorem next_none {bad : Nat → Prop} {w : World} {g : Nat} {A : Option Addr} {n c : Nat} {er : Int} (h : SB 78 bad w g A n c [] er) :
    Calls Tryd.prog 75 #[.pointer (some ⟨g, 0, none⟩)] w (Gives (aggT .zero) w) := by
  have b1 := below_new w (.cells #[.int .i64 0, .string ⟨#[]⟩, .int .i64 0, .int .i64 0] 57)
  have PK := Lib.hid (peek_none (h.keep b1))
  have H1 := Lib.hid (h.keep b1)
  have R0 := Lib.hid (TB.new w 57 (.int .i64 0) (.string ⟨#[]⟩) (.int .i64 0) (.int .i64 0))
  have B0 := Lib.hid b1
  have hn := Lib.hid h.tks.empty
  clear h b1
  go_enter Tryd.func75, Tryd.ntmps75
  go_wp2_with fail
  refine PK.out.mono ?_
  rintro e w1 ⟨rfl, hb⟩
  have b2 := hb.trans ((below_new w1 (.cells #[.int .i64 0, .string ⟨#[]⟩, .int .i64 0, .int .i64 0] 57)).mono hb.size)
  have LF := left_any (H1.out.keep b2)
  rw [hn.out] at LF
  have L := Lib.hid LF
  have R2 := R0.out.keep b2
  have B2 := Lib.hid (B0.out.trans (b2.mono B0.out.size))
  have X2 := TB.new w1 57 (.int .i64 0) (.string ⟨#[]⟩) (.int .i64 0) (.int .i64 0)
  obtain ⟨c0, c1, c2, c3⟩ := R2.cells
  obtain ⟨f0, f1, f2, f3⟩ := R2.free
  obtain ⟨x0, x1, x2, x3⟩ := X2.cells
  clear hb b2 LF PK H1 R0 B0 R2 X2
  unfold aggT
  go_wp2_with fail
  refine L.out.mono ?_
  rintro e w' ⟨rfl, rfl⟩
  go_wp2
  exact bodyPost_ret (v := .agg #[.int .i64 0, .string ⟨#[]⟩, .int .i64 0, .int .i64 0]) (by simp [results, Tryd.results75, go_sem, c0, c1, c2, c3]) rfl ⟨rfl, (((B2.out.setCell (by simp) _).setCell (by simp) _).setCell (by simp) _).setCell (by simp) _⟩
/-- Next consumed the token t. -/
def Took (T : TypeId) (bad : Nat → Prop) (g : Nat) (t : Tk) (r : List Tk) (er : Int) (w : World) (e : Ending) (w' : World) : Prop :=
  e = .returned (aggT t) ∧ (∃ A n c, SB T bad w' g A n c r er) ∧ w.grownBy w' (some g)
set_option maxRecDepth 100000 in
set_option maxHeartbeats 2000000 in
theorem next_some {bad : Nat → Prop} {w : World} {g : Nat} {A : Option Addr} {n c : Nat} {t : Tk} {r : List Tk} {er : Int} (h : SB 78 bad w g A n c (t :: r) er) :
    Calls Tryd.prog 75 #[.pointer (some ⟨g, 0, none⟩)] w (Took 78 bad g t r er w) := by
  have b1 := below_new w (.cells #[.int .i64 0, .string ⟨#[]⟩, .int .i64 0, .int .i64 0] 57)
  have PK := Lib.hid (peek_some (h.keep b1))
  have H0 := Lib.hid h
  have R0 := Lib.hid (TB.new w 57 (.int .i64 0) (.string ⟨#[]⟩) (.int .i64 0) (.int .i64 0))
  have B0 := Lib.hid b1
  have hn : 0 < n := by rw [← h.tks.len]; simp
  have hf := h.tks.few
  have hcap := h.tks.cap
  have hg := h.lt
  obtain ⟨ad, hA, hab, _⟩ := h.tks.head
  have hfar := Lib.hid (h.far ad hA)
  subst hA
  clear h b1
  obtain ⟨kd, tx, vv, a⟩ := t
  by_cases hc1 : c = 1
  · subst hc1
    obtain rfl : n = 1 := by omega
    go_enter Tryd.func75, Tryd.ntmps75
    go_wp2_with fail
    refine PK.out.mono ?_
    rintro e w1 ⟨rfl, hb⟩
    have b2 := hb.trans ((below_new w1 (.cells #[.int .i64 kd, .string (str tx), .int .i64 vv, .int .i64 a] 57)).mono hb.size)
    have H2 := H0.out.keep (B0.out.trans (b2.mono B0.out.size))
    have L := Lib.hid (left_any H2)
    have s0 := H2.c0
    have g0 := H2.f 0
    have R2 := R0.out.keep b2
    have B2 := B0.out.trans (b2.mono B0.out.size)
    have X2 := TB.new w1 57 (.int .i64 kd) (.string (str tx)) (.int .i64 vv) (.int .i64 a)
    have hs1 := b2.size
    have hs2 : w.heap.size < w1.heap.size := by have := hb.size; simp at this; omega
    obtain ⟨x0, x1, x2, x3⟩ := X2.cells
    have X3 : TB ((w1.alloc (.cells #[.int .i64 kd, .string (str tx), .int .i64 vv, .int .i64 a] 57)).setCell ⟨g, 0, none⟩ (.slice (some ad) 0 0)) w1.heap.size 57 (.int .i64 kd) (.string (str tx)) (.int .i64 vv) (.int .i64 a) := (Below.heap_setCell _ ⟨g, 0, none⟩ _ w1.heap.size (by show w1.heap.size ≠ g; omega)).trans X2
    have R3 : TB ((w1.alloc (.cells #[.int .i64 kd, .string (str tx), .int .i64 vv, .int .i64 a] 57)).setCell ⟨g, 0, none⟩ (.slice (some ad) 0 0)) w.heap.size 57 (.int .i64 0) (.string ⟨#[]⟩) (.int .i64 0) (.int .i64 0) := (Below.heap_setCell _ ⟨g, 0, none⟩ _ w.heap.size (by show w.heap.size ≠ g; omega)).trans R2
    have S3 : Hid (SB 78 bad ((w1.alloc (.cells #[.int .i64 kd, .string (str tx), .int .i64 vv, .int .i64 a] 57)).setCell ⟨g, 0, none⟩ (.slice (some ad) 0 0)) g (some ad) 0 0 r er) := Lib.hid (H2.put0 (A' := (some ad)) (n' := 0) (c' := 0) (L' := r) (by have := H2.tks.tail; rw [if_pos rfl] at this; exact this) (fun x hx => by injection hx with hx; rw [← hx]; exact hfar.out))
    have G3 : Hid (w.grownBy ((w1.alloc (.cells #[.int .i64 kd, .string (str tx), .int .i64 vv, .int .i64 a] 57)).setCell ⟨g, 0, none⟩ (.slice (some ad) 0 0)) (some g)) := Lib.hid ((grown_of_below B2 (some g)).trans (grown_set _ g 0 _))
    have FB : Hid (∀ x : Addr, (some ad) = some x → x.block ≠ w.heap.size) := Lib.hid (fun x hx => by injection hx with hx; rw [← hx]; show ad.block ≠ _; omega)
    have hgq : g ≠ w.heap.size := by omega
    obtain ⟨y0, y1, y2, y3⟩ := X3.cells
    obtain ⟨c0, c1, c2, c3⟩ := R3.cells
    obtain ⟨f0, f1, f2, f3⟩ := R3.free
    clear hb b2 PK H0 R0 B0 R2 X2 H2 B2 X3 R3
    unfold aggT
    go_wp2_with fail
    refine L.out.mono ?_
    rintro e w' ⟨rfl, rfl⟩
    go_wp2
    exact bodyPost_ret (v := .agg #[.int .i64 kd, .string (str tx), .int .i64 vv, .int .i64 a]) (by simp [results, Tryd.results75, go_sem, c0, c1, c2, c3]) rfl ⟨rfl, ⟨_, _, _, (((S3.out.poke hgq FB.out 0 _).poke hgq FB.out 1 _).poke hgq FB.out 2 _).poke hgq FB.out 3 _⟩, grown_poke (grown_poke (grown_poke (grown_poke G3.out (Nat.le_refl _) 0 _) (Nat.le_refl _) 1 _) (Nat.le_refl _) 2 _) (Nat.le_refl _) 3 _⟩
  · go_enter Tryd.func75, Tryd.ntmps75
    go_wp2_with fail
    refine PK.out.mono ?_
    rintro e w1 ⟨rfl, hb⟩
    have b2 := hb.trans ((below_new w1 (.cells #[.int .i64 kd, .string (str tx), .int .i64 vv, .int .i64 a] 57)).mono hb.size)
    have H2 := H0.out.keep (B0.out.trans (b2.mono B0.out.size))
    have L := Lib.hid (left_any H2)
    have s0 := H2.c0
    have g0 := H2.f 0
    have R2 := R0.out.keep b2
    have B2 := B0.out.trans (b2.mono B0.out.size)
    have X2 := TB.new w1 57 (.int .i64 kd) (.string (str tx)) (.int .i64 vv) (.int .i64 a)
    have hs1 := b2.size
    have hs2 : w.heap.size < w1.heap.size := by have := hb.size; simp at this; omega
    obtain ⟨x0, x1, x2, x3⟩ := X2.cells
    have X3 : TB ((w1.alloc (.cells #[.int .i64 kd, .string (str tx), .int .i64 vv, .int .i64 a] 57)).setCell ⟨g, 0, none⟩ (.slice (some ⟨ad.block, ad.off + 4, none⟩) (n - 1) (c - 1))) w1.heap.size 57 (.int .i64 kd) (.string (str tx)) (.int .i64 vv) (.int .i64 a) := (Below.heap_setCell _ ⟨g, 0, none⟩ _ w1.heap.size (by show w1.heap.size ≠ g; omega)).trans X2
    have R3 : TB ((w1.alloc (.cells #[.int .i64 kd, .string (str tx), .int .i64 vv, .int .i64 a] 57)).setCell ⟨g, 0, none⟩ (.slice (some ⟨ad.block, ad.off + 4, none⟩) (n - 1) (c - 1))) w.heap.size 57 (.int .i64 0) (.string ⟨#[]⟩) (.int .i64 0) (.int .i64 0) := (Below.heap_setCell _ ⟨g, 0, none⟩ _ w.heap.size (by show w.heap.size ≠ g; omega)).trans R2
    have S3 : Hid (SB 78 bad ((w1.alloc (.cells #[.int .i64 kd, .string (str tx), .int .i64 vv, .int .i64 a] 57)).setCell ⟨g, 0, none⟩ (.slice (some ⟨ad.block, ad.off + 4, none⟩) (n - 1) (c - 1))) g (some ⟨ad.block, ad.off + 4, none⟩) (n - 1) (c - 1) r er) := Lib.hid (H2.put0 (A' := (some ⟨ad.block, ad.off + 4, none⟩)) (n' := (n - 1)) (c' := (c - 1)) (L' := r) (by have := H2.tks.tail; rw [if_neg hc1] at this; exact this) (fun x hx => by injection hx with hx; rw [← hx]; exact hfar.out))
    have G3 : Hid (w.grownBy ((w1.alloc (.cells #[.int .i64 kd, .string (str tx), .int .i64 vv, .int .i64 a] 57)).setCell ⟨g, 0, none⟩ (.slice (some ⟨ad.block, ad.off + 4, none⟩) (n - 1) (c - 1))) (some g)) := Lib.hid ((grown_of_below B2 (some g)).trans (grown_set _ g 0 _))
    have FB : Hid (∀ x : Addr, (some ⟨ad.block, ad.off + 4, none⟩) = some x → x.block ≠ w.heap.size) := Lib.hid (fun x hx => by injection hx with hx; rw [← hx]; show ad.block ≠ _; omega)
    have hgq : g ≠ w.heap.size := by omega
    obtain ⟨y0, y1, y2, y3⟩ := X3.cells
    obtain ⟨c0, c1, c2, c3⟩ := R3.cells
    obtain ⟨f0, f1, f2, f3⟩ := R3.free
    clear hb b2 PK H0 R0 B0 R2 X2 H2 B2 X3 R3
    unfold aggT
    go_wp2_with fail
    refine L.out.mono ?_
    rintro e w' ⟨rfl, rfl⟩
    go_wp2
    exact bodyPost_ret (v := .agg #[.int .i64 kd, .string (str tx), .int .i64 vv, .int .i64 a]) (by simp [results, Tryd.results75, go_sem, c0, c1, c2, c3]) rfl ⟨rfl, ⟨_, _, _, (((S3.out.poke hgq FB.out 0 _).poke hgq FB.out 1 _).poke hgq FB.out 2 _).poke hgq FB.out 3 _⟩, grown_poke (grown_poke (grown_poke (grown_poke G3.out (Nat.le_refl _) 0 _) (Nat.le_refl _) 1 _) (Nat.le_refl _) 2 _) (Nat.le_refl _) 3 _⟩
end Go.Proofs.YtdlpolnnhhnecaaDoor

/- LScan, LNext, LMeth, CUni, joined: no claim of its own. -/
import Derived.Test.YtcokplikmjegcaaGreatDoorJA
import Derived.Test.YtcokplikmjegcaaGreatDoorJC
namespace Go.Proofs.YtcokplikmjegcaaGreatDoor
open Go.RowKit
theorem grown_set (w : World) (g o : Nat) (u : Value) : w.grownBy (w.setCell ⟨g, o, none⟩ u) (some g) :=
  ⟨rfl, rfl, rfl, by simp [World.setCell], fun k _ hne => by simp [World.setCell, Array.getElem?_modify]; intro h; exact absurd (by rw [h]) hne⟩
theorem grown_below {a b : World} {g B : Nat} (h : a.grownBy b (some g)) (hg : B ≤ g) (hB : B ≤ a.heap.size) : Below B a b :=
  (Below.refl B a).grown h hB (fun k hk => by injection hk with hk; omega)
theorem grown_of_below {a b : World} (h : Below a.heap.size a b) (r : Option Nat) : a.grownBy b r := ⟨h.os, h.tape, h.output, h.size, fun k hk _ => h.block k hk⟩
/-- Block g is a scanner of the tokens L with the error e; its tokens lie in no block of 'bad'. -/
structure SB (T : TypeId) (bad : Nat → Prop) (w : World) (g : Nat) (A : Option Addr) (n c : Nat) (L : List Tk) (e : Int) : Prop where
  blk : w.heap[g]? = some (.cells #[.slice A n c, .int .i64 e] T (0, 0))
  tks : Tks w A n c L
  far : ∀ ad, A = some ad → ¬ bad ad.block
  own : bad g
section
variable {T : TypeId} {bad : Nat → Prop} {w w' : World} {g : Nat} {A : Option Addr} {n c : Nat} {L : List Tk} {e : Int}
theorem SB.lt (h : SB T bad w g A n c L e) : g < w.heap.size := (Array.getElem?_eq_some_iff.1 h.blk).1
theorem SB.keep (h : SB T bad w g A n c L e) (hb : Below w.heap.size w w') : SB T bad w' g A n c L e := ⟨(hb.block g h.lt).trans h.blk, h.tks.keep hb, h.far, h.own⟩
theorem SB.c0 (h : SB T bad w g A n c L e) : w.cell? ⟨g, 0, none⟩ = some (.slice A n c) := by rw [cell_of_row w g 0 _ _ _ h.blk]; rfl
theorem SB.c1 (h : SB T bad w g A n c L e) : w.cell? ⟨g, 1, none⟩ = some (.int .i64 e) := by rw [cell_of_row w g 1 _ _ _ h.blk]; rfl
theorem SB.f (h : SB T bad w g A n c L e) (i : Nat) : w.frozen? ⟨g, i, none⟩ = false := by
  have h' := h.blk
  simp [World.frozen?, h']
/-- What a call does elsewhere does not touch the tokens. -/
theorem Tks.far (h : Tks w A n c L) (hf : ∀ ad, A = some ad → ¬ bad ad.block) (hg : w.grownBy w' (some g)) (hb : bad g) : Tks w' A n c L :=
  ⟨⟨h.reads.1, fun hn => by
    obtain ⟨ad, ea, hlt, hc⟩ := h.reads.2 hn
    refine ⟨ad, ea, Nat.lt_of_lt_of_le hlt hg.size, fun j u hu => ?_⟩
    refine hg.cell (hc j u hu) ?_
    rw [block_of_add]
    intro x
    injection x with x
    exact hf ad ea (x ▸ hb)⟩, h.len, h.cap, h.few⟩
theorem SB.other {g' : Nat} (h : SB T bad w g A n c L e) (hg : w.grownBy w' (some g')) (hb : bad g') (hne : g ≠ g') : SB T bad w' g A n c L e :=
  ⟨(hg.block g h.lt (fun x => by injection x with x; exact hne x)).trans h.blk, h.tks.far h.far hg hb, h.far, h.own⟩
theorem SB.put0 (h : SB T bad w g A n c L e) {A' : Option Addr} {n' c' : Nat} {L' : List Tk} (ht : Tks w A' n' c' L') (hf : ∀ ad, A' = some ad → ¬ bad ad.block) :
    SB T bad (w.setCell ⟨g, 0, none⟩ (.slice A' n' c')) g A' n' c' L' e :=
  ⟨by rw [heap_setCell_same w g 0 _ _ _ h.blk]; rfl, ht.far hf (grown_set w g 0 _) h.own, hf, h.own⟩
theorem SB.put1 (h : SB T bad w g A n c L e) (e' : Int) : SB T bad (w.setCell ⟨g, 1, none⟩ (.int .i64 e')) g A n c L e' :=
  ⟨by rw [heap_setCell_same w g 1 _ _ _ h.blk]; rfl, h.tks.far h.far (grown_set w g 1 _) h.own, h.far, h.own⟩
theorem Tks.empty {A : Option Addr} {n c : Nat} (h : Tks w A n c []) : n = 0 := h.len.symm
theorem Tks.head {t : Tk} {r : List Tk} (h : Tks w A n c (t :: r)) : ∃ ad, A = some ad ∧ ad.block < w.heap.size ∧ w.cell? ad = some (.int .i64 t.kind) ∧ w.cell? ⟨ad.block, ad.off + 1, none⟩ = some (.string (str t.text)) ∧
    w.cell? ⟨ad.block, ad.off + 2, none⟩ = some (.int .i64 t.value) ∧ w.cell? ⟨ad.block, ad.off + 3, none⟩ = some (.int .i64 t.at_) := by
  have hl := h.len
  obtain ⟨ad, u, ea, e1, hb, x0, x1, x2, x3⟩ := h.at_ (k := 0) (by rw [← hl]; simp)
  simp at e1
  subst e1
  have e0 : ad.add (0 * 4) = ad := by unfold Addr.add; simp
  rw [e0] at x0 x1 x2 x3
  exact ⟨ad, ea, hb, x0, x1, x2, x3⟩
theorem Tks.tail {t : Tk} {r : List Tk} (h : Tks w A n c (t :: r)) : Tks w (if c = 1 then A else A.map (·.add (1 * 4))) (n - 1) (c - 1) r := by
  have hl := h.len
  have hn : 1 ≤ n := by rw [← hl]; simp
  have hc := h.cap
  have := h.reads.cut (k := 1) hn hc
  rw [cellsTs_drop] at this
  exact ⟨this, by simp at hl; omega, by omega, by have := h.few; omega⟩
end
/-- The package's scanner: after an error it has no tokens. -/
def SP (bad : Nat → Prop) (w : World) (g : Nat) (ts : List Tk) (e : Int) : Prop := ∃ A n c, SB 102 bad w g A n c ts e ∧ (e ≠ 0 → ts = [])
theorem SP.keep {bad : Nat → Prop} {w w' : World} {g : Nat} {ts : List Tk} {e : Int} (h : SP bad w g ts e) (hb : Below w.heap.size w w') : SP bad w' g ts e := by
  obtain ⟨A, n, c, h1, h2⟩ := h; exact ⟨A, n, c, h1.keep hb, h2⟩
theorem SP.lt {bad : Nat → Prop} {w : World} {g : Nat} {ts : List Tk} {e : Int} (h : SP bad w g ts e) : g < w.heap.size := by obtain ⟨A, n, c, h1, _⟩ := h; exact h1.lt
/-- What a call of a scanner does: its answer, and the scanner behind it. -/
def Did (S : World → Prop) (g : Nat) (v : Value) (w : World) (e : Ending) (w' : World) : Prop := e = .returned v ∧ S w' ∧ w.grownBy w' (some g)
def headT : List Tk → Tk
  | [] => .zero
  | t :: _ => t
set_option maxRecDepth 100000 in
theorem left_any {bad : Nat → Prop} {w : World} {g : Nat} {A : Option Addr} {n c : Nat} {L : List Tk} {e : Int} (h : SB 102 bad w g A n c L e) :
    Calls Tryz.prog 60 #[.pointer (some ⟨g, 0, none⟩)] w fun e w' => e = .returned (.int .i64 n) ∧ w = w' := by
  have c0 := h.c0
  have hf := h.tks.few
  clear h
  go_enter Tryz.func60, Tryz.ntmps60
  go_wp2
  go_ret
  exact ⟨rfl, rfl⟩
set_option maxRecDepth 100000 in
theorem err_any {bad : Nat → Prop} {w : World} {g : Nat} {A : Option Addr} {n c : Nat} {L : List Tk} {er : Int} (h : SB 102 bad w g A n c L er) :
    Calls Tryz.prog 61 #[.pointer (some ⟨g, 0, none⟩)] w fun e w' => e = .returned (.int .i64 er) ∧ w = w' := by
  have c1 := h.c1
  clear h
  go_enter Tryz.func61, Tryz.ntmps61
  go_wp2
  go_ret
  exact ⟨rfl, rfl⟩
set_option maxRecDepth 100000 in
set_option maxHeartbeats 1000000 in
theorem peek_none {bad : Nat → Prop} {w : World} {g : Nat} {A : Option Addr} {n c : Nat} {er : Int} (h : SB 102 bad w g A n c [] er) :
    Calls Tryz.prog 92 #[.pointer (some ⟨g, 0, none⟩)] w (Gives (aggT .zero) w) := by
  have L := Lib.hid (left_any (h.keep (below_new w (.cells #[.int .i64 0, .string ⟨#[]⟩, .int .i64 0, .int .i64 0] 97))))
  have hn := h.tks.empty
  rw [hn] at L
  clear h hn
  go_enter Tryz.func92, Tryz.ntmps92
  go_wp2_with fail
  refine L.out.mono ?_
  rintro e w' ⟨rfl, rfl⟩
  go_wp2
  exact bodyPost_ret (v := .agg #[.int .i64 0, .string ⟨#[]⟩, .int .i64 0, .int .i64 0]) (by simp [results, Tryz.results92, go_sem]) rfl ⟨rfl, below_new _ _⟩
set_option maxRecDepth 100000 in
set_option maxHeartbeats 1000000 in
theorem peek_some {bad : Nat → Prop} {w : World} {g : Nat} {A : Option Addr} {n c : Nat} {t : Tk} {r : List Tk} {er : Int} (h : SB 102 bad w g A n c (t :: r) er) :
    Calls Tryz.prog 92 #[.pointer (some ⟨g, 0, none⟩)] w (Gives (aggT t) w) := by
  have h' := h.keep (below_new w (.cells #[.int .i64 0, .string ⟨#[]⟩, .int .i64 0, .int .i64 0] 97))
  have L := Lib.hid (left_any h')
  have c0 := h'.c0
  have hn : 0 < n := by rw [← h.tks.len]; simp
  have hf := h.tks.few
  obtain ⟨ad, hA, hb, x0, x1, x2, x3⟩ := h'.tks.head
  obtain ⟨ad', hA', hb', y0, y1, y2, y3⟩ := h.tks.head
  obtain rfl : ad = ad' := by rw [hA] at hA'; injection hA'
  subst hA
  clear h h' hb hA'
  obtain ⟨kd, tx, vv, a⟩ := t
  unfold aggT
  simp only at x0 x1 x2 x3 y0 y1 y2 y3 ⊢
  go_enter Tryz.func92, Tryz.ntmps92
  go_wp2_with fail
  refine L.out.mono ?_
  rintro e w' ⟨rfl, rfl⟩
  go_wp2
  exact bodyPost_ret (v := .agg #[.int .i64 kd, .string (str tx), .int .i64 vv, .int .i64 a]) (by simp [results, Tryz.results92, go_sem]) rfl ⟨rfl, below_new _ _⟩
theorem peek_any {bad : Nat → Prop} {w : World} {g : Nat} {A : Option Addr} {n c : Nat} {L : List Tk} {er : Int} (h : SB 102 bad w g A n c L er) :
    Calls Tryz.prog 92 #[.pointer (some ⟨g, 0, none⟩)] w (Gives (aggT (headT L)) w) := by
  cases L with
  | nil => exact peek_none h
  | cons t r => exact peek_some h
end Go.Proofs.YtcokplikmjegcaaGreatDoor
namespace Go.Proofs.YtcokplikmjegcaaGreatDoor
open Go.RowKit
section
variable {T : TypeId} {bad : Nat → Prop} {w w' : World} {g q : Nat} {A : Option Addr} {n c : Nat} {L : List Tk} {e : Int}
theorem SB.poke (h : SB T bad w g A n c L e) (hq : g ≠ q) (hf : ∀ ad, A = some ad → ad.block ≠ q) (i : Nat) (u : Value) : SB T bad (w.setCell ⟨q, i, none⟩ u) g A n c L e :=
  ⟨(Below.heap_setCell w ⟨q, i, none⟩ u g hq).trans h.blk, h.tks.far (bad := fun k => k = q) (fun ad ha => hf ad ha) (grown_set w q i u) rfl, h.far, h.own⟩
theorem grown_poke (h : w.grownBy w' (some g)) (hq : w.heap.size ≤ q) (i : Nat) (u : Value) : w.grownBy (w'.setCell ⟨q, i, none⟩ u) (some g) :=
  ⟨h.os, h.tape, h.output, by have := h.size; simpa [World.setCell] using this, fun k hk hne => (Below.heap_setCell w' ⟨q, i, none⟩ u k (by show k ≠ q; omega)).trans (h.block k hk hne)⟩
end
/-- Next consumed the token t. -/
def Took (T : TypeId) (bad : Nat → Prop) (g : Nat) (t : Tk) (r : List Tk) (er : Int) (w : World) (e : Ending) (w' : World) : Prop :=
  e = .returned (aggT t) ∧ (∃ A n c, SB T bad w' g A n c r er) ∧ w.grownBy w' (some g)
set_option maxRecDepth 100000 in
set_option maxHeartbeats 2000000 in
theorem next_some {bad : Nat → Prop} {w : World} {g : Nat} {A : Option Addr} {n c : Nat} {t : Tk} {r : List Tk} {er : Int} (h : SB 102 bad w g A n c (t :: r) er) :
    Calls Tryz.prog 114 #[.pointer (some ⟨g, 0, none⟩)] w (Took 102 bad g t r er w) := by
  have b1 := below_new w (.cells #[.int .i64 0, .string ⟨#[]⟩, .int .i64 0, .int .i64 0] 97)
  have PK := Lib.hid (peek_some (h.keep b1))
  have H0 := Lib.hid h
  have R0 := Lib.hid (TB.new w 97 (.int .i64 0) (.string ⟨#[]⟩) (.int .i64 0) (.int .i64 0))
  have B0 := Lib.hid b1
  have hn : 0 < n := by rw [← h.tks.len]; simp
  have hf := h.tks.few
  have hcap := h.tks.cap
  have hg := h.lt
  obtain ⟨ad, hA, hab, _⟩ := h.tks.head
  have hfar := Lib.hid (h.far ad hA)
  subst hA
  clear h b1
  obtain ⟨kd, tx, vv, a⟩ := t
  by_cases hc1 : c = 1
  · subst hc1
    obtain rfl : n = 1 := by omega
    go_enter Tryz.func114, Tryz.ntmps114
    go_wp2_with fail
    refine PK.out.mono ?_
    rintro e w1 ⟨rfl, hb⟩
    have b2 := hb.trans ((below_new w1 (.cells #[.int .i64 kd, .string (str tx), .int .i64 vv, .int .i64 a] 97)).mono hb.size)
    have H2 := H0.out.keep (B0.out.trans (b2.mono B0.out.size))
    have L := Lib.hid (left_any H2)
    have s0 := H2.c0
    have g0 := H2.f 0
    have R2 := R0.out.keep b2
    have B2 := B0.out.trans (b2.mono B0.out.size)
    have X2 := TB.new w1 97 (.int .i64 kd) (.string (str tx)) (.int .i64 vv) (.int .i64 a)
    have hs1 := b2.size
    have hs2 : w.heap.size < w1.heap.size := by have := hb.size; simp at this; omega
    obtain ⟨x0, x1, x2, x3⟩ := X2.cells
    have X3 : TB ((w1.alloc (.cells #[.int .i64 kd, .string (str tx), .int .i64 vv, .int .i64 a] 97)).setCell ⟨g, 0, none⟩ (.slice (some ad) 0 0)) w1.heap.size 97 (.int .i64 kd) (.string (str tx)) (.int .i64 vv) (.int .i64 a) := (Below.heap_setCell _ ⟨g, 0, none⟩ _ w1.heap.size (by show w1.heap.size ≠ g; omega)).trans X2
    have R3 : TB ((w1.alloc (.cells #[.int .i64 kd, .string (str tx), .int .i64 vv, .int .i64 a] 97)).setCell ⟨g, 0, none⟩ (.slice (some ad) 0 0)) w.heap.size 97 (.int .i64 0) (.string ⟨#[]⟩) (.int .i64 0) (.int .i64 0) := (Below.heap_setCell _ ⟨g, 0, none⟩ _ w.heap.size (by show w.heap.size ≠ g; omega)).trans R2
    have S3 : Hid (SB 102 bad ((w1.alloc (.cells #[.int .i64 kd, .string (str tx), .int .i64 vv, .int .i64 a] 97)).setCell ⟨g, 0, none⟩ (.slice (some ad) 0 0)) g (some ad) 0 0 r er) := Lib.hid (H2.put0 (A' := (some ad)) (n' := 0) (c' := 0) (L' := r) (by have := H2.tks.tail; rw [if_pos rfl] at this; exact this) (fun x hx => by injection hx with hx; rw [← hx]; exact hfar.out))
    have G3 : Hid (w.grownBy ((w1.alloc (.cells #[.int .i64 kd, .string (str tx), .int .i64 vv, .int .i64 a] 97)).setCell ⟨g, 0, none⟩ (.slice (some ad) 0 0)) (some g)) := Lib.hid ((grown_of_below B2 (some g)).trans (grown_set _ g 0 _))
    have FB : Hid (∀ x : Addr, (some ad) = some x → x.block ≠ w.heap.size) := Lib.hid (fun x hx => by injection hx with hx; rw [← hx]; show ad.block ≠ _; omega)
    have hgq : g ≠ w.heap.size := by omega
    obtain ⟨y0, y1, y2, y3⟩ := X3.cells
    obtain ⟨c0, c1, c2, c3⟩ := R3.cells
    obtain ⟨f0, f1, f2, f3⟩ := R3.free
    clear hb b2 PK H0 R0 B0 R2 X2 H2 B2 X3 R3
    unfold aggT
    go_wp2_with fail
    refine L.out.mono ?_
    rintro e w' ⟨rfl, rfl⟩
    go_wp2
    exact bodyPost_ret (v := .agg #[.int .i64 kd, .string (str tx), .int .i64 vv, .int .i64 a]) (by simp [results, Tryz.results114, go_sem, c0, c1, c2, c3]) rfl ⟨rfl, ⟨_, _, _, (((S3.out.poke hgq FB.out 0 _).poke hgq FB.out 1 _).poke hgq FB.out 2 _).poke hgq FB.out 3 _⟩, grown_poke (grown_poke (grown_poke (grown_poke G3.out (Nat.le_refl _) 0 _) (Nat.le_refl _) 1 _) (Nat.le_refl _) 2 _) (Nat.le_refl _) 3 _⟩
  · go_enter Tryz.func114, Tryz.ntmps114
    go_wp2_with fail
    refine PK.out.mono ?_
    rintro e w1 ⟨rfl, hb⟩
    have b2 := hb.trans ((below_new w1 (.cells #[.int .i64 kd, .string (str tx), .int .i64 vv, .int .i64 a] 97)).mono hb.size)
    have H2 := H0.out.keep (B0.out.trans (b2.mono B0.out.size))
    have L := Lib.hid (left_any H2)
    have s0 := H2.c0
    have g0 := H2.f 0
    have R2 := R0.out.keep b2
    have B2 := B0.out.trans (b2.mono B0.out.size)
    have X2 := TB.new w1 97 (.int .i64 kd) (.string (str tx)) (.int .i64 vv) (.int .i64 a)
    have hs1 := b2.size
    have hs2 : w.heap.size < w1.heap.size := by have := hb.size; simp at this; omega
    obtain ⟨x0, x1, x2, x3⟩ := X2.cells
    have X3 : TB ((w1.alloc (.cells #[.int .i64 kd, .string (str tx), .int .i64 vv, .int .i64 a] 97)).setCell ⟨g, 0, none⟩ (.slice (some ⟨ad.block, ad.off + 4, none⟩) (n - 1) (c - 1))) w1.heap.size 97 (.int .i64 kd) (.string (str tx)) (.int .i64 vv) (.int .i64 a) := (Below.heap_setCell _ ⟨g, 0, none⟩ _ w1.heap.size (by show w1.heap.size ≠ g; omega)).trans X2
    have R3 : TB ((w1.alloc (.cells #[.int .i64 kd, .string (str tx), .int .i64 vv, .int .i64 a] 97)).setCell ⟨g, 0, none⟩ (.slice (some ⟨ad.block, ad.off + 4, none⟩) (n - 1) (c - 1))) w.heap.size 97 (.int .i64 0) (.string ⟨#[]⟩) (.int .i64 0) (.int .i64 0) := (Below.heap_setCell _ ⟨g, 0, none⟩ _ w.heap.size (by show w.heap.size ≠ g; omega)).trans R2
    have S3 : Hid (SB 102 bad ((w1.alloc (.cells #[.int .i64 kd, .string (str tx), .int .i64 vv, .int .i64 a] 97)).setCell ⟨g, 0, none⟩ (.slice (some ⟨ad.block, ad.off + 4, none⟩) (n - 1) (c - 1))) g (some ⟨ad.block, ad.off + 4, none⟩) (n - 1) (c - 1) r er) := Lib.hid (H2.put0 (A' := (some ⟨ad.block, ad.off + 4, none⟩)) (n' := (n - 1)) (c' := (c - 1)) (L' := r) (by have := H2.tks.tail; rw [if_neg hc1] at this; exact this) (fun x hx => by injection hx with hx; rw [← hx]; exact hfar.out))
    have G3 : Hid (w.grownBy ((w1.alloc (.cells #[.int .i64 kd, .string (str tx), .int .i64 vv, .int .i64 a] 97)).setCell ⟨g, 0, none⟩ (.slice (some ⟨ad.block, ad.off + 4, none⟩) (n - 1) (c - 1))) (some g)) := Lib.hid ((grown_of_below B2 (some g)).trans (grown_set _ g 0 _))
    have FB : Hid (∀ x : Addr, (some ⟨ad.block, ad.off + 4, none⟩) = some x → x.block ≠ w.heap.size) := Lib.hid (fun x hx => by injection hx with hx; rw [← hx]; show ad.block ≠ _; omega)
    have hgq : g ≠ w.heap.size := by omega
    obtain ⟨y0, y1, y2, y3⟩ := X3.cells
    obtain ⟨c0, c1, c2, c3⟩ := R3.cells
    obtain ⟨f0, f1, f2, f3⟩ := R3.free
    clear hb b2 PK H0 R0 B0 R2 X2 H2 B2 X3 R3
    unfold aggT
    go_wp2_with fail
    refine L.out.mono ?_
    rintro e w' ⟨rfl, rfl⟩
    go_wp2
    exact bodyPost_ret (v := .agg #[.int .i64 kd, .string (str tx), .int .i64 vv, .int .i64 a]) (by simp [results, Tryz.results114, go_sem, c0, c1, c2, c3]) rfl ⟨rfl, ⟨_, _, _, (((S3.out.poke hgq FB.out 0 _).poke hgq FB.out 1 _).poke hgq FB.out 2 _).poke hgq FB.out 3 _⟩, grown_poke (grown_poke (grown_poke (grown_poke G3.out (Nat.le_refl _) 0 _) (Nat.le_refl _) 1 _) (Nat.le_refl _) 2 _) (Nat.le_refl _) 3 _⟩
end Go.Proofs.YtcokplikmjegcaaGreatDoor
namespace Go.Proofs.YtcokplikmjegcaaGreatDoor
open Go.RowKit
/-- The package's scanner without the record of its tokens' place. -/
theorem SB.sp {bad : Nat → Prop} {w : World} {g : Nat} {A : Option Addr} {n c : Nat} {ts : List Tk} {e : Int} (h : SB 102 bad w g A n c ts e) (hi : e ≠ 0 → ts = []) : SP bad w g ts e := ⟨A, n, c, h, hi⟩
theorem Did.mono {S S' : World → Prop} {g : Nat} {v : Value} {w w' : World} {e : Ending} (h : Did S g v w e w') (hS : ∀ x, S x → S' x) : Did S' g v w e w' := ⟨h.1, hS _ h.2.1, h.2.2⟩
theorem did_same {S : World → Prop} {g : Nat} {v : Value} {w w' : World} (hS : S w') (hb : Below w.heap.size w w') : Did S g v w (.returned v) w' := ⟨rfl, hS, grown_of_below hb _⟩
/-- Calls one behind the other. -/
theorem Did.after {S : World → Prop} {g : Nat} {v : Value} {w w1 w2 : World} {e : Ending} (hg : w.grownBy w1 (some g)) (h : Did S g v w1 e w2) : Did S g v w e w2 := ⟨h.1, h.2.1, hg.trans h.2.2⟩
theorem field_0 (k v a : Int) (s : ByteArray) (w : World) : (Instr.field 97 (.agg #[.int .i64 k, .string s, .int .i64 v, .int .i64 a]) 0).run Tryz.prog w = .ok (.int .i64 k) w := by kernel_rfl
theorem field_1 (k v a : Int) (s : ByteArray) (w : World) : (Instr.field 97 (.agg #[.int .i64 k, .string s, .int .i64 v, .int .i64 a]) 1).run Tryz.prog w = .ok (.string s) w := by kernel_rfl
theorem field_2 (k v a : Int) (s : ByteArray) (w : World) : (Instr.field 97 (.agg #[.int .i64 k, .string s, .int .i64 v, .int .i64 a]) 2).run Tryz.prog w = .ok (.int .i64 v) w := by kernel_rfl
def refE (er : Int) : Int := if er = 0 then 1 else er
theorem refE_ne (er : Int) : refE er ≠ 0 := by unfold refE; split <;> omega
set_option maxRecDepth 100000 in
set_option maxHeartbeats 2000000 in
theorem fail_dead {bad : Nat → Prop} {w : World} {g : Nat} {A : Option Addr} {n c : Nat} {L : List Tk} {er : Int} (x : Int) (h : SB 102 bad w g A n c L er) (he : er ≠ 0) :
    Calls Tryz.prog 94 #[.pointer (some ⟨g, 0, none⟩), .int .i64 x] w (fun e w' => e = .returned (.tuple #[]) ∧ w = w') := by
  have E := Lib.hid (err_any h)
  have hne : ((er : Int) != 0) = true := bne_iff_ne.2 he
  clear h
  go_enter Tryz.func94, Tryz.ntmps94
  go_wp2_with fail
  refine E.out.mono ?_
  rintro e w' ⟨rfl, rfl⟩
  go_wp2
  exact bodyPost_ret (v := .tuple #[]) (by simp [results, Tryz.results94, go_sem]) rfl ⟨rfl, rfl⟩
set_option maxRecDepth 100000 in
set_option maxHeartbeats 2000000 in
theorem fail_set {bad : Nat → Prop} {w : World} {g : Nat} {A : Option Addr} {n c : Nat} {L : List Tk} (x : Int) (h : SB 102 bad w g A n c L 0) (hx : x ≠ 0) :
    Calls Tryz.prog 94 #[.pointer (some ⟨g, 0, none⟩), .int .i64 x] w (Did (fun w' => SP bad w' g [] x) g (.tuple #[]) w) := by
  have E := Lib.hid (err_any h)
  have hne : ((x : Int) == 0) = false := beq_eq_false_iff_ne.2 hx
  have h1 := h.put1 x
  have h2 := h1.put0 (Tks.nil _) (fun _ k => nomatch k)
  have G : Hid (Did (fun w' => SP bad w' g [] x) g (.tuple #[]) w (.returned (.tuple #[])) ((w.setCell ⟨g, 1, none⟩ (.int .i64 x)).setCell ⟨g, 0, none⟩ (.slice none 0 0))) :=
    Lib.hid ⟨rfl, h2.sp (fun _ => rfl), (grown_set w g 1 _).trans (grown_set _ g 0 _)⟩
  have c1 := h.c1
  have f1 := h.f 1
  have c0 := h1.c0
  have f0 := h1.f 0
  clear h h1 h2
  go_enter Tryz.func94, Tryz.ntmps94
  go_wp2_with fail
  refine E.out.mono ?_
  rintro e w' ⟨rfl, rfl⟩
  go_wp2
  go_end0
  exact G.out
set_option maxRecDepth 100000 in
set_option maxHeartbeats 2000000 in
theorem refuse_empty {bad : Nat → Prop} {w : World} {g : Nat} {A : Option Addr} {n c : Nat} {er : Int} (h : SB 102 bad w g A n c [] er) :
    Calls Tryz.prog 113 #[.pointer (some ⟨g, 0, none⟩)] w (Did (fun w' => SP bad w' g [] (refE er)) g (.tuple #[]) w) := by
  have LF := left_any h
  rw [h.tks.empty] at LF
  have L := Lib.hid LF
  clear LF
  by_cases he : er = 0
  · subst he
    have FS := Lib.hid (fail_set 1 h (by decide))
    clear h
    go_enter Tryz.func113, Tryz.ntmps113
    go_wp2_with fail
    refine L.out.mono ?_
    rintro e w' ⟨rfl, rfl⟩
    go_wp2_with fail
    refine FS.out.mono ?_
    rintro e w1 ⟨rfl, h1, h2⟩
    have G : Hid (Did (fun w' => SP bad w' g [] (refE 0)) g (.tuple #[]) w (.returned (.tuple #[])) w1) := Lib.hid ⟨rfl, h1, h2⟩
    clear h1 h2
    go_wp2
    go_end0
    exact G.out
  · have FS := Lib.hid (fail_dead 1 h he)
    have G : Hid (Did (fun w' => SP bad w' g [] (refE er)) g (.tuple #[]) w (.returned (.tuple #[])) w) := Lib.hid ⟨rfl, by unfold refE; rw [if_neg he]; exact h.sp (fun _ => rfl), World.grownBy.refl _ _⟩
    clear h
    go_enter Tryz.func113, Tryz.ntmps113
    go_wp2_with fail
    refine L.out.mono ?_
    rintro e w' ⟨rfl, rfl⟩
    go_wp2_with fail
    refine FS.out.mono ?_
    rintro e w' ⟨rfl, rfl⟩
    go_wp2
    go_end0
    exact G.out
set_option maxRecDepth 100000 in
set_option maxHeartbeats 2000000 in
theorem refuse_live {bad : Nat → Prop} {w : World} {g : Nat} {A : Option Addr} {n c : Nat} {t : Tk} {r : List Tk} (h : SB 102 bad w g A n c (t :: r) 0) :
    Calls Tryz.prog 113 #[.pointer (some ⟨g, 0, none⟩)] w (Did (fun w' => SP bad w' g [] 2) g (.tuple #[]) w) := by
  have L := Lib.hid (left_any h)
  have hn : 0 < n := by rw [← h.tks.len]; simp
  have hf := h.tks.few
  have FS := Lib.hid (fail_set 2 h (by decide))
  have hb : ((n : Int) == 0) = false := beq_eq_false_iff_ne.2 (by omega)
  clear h
  go_enter Tryz.func113, Tryz.ntmps113
  go_wp2_with fail
  refine L.out.mono ?_
  rintro e w' ⟨rfl, rfl⟩
  go_wp2_with fail
  refine FS.out.mono ?_
  rintro e w1 ⟨rfl, h1, h2⟩
  have G : Hid (Did (fun w' => SP bad w' g [] 2) g (.tuple #[]) w (.returned (.tuple #[])) w1) := Lib.hid ⟨rfl, h1, h2⟩
  clear h1 h2
  go_wp2
  go_end0
  exact G.out
set_option maxRecDepth 100000 in
set_option maxHeartbeats 2000000 in
theorem end_empty {bad : Nat → Prop} {w : World} {g : Nat} {A : Option Addr} {n c : Nat} {er : Int} (h : SB 102 bad w g A n c [] er) :
    Calls Tryz.prog 29 #[.pointer (some ⟨g, 0, none⟩)] w (fun e w' => e = .returned (.int .i64 er) ∧ w = w') := by
  have LF := left_any h
  rw [h.tks.empty] at LF
  have L := Lib.hid LF
  have E := Lib.hid (err_any h)
  clear LF h
  go_enter Tryz.func29, Tryz.ntmps29
  go_wp2_with fail
  refine L.out.mono ?_
  rintro e w' ⟨rfl, rfl⟩
  go_wp2_with fail
  refine E.out.mono ?_
  rintro e w' ⟨rfl, rfl⟩
  go_wp2
  go_ret
  exact ⟨rfl, rfl⟩
set_option maxRecDepth 100000 in
set_option maxHeartbeats 2000000 in
theorem end_live {bad : Nat → Prop} {w : World} {g : Nat} {A : Option Addr} {n c : Nat} {t : Tk} {r : List Tk} {er : Int} (h : SB 102 bad w g A n c (t :: r) er) :
    Calls Tryz.prog 29 #[.pointer (some ⟨g, 0, none⟩)] w (fun e w' => e = .returned (.int .i64 3) ∧ w = w') := by
  have L := Lib.hid (left_any h)
  have hn : 0 < n := by rw [← h.tks.len]; simp
  have hf := h.tks.few
  clear h
  go_enter Tryz.func29, Tryz.ntmps29
  go_wp2_with fail
  refine L.out.mono ?_
  rintro e w' ⟨rfl, rfl⟩
  go_wp2
  go_ret
  exact ⟨rfl, rfl⟩
set_option maxRecDepth 100000 in
set_option maxHeartbeats 2000000 in
theorem accept_empty {bad : Nat → Prop} {w : World} {g : Nat} {A : Option Addr} {n c : Nat} {er : Int} (m : ByteArray) (h : SB 102 bad w g A n c [] er) (hi : er ≠ 0 → ([] : List Tk) = []) :
    Calls Tryz.prog 95 #[.pointer (some ⟨g, 0, none⟩), .string m] w (Did (fun w' => SP bad w' g [] er) g (.bool false) w) := by
  have PK := Lib.hid (peek_none h)
  have H := Lib.hid (h.sp hi)
  clear h
  go_enter Tryz.func95, Tryz.ntmps95
  go_wp2_with fail
  refine PK.out.mono ?_
  rintro e w1 ⟨rfl, hb⟩
  have B1 := Lib.hid (hb.trans ((below_new w1 (.cells #[.int .i64 0, .string ⟨#[]⟩, .int .i64 0, .int .i64 0] 97)).mono hb.size))
  clear hb PK
  unfold aggT
  go_wp2
  go_ret
  exact did_same (H.out.keep B1.out) B1.out
set_option maxRecDepth 100000 in
set_option maxHeartbeats 2000000 in
theorem accept_no {bad : Nat → Prop} {w : World} {g : Nat} {A : Option Addr} {n c : Nat} {t : Tk} {r : List Tk} (m : ByteArray) (h : SB 102 bad w g A n c (t :: r) 0) (hno : ¬ (t.kind = 3 ∧ t.text = m.data.toList)) :
    Calls Tryz.prog 95 #[.pointer (some ⟨g, 0, none⟩), .string m] w (Did (fun w' => SP bad w' g (t :: r) 0) g (.bool false) w) := by
  have PK := Lib.hid (peek_some h)
  have H := Lib.hid (h.sp (fun k => absurd rfl k))
  clear h
  by_cases hk : t.kind = 3
  · have hm : ((str t.text).toList == m.toList) = false := test_no (by rw [str_data]; exact fun k => hno ⟨hk, k⟩)
    clear hno
    obtain ⟨kd, tx, vv, a⟩ := t
    simp only at hk hm
    subst hk
    go_enter Tryz.func95, Tryz.ntmps95
    go_wp2_with fail
    refine PK.out.mono ?_
    rintro e w1 ⟨rfl, hb⟩
    have B1 := Lib.hid (hb.trans ((below_new w1 (.cells #[.int .i64 3, .string (str tx), .int .i64 vv, .int .i64 a] 97)).mono hb.size))
    clear hb PK
    unfold aggT
    go_wp2
    go_ret
    exact did_same (H.out.keep B1.out) B1.out
  · have hm : ((t.kind : Int) != 3) = true := bne_iff_ne.2 hk
    clear hno hk
    obtain ⟨kd, tx, vv, a⟩ := t
    simp only at hm
    go_enter Tryz.func95, Tryz.ntmps95
    go_wp2_with fail
    refine PK.out.mono ?_
    rintro e w1 ⟨rfl, hb⟩
    have B1 := Lib.hid (hb.trans ((below_new w1 (.cells #[.int .i64 kd, .string (str tx), .int .i64 vv, .int .i64 a] 97)).mono hb.size))
    clear hb PK
    unfold aggT
    go_wp2
    go_ret
    exact did_same (H.out.keep B1.out) B1.out
set_option maxRecDepth 100000 in
set_option maxHeartbeats 2000000 in
theorem accept_yes {bad : Nat → Prop} {w : World} {g : Nat} {A : Option Addr} {n c : Nat} {t : Tk} {r : List Tk} (m : ByteArray) (h : SB 102 bad w g A n c (t :: r) 0) (hk : t.kind = 3) (ht : t.text = m.data.toList) :
    Calls Tryz.prog 95 #[.pointer (some ⟨g, 0, none⟩), .string m] w (Did (fun w' => SP bad w' g r 0) g (.bool true) w) := by
  have PK := Lib.hid (peek_some h)
  have H := Lib.hid h
  have hm : ((str t.text).toList == m.toList) = true := test_yes (by rw [str_data]; exact ht)
  clear h ht
  obtain ⟨kd, tx, vv, a⟩ := t
  simp only at hk hm
  subst hk
  go_enter Tryz.func95, Tryz.ntmps95
  go_wp2_with fail
  refine PK.out.mono ?_
  rintro e w1 ⟨rfl, hb⟩
  have b1 := hb.trans ((below_new w1 (.cells #[.int .i64 3, .string (str tx), .int .i64 vv, .int .i64 a] 97)).mono hb.size)
  have NX := Lib.hid (next_some (H.out.keep b1))
  have B1 := Lib.hid b1
  clear hb PK b1 H
  unfold aggT
  go_wp2_with fail
  refine NX.out.mono ?_
  rintro e w2 ⟨rfl, ⟨A', n', c', h2⟩, hg⟩
  have G : Hid (Did (fun w' => SP bad w' g r 0) g (.bool true) w (.returned (.bool true)) w2) := Lib.hid ⟨rfl, h2.sp (fun k => absurd rfl k), (grown_of_below B1.out _).trans hg⟩
  clear h2 hg NX B1
  go_wp2
  go_ret
  exact G.out
set_option maxRecDepth 100000 in
set_option maxHeartbeats 2000000 in
theorem expect_empty {bad : Nat → Prop} {w : World} {g : Nat} {A : Option Addr} {n c : Nat} {er : Int} (m : ByteArray) (h : SB 102 bad w g A n c [] er) :
    Calls Tryz.prog 97 #[.pointer (some ⟨g, 0, none⟩), .string m] w (Did (fun w' => SP bad w' g [] (refE er)) g (.tuple #[]) w) := by
  have AC := Lib.hid (accept_empty m h (fun _ => rfl))
  clear h
  go_enter Tryz.func97, Tryz.ntmps97
  go_wp2_with fail
  refine AC.out.mono ?_
  rintro e w1 ⟨rfl, ⟨A1, n1, c1, h1, _⟩, h2⟩
  have RF := Lib.hid (refuse_empty h1)
  have G1 := Lib.hid h2
  clear h1 h2 AC
  go_wp2_with fail
  refine RF.out.mono ?_
  rintro e w2 ⟨rfl, h1, h2⟩
  have G : Hid (Did (fun w' => SP bad w' g [] (refE er)) g (.tuple #[]) w (.returned (.tuple #[])) w2) := Lib.hid ⟨rfl, h1, G1.out.trans h2⟩
  clear h1 h2
  go_wp2
  go_end0
  exact G.out
set_option maxRecDepth 100000 in
set_option maxHeartbeats 2000000 in
theorem expect_no {bad : Nat → Prop} {w : World} {g : Nat} {A : Option Addr} {n c : Nat} {t : Tk} {r : List Tk} (m : ByteArray) (h : SB 102 bad w g A n c (t :: r) 0) (hno : ¬ (t.kind = 3 ∧ t.text = m.data.toList)) :
    Calls Tryz.prog 97 #[.pointer (some ⟨g, 0, none⟩), .string m] w (Did (fun w' => SP bad w' g [] 2) g (.tuple #[]) w) := by
  have AC := Lib.hid (accept_no m h hno)
  clear h
  go_enter Tryz.func97, Tryz.ntmps97
  go_wp2_with fail
  refine AC.out.mono ?_
  rintro e w1 ⟨rfl, ⟨A1, n1, c1, h1, _⟩, h2⟩
  have RF := Lib.hid (refuse_live h1)
  have G1 := Lib.hid h2
  clear h1 h2 AC
  go_wp2_with fail
  refine RF.out.mono ?_
  rintro e w2 ⟨rfl, h1, h2⟩
  have G : Hid (Did (fun w' => SP bad w' g [] 2) g (.tuple #[]) w (.returned (.tuple #[])) w2) := Lib.hid ⟨rfl, h1, G1.out.trans h2⟩
  clear h1 h2
  go_wp2
  go_end0
  exact G.out
set_option maxRecDepth 100000 in
set_option maxHeartbeats 2000000 in
theorem expect_yes {bad : Nat → Prop} {w : World} {g : Nat} {A : Option Addr} {n c : Nat} {t : Tk} {r : List Tk} (m : ByteArray) (h : SB 102 bad w g A n c (t :: r) 0) (hk : t.kind = 3) (ht : t.text = m.data.toList) :
    Calls Tryz.prog 97 #[.pointer (some ⟨g, 0, none⟩), .string m] w (Did (fun w' => SP bad w' g r 0) g (.tuple #[]) w) := by
  have AC := Lib.hid (accept_yes m h hk ht)
  clear h
  go_enter Tryz.func97, Tryz.ntmps97
  go_wp2_with fail
  refine AC.out.mono ?_
  rintro e w1 ⟨rfl, h1, h2⟩
  have G : Hid (Did (fun w' => SP bad w' g r 0) g (.tuple #[]) w (.returned (.tuple #[])) w1) := Lib.hid ⟨rfl, h1, h2⟩
  clear h1 h2
  go_wp2
  go_end0
  exact G.out
set_option maxRecDepth 100000 in
set_option maxHeartbeats 2000000 in
theorem name_empty {bad : Nat → Prop} {w : World} {g : Nat} {A : Option Addr} {n c : Nat} {er : Int} (h : SB 102 bad w g A n c [] er) :
    Calls Tryz.prog 93 #[.pointer (some ⟨g, 0, none⟩)] w (Did (fun w' => SP bad w' g [] (refE er)) g (.string ⟨#[]⟩) w) := by
  have PK := Lib.hid (peek_none h)
  have H := Lib.hid h
  clear h
  have F0 := field_0
  have F1 := field_1
  go_enter Tryz.func93, Tryz.ntmps93
  go_wp2_with fail
  refine PK.out.mono ?_
  rintro e w1 ⟨rfl, hb⟩
  have RF := Lib.hid (refuse_empty (H.out.keep hb))
  have B1 := Lib.hid hb
  clear hb PK H
  unfold aggT
  go_wp2_with fail
  refine RF.out.mono ?_
  rintro e w2 ⟨rfl, h1, h2⟩
  have G : Hid (Did (fun w' => SP bad w' g [] (refE er)) g (.string ⟨#[]⟩) w (.returned (.string ⟨#[]⟩)) w2) := Lib.hid ⟨rfl, h1, (grown_of_below B1.out _).trans h2⟩
  clear h1 h2 RF B1
  go_wp2
  go_ret
  exact G.out
set_option maxRecDepth 100000 in
set_option maxHeartbeats 2000000 in
theorem name_no {bad : Nat → Prop} {w : World} {g : Nat} {A : Option Addr} {n c : Nat} {t : Tk} {r : List Tk} (h : SB 102 bad w g A n c (t :: r) 0) (hk : t.kind ≠ 1) :
    Calls Tryz.prog 93 #[.pointer (some ⟨g, 0, none⟩)] w (Did (fun w' => SP bad w' g [] 2) g (.string ⟨#[]⟩) w) := by
  have PK := Lib.hid (peek_some h)
  have H := Lib.hid h
  clear h
  have hm : ((t.kind : Int) != 1) = true := bne_iff_ne.2 hk
  clear hk
  obtain ⟨kd, tx, vv, a⟩ := t
  simp only at hm
  have F0 := field_0
  have F1 := field_1
  go_enter Tryz.func93, Tryz.ntmps93
  go_wp2_with fail
  refine PK.out.mono ?_
  rintro e w1 ⟨rfl, hb⟩
  have RF := Lib.hid (refuse_live (H.out.keep hb))
  have B1 := Lib.hid hb
  clear hb PK H
  unfold aggT
  go_wp2_with fail
  refine RF.out.mono ?_
  rintro e w2 ⟨rfl, h1, h2⟩
  have G : Hid (Did (fun w' => SP bad w' g [] 2) g (.string ⟨#[]⟩) w (.returned (.string ⟨#[]⟩)) w2) := Lib.hid ⟨rfl, h1, (grown_of_below B1.out _).trans h2⟩
  clear h1 h2 RF B1
  go_wp2
  go_ret
  exact G.out
set_option maxRecDepth 100000 in
set_option maxHeartbeats 2000000 in
theorem name_yes {bad : Nat → Prop} {w : World} {g : Nat} {A : Option Addr} {n c : Nat} {t : Tk} {r : List Tk} (h : SB 102 bad w g A n c (t :: r) 0) (hk : t.kind = 1) :
    Calls Tryz.prog 93 #[.pointer (some ⟨g, 0, none⟩)] w (Did (fun w' => SP bad w' g r 0) g (.string (str t.text)) w) := by
  have PK := Lib.hid (peek_some h)
  have H := Lib.hid h
  clear h
  obtain ⟨kd, tx, vv, a⟩ := t
  simp only at hk
  subst hk
  simp only
  have F0 := field_0
  have F1 := field_1
  go_enter Tryz.func93, Tryz.ntmps93
  go_wp2_with fail
  refine PK.out.mono ?_
  rintro e w1 ⟨rfl, hb⟩
  have RF := Lib.hid (next_some (H.out.keep hb))
  have B1 := Lib.hid hb
  clear hb PK H
  unfold aggT
  go_wp2_with fail
  refine RF.out.mono ?_
  rintro e w2 ⟨rfl, h1, h2⟩
  obtain ⟨A', n', c', h3⟩ := h1
  have G : Hid (Did (fun w' => SP bad w' g r 0) g (.string (str tx)) w (.returned (.string (str tx))) w2) := Lib.hid ⟨rfl, h3.sp (fun k => absurd rfl k), (grown_of_below B1.out _).trans h2⟩
  clear h3 h2 RF B1
  unfold aggT
  go_wp2
  go_ret
  exact G.out
set_option maxRecDepth 100000 in
set_option maxHeartbeats 2000000 in
theorem amount_empty {bad : Nat → Prop} {w : World} {g : Nat} {A : Option Addr} {n c : Nat} {er : Int} (most : Int) (h : SB 102 bad w g A n c [] er) :
    Calls Tryz.prog 98 #[.pointer (some ⟨g, 0, none⟩), .int .i64 most] w (Did (fun w' => SP bad w' g [] (refE er)) g (.int .i64 0) w) := by
  have PK := Lib.hid (peek_none h)
  have H := Lib.hid h
  clear h
  have F2 := field_2
  go_enter Tryz.func98, Tryz.ntmps98
  go_wp2_with fail
  refine PK.out.mono ?_
  rintro e w1 ⟨rfl, hb⟩
  have b1 := hb.trans ((below_new w1 (.cells #[.int .i64 0, .string ⟨#[]⟩, .int .i64 0, .int .i64 0] 97)).mono hb.size)
  have RF := Lib.hid (refuse_empty (H.out.keep b1))
  have B1 := Lib.hid b1
  clear hb PK H b1
  unfold aggT
  go_wp2_with fail
  refine RF.out.mono ?_
  rintro e w2 ⟨rfl, h1, h2⟩
  have G : Hid (Did (fun w' => SP bad w' g [] (refE er)) g (.int .i64 0) w (.returned (.int .i64 0)) w2) := Lib.hid ⟨rfl, h1, (grown_of_below B1.out _).trans h2⟩
  clear h1 h2 RF B1
  go_wp2
  go_ret
  exact G.out
set_option maxRecDepth 100000 in
set_option maxHeartbeats 2000000 in
theorem amount_kind {bad : Nat → Prop} {w : World} {g : Nat} {A : Option Addr} {n c : Nat} {t : Tk} {r : List Tk} (most : Int) (h : SB 102 bad w g A n c (t :: r) 0) (hk : t.kind ≠ 2) :
    Calls Tryz.prog 98 #[.pointer (some ⟨g, 0, none⟩), .int .i64 most] w (Did (fun w' => SP bad w' g [] 2) g (.int .i64 0) w) := by
  have PK := Lib.hid (peek_some h)
  have H := Lib.hid h
  clear h
  have hm : ((t.kind : Int) != 2) = true := bne_iff_ne.2 hk
  clear hk
  obtain ⟨kd, tx, vv, a⟩ := t
  simp only at hm
  have F2 := field_2
  go_enter Tryz.func98, Tryz.ntmps98
  go_wp2_with fail
  refine PK.out.mono ?_
  rintro e w1 ⟨rfl, hb⟩
  have b1 := hb.trans ((below_new w1 (.cells #[.int .i64 kd, .string (str tx), .int .i64 vv, .int .i64 a] 97)).mono hb.size)
  have RF := Lib.hid (refuse_live (H.out.keep b1))
  have B1 := Lib.hid b1
  clear hb PK H b1
  unfold aggT
  go_wp2_with fail
  refine RF.out.mono ?_
  rintro e w2 ⟨rfl, h1, h2⟩
  have G : Hid (Did (fun w' => SP bad w' g [] 2) g (.int .i64 0) w (.returned (.int .i64 0)) w2) := Lib.hid ⟨rfl, h1, (grown_of_below B1.out _).trans h2⟩
  clear h1 h2 RF B1
  go_wp2
  go_ret
  exact G.out
set_option maxRecDepth 100000 in
set_option maxHeartbeats 2000000 in
theorem amount_neg {bad : Nat → Prop} {w : World} {g : Nat} {A : Option Addr} {n c : Nat} {t : Tk} {r : List Tk} (most : Int) (h : SB 102 bad w g A n c (t :: r) 0) (hk : t.kind = 2) (hv : t.value < 0) :
    Calls Tryz.prog 98 #[.pointer (some ⟨g, 0, none⟩), .int .i64 most] w (Did (fun w' => SP bad w' g [] 4) g (.int .i64 0) w) := by
  have PK := Lib.hid (peek_some h)
  have H := Lib.hid h
  clear h
  obtain ⟨kd, tx, vv, a⟩ := t
  simp only at hk hv
  subst hk
  have F2 := field_2
  go_enter Tryz.func98, Tryz.ntmps98
  go_wp2_with fail
  refine PK.out.mono ?_
  rintro e w1 ⟨rfl, hb⟩
  have b1 := hb.trans ((below_new w1 (.cells #[.int .i64 2, .string (str tx), .int .i64 vv, .int .i64 a] 97)).mono hb.size)
  have RF := Lib.hid (fail_set 4 (H.out.keep b1) (by decide))
  have B1 := Lib.hid b1
  clear hb PK H b1
  unfold aggT
  go_wp2_with fail
  refine RF.out.mono ?_
  rintro e w2 ⟨rfl, h1, h2⟩
  have G : Hid (Did (fun w' => SP bad w' g [] 4) g (.int .i64 0) w (.returned (.int .i64 0)) w2) := Lib.hid ⟨rfl, h1, (grown_of_below B1.out _).trans h2⟩
  clear h1 h2 RF B1
  go_wp2
  go_ret
  exact G.out
set_option maxRecDepth 100000 in
set_option maxHeartbeats 2000000 in
theorem amount_most {bad : Nat → Prop} {w : World} {g : Nat} {A : Option Addr} {n c : Nat} {t : Tk} {r : List Tk} (most : Int) (h : SB 102 bad w g A n c (t :: r) 0) (hk : t.kind = 2) (hv : 0 ≤ t.value) (hv2 : most < t.value) :
    Calls Tryz.prog 98 #[.pointer (some ⟨g, 0, none⟩), .int .i64 most] w (Did (fun w' => SP bad w' g [] 4) g (.int .i64 0) w) := by
  have PK := Lib.hid (peek_some h)
  have H := Lib.hid h
  clear h
  obtain ⟨kd, tx, vv, a⟩ := t
  simp only at hk hv hv2
  subst hk
  have hd : decide (vv < 0) = false := decide_eq_false (by omega)
  have hd2 : decide (most < vv) = true := decide_eq_true hv2
  have F2 := field_2
  go_enter Tryz.func98, Tryz.ntmps98
  go_wp2_with fail
  refine PK.out.mono ?_
  rintro e w1 ⟨rfl, hb⟩
  have b1 := hb.trans ((below_new w1 (.cells #[.int .i64 2, .string (str tx), .int .i64 vv, .int .i64 a] 97)).mono hb.size)
  have RF := Lib.hid (fail_set 4 (H.out.keep b1) (by decide))
  have B1 := Lib.hid b1
  clear hb PK H b1
  unfold aggT
  go_wp2_with fail
  refine RF.out.mono ?_
  rintro e w2 ⟨rfl, h1, h2⟩
  have G : Hid (Did (fun w' => SP bad w' g [] 4) g (.int .i64 0) w (.returned (.int .i64 0)) w2) := Lib.hid ⟨rfl, h1, (grown_of_below B1.out _).trans h2⟩
  clear h1 h2 RF B1
  go_wp2
  go_ret
  exact G.out
set_option maxRecDepth 100000 in
set_option maxHeartbeats 2000000 in
theorem amount_yes {bad : Nat → Prop} {w : World} {g : Nat} {A : Option Addr} {n c : Nat} {t : Tk} {r : List Tk} (most : Int) (h : SB 102 bad w g A n c (t :: r) 0) (hk : t.kind = 2) (hv : 0 ≤ t.value) (hv2 : t.value ≤ most) :
    Calls Tryz.prog 98 #[.pointer (some ⟨g, 0, none⟩), .int .i64 most] w (Did (fun w' => SP bad w' g r 0) g (.int .i64 t.value) w) := by
  have PK := Lib.hid (peek_some h)
  have H := Lib.hid h
  clear h
  obtain ⟨kd, tx, vv, a⟩ := t
  simp only at hk hv hv2
  subst hk
  have hd : decide (vv < 0) = false := decide_eq_false (by omega)
  have hd2 : decide (most < vv) = false := decide_eq_false (by omega)
  have F2 := field_2
  go_enter Tryz.func98, Tryz.ntmps98
  go_wp2_with fail
  refine PK.out.mono ?_
  rintro e w1 ⟨rfl, hb⟩
  have b1 := hb.trans ((below_new w1 (.cells #[.int .i64 2, .string (str tx), .int .i64 vv, .int .i64 a] 97)).mono hb.size)
  have RF := Lib.hid (next_some (H.out.keep b1))
  have B1 := Lib.hid b1
  clear hb PK H b1
  unfold aggT
  go_wp2_with fail
  refine RF.out.mono ?_
  rintro e w2 ⟨rfl, h1, h2⟩
  obtain ⟨A', n', c', h3⟩ := h1
  have G : Hid (Did (fun w' => SP bad w' g r 0) g (.int .i64 vv) w (.returned (.int .i64 vv)) w2) := Lib.hid ⟨rfl, h3.sp (fun k => absurd rfl k), (grown_of_below B1.out _).trans h2⟩
  clear h3 h2 RF B1
  unfold aggT
  go_wp2
  go_ret
  exact G.out
end Go.Proofs.YtcokplikmjegcaaGreatDoor
namespace Go.Proofs.YtcokplikmjegcaaGreatDoor
open Go.RowKit
section
variable {bad : Nat → Prop} {w : World} {g : Nat} {ts : List Tk} {er : Int}
theorem SP.dead (h : SP bad w g ts er) (he : er ≠ 0) : ts = [] := by obtain ⟨A, n, c, _, h2⟩ := h; exact h2 he
theorem isM_iff {c : UInt8} {t : Tk} : MC.isM c t = true ↔ t.kind = 3 ∧ t.text = [c] := by unfold MC.isM; rw [Bool.and_eq_true, decide_eq_true_eq, decide_eq_true_eq]
/-- Accept. -/
theorem acceptU (c : UInt8) (h : SP bad w g ts er) :
    Calls Tryz.prog 95 #[.pointer (some ⟨g, 0, none⟩), .string ⟨#[c]⟩] w (Did (fun w' => SP bad w' g (if MC.isO c ts[0]? = true then ts.drop 1 else ts) er) g (.bool (MC.isO c ts[0]?)) w) := by
  obtain ⟨A, n, cp, hs, hi⟩ := h
  cases ts with
  | nil => exact accept_empty _ hs hi
  | cons t r =>
    obtain rfl : er = 0 := by
      by_cases e : er = 0
      · exact e
      · cases hi e
    cases hm : MC.isM c t with
    | true =>
      have e : MC.isO c (t :: r)[0]? = true := hm
      rw [e, if_pos rfl]
      obtain ⟨h1, h2⟩ := isM_iff.1 hm
      exact accept_yes _ hs h1 h2
    | false =>
      have e : MC.isO c (t :: r)[0]? = false := hm
      rw [e, if_neg (by decide)]
      exact accept_no _ hs fun hh => by rw [isM_iff.2 hh] at hm; cases hm
/-- The error behind Expect. -/
def expE (c : UInt8) (ts : List Tk) (er : Int) : Int := if er = 0 then (if MC.isO c ts[0]? = true then 0 else MC.wrongE ts[0]?) else er
theorem expectU (c : UInt8) (h : SP bad w g ts er) :
    Calls Tryz.prog 97 #[.pointer (some ⟨g, 0, none⟩), .string ⟨#[c]⟩] w (Did (fun w' => SP bad w' g (if expE c ts er = 0 then ts.drop 1 else []) (expE c ts er)) g (.tuple #[]) w) := by
  obtain ⟨A, n, cp, hs, hi⟩ := h
  unfold expE
  cases ts with
  | nil =>
    refine (expect_empty _ hs).mono fun e w' h => h.mono fun x hx => ?_
    by_cases e0 : er = 0
    · subst e0; exact hx
    · have : refE er = er := by unfold refE; rw [if_neg e0]
      rw [this] at hx
      rw [if_neg e0, if_neg e0]; exact hx
  | cons t r =>
    obtain rfl : er = 0 := by
      by_cases e : er = 0
      · exact e
      · cases hi e
    rw [if_pos rfl]
    cases hm : MC.isM c t with
    | true =>
      have e : MC.isO c (t :: r)[0]? = true := hm
      rw [if_pos e, if_pos rfl]
      obtain ⟨h1, h2⟩ := isM_iff.1 hm
      exact expect_yes _ hs h1 h2
    | false =>
      have e : MC.isO c (t :: r)[0]? = false := hm
      rw [e, if_neg (by decide : ¬ (false = true))]
      exact expect_no ⟨#[c]⟩ hs fun hh => by rw [isM_iff.2 hh] at hm; cases hm
/-- The error behind Name, and the name. -/
def nmE (ts : List Tk) (er : Int) : Int := if er = 0 then (match ts[0]? with | none => 1 | some t => if t.kind = 1 then 0 else 2) else er
def nmT' (ts : List Tk) (er : Int) : List UInt8 := if nmE ts er = 0 then ((ts[0]?).map (·.text)).getD [] else []
theorem nameU (h : SP bad w g ts er) :
    Calls Tryz.prog 93 #[.pointer (some ⟨g, 0, none⟩)] w (Did (fun w' => SP bad w' g (if nmE ts er = 0 then ts.drop 1 else []) (nmE ts er)) g (.string (str (nmT' ts er))) w) := by
  obtain ⟨A, n, cp, hs, hi⟩ := h
  cases ts with
  | nil =>
    have he : nmE [] er = refE er := by unfold nmE refE; rfl
    have ht : nmT' [] er = [] := by unfold nmT'; rw [if_neg (by rw [he]; exact refE_ne er)]
    rw [ht, he, if_neg (refE_ne er)]
    exact name_empty hs
  | cons t r =>
    obtain rfl : er = 0 := by
      by_cases e : er = 0
      · exact e
      · cases hi e
    by_cases hk : t.kind = 1
    · have he : nmE (t :: r) 0 = 0 := by unfold nmE; rw [if_pos rfl]; simp [hk]
      have ht : nmT' (t :: r) 0 = t.text := by unfold nmT'; rw [if_pos he]; rfl
      rw [ht, he, if_pos rfl]
      exact name_yes hs hk
    · have he : nmE (t :: r) 0 = 2 := by unfold nmE; rw [if_pos rfl]; simp [hk]
      have ht : nmT' (t :: r) 0 = [] := by unfold nmT'; rw [if_neg (by rw [he]; decide)]
      rw [ht, he, if_neg (by decide)]
      exact name_no hs hk
/-- The error behind Amount(4), and the amount. -/
def amE (ts : List Tk) (er : Int) : Int := if er = 0 then (match ts[0]? with | none => 1 | some t => if t.kind = 2 then (if t.value < 0 ∨ 4 < t.value then 4 else 0) else 2) else er
def amV (ts : List Tk) (er : Int) : Int := if amE ts er = 0 then ((ts[0]?).map (·.value)).getD 0 else 0
theorem amountU (h : SP bad w g ts er) :
    Calls Tryz.prog 98 #[.pointer (some ⟨g, 0, none⟩), .int .i64 4] w (Did (fun w' => SP bad w' g (if amE ts er = 0 then ts.drop 1 else []) (amE ts er)) g (.int .i64 (amV ts er)) w) := by
  obtain ⟨A, n, cp, hs, hi⟩ := h
  cases ts with
  | nil =>
    have he : amE [] er = refE er := by unfold amE refE; rfl
    have ht : amV [] er = 0 := by unfold amV; rw [if_neg (by rw [he]; exact refE_ne er)]
    rw [ht, he, if_neg (refE_ne er)]
    exact amount_empty 4 hs
  | cons t r =>
    obtain rfl : er = 0 := by
      by_cases e : er = 0
      · exact e
      · cases hi e
    have hno : ∀ x : Int, x ≠ 0 → amE (t :: r) 0 = x → amV (t :: r) 0 = 0 := fun x hx h => by unfold amV; rw [if_neg (by rw [h]; exact hx)]
    by_cases hk : t.kind = 2
    · by_cases hv : t.value < 0
      · have he : amE (t :: r) 0 = 4 := by unfold amE; rw [if_pos rfl]; simp [hk, hv]
        rw [hno 4 (by decide) he, he, if_neg (by decide)]
        exact amount_neg 4 hs hk hv
      · by_cases hv2 : 4 < t.value
        · have he : amE (t :: r) 0 = 4 := by unfold amE; rw [if_pos rfl]; simp [hk, hv2]
          rw [hno 4 (by decide) he, he, if_neg (by decide)]
          exact amount_most 4 hs hk (by omega) hv2
        · have he : amE (t :: r) 0 = 0 := by unfold amE; rw [if_pos rfl]; simp [hk, hv, hv2]
          have ht : amV (t :: r) 0 = t.value := by unfold amV; rw [if_pos he]; rfl
          rw [ht, he, if_pos rfl]
          exact amount_yes 4 hs hk (by omega) (by omega)
    · have he : amE (t :: r) 0 = 2 := by unfold amE; rw [if_pos rfl]; simp [hk]
      rw [hno 2 (by decide) he, he, if_neg (by decide)]
      exact amount_kind 4 hs hk
/-- The error behind Fail. -/
def flE (x : Int) (er : Int) : Int := if er = 0 then x else er
theorem failU (x : Int) (hx : x ≠ 0) (h : SP bad w g ts er) :
    Calls Tryz.prog 94 #[.pointer (some ⟨g, 0, none⟩), .int .i64 x] w (Did (fun w' => SP bad w' g [] (flE x er)) g (.tuple #[]) w) := by
  obtain ⟨A, n, cp, hs, hi⟩ := h
  unfold flE
  by_cases e : er = 0
  · subst e
    rw [if_pos rfl]
    exact fail_set x hs hx
  · obtain rfl := hi e
    rw [if_neg e]
    refine (fail_dead x hs e).mono ?_
    rintro e1 w' ⟨rfl, rfl⟩
    exact ⟨rfl, ⟨A, n, cp, hs, hi⟩, World.grownBy.refl _ _⟩
theorem errU (h : SP bad w g ts er) : Calls Tryz.prog 61 #[.pointer (some ⟨g, 0, none⟩)] w fun e w' => e = .returned (.int .i64 er) ∧ w = w' := by
  obtain ⟨A, n, cp, hs, _⟩ := h
  exact err_any hs
/-- What End answers. -/
def endE (ts : List Tk) (er : Int) : Int := if ts = [] then er else 3
theorem endU (h : SP bad w g ts er) : Calls Tryz.prog 29 #[.pointer (some ⟨g, 0, none⟩)] w fun e w' => e = .returned (.int .i64 (endE ts er)) ∧ w = w' := by
  obtain ⟨A, n, cp, hs, hi⟩ := h
  cases ts with
  | nil => exact end_empty hs
  | cons t r => exact end_live hs
/-- A block of another kind, and of the tokens of none, turns: the scanner stays. -/
theorem SP.poke {q : Nat} (h : SP bad w g ts er) (hq : bad q) (hne : g ≠ q) (i : Nat) (u : Value) : SP bad (w.setCell ⟨q, i, none⟩ u) g ts er := by
  obtain ⟨A, n, cp, hs, hi⟩ := h
  exact ⟨A, n, cp, hs.other (grown_set w q i u) hq hne, hi⟩
theorem SP.less {bad' : Nat → Prop} (h : SP bad w g ts er) (hb : ∀ k, bad' k → bad k) (hg : bad' g) : SP bad' w g ts er := by
  obtain ⟨A, n, cp, hs, hi⟩ := h
  exact ⟨A, n, cp, ⟨hs.blk, hs.tks, fun ad ha hh => hs.far ad ha (hb _ hh), hg⟩, hi⟩
end
end Go.Proofs.YtcokplikmjegcaaGreatDoor

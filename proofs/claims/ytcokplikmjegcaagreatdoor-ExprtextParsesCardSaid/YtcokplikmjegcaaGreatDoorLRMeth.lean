/- The reference's scanner: no claim of its own. -/
import Derived.Test.YtcokplikmjegcaaGreatDoorJS
namespace Go.Proofs.YtcokplikmjegcaaGreatDoor
open Go.RowKit
/-- The reference's scanner, said as the package's: after an error no tokens count. -/
def SR (bad : Nat → Prop) (w : World) (g : Nat) (ts : List Tk) (e : Int) : Prop := ∃ A n c L, SB 68 bad w g A n c L e ∧ (e = 0 → L = ts) ∧ (e ≠ 0 → ts = [])
theorem SR.keep {bad : Nat → Prop} {w w' : World} {g : Nat} {ts : List Tk} {e : Int} (h : SR bad w g ts e) (hb : Below w.heap.size w w') : SR bad w' g ts e := by
  obtain ⟨A, n, c, L, h1, h2⟩ := h; exact ⟨A, n, c, L, h1.keep hb, h2⟩
theorem SB.sr {bad : Nat → Prop} {w : World} {g : Nat} {A : Option Addr} {n c : Nat} {L : List Tk} {e : Int} (h : SB 68 bad w g A n c L e) (hd : e ≠ 0 ∨ L = []) : SR bad w g [] e :=
  ⟨A, n, c, L, h, fun k => hd.elim (fun x => absurd k x) id, fun _ => rfl⟩
theorem SB.srl {bad : Nat → Prop} {w : World} {g : Nat} {A : Option Addr} {n c : Nat} {L : List Tk} (h : SB 68 bad w g A n c L 0) : SR bad w g L 0 :=
  ⟨A, n, c, L, h, fun _ => rfl, fun k => absurd rfl k⟩
set_option maxRecDepth 100000 in
set_option maxHeartbeats 2000000 in
theorem rpeek_D {bad : Nat → Prop} {w : World} {g : Nat} {A : Option Addr} {n c : Nat} {L : List Tk} {er : Int} (h : SB 68 bad w g A n c L er) (hd : er ≠ 0 ∨ L = []) :
    Calls Tryz.prog 63 #[.pointer (some ⟨g, 0, none⟩)] w (Gives (aggT .zero) w) := by
  have h' := h.keep (below_new w (.cells #[.int .i64 0, .string ⟨#[]⟩, .int .i64 0, .int .i64 0] 105))
  by_cases he : er = 0
  · have hL : L = [] := hd.elim (fun x => absurd he x) id
    subst hL
    obtain rfl := h.tks.empty
    subst he
    have c0 := h'.c0
    have c1 := h'.c1
    clear h h' hd
    go_enter Tryz.func63, Tryz.ntmps63
    go_wp2
    exact bodyPost_ret (v := .agg #[.int .i64 0, .string ⟨#[]⟩, .int .i64 0, .int .i64 0]) (by simp [results, Tryz.results63, go_sem]) rfl ⟨rfl, below_new _ _⟩
  · have hne : ((er : Int) != 0) = true := bne_iff_ne.2 he
    have c0 := h'.c0
    have c1 := h'.c1
    clear h h' hd he
    go_enter Tryz.func63, Tryz.ntmps63
    go_wp2
    exact bodyPost_ret (v := .agg #[.int .i64 0, .string ⟨#[]⟩, .int .i64 0, .int .i64 0]) (by simp [results, Tryz.results63, go_sem]) rfl ⟨rfl, below_new _ _⟩
set_option maxRecDepth 100000 in
set_option maxHeartbeats 2000000 in
theorem rpeek_some {bad : Nat → Prop} {w : World} {g : Nat} {A : Option Addr} {n c : Nat} {t : Tk} {r : List Tk} (h : SB 68 bad w g A n c (t :: r) 0) :
    Calls Tryz.prog 63 #[.pointer (some ⟨g, 0, none⟩)] w (Gives (aggT t) w) := by
  have h' := h.keep (below_new w (.cells #[.int .i64 0, .string ⟨#[]⟩, .int .i64 0, .int .i64 0] 105))
  have c0 := h'.c0
  have c1 := h'.c1
  have hn : 0 < n := by rw [← h.tks.len]; simp
  have hf := h.tks.few
  have hb : ((n : Int) == 0) = false := beq_eq_false_iff_ne.2 (by omega)
  obtain ⟨ad, hA, hb', x0, x1, x2, x3⟩ := h'.tks.head
  obtain ⟨ad', hA', hb'', y0, y1, y2, y3⟩ := h.tks.head
  obtain rfl : ad = ad' := by rw [hA] at hA'; injection hA'
  subst hA
  clear h h' hb' hb'' hA'
  obtain ⟨kd, tx, vv, a⟩ := t
  unfold aggT
  simp only at x0 x1 x2 x3 y0 y1 y2 y3 ⊢
  go_enter Tryz.func63, Tryz.ntmps63
  go_wp2
  exact bodyPost_ret (v := .agg #[.int .i64 kd, .string (str tx), .int .i64 vv, .int .i64 a]) (by simp [results, Tryz.results63, go_sem]) rfl ⟨rfl, below_new _ _⟩
set_option maxRecDepth 100000 in
set_option maxHeartbeats 2000000 in
theorem rnext_some {bad : Nat → Prop} {w : World} {g : Nat} {A : Option Addr} {n c : Nat} {t : Tk} {r : List Tk} (h : SB 68 bad w g A n c (t :: r) 0) :
    Calls Tryz.prog 104 #[.pointer (some ⟨g, 0, none⟩)] w (Took 68 bad g t r 0 w) := by
  have b1 := below_new w (.cells #[.int .i64 0, .string ⟨#[]⟩, .int .i64 0, .int .i64 0] 105)
  have PK := Lib.hid (rpeek_some (h.keep b1))
  have H0 := Lib.hid h
  have R0 := Lib.hid (TB.new w 105 (.int .i64 0) (.string ⟨#[]⟩) (.int .i64 0) (.int .i64 0))
  have B0 := Lib.hid b1
  have hn : 0 < n := by rw [← h.tks.len]; simp
  have hf := h.tks.few
  have hcap := h.tks.cap
  have hg := h.lt
  obtain ⟨ad, hA, hab, _⟩ := h.tks.head
  have hfar := Lib.hid (h.far ad hA)
  subst hA
  clear h b1
  obtain ⟨kd, tx, vv, a⟩ := t
  by_cases hc1 : c = 1
  · subst hc1
    obtain rfl : n = 1 := by omega
    go_enter Tryz.func104, Tryz.ntmps104
    go_wp2_with fail
    refine PK.out.mono ?_
    rintro e w1 ⟨rfl, hb⟩
    have b2 := hb.trans ((below_new w1 (.cells #[.int .i64 kd, .string (str tx), .int .i64 vv, .int .i64 a] 105)).mono hb.size)
    have H2 := H0.out.keep (B0.out.trans (b2.mono B0.out.size))
    have s1 := H2.c1
    have s0 := H2.c0
    have g0 := H2.f 0
    have R2 := R0.out.keep b2
    have B2 := B0.out.trans (b2.mono B0.out.size)
    have X2 := TB.new w1 105 (.int .i64 kd) (.string (str tx)) (.int .i64 vv) (.int .i64 a)
    have hs1 := b2.size
    have hs2 : w.heap.size < w1.heap.size := by have := hb.size; simp at this; omega
    obtain ⟨x0, x1, x2, x3⟩ := X2.cells
    have X3 : TB ((w1.alloc (.cells #[.int .i64 kd, .string (str tx), .int .i64 vv, .int .i64 a] 105)).setCell ⟨g, 0, none⟩ (.slice (some ad) 0 0)) w1.heap.size 105 (.int .i64 kd) (.string (str tx)) (.int .i64 vv) (.int .i64 a) := (Below.heap_setCell _ ⟨g, 0, none⟩ _ w1.heap.size (by show w1.heap.size ≠ g; omega)).trans X2
    have R3 : TB ((w1.alloc (.cells #[.int .i64 kd, .string (str tx), .int .i64 vv, .int .i64 a] 105)).setCell ⟨g, 0, none⟩ (.slice (some ad) 0 0)) w.heap.size 105 (.int .i64 0) (.string ⟨#[]⟩) (.int .i64 0) (.int .i64 0) := (Below.heap_setCell _ ⟨g, 0, none⟩ _ w.heap.size (by show w.heap.size ≠ g; omega)).trans R2
    have S3 : Hid (SB 68 bad ((w1.alloc (.cells #[.int .i64 kd, .string (str tx), .int .i64 vv, .int .i64 a] 105)).setCell ⟨g, 0, none⟩ (.slice (some ad) 0 0)) g (some ad) 0 0 r 0) := Lib.hid (H2.put0 (A' := (some ad)) (n' := 0) (c' := 0) (L' := r) (by have := H2.tks.tail; rw [if_pos rfl] at this; exact this) (fun x hx => by injection hx with hx; rw [← hx]; exact hfar.out))
    have G3 : Hid (w.grownBy ((w1.alloc (.cells #[.int .i64 kd, .string (str tx), .int .i64 vv, .int .i64 a] 105)).setCell ⟨g, 0, none⟩ (.slice (some ad) 0 0)) (some g)) := Lib.hid ((grown_of_below B2 (some g)).trans (grown_set _ g 0 _))
    have FB : Hid (∀ x : Addr, (some ad) = some x → x.block ≠ w.heap.size) := Lib.hid (fun x hx => by injection hx with hx; rw [← hx]; show ad.block ≠ _; omega)
    have hgq : g ≠ w.heap.size := by omega
    obtain ⟨y0, y1, y2, y3⟩ := X3.cells
    obtain ⟨c0, c1, c2, c3⟩ := R3.cells
    obtain ⟨f0, f1, f2, f3⟩ := R3.free
    clear hb b2 PK H0 R0 B0 R2 X2 H2 B2 X3 R3
    unfold aggT
    go_wp2
    exact bodyPost_ret (v := .agg #[.int .i64 kd, .string (str tx), .int .i64 vv, .int .i64 a]) (by simp [results, Tryz.results104, go_sem, c0, c1, c2, c3]) rfl ⟨rfl, ⟨_, _, _, (((S3.out.poke hgq FB.out 0 _).poke hgq FB.out 1 _).poke hgq FB.out 2 _).poke hgq FB.out 3 _⟩, grown_poke (grown_poke (grown_poke (grown_poke G3.out (Nat.le_refl _) 0 _) (Nat.le_refl _) 1 _) (Nat.le_refl _) 2 _) (Nat.le_refl _) 3 _⟩
  · go_enter Tryz.func104, Tryz.ntmps104
    go_wp2_with fail
    refine PK.out.mono ?_
    rintro e w1 ⟨rfl, hb⟩
    have b2 := hb.trans ((below_new w1 (.cells #[.int .i64 kd, .string (str tx), .int .i64 vv, .int .i64 a] 105)).mono hb.size)
    have H2 := H0.out.keep (B0.out.trans (b2.mono B0.out.size))
    have s1 := H2.c1
    have s0 := H2.c0
    have g0 := H2.f 0
    have R2 := R0.out.keep b2
    have B2 := B0.out.trans (b2.mono B0.out.size)
    have X2 := TB.new w1 105 (.int .i64 kd) (.string (str tx)) (.int .i64 vv) (.int .i64 a)
    have hs1 := b2.size
    have hs2 : w.heap.size < w1.heap.size := by have := hb.size; simp at this; omega
    obtain ⟨x0, x1, x2, x3⟩ := X2.cells
    have X3 : TB ((w1.alloc (.cells #[.int .i64 kd, .string (str tx), .int .i64 vv, .int .i64 a] 105)).setCell ⟨g, 0, none⟩ (.slice (some ⟨ad.block, ad.off + 4, none⟩) (n - 1) (c - 1))) w1.heap.size 105 (.int .i64 kd) (.string (str tx)) (.int .i64 vv) (.int .i64 a) := (Below.heap_setCell _ ⟨g, 0, none⟩ _ w1.heap.size (by show w1.heap.size ≠ g; omega)).trans X2
    have R3 : TB ((w1.alloc (.cells #[.int .i64 kd, .string (str tx), .int .i64 vv, .int .i64 a] 105)).setCell ⟨g, 0, none⟩ (.slice (some ⟨ad.block, ad.off + 4, none⟩) (n - 1) (c - 1))) w.heap.size 105 (.int .i64 0) (.string ⟨#[]⟩) (.int .i64 0) (.int .i64 0) := (Below.heap_setCell _ ⟨g, 0, none⟩ _ w.heap.size (by show w.heap.size ≠ g; omega)).trans R2
    have S3 : Hid (SB 68 bad ((w1.alloc (.cells #[.int .i64 kd, .string (str tx), .int .i64 vv, .int .i64 a] 105)).setCell ⟨g, 0, none⟩ (.slice (some ⟨ad.block, ad.off + 4, none⟩) (n - 1) (c - 1))) g (some ⟨ad.block, ad.off + 4, none⟩) (n - 1) (c - 1) r 0) := Lib.hid (H2.put0 (A' := (some ⟨ad.block, ad.off + 4, none⟩)) (n' := (n - 1)) (c' := (c - 1)) (L' := r) (by have := H2.tks.tail; rw [if_neg hc1] at this; exact this) (fun x hx => by injection hx with hx; rw [← hx]; exact hfar.out))
    have G3 : Hid (w.grownBy ((w1.alloc (.cells #[.int .i64 kd, .string (str tx), .int .i64 vv, .int .i64 a] 105)).setCell ⟨g, 0, none⟩ (.slice (some ⟨ad.block, ad.off + 4, none⟩) (n - 1) (c - 1))) (some g)) := Lib.hid ((grown_of_below B2 (some g)).trans (grown_set _ g 0 _))
    have FB : Hid (∀ x : Addr, (some ⟨ad.block, ad.off + 4, none⟩) = some x → x.block ≠ w.heap.size) := Lib.hid (fun x hx => by injection hx with hx; rw [← hx]; show ad.block ≠ _; omega)
    have hgq : g ≠ w.heap.size := by omega
    obtain ⟨y0, y1, y2, y3⟩ := X3.cells
    obtain ⟨c0, c1, c2, c3⟩ := R3.cells
    obtain ⟨f0, f1, f2, f3⟩ := R3.free
    clear hb b2 PK H0 R0 B0 R2 X2 H2 B2 X3 R3
    unfold aggT
    go_wp2
    exact bodyPost_ret (v := .agg #[.int .i64 kd, .string (str tx), .int .i64 vv, .int .i64 a]) (by simp [results, Tryz.results104, go_sem, c0, c1, c2, c3]) rfl ⟨rfl, ⟨_, _, _, (((S3.out.poke hgq FB.out 0 _).poke hgq FB.out 1 _).poke hgq FB.out 2 _).poke hgq FB.out 3 _⟩, grown_poke (grown_poke (grown_poke (grown_poke G3.out (Nat.le_refl _) 0 _) (Nat.le_refl _) 1 _) (Nat.le_refl _) 2 _) (Nat.le_refl _) 3 _⟩
set_option maxRecDepth 100000 in
set_option maxHeartbeats 2000000 in
theorem rfail_dead {bad : Nat → Prop} {w : World} {g : Nat} {A : Option Addr} {n c : Nat} {L : List Tk} {er : Int} (x : Int) (h : SB 68 bad w g A n c L er) (he : er ≠ 0) :
    Calls Tryz.prog 66 #[.pointer (some ⟨g, 0, none⟩), .int .i64 x] w (fun e w' => e = .returned (.tuple #[]) ∧ w = w') := by
  have c1 := h.c1
  have hne : ((er : Int) == 0) = false := beq_eq_false_iff_ne.2 he
  clear h
  go_enter Tryz.func66, Tryz.ntmps66
  go_wp2
  go_end0
  exact ⟨rfl, rfl⟩
set_option maxRecDepth 100000 in
set_option maxHeartbeats 2000000 in
theorem rfail_set {bad : Nat → Prop} {w : World} {g : Nat} {A : Option Addr} {n c : Nat} {L : List Tk} (x : Int) (h : SB 68 bad w g A n c L 0) :
    Calls Tryz.prog 66 #[.pointer (some ⟨g, 0, none⟩), .int .i64 x] w (Did (fun w' => SB 68 bad w' g A n c L x) g (.tuple #[]) w) := by
  have c1 := h.c1
  have f1 := h.f 1
  have G : Hid (Did (fun w' => SB 68 bad w' g A n c L x) g (.tuple #[]) w (.returned (.tuple #[])) (w.setCell ⟨g, 1, none⟩ (.int .i64 x))) := Lib.hid ⟨rfl, h.put1 x, grown_set w g 1 _⟩
  clear h
  go_enter Tryz.func66, Tryz.ntmps66
  go_wp2
  go_end0
  exact G.out
set_option maxRecDepth 100000 in
set_option maxHeartbeats 2000000 in
theorem rwrong_D {bad : Nat → Prop} {w : World} {g : Nat} {A : Option Addr} {n c : Nat} {L : List Tk} {er : Int} (h : SB 68 bad w g A n c L er) (hd : er ≠ 0 ∨ L = []) :
    Calls Tryz.prog 103 #[.pointer (some ⟨g, 0, none⟩)] w (Did (fun w' => SR bad w' g [] (refE er)) g (.tuple #[]) w) := by
  by_cases he : er = 0
  · have hL : L = [] := hd.elim (fun x => absurd he x) id
    subst hL
    obtain rfl := h.tks.empty
    subst he
    have c0 := h.c0
    have FS := Lib.hid (rfail_set 1 h)
    clear h hd
    go_enter Tryz.func103, Tryz.ntmps103
    go_wp2_with fail
    refine FS.out.mono ?_
    rintro e w1 ⟨rfl, h1, h2⟩
    have G : Hid (Did (fun w' => SR bad w' g [] (refE 0)) g (.tuple #[]) w (.returned (.tuple #[])) w1) := Lib.hid ⟨rfl, h1.sr (.inr rfl), h2⟩
    have FD := Lib.hid (rfail_dead 2 h1 (by decide))
    clear h1 h2 FS
    go_wp2_with fail
    refine FD.out.mono ?_
    rintro e w' ⟨rfl, rfl⟩
    go_wp2
    go_end0
    exact G.out
  · have c0 := h.c0
    have hf := h.tks.few
    have F1 := Lib.hid (rfail_dead 1 h he)
    have F2 := Lib.hid (rfail_dead 2 h he)
    have G : Hid (Did (fun w' => SR bad w' g [] (refE er)) g (.tuple #[]) w (.returned (.tuple #[])) w) := Lib.hid ⟨rfl, by unfold refE; rw [if_neg he]; exact h.sr hd, World.grownBy.refl _ _⟩
    clear h hd he
    by_cases hn : n = 0
    · subst hn
      go_enter Tryz.func103, Tryz.ntmps103
      go_wp2_with fail
      refine F1.out.mono ?_
      rintro e w' ⟨rfl, rfl⟩
      go_wp2_with fail
      refine F2.out.mono ?_
      rintro e w' ⟨rfl, rfl⟩
      go_wp2
      go_end0
      exact G.out
    · have hb : ((n : Int) == 0) = false := beq_eq_false_iff_ne.2 (by omega)
      go_enter Tryz.func103, Tryz.ntmps103
      go_wp2_with fail
      refine F2.out.mono ?_
      rintro e w' ⟨rfl, rfl⟩
      go_wp2
      go_end0
      exact G.out
set_option maxRecDepth 100000 in
set_option maxHeartbeats 2000000 in
theorem rwrong_live {bad : Nat → Prop} {w : World} {g : Nat} {A : Option Addr} {n c : Nat} {t : Tk} {r : List Tk} (h : SB 68 bad w g A n c (t :: r) 0) :
    Calls Tryz.prog 103 #[.pointer (some ⟨g, 0, none⟩)] w (Did (fun w' => SR bad w' g [] 2) g (.tuple #[]) w) := by
  have c0 := h.c0
  have hn : 0 < n := by rw [← h.tks.len]; simp
  have hf := h.tks.few
  have FS := Lib.hid (rfail_set 2 h)
  have hb : ((n : Int) == 0) = false := beq_eq_false_iff_ne.2 (by omega)
  clear h
  go_enter Tryz.func103, Tryz.ntmps103
  go_wp2_with fail
  refine FS.out.mono ?_
  rintro e w1 ⟨rfl, h1, h2⟩
  have G : Hid (Did (fun w' => SR bad w' g [] 2) g (.tuple #[]) w (.returned (.tuple #[])) w1) := Lib.hid ⟨rfl, h1.sr (.inl (by decide)), h2⟩
  clear h1 h2
  go_wp2
  go_end0
  exact G.out
set_option maxRecDepth 100000 in
set_option maxHeartbeats 2000000 in
theorem rend_D {bad : Nat → Prop} {w : World} {g : Nat} {A : Option Addr} {n c : Nat} {L : List Tk} {er : Int} (h : SB 68 bad w g A n c L er) (hd : er ≠ 0 ∨ L = []) :
    Calls Tryz.prog 32 #[.pointer (some ⟨g, 0, none⟩)] w (fun e w' => e = .returned (.int .i64 er) ∧ w = w') := by
  have c0 := h.c0
  have c1 := h.c1
  by_cases he : er = 0
  · have hL : L = [] := hd.elim (fun x => absurd he x) id
    subst hL
    obtain rfl := h.tks.empty
    subst he
    clear h hd
    go_enter Tryz.func32, Tryz.ntmps32
    go_wp2
    go_ret
    exact ⟨rfl, rfl⟩
  · have hne : ((er : Int) == 0) = false := beq_eq_false_iff_ne.2 he
    clear h hd he
    go_enter Tryz.func32, Tryz.ntmps32
    go_wp2
    go_ret
    exact ⟨rfl, rfl⟩
set_option maxRecDepth 100000 in
set_option maxHeartbeats 2000000 in
theorem rend_live {bad : Nat → Prop} {w : World} {g : Nat} {A : Option Addr} {n c : Nat} {t : Tk} {r : List Tk} (h : SB 68 bad w g A n c (t :: r) 0) :
    Calls Tryz.prog 32 #[.pointer (some ⟨g, 0, none⟩)] w (fun e w' => e = .returned (.int .i64 3) ∧ w = w') := by
  have c0 := h.c0
  have c1 := h.c1
  have hn : 0 < n := by rw [← h.tks.len]; simp
  have hf := h.tks.few
  clear h
  go_enter Tryz.func32, Tryz.ntmps32
  go_wp2
  go_ret
  exact ⟨rfl, rfl⟩
set_option maxRecDepth 100000 in
set_option maxHeartbeats 2000000 in
theorem raccept_D {bad : Nat → Prop} {w : World} {g : Nat} {A : Option Addr} {n c : Nat} {L : List Tk} {er : Int} (m : ByteArray) (h : SB 68 bad w g A n c L er) (hd : er ≠ 0 ∨ L = []) :
    Calls Tryz.prog 68 #[.pointer (some ⟨g, 0, none⟩), .string m] w (Did (fun w' => SB 68 bad w' g A n c L er) g (.bool false) w) := by
  have PK := Lib.hid (rpeek_D h hd)
  have H := Lib.hid h
  clear h hd
  go_enter Tryz.func68, Tryz.ntmps68
  go_wp2_with fail
  refine PK.out.mono ?_
  rintro e w1 ⟨rfl, hb⟩
  have B1 := Lib.hid (hb.trans ((below_new w1 (.cells #[.int .i64 0, .string ⟨#[]⟩, .int .i64 0, .int .i64 0] 105)).mono hb.size))
  clear hb PK
  rw [show aggT .zero = Value.agg #[.int .i64 0, .string ⟨#[]⟩, .int .i64 0, .int .i64 0] from rfl]
  go_wp2
  go_ret
  exact did_same (H.out.keep B1.out) B1.out
set_option maxRecDepth 100000 in
set_option maxHeartbeats 2000000 in
theorem raccept_no {bad : Nat → Prop} {w : World} {g : Nat} {A : Option Addr} {n c : Nat} {t : Tk} {r : List Tk} (m : ByteArray) (h : SB 68 bad w g A n c (t :: r) 0) (hno : ¬ (t.kind = 3 ∧ t.text = m.data.toList)) :
    Calls Tryz.prog 68 #[.pointer (some ⟨g, 0, none⟩), .string m] w (Did (fun w' => SB 68 bad w' g A n c (t :: r) 0) g (.bool false) w) := by
  have PK := Lib.hid (rpeek_some h)
  have H := Lib.hid h
  clear h
  by_cases hk : t.kind = 3
  · have hm : ((str t.text).toList == m.toList) = false := test_no (by rw [str_data]; exact fun k => hno ⟨hk, k⟩)
    clear hno
    obtain ⟨kd, tx, vv, a⟩ := t
    simp only at hk hm
    subst hk
    go_enter Tryz.func68, Tryz.ntmps68
    go_wp2_with fail
    refine PK.out.mono ?_
    rintro e w1 ⟨rfl, hb⟩
    have B1 := Lib.hid (hb.trans ((below_new w1 (.cells #[.int .i64 3, .string (str tx), .int .i64 vv, .int .i64 a] 105)).mono hb.size))
    clear hb PK
    unfold aggT
    go_wp2
    go_ret
    exact did_same (H.out.keep B1.out) B1.out
  · have hm : ((t.kind : Int) != 3) = true := bne_iff_ne.2 hk
    clear hno hk
    obtain ⟨kd, tx, vv, a⟩ := t
    simp only at hm
    go_enter Tryz.func68, Tryz.ntmps68
    go_wp2_with fail
    refine PK.out.mono ?_
    rintro e w1 ⟨rfl, hb⟩
    have B1 := Lib.hid (hb.trans ((below_new w1 (.cells #[.int .i64 kd, .string (str tx), .int .i64 vv, .int .i64 a] 105)).mono hb.size))
    clear hb PK
    unfold aggT
    go_wp2
    go_ret
    exact did_same (H.out.keep B1.out) B1.out
set_option maxRecDepth 100000 in
set_option maxHeartbeats 2000000 in
theorem raccept_yes {bad : Nat → Prop} {w : World} {g : Nat} {A : Option Addr} {n c : Nat} {t : Tk} {r : List Tk} (m : ByteArray) (h : SB 68 bad w g A n c (t :: r) 0) (hk : t.kind = 3) (ht : t.text = m.data.toList) :
    Calls Tryz.prog 68 #[.pointer (some ⟨g, 0, none⟩), .string m] w (Did (fun w' => SR bad w' g r 0) g (.bool true) w) := by
  have PK := Lib.hid (rpeek_some h)
  have H := Lib.hid h
  have hm : ((str t.text).toList == m.toList) = true := test_yes (by rw [str_data]; exact ht)
  clear h ht
  obtain ⟨kd, tx, vv, a⟩ := t
  simp only at hk hm
  subst hk
  go_enter Tryz.func68, Tryz.ntmps68
  go_wp2_with fail
  refine PK.out.mono ?_
  rintro e w1 ⟨rfl, hb⟩
  have b1 := hb.trans ((below_new w1 (.cells #[.int .i64 3, .string (str tx), .int .i64 vv, .int .i64 a] 105)).mono hb.size)
  have NX := Lib.hid (rnext_some (H.out.keep b1))
  have B1 := Lib.hid b1
  clear hb PK b1 H
  unfold aggT
  go_wp2_with fail
  refine NX.out.mono ?_
  rintro e w2 ⟨rfl, ⟨A', n', c', h2⟩, hg⟩
  have G : Hid (Did (fun w' => SR bad w' g r 0) g (.bool true) w (.returned (.bool true)) w2) := Lib.hid ⟨rfl, h2.srl, (grown_of_below B1.out _).trans hg⟩
  clear h2 hg NX B1
  go_wp2
  go_ret
  exact G.out
set_option maxRecDepth 100000 in
set_option maxHeartbeats 2000000 in
theorem rexpect_D {bad : Nat → Prop} {w : World} {g : Nat} {A : Option Addr} {n c : Nat} {L : List Tk} {er : Int} (m : ByteArray) (h : SB 68 bad w g A n c L er) (hd : er ≠ 0 ∨ L = []) :
    Calls Tryz.prog 67 #[.pointer (some ⟨g, 0, none⟩), .string m] w (Did (fun w' => SR bad w' g [] (refE er)) g (.tuple #[]) w) := by
  have AC := Lib.hid (raccept_D m h hd)
  clear h
  go_enter Tryz.func67, Tryz.ntmps67
  go_wp2_with fail
  refine AC.out.mono ?_
  rintro e w1 ⟨rfl, h1, h2⟩
  have RF := Lib.hid (rwrong_D h1 hd)
  have G1 := Lib.hid h2
  clear h1 h2 AC
  go_wp2_with fail
  refine RF.out.mono ?_
  rintro e w2 ⟨rfl, h1, h2⟩
  have G : Hid (Did (fun w' => SR bad w' g [] (refE er)) g (.tuple #[]) w (.returned (.tuple #[])) w2) := Lib.hid ⟨rfl, h1, G1.out.trans h2⟩
  clear h1 h2
  go_wp2
  go_end0
  exact G.out
set_option maxRecDepth 100000 in
set_option maxHeartbeats 2000000 in
theorem rexpect_no {bad : Nat → Prop} {w : World} {g : Nat} {A : Option Addr} {n c : Nat} {t : Tk} {r : List Tk} (m : ByteArray) (h : SB 68 bad w g A n c (t :: r) 0) (hno : ¬ (t.kind = 3 ∧ t.text = m.data.toList)) :
    Calls Tryz.prog 67 #[.pointer (some ⟨g, 0, none⟩), .string m] w (Did (fun w' => SR bad w' g [] 2) g (.tuple #[]) w) := by
  have AC := Lib.hid (raccept_no m h hno)
  clear h
  go_enter Tryz.func67, Tryz.ntmps67
  go_wp2_with fail
  refine AC.out.mono ?_
  rintro e w1 ⟨rfl, h1, h2⟩
  have RF := Lib.hid (rwrong_live h1)
  have G1 := Lib.hid h2
  clear h1 h2 AC
  go_wp2_with fail
  refine RF.out.mono ?_
  rintro e w2 ⟨rfl, h1, h2⟩
  have G : Hid (Did (fun w' => SR bad w' g [] 2) g (.tuple #[]) w (.returned (.tuple #[])) w2) := Lib.hid ⟨rfl, h1, G1.out.trans h2⟩
  clear h1 h2
  go_wp2
  go_end0
  exact G.out
set_option maxRecDepth 100000 in
set_option maxHeartbeats 2000000 in
theorem rexpect_yes {bad : Nat → Prop} {w : World} {g : Nat} {A : Option Addr} {n c : Nat} {t : Tk} {r : List Tk} (m : ByteArray) (h : SB 68 bad w g A n c (t :: r) 0) (hk : t.kind = 3) (ht : t.text = m.data.toList) :
    Calls Tryz.prog 67 #[.pointer (some ⟨g, 0, none⟩), .string m] w (Did (fun w' => SR bad w' g r 0) g (.tuple #[]) w) := by
  have AC := Lib.hid (raccept_yes m h hk ht)
  clear h
  go_enter Tryz.func67, Tryz.ntmps67
  go_wp2_with fail
  refine AC.out.mono ?_
  rintro e w1 ⟨rfl, h1, h2⟩
  have G : Hid (Did (fun w' => SR bad w' g r 0) g (.tuple #[]) w (.returned (.tuple #[])) w1) := Lib.hid ⟨rfl, h1, h2⟩
  clear h1 h2
  go_wp2
  go_end0
  exact G.out
set_option maxRecDepth 100000 in
set_option maxHeartbeats 2000000 in
theorem rname_D {bad : Nat → Prop} {w : World} {g : Nat} {A : Option Addr} {n c : Nat} {L : List Tk} {er : Int} (h : SB 68 bad w g A n c L er) (hd : er ≠ 0 ∨ L = []) :
    Calls Tryz.prog 65 #[.pointer (some ⟨g, 0, none⟩)] w (Did (fun w' => SR bad w' g [] (refE er)) g (.string ⟨#[]⟩) w) := by
  have PK := Lib.hid (rpeek_D h hd)
  have H := Lib.hid h
  clear h
  go_enter Tryz.func65, Tryz.ntmps65
  go_wp2_with fail
  refine PK.out.mono ?_
  rintro e w1 ⟨rfl, hb⟩
  have b1 := hb.trans ((below_new w1 (.cells #[.int .i64 0, .string ⟨#[]⟩, .int .i64 0, .int .i64 0] 105)).mono hb.size)
  have RF := Lib.hid (rwrong_D (H.out.keep b1) hd)
  have B1 := Lib.hid b1
  have XF := Lib.hid (TB.new w1 105 (.int .i64 0) (.string ⟨#[]⟩) (.int .i64 0) (.int .i64 0))
  have hgw := Lib.hid (show g ≠ w1.heap.size by have := H.out.lt; have := hb.size; omega)
  clear hb PK H b1
  rw [show aggT .zero = Value.agg #[.int .i64 0, .string ⟨#[]⟩, .int .i64 0, .int .i64 0] from rfl]
  go_wp2_with fail
  refine RF.out.mono ?_
  rintro e w2 ⟨rfl, h1, h2⟩
  have G : Hid (Did (fun w' => SR bad w' g [] (refE er)) g (.string ⟨#[]⟩) w (.returned (.string ⟨#[]⟩)) w2) := Lib.hid ⟨rfl, h1, (grown_of_below B1.out _).trans h2⟩
  clear h1 h2 RF B1 XF hgw
  go_wp2
  go_ret
  exact G.out
set_option maxRecDepth 100000 in
set_option maxHeartbeats 2000000 in
theorem rname_no {bad : Nat → Prop} {w : World} {g : Nat} {A : Option Addr} {n c : Nat} {t : Tk} {r : List Tk} (h : SB 68 bad w g A n c (t :: r) 0) (hk : t.kind ≠ 1) :
    Calls Tryz.prog 65 #[.pointer (some ⟨g, 0, none⟩)] w (Did (fun w' => SR bad w' g [] 2) g (.string ⟨#[]⟩) w) := by
  have PK := Lib.hid (rpeek_some h)
  have H := Lib.hid h
  clear h
  have hm : ((t.kind : Int) != 1) = true := bne_iff_ne.2 hk
  clear hk
  obtain ⟨kd, tx, vv, a⟩ := t
  simp only at hm
  go_enter Tryz.func65, Tryz.ntmps65
  go_wp2_with fail
  refine PK.out.mono ?_
  rintro e w1 ⟨rfl, hb⟩
  have b1 := hb.trans ((below_new w1 (.cells #[.int .i64 kd, .string (str tx), .int .i64 vv, .int .i64 a] 105)).mono hb.size)
  have RF := Lib.hid (rwrong_live (H.out.keep b1))
  have B1 := Lib.hid b1
  have XF := Lib.hid (TB.new w1 105 (.int .i64 kd) (.string (str tx)) (.int .i64 vv) (.int .i64 a))
  have hgw := Lib.hid (show g ≠ w1.heap.size by have := H.out.lt; have := hb.size; omega)
  clear hb PK H b1
  unfold aggT
  go_wp2_with fail
  refine RF.out.mono ?_
  rintro e w2 ⟨rfl, h1, h2⟩
  have G : Hid (Did (fun w' => SR bad w' g [] 2) g (.string ⟨#[]⟩) w (.returned (.string ⟨#[]⟩)) w2) := Lib.hid ⟨rfl, h1, (grown_of_below B1.out _).trans h2⟩
  clear h1 h2 RF B1 XF hgw
  go_wp2
  go_ret
  exact G.out
set_option maxRecDepth 100000 in
set_option maxHeartbeats 2000000 in
theorem rname_yes {bad : Nat → Prop} {w : World} {g : Nat} {A : Option Addr} {n c : Nat} {t : Tk} {r : List Tk} (h : SB 68 bad w g A n c (t :: r) 0) (hk : t.kind = 1) :
    Calls Tryz.prog 65 #[.pointer (some ⟨g, 0, none⟩)] w (Did (fun w' => SR bad w' g r 0) g (.string (str t.text)) w) := by
  have PK := Lib.hid (rpeek_some h)
  have H := Lib.hid h
  clear h
  obtain ⟨kd, tx, vv, a⟩ := t
  simp only at hk
  subst hk
  simp only
  go_enter Tryz.func65, Tryz.ntmps65
  go_wp2_with fail
  refine PK.out.mono ?_
  rintro e w1 ⟨rfl, hb⟩
  have b1 := hb.trans ((below_new w1 (.cells #[.int .i64 1, .string (str tx), .int .i64 vv, .int .i64 a] 105)).mono hb.size)
  have RF := Lib.hid (rnext_some (H.out.keep b1))
  have B1 := Lib.hid b1
  have XF := Lib.hid (TB.new w1 105 (.int .i64 1) (.string (str tx)) (.int .i64 vv) (.int .i64 a))
  have hgw := Lib.hid (show g ≠ w1.heap.size by have := H.out.lt; have := hb.size; omega)
  clear hb PK H b1
  unfold aggT
  go_wp2_with fail
  refine RF.out.mono ?_
  rintro e w2 ⟨rfl, h1, h2⟩
  obtain ⟨A', n', c', h3⟩ := h1
  have G : Hid (Did (fun w' => SR bad w' g r 0) g (.string (str tx)) w (.returned (.string (str tx))) w2) := Lib.hid ⟨rfl, h3.srl, (grown_of_below B1.out _).trans h2⟩
  have XF2 : TB w2 w1.heap.size 105 (.int .i64 1) (.string (str tx)) (.int .i64 vv) (.int .i64 a) := (h2.block w1.heap.size (by simp) (fun x => by injection x with x; exact hgw.out x.symm)).trans XF.out
  obtain ⟨x0, x1, x2, x3⟩ := XF2.cells
  clear h3 h2 RF B1 XF hgw XF2
  unfold aggT
  go_wp2
  go_ret
  exact G.out
set_option maxRecDepth 100000 in
set_option maxHeartbeats 2000000 in
theorem ramount_D {bad : Nat → Prop} {w : World} {g : Nat} {A : Option Addr} {n c : Nat} {L : List Tk} {er : Int} (most : Int) (h : SB 68 bad w g A n c L er) (hd : er ≠ 0 ∨ L = []) :
    Calls Tryz.prog 69 #[.pointer (some ⟨g, 0, none⟩), .int .i64 most] w (Did (fun w' => SR bad w' g [] (refE er)) g (.int .i64 0) w) := by
  have PK := Lib.hid (rpeek_D h hd)
  have H := Lib.hid h
  clear h
  go_enter Tryz.func69, Tryz.ntmps69
  go_wp2_with fail
  refine PK.out.mono ?_
  rintro e w1 ⟨rfl, hb⟩
  have b1 := hb.trans ((below_new w1 (.cells #[.int .i64 0, .string ⟨#[]⟩, .int .i64 0, .int .i64 0] 105)).mono hb.size)
  have RF := Lib.hid (rwrong_D (H.out.keep b1) hd)
  have B1 := Lib.hid b1
  have XF := Lib.hid (TB.new w1 105 (.int .i64 0) (.string ⟨#[]⟩) (.int .i64 0) (.int .i64 0))
  have hgw := Lib.hid (show g ≠ w1.heap.size by have := H.out.lt; have := hb.size; omega)
  clear hb PK H b1
  rw [show aggT .zero = Value.agg #[.int .i64 0, .string ⟨#[]⟩, .int .i64 0, .int .i64 0] from rfl]
  go_wp2_with fail
  refine RF.out.mono ?_
  rintro e w2 ⟨rfl, h1, h2⟩
  have G : Hid (Did (fun w' => SR bad w' g [] (refE er)) g (.int .i64 0) w (.returned (.int .i64 0)) w2) := Lib.hid ⟨rfl, h1, (grown_of_below B1.out _).trans h2⟩
  clear h1 h2 RF B1 XF hgw
  go_wp2
  go_ret
  exact G.out
set_option maxRecDepth 100000 in
set_option maxHeartbeats 2000000 in
theorem ramount_kind {bad : Nat → Prop} {w : World} {g : Nat} {A : Option Addr} {n c : Nat} {t : Tk} {r : List Tk} (most : Int) (h : SB 68 bad w g A n c (t :: r) 0) (hk : t.kind ≠ 2) :
    Calls Tryz.prog 69 #[.pointer (some ⟨g, 0, none⟩), .int .i64 most] w (Did (fun w' => SR bad w' g [] 2) g (.int .i64 0) w) := by
  have PK := Lib.hid (rpeek_some h)
  have H := Lib.hid h
  clear h
  have hm : ((t.kind : Int) != 2) = true := bne_iff_ne.2 hk
  clear hk
  obtain ⟨kd, tx, vv, a⟩ := t
  simp only at hm
  go_enter Tryz.func69, Tryz.ntmps69
  go_wp2_with fail
  refine PK.out.mono ?_
  rintro e w1 ⟨rfl, hb⟩
  have b1 := hb.trans ((below_new w1 (.cells #[.int .i64 kd, .string (str tx), .int .i64 vv, .int .i64 a] 105)).mono hb.size)
  have RF := Lib.hid (rwrong_live (H.out.keep b1))
  have B1 := Lib.hid b1
  have XF := Lib.hid (TB.new w1 105 (.int .i64 kd) (.string (str tx)) (.int .i64 vv) (.int .i64 a))
  have hgw := Lib.hid (show g ≠ w1.heap.size by have := H.out.lt; have := hb.size; omega)
  clear hb PK H b1
  unfold aggT
  go_wp2_with fail
  refine RF.out.mono ?_
  rintro e w2 ⟨rfl, h1, h2⟩
  have G : Hid (Did (fun w' => SR bad w' g [] 2) g (.int .i64 0) w (.returned (.int .i64 0)) w2) := Lib.hid ⟨rfl, h1, (grown_of_below B1.out _).trans h2⟩
  clear h1 h2 RF B1 XF hgw
  go_wp2
  go_ret
  exact G.out
set_option maxRecDepth 100000 in
set_option maxHeartbeats 2000000 in
theorem ramount_neg {bad : Nat → Prop} {w : World} {g : Nat} {A : Option Addr} {n c : Nat} {t : Tk} {r : List Tk} (most : Int) (h : SB 68 bad w g A n c (t :: r) 0) (hk : t.kind = 2) (hv : t.value < 0) :
    Calls Tryz.prog 69 #[.pointer (some ⟨g, 0, none⟩), .int .i64 most] w (Did (fun w' => SR bad w' g [] 4) g (.int .i64 0) w) := by
  have PK := Lib.hid (rpeek_some h)
  have H := Lib.hid h
  clear h
  obtain ⟨kd, tx, vv, a⟩ := t
  simp only at hk hv
  subst hk
  go_enter Tryz.func69, Tryz.ntmps69
  go_wp2_with fail
  refine PK.out.mono ?_
  rintro e w1 ⟨rfl, hb⟩
  have b1 := hb.trans ((below_new w1 (.cells #[.int .i64 2, .string (str tx), .int .i64 vv, .int .i64 a] 105)).mono hb.size)
  have RF := Lib.hid (rfail_set 4 (H.out.keep b1))
  have B1 := Lib.hid b1
  have XF := Lib.hid (TB.new w1 105 (.int .i64 2) (.string (str tx)) (.int .i64 vv) (.int .i64 a))
  have hgw := Lib.hid (show g ≠ w1.heap.size by have := H.out.lt; have := hb.size; omega)
  clear hb PK H b1
  unfold aggT
  go_wp2_with fail
  refine RF.out.mono ?_
  rintro e w2 ⟨rfl, h1, h2⟩
  have G : Hid (Did (fun w' => SR bad w' g [] 4) g (.int .i64 0) w (.returned (.int .i64 0)) w2) := Lib.hid ⟨rfl, h1.sr (.inl (by decide)), (grown_of_below B1.out _).trans h2⟩
  clear h1 h2 RF B1 XF hgw
  go_wp2
  go_ret
  exact G.out
set_option maxRecDepth 100000 in
set_option maxHeartbeats 2000000 in
theorem ramount_most {bad : Nat → Prop} {w : World} {g : Nat} {A : Option Addr} {n c : Nat} {t : Tk} {r : List Tk} (most : Int) (h : SB 68 bad w g A n c (t :: r) 0) (hk : t.kind = 2) (hv : 0 ≤ t.value) (hv2 : most < t.value) :
    Calls Tryz.prog 69 #[.pointer (some ⟨g, 0, none⟩), .int .i64 most] w (Did (fun w' => SR bad w' g [] 4) g (.int .i64 0) w) := by
  have PK := Lib.hid (rpeek_some h)
  have H := Lib.hid h
  clear h
  obtain ⟨kd, tx, vv, a⟩ := t
  simp only at hk hv hv2
  subst hk
  have hd : decide (vv < 0) = false := decide_eq_false (by omega)
  have hd2 : decide (most < vv) = true := decide_eq_true hv2
  go_enter Tryz.func69, Tryz.ntmps69
  go_wp2_with fail
  refine PK.out.mono ?_
  rintro e w1 ⟨rfl, hb⟩
  have b1 := hb.trans ((below_new w1 (.cells #[.int .i64 2, .string (str tx), .int .i64 vv, .int .i64 a] 105)).mono hb.size)
  have RF := Lib.hid (rfail_set 4 (H.out.keep b1))
  have B1 := Lib.hid b1
  have XF := Lib.hid (TB.new w1 105 (.int .i64 2) (.string (str tx)) (.int .i64 vv) (.int .i64 a))
  have hgw := Lib.hid (show g ≠ w1.heap.size by have := H.out.lt; have := hb.size; omega)
  clear hb PK H b1
  unfold aggT
  go_wp2_with fail
  refine RF.out.mono ?_
  rintro e w2 ⟨rfl, h1, h2⟩
  have G : Hid (Did (fun w' => SR bad w' g [] 4) g (.int .i64 0) w (.returned (.int .i64 0)) w2) := Lib.hid ⟨rfl, h1.sr (.inl (by decide)), (grown_of_below B1.out _).trans h2⟩
  clear h1 h2 RF B1 XF hgw
  go_wp2
  go_ret
  exact G.out
set_option maxRecDepth 100000 in
set_option maxHeartbeats 2000000 in
theorem ramount_yes {bad : Nat → Prop} {w : World} {g : Nat} {A : Option Addr} {n c : Nat} {t : Tk} {r : List Tk} (most : Int) (h : SB 68 bad w g A n c (t :: r) 0) (hk : t.kind = 2) (hv : 0 ≤ t.value) (hv2 : t.value ≤ most) :
    Calls Tryz.prog 69 #[.pointer (some ⟨g, 0, none⟩), .int .i64 most] w (Did (fun w' => SR bad w' g r 0) g (.int .i64 t.value) w) := by
  have PK := Lib.hid (rpeek_some h)
  have H := Lib.hid h
  clear h
  obtain ⟨kd, tx, vv, a⟩ := t
  simp only at hk hv hv2
  subst hk
  have hd : decide (vv < 0) = false := decide_eq_false (by omega)
  have hd2 : decide (most < vv) = false := decide_eq_false (by omega)
  go_enter Tryz.func69, Tryz.ntmps69
  go_wp2_with fail
  refine PK.out.mono ?_
  rintro e w1 ⟨rfl, hb⟩
  have b1 := hb.trans ((below_new w1 (.cells #[.int .i64 2, .string (str tx), .int .i64 vv, .int .i64 a] 105)).mono hb.size)
  have RF := Lib.hid (rnext_some (H.out.keep b1))
  have B1 := Lib.hid b1
  have XF := Lib.hid (TB.new w1 105 (.int .i64 2) (.string (str tx)) (.int .i64 vv) (.int .i64 a))
  have hgw := Lib.hid (show g ≠ w1.heap.size by have := H.out.lt; have := hb.size; omega)
  clear hb PK H b1
  unfold aggT
  go_wp2_with fail
  refine RF.out.mono ?_
  rintro e w2 ⟨rfl, h1, h2⟩
  obtain ⟨A', n', c', h3⟩ := h1
  have G : Hid (Did (fun w' => SR bad w' g r 0) g (.int .i64 vv) w (.returned (.int .i64 vv)) w2) := Lib.hid ⟨rfl, h3.srl, (grown_of_below B1.out _).trans h2⟩
  have XF2 : TB w2 w1.heap.size 105 (.int .i64 2) (.string (str tx)) (.int .i64 vv) (.int .i64 a) := (h2.block w1.heap.size (by simp) (fun x => by injection x with x; exact hgw.out x.symm)).trans XF.out
  obtain ⟨x0, x1, x2, x3⟩ := XF2.cells
  clear h3 h2 RF B1 XF hgw XF2
  unfold aggT
  go_wp2
  go_ret
  exact G.out
end Go.Proofs.YtcokplikmjegcaaGreatDoor

/- RExp0, RExp1, RExp2, joined: no claim of its own. -/
import Derived.Test.YtcokplikmjegcaaGreatDoorRPri
import Derived.Test.YtcokplikmjegcaaGreatDoorJX
import Derived.Test.YtcokplikmjegcaaGreatDoorJY
import Derived.Deep.RegionHeld3
import Derived.Deep.DeepCutAuto
import Derived.Deep.AppendLies
namespace Go.Proofs.YtcokplikmjegcaaGreatDoor
open Go.RowKit
open ME (F Nd)
open MC (Pr)
theorem SR.turn {bad : Nat → Prop} {w w' : World} {g : Nat} {ts : List Tk} {er : Int} {row : Option Nat} (h : SR bad w g ts er) (hg : w.grownBy w' row) (hr : ∀ k, row = some k → bad k ∧ k ≠ g) : SR bad w' g ts er := by
  cases row with
  | none => exact h.keep ⟨hg.os, hg.tape, hg.output, hg.size, fun k hk => hg.block k hk (by simp)⟩
  | some k =>
    obtain ⟨h1, h2⟩ := hr k rfl
    exact h.other hg h1 (Ne.symm h2)
/-- The reference's expression while it is read. -/
structure ES (N g ge : Nat) (o x0 x1 x2 x3 x4 x5 v : Int) (vb vk : Value) (L : List NT) (ts : List Tk) (er : Int) (w wr : World) : Prop where
  sp : SR (fun k => g ≤ k) wr g ts er
  box : B9 wr ge (.int .i64 o) (.int .i64 x0) (.int .i64 x1) (.int .i64 x2) (.int .i64 x3) (.int .i64 x4) (.int .i64 x5) (.int .i64 v) vb
  own : OwnL ntE 27 wr (ge + 1) vk L
  ok : ∀ z ∈ L, z.Ok wr (fun k => ge + 1 ≤ k ∧ vk.ownBlock ≠ some k)
  rb : B9 wr w.heap.size (.int .i64 0) (.int .i64 0) (.int .i64 0) (.int .i64 0) (.int .i64 0) (.int .i64 0) (.int .i64 0) (.int .i64 0) (.slice none 0 0)
  mv : Mv N g g w wr
section
variable {N g ge : Nat} {o x0 x1 x2 x3 x4 x5 v : Int} {vb vk : Value} {L : List NT} {ts ts' : List Tk} {er er' : Int} {w wr w' : World}
theorem ES.turn (h : ES N g ge o x0 x1 x2 x3 x4 x5 v vb vk L ts er w wr) (hg : wr.grownBy w' (some g)) (hs : SR (fun k => g ≤ k) w' g ts' er') (hN : N ≤ g) (hNw : N ≤ w.heap.size) (hgw : g < w.heap.size) (hge : w.heap.size < ge) : ES N g ge o x0 x1 x2 x3 x4 x5 v vb vk L ts' er' w w' where
  sp := hs
  box := h.box.same (hg.block ge h.box.lt (fun e => by injection e with e; omega))
  own := ⟨h.own.1.kept hg (.inr (fun e => by have := (World.ownsRow.lt h.own.1 g e).1; omega)), h.own.2⟩
  ok := fun z hz => grown_keepP hg (h.ok z hz) (fun k q e => by injection e with e; omega) (fun k q _ => q)
  rb := h.rb.same (hg.block _ h.rb.lt (fun e => by injection e with e; omega))
  mv := h.mv.turn hg hNw (fun k e => by injection e with e; subst e; exact ⟨hN, .inl rfl⟩)
theorem ES.keep (h : ES N g ge o x0 x1 x2 x3 x4 x5 v vb vk L ts er w wr) (hb : Below wr.heap.size wr w') (hNw : N ≤ w.heap.size) : ES N g ge o x0 x1 x2 x3 x4 x5 v vb vk L ts er w w' where
  sp := h.sp.keep hb
  box := h.box.keep hb
  own := h.own.keep hb
  ok := fun z hz => (h.ok z hz).below hb
  rb := h.rb.keep hb
  mv := h.mv.quiet hb hNw
theorem ES.set0 (h : ES N g ge o x0 x1 x2 x3 x4 x5 v vb vk L ts er w wr) (o' : Int) (hN : N ≤ g) (hNw : N ≤ w.heap.size) (hgw : g < w.heap.size) (hge : w.heap.size < ge) : ES N g ge o' x0 x1 x2 x3 x4 x5 v vb vk L ts er w (wr.setCell ⟨ge, 0, none⟩ (.int .i64 o')) := by
  have hg : wr.grownBy (wr.setCell ⟨ge, 0, none⟩ (.int .i64 o')) (some ge) := grown_set wr ge 0 (.int .i64 o')
  have hr : ∀ k, vk.ownBlock = some k → ge + 1 ≤ k := fun k e => (World.ownsRow.lt h.own.1 k e).1
  refine ⟨h.sp.turn hg (fun k e => ⟨?_, ?_⟩), heap_setCell_same wr ge 0 _ _ (.int .i64 o') h.box, ⟨h.own.1.kept hg (.inr (fun e => ?_)), h.own.2⟩, fun z hz => grown_keepP hg (h.ok z hz) (fun k q e => ?_) (fun k q _ => q), h.rb.same (hg.block _ h.rb.lt (fun e => ?_)), h.mv.turn hg hNw (fun k e => ⟨?_, .inr (.inr ?_)⟩)⟩
  · have := Option.some.inj e; show g ≤ k; omega
  · have := Option.some.inj e; omega
  · have := hr ge e; omega
  · have := Option.some.inj e; have := q.1; omega
  · have := Option.some.inj e; omega
  · have := Option.some.inj e; omega
  · have := Option.some.inj e; omega
theorem ES.set7 (h : ES N g ge o x0 x1 x2 x3 x4 x5 v vb vk L ts er w wr) (v' : Int) (hN : N ≤ g) (hNw : N ≤ w.heap.size) (hgw : g < w.heap.size) (hge : w.heap.size < ge) : ES N g ge o x0 x1 x2 x3 x4 x5 v' vb vk L ts er w (wr.setCell ⟨ge, 7, none⟩ (.int .i64 v')) := by
  have hg : wr.grownBy (wr.setCell ⟨ge, 7, none⟩ (.int .i64 v')) (some ge) := grown_set wr ge 7 (.int .i64 v')
  have hr : ∀ k, vk.ownBlock = some k → ge + 1 ≤ k := fun k e => (World.ownsRow.lt h.own.1 k e).1
  refine ⟨h.sp.turn hg (fun k e => ⟨?_, ?_⟩), h.box.set7 (.int .i64 v'), ⟨h.own.1.kept hg (.inr (fun e => ?_)), h.own.2⟩, fun z hz => grown_keepP hg (h.ok z hz) (fun k q e => ?_) (fun k q _ => q), h.rb.same (hg.block _ h.rb.lt (fun e => ?_)), h.mv.turn hg hNw (fun k e => ⟨?_, .inr (.inr ?_)⟩)⟩
  · have := Option.some.inj e; show g ≤ k; omega
  · have := Option.some.inj e; omega
  · have := hr ge e; omega
  · have := Option.some.inj e; have := q.1; omega
  · have := Option.some.inj e; omega
  · have := Option.some.inj e; omega
  · have := Option.some.inj e; omega
theorem ES.set8 (h : ES N g ge o x0 x1 x2 x3 x4 x5 v vb vk L ts er w wr) (u : Value) (hN : N ≤ g) (hNw : N ≤ w.heap.size) (hgw : g < w.heap.size) (hge : w.heap.size < ge) : ES N g ge o x0 x1 x2 x3 x4 x5 v u vk L ts er w (wr.setCell ⟨ge, 8, none⟩ u) := by
  have hg : wr.grownBy (wr.setCell ⟨ge, 8, none⟩ u) (some ge) := grown_set wr ge 8 u
  have hr : ∀ k, vk.ownBlock = some k → ge + 1 ≤ k := fun k e => (World.ownsRow.lt h.own.1 k e).1
  refine ⟨h.sp.turn hg (fun k e => ⟨?_, ?_⟩), h.box.set8 u, ⟨h.own.1.kept hg (.inr (fun e => ?_)), h.own.2⟩, fun z hz => grown_keepP hg (h.ok z hz) (fun k q e => ?_) (fun k q _ => q), h.rb.same (hg.block _ h.rb.lt (fun e => ?_)), h.mv.turn hg hNw (fun k e => ⟨?_, .inr (.inr ?_)⟩)⟩
  · have := Option.some.inj e; show g ≤ k; omega
  · have := Option.some.inj e; omega
  · have := hr ge e; omega
  · have := Option.some.inj e; have := q.1; omega
  · have := Option.some.inj e; omega
  · have := Option.some.inj e; omega
  · have := Option.some.inj e; omega
theorem g_want (wr : World) (ge : Nat) (y0 y1 y2 y3 y4 y5 : Int) : wr.grownBy ((((((wr.setCell ⟨ge, 1, none⟩ (.int .i64 y0)).setCell ⟨ge, 2, none⟩ (.int .i64 y1)).setCell ⟨ge, 3, none⟩ (.int .i64 y2)).setCell ⟨ge, 4, none⟩ (.int .i64 y3)).setCell ⟨ge, 5, none⟩ (.int .i64 y4)).setCell ⟨ge, 6, none⟩ (.int .i64 y5)) (some ge) :=
  (((((grown_set wr ge 1 _).trans (grown_set _ ge 2 _)).trans (grown_set _ ge 3 _)).trans (grown_set _ ge 4 _)).trans (grown_set _ ge 5 _)).trans (grown_set _ ge 6 _)
theorem b9_want {wr : World} {ge : Nat} {v0 v1 v2 v3 v4 v5 v6 v7 v8 : Value} (h : B9 wr ge v0 v1 v2 v3 v4 v5 v6 v7 v8) (y0 y1 y2 y3 y4 y5 : Int) : B9 ((((((wr.setCell ⟨ge, 1, none⟩ (.int .i64 y0)).setCell ⟨ge, 2, none⟩ (.int .i64 y1)).setCell ⟨ge, 3, none⟩ (.int .i64 y2)).setCell ⟨ge, 4, none⟩ (.int .i64 y3)).setCell ⟨ge, 5, none⟩ (.int .i64 y4)).setCell ⟨ge, 6, none⟩ (.int .i64 y5)) ge v0 (.int .i64 y0) (.int .i64 y1) (.int .i64 y2) (.int .i64 y3) (.int .i64 y4) (.int .i64 y5) v7 v8 := by
  have k1 := heap_setCell_same _ ge 1 _ _ (.int .i64 y0) h
  have k2 := heap_setCell_same _ ge 2 _ _ (.int .i64 y1) k1
  have k3 := heap_setCell_same _ ge 3 _ _ (.int .i64 y2) k2
  have k4 := heap_setCell_same _ ge 4 _ _ (.int .i64 y3) k3
  have k5 := heap_setCell_same _ ge 5 _ _ (.int .i64 y4) k4
  have k6 := heap_setCell_same _ ge 6 _ _ (.int .i64 y5) k5
  exact k6
theorem ES.want (h : ES N g ge o x0 x1 x2 x3 x4 x5 v vb vk L ts er w wr) (y0 y1 y2 y3 y4 y5 : Int) (hN : N ≤ g) (hNw : N ≤ w.heap.size) (hgw : g < w.heap.size) (hge : w.heap.size < ge) : ES N g ge o y0 y1 y2 y3 y4 y5 v vb vk L ts er w ((((((wr.setCell ⟨ge, 1, none⟩ (.int .i64 y0)).setCell ⟨ge, 2, none⟩ (.int .i64 y1)).setCell ⟨ge, 3, none⟩ (.int .i64 y2)).setCell ⟨ge, 4, none⟩ (.int .i64 y3)).setCell ⟨ge, 5, none⟩ (.int .i64 y4)).setCell ⟨ge, 6, none⟩ (.int .i64 y5)) := by
  have hg : wr.grownBy ((((((wr.setCell ⟨ge, 1, none⟩ (.int .i64 y0)).setCell ⟨ge, 2, none⟩ (.int .i64 y1)).setCell ⟨ge, 3, none⟩ (.int .i64 y2)).setCell ⟨ge, 4, none⟩ (.int .i64 y3)).setCell ⟨ge, 5, none⟩ (.int .i64 y4)).setCell ⟨ge, 6, none⟩ (.int .i64 y5)) (some ge) := g_want wr ge y0 y1 y2 y3 y4 y5
  have hr : ∀ k, vk.ownBlock = some k → ge + 1 ≤ k := fun k e => (World.ownsRow.lt h.own.1 k e).1
  refine ⟨h.sp.turn hg (fun k e => ⟨?_, ?_⟩), b9_want h.box y0 y1 y2 y3 y4 y5, ⟨h.own.1.kept hg (.inr (fun e => ?_)), h.own.2⟩, fun z hz => grown_keepP hg (h.ok z hz) (fun k q e => ?_) (fun k q _ => q), h.rb.same (hg.block _ h.rb.lt (fun e => ?_)), h.mv.turn hg hNw (fun k e => ⟨?_, .inr (.inr ?_)⟩)⟩
  · have := Option.some.inj e; show g ≤ k; omega
  · have := Option.some.inj e; omega
  · have := hr ge e; omega
  · have := Option.some.inj e; have := q.1; omega
  · have := Option.some.inj e; omega
  · have := Option.some.inj e; omega
  · have := Option.some.inj e; omega
/-- One argument more. -/
theorem ES.app {Av : Option Addr} {cv gg cap : Nat} {y : NT} (h : ES N g ge o x0 x1 x2 x3 x4 x5 v vb (.slice Av L.length cv) L ts er w wr) (hown : w'.ownsRow (ge + 1) 27 9 (.slice (some ⟨gg, 0, none⟩) (L.length + 1) cap) (L.length + 1) (ntE.all L ++ ntE.cells y)) (hg : wr.grownBy w' (.slice Av L.length cv : Value).ownBlock) (hat : (.slice Av L.length cv : Value).ownBlock = some gg ∨ gg = wr.heap.size)
    (hy : y.Ok wr (fun k => ge + 1 ≤ k ∧ (.slice Av L.length cv : Value).ownBlock ≠ some k)) (hN : N ≤ g) (hNw : N ≤ w.heap.size) (hgw : g < w.heap.size) (hge : w.heap.size < ge) : ES N g ge o x0 x1 x2 x3 x4 x5 v vb (.slice (some ⟨gg, 0, none⟩) (L.length + 1) cap) (L ++ [y]) ts er w w' := by
  have hr : ∀ k, (.slice Av L.length cv : Value).ownBlock = some k → ge + 1 ≤ k := fun k e => (World.ownsRow.lt h.own.1 k e).1
  have mono : ∀ z : NT, z.Ok wr (fun k => ge + 1 ≤ k ∧ (.slice Av L.length cv : Value).ownBlock ≠ some k) → z.Ok w' (fun k => ge + 1 ≤ k ∧ (.slice (some ⟨gg, 0, none⟩) (L.length + 1) cap : Value).ownBlock ≠ some k) := fun z q =>
    grown_keepP hg q (fun k q e => q.2 e.symm) (fun k q hl => ⟨q.1, fun e => by
      have e' : gg = k := Option.some.inj e
      rcases hat with p | p
      · exact q.2 (by rw [p, e'])
      · omega⟩)
  refine ⟨h.sp.turn hg (fun k e => ⟨?_, ?_⟩), h.box.same (hg.block ge h.box.lt (fun e => ?_)), ⟨?_, h.own.2.snoc hy.six⟩, fun z hz => ?_, h.rb.same (hg.block _ h.rb.lt (fun e => ?_)), h.mv.turn hg hNw (fun k e => ⟨?_, .inr (.inr ?_)⟩)⟩
  · have := hr k e; show g ≤ k; omega
  · have := hr k e; omega
  · have := hr ge e.symm; omega
  · rw [El.all_append, El.all_one, List.length_append]
    exact hown
  · rcases List.mem_append.1 hz with hz | hz
    · exact mono z (h.ok z hz)
    · rw [List.mem_singleton.1 hz]; exact mono y hy
  · have := hr _ e.symm; omega
  · have := hr k e; omega
  · have := hr k e; omega
/-- A row of one argument, as a literal lays it. -/
theorem own_one {y : NT} {gz : Nat} {u0 u1 u2 u3 u4 u5 u6 u7 u8 : Value} (h : wr.heap[gz]? = some (.cells #[u0, u1, u2, u3, u4, u5, u6, u7, u8] 27 (0, 0))) (hy : cellsE y.o y.b y.v y.A y.k.len y.c = [u0, u1, u2, u3, u4, u5, u6, u7, u8]) (h6 : y.b.length = 6) (hg : ge + 1 ≤ gz) : OwnL ntE 27 wr (ge + 1) (.slice (some ⟨gz, 0, none⟩) 1 1) [y] := by
  have hc : ntE.cells y = [u0, u1, u2, u3, u4, u5, u6, u7, u8] := hy
  refine ⟨⟨by rw [El.all_one, hc]; rfl, .inr ⟨gz, 1, _, rfl, hg, h, Nat.le_refl _, by unfold maxLen; decide, rfl, ?_⟩⟩, fun z hz => by rw [List.mem_singleton.1 hz]; exact h6⟩
  rw [El.all_one, hc]
  rfl
theorem ES.first {y : NT} {gz : Nat} (h : ES N g ge o x0 x1 x2 x3 x4 x5 v vb (.slice none 0 0) [] ts er w wr) (hb : Below wr.heap.size wr w') (ho : OwnL ntE 27 w' (ge + 1) (.slice (some ⟨gz, 0, none⟩) 1 1) [y]) (hy : y.Ok w' (fun k => ge + 1 ≤ k ∧ k ≠ gz)) (hNw : N ≤ w.heap.size) : ES N g ge o x0 x1 x2 x3 x4 x5 v vb (.slice (some ⟨gz, 0, none⟩) 1 1) [y] ts er w w' :=
  ⟨h.sp.keep hb, h.box.keep hb, ho, fun z hz => by rw [List.mem_singleton.1 hz]; exact hy.keep (fun _ _ _ => rfl) (Nat.le_refl _) (fun k q _ => ⟨q.1, fun e => q.2 (Option.some.inj e).symm⟩), h.rb.keep hb, h.mv.quiet hb hNw⟩
end
/-- What the reference's expression does, by fuel. -/
def RExOk (A : Option Addr) (n cp : Nat) (L : List Pr) (N f : Nat) : Prop := ∀ (g : Nat) (ts : List Tk) (er : Int) (w : World), ts.length < f → f ≤ 100000 → SR (fun k => g ≤ k) w g ts er → N ≤ g → N ≤ w.heap.size → (∀ w', Below N w w' → Prs w' A n cp L) → (∀ t ∈ ts, t.kind = 1 → t.text ≠ []) →
  Calls Tryz.prog 31 #[.slice A n cp, .pointer (some ⟨g, 0, none⟩)] w fun e w' => ∃ y : NT, e = .returned y.val ∧ ((MX.rdE L f ts er).2.2 = 0 → y.n = (MX.rdE L f ts er).1) ∧ y.Ok w' (fun k => w.heap.size ≤ k) ∧ SR (fun k => g ≤ k) w' g (MX.rdE L f ts er).2.1 (MX.rdE L f ts er).2.2 ∧ Mv N g g w w'
end Go.Proofs.YtcokplikmjegcaaGreatDoor
namespace Go.Proofs.YtcokplikmjegcaaGreatDoor
open Go.RowKit
open ME (F Nd)
open MC (Pr)
theorem rexp_results {w : World} {R1 : Nat} {z0 z1 z2 z3 z4 z5 z6 z7 z8 : Value} (tmps : Array Value) (h2 : tmps.getD 4 undef = .pointer (some ⟨R1, 0, none⟩)) (b1 : B9 w R1 z0 z1 z2 z3 z4 z5 z6 z7 z8) :
    (results Tryz.f31 tmps).run Tryz.prog w = .ok (.agg #[z0, z1, z2, z3, z4, z5, z6, z7, z8]) w := by
  have h2' : tmps[4]?.getD undef = .pointer (some ⟨R1, 0, none⟩) := by simpa using h2
  obtain ⟨r0, r1, r2, r3, r4, r5, r6, r7, r8⟩ := b1.cells
  simp [results, Tryz.results31, h2', go_sem, r0, r1, r2, r3, r4, r5, r6, r7, r8]
set_option maxRecDepth 100000 in
set_option maxHeartbeats 16000000 in
theorem rexp_atom (A : Option Addr) (n cp : Nat) (LP : List Pr) (N f g : Nat) (vl at9 : Int) (r : List Tk) (w : World) (h : SR (fun k => g ≤ k) w g (⟨3, [123], vl, at9⟩ :: r) 0) (hf : f + 1 ≤ 100000) (hN : N ≤ g) (hNw : N ≤ w.heap.size) (hP : ∀ w', Below N w w' → Prs w' A n cp LP) (hc : MC.chkL LP = 0) : Calls Tryz.prog 31 #[.slice A n cp, .pointer (some ⟨g, 0, none⟩)] w (fun e w' => ∃ y : NT, e = .returned y.val ∧ ((MX.rdE LP (f + 1) (⟨3, [123], vl, at9⟩ :: r) 0).2.2 = 0 → y.n = (MX.rdE LP (f + 1) (⟨3, [123], vl, at9⟩ :: r) 0).1) ∧ y.Ok w' (fun k => w.heap.size ≤ k) ∧ SR (fun k => g ≤ k) w' g (MX.rdE LP (f + 1) (⟨3, [123], vl, at9⟩ :: r) 0).2.1 (MX.rdE LP (f + 1) (⟨3, [123], vl, at9⟩ :: r) 0).2.2 ∧ Mv N g g w w') := by
  suffices H9 : ∀ (PP : Ending → World → Prop), (∀ e w', (∃ y : NT, e = .returned y.val ∧ ((MX.rdE LP (f + 1) (⟨3, [123], vl, at9⟩ :: r) 0).2.2 = 0 → y.n = (MX.rdE LP (f + 1) (⟨3, [123], vl, at9⟩ :: r) 0).1) ∧ y.Ok w' (fun k => w.heap.size ≤ k) ∧ SR (fun k => g ≤ k) w' g (MX.rdE LP (f + 1) (⟨3, [123], vl, at9⟩ :: r) 0).2.1 (MX.rdE LP (f + 1) (⟨3, [123], vl, at9⟩ :: r) 0).2.2 ∧ Mv N g g w w') → PP e w') → Calls Tryz.prog 31 #[.slice A n cp, .pointer (some ⟨g, 0, none⟩)] w PP from H9 _ (fun _ _ q => q)
  intro PP hPP
  have POST0 := Lib.hid hPP
  clear hPP
  have HF : Hid (MX.rdE LP (f + 1) (⟨3, [123], vl, at9⟩ :: r) 0 = MX.atomR (MX.bid LP (⟨3, [123], vl, at9⟩ :: r) 0)) := Lib.hid (by rw [MX.rdE, if_pos (show MX.hk (⟨3, [123], vl, at9⟩ :: r) ≠ 1 from show ¬ (3 : Int) = 1 by decide)])
  rw [HF.out] at POST0
  have PR := Lib.hid (fun (w' : World) (hs : SR (fun k => g ≤ k) w' g (⟨3, [123], vl, at9⟩ :: r) 0) (hw : N ≤ w'.heap.size) (hb : Below N w w') => rpriced_any A n cp LP N g _ 0 w' hs hN hw (fun w'' q => hP w'' (hb.trans q)) hc)
  have hbl : (MX.bid LP (⟨3, [123], vl, at9⟩ :: r) 0).1.length = 6 := by unfold MX.bid MX.bid1 MX.bid2; exact scanU_len _ _ _
  have hbs : (∀ z ∈ (MX.bid LP (⟨3, [123], vl, at9⟩ :: r) 0).1, 0 ≤ z ∧ z ≤ 4) ∧ 0 ≤ (MX.bid LP (⟨3, [123], vl, at9⟩ :: r) 0).2.1 ∧ (MX.bid LP (⟨3, [123], vl, at9⟩ :: r) 0).2.1 ≤ 1000000 := by unfold MX.bid MX.bid1 MX.bid2; exact ⟨scanU_small _ _ _, amtV_small _ _⟩
  obtain ⟨bb, bv, bt, be, hB⟩ : ∃ bb bv bt be, MX.bid LP (⟨3, [123], vl, at9⟩ :: r) 0 = (bb, bv, bt, be) := ⟨_, _, _, _, rfl⟩
  rw [hB] at POST0 PR hbl hbs
  clear hB HF hP hc
  obtain ⟨q0, q1, q2, q3, q4, q5, rfl⟩ := Proofs.YtcokplikmjegcaaGreatDoor.six hbl
  have HBS := Lib.hid hbs
  clear hbs hbl
  have et : str [123] = (⟨#[123]⟩ : ByteArray) := rfl
  have hgw : g < w.heap.size := h.lt
  have B0 := below_new w (.cells #[.int .i64 0, .int .i64 0, .int .i64 0, .int .i64 0, .int .i64 0, .int .i64 0, .int .i64 0, .int .i64 0, .slice none 0 0] 27)
  have RB := Lib.hid (show B9 (w.alloc (.cells #[.int .i64 0, .int .i64 0, .int .i64 0, .int .i64 0, .int .i64 0, .int .i64 0, .int .i64 0, .int .i64 0, .slice none 0 0] 27)) w.heap.size (.int .i64 0) (.int .i64 0) (.int .i64 0) (.int .i64 0) (.int .i64 0) (.int .i64 0) (.int .i64 0) (.int .i64 0) (.slice none 0 0) from heap_new w (.cells #[.int .i64 0, .int .i64 0, .int .i64 0, .int .i64 0, .int .i64 0, .int .i64 0, .int .i64 0, .int .i64 0, .slice none 0 0] 27))
  have HM := Lib.hid ((Mv.refl N g g w).quiet B0 hNw)
  have HS := Lib.hid (h.keep B0)
  have PK := Lib.hid (fun (w' : World) (hs : SR (fun k => g ≤ k) w' g (⟨3, [123], vl, at9⟩ :: r) 0) => rpeekU hs)
  clear h B0
  go_enter Tryz.func31, Tryz.ntmps31
  go_upto_region 1 with (fail)
  obtain ⟨W0, hW0⟩ : ∃ W0, W0 = w.alloc (.cells #[.int .i64 0, .int .i64 0, .int .i64 0, .int .i64 0, .int .i64 0, .int .i64 0, .int .i64 0, .int .i64 0, .slice none 0 0] 27) := ⟨_, rfl⟩
  rw [← hW0] at RB HM HS ⊢
  clear hW0
  go_wp2_with fail
  refine (PK.out _ HS.out).mono ?_
  rintro ev w1 ⟨rfl, hb⟩
  unfold aggT
  rw [show headT (⟨3, [123], vl, at9⟩ :: r) = ⟨3, [123], vl, at9⟩ from rfl]
  dsimp only
  rw [et]
  have BT := below_new w1 (.cells #[.int .i64 3, .string ⟨#[123]⟩, .int .i64 vl, .int .i64 at9] 105)
  have S2 := Lib.hid ((HS.out.keep hb).keep BT)
  have M2 := Lib.hid ((HM.out.quiet hb hNw).quiet BT hNw)
  have R2 := Lib.hid ((RB.out.keep hb).keep BT)
  have T2 := Lib.hid (heap_new w1 (.cells #[.int .i64 3, .string ⟨#[123]⟩, .int .i64 vl, .int .i64 at9] 105))
  clear hb BT HS HM RB PK et
  go_upto_region 2 with (fail)
  obtain ⟨W2, hW2⟩ : ∃ W2, W2 = w1.alloc (.cells #[.int .i64 3, .string ⟨#[123]⟩, .int .i64 vl, .int .i64 at9] 105) := ⟨_, rfl⟩
  rw [← hW2] at S2 M2 R2 T2 ⊢
  clear hW2
  generalize w1.heap.size = gt at *
  have c0 : W2.cell? ⟨gt, 0, none⟩ = some (.int .i64 3) := by rw [cell_of_row _ _ _ _ _ _ T2.out]; rfl
  have c1 : W2.cell? ⟨gt, 1, none⟩ = some (.string ⟨#[123]⟩) := by rw [cell_of_row _ _ _ _ _ _ T2.out]; rfl
  have PR2 := Lib.hid (PR.out W2 S2.out (Nat.le_trans hNw M2.out.below.size) M2.out.below)
  clear PR S2 T2
  go_wp2_with fail
  refine PR2.out.mono ?_
  rintro ev w3 ⟨rfl, hs3, hm3⟩
  dsimp only at hs3 ⊢
  rw [aggB_lit]
  have R3 := R2.out.same (hm3.rest _ R2.out.lt (by omega) (by omega))
  have M3 := M2.out.trans hm3
  have BQ := below_new w3 (.cells #[.int .i64 q0, .int .i64 q1, .int .i64 q2, .int .i64 q3, .int .i64 q4, .int .i64 q5] 24)
  have S4 := Lib.hid (hs3.keep BQ)
  have R4 := Lib.hid (R3.keep BQ)
  have M4 := Lib.hid (M3.quiet BQ hNw)
  have Q4 := Lib.hid (BB.new w3 24 q0 q1 q2 q3 q4 q5)
  clear hs3 hm3 BQ R3 M3 M2 R2 PR2 c0 c1
  go_upto_region 4 with (fail)
  obtain ⟨W4, hW4⟩ : ∃ W4, W4 = w3.alloc (.cells #[.int .i64 q0, .int .i64 q1, .int .i64 q2, .int .i64 q3, .int .i64 q4, .int .i64 q5] 24) := ⟨_, rfl⟩
  rw [← hW4] at S4 R4 M4 Q4 ⊢
  clear hW4
  generalize w3.heap.size = g6 at *
  obtain ⟨s0, s1, s2, s3, s4, s5⟩ := cells6 Q4.out
  obtain ⟨r0, r1, r2, r3, r4, r5, r6, r7, r8⟩ := R4.out.cells
  obtain ⟨f0, f1, f2, f3, f4, f5, f6, f7, f8⟩ := R4.out.free
  have hzr := R4.out.lt
  clear Q4
  go_wp2
  refine bodyPost_ret (rexp_results _ rfl (by rw [nest_0]; exact R4.out.put _ _ _ _ _ _ _ _ _)) rfl ?_
  rw [nest_0]
  have hgr := grown_setsP (w := W4) (g := w.heap.size) [.int .i64 1, .int .i64 q0, .int .i64 q1, .int .i64 q2, .int .i64 q3, .int .i64 q4, .int .i64 q5, .int .i64 bv, .slice none 0 0] 0
  exact POST0.out _ _ ⟨⟨1, [q0, q1, q2, q3, q4, q5], bv, none, 0, .nil⟩, rfl, fun _ => rfl, ⟨rfl, in64_small (z := 1) (by decide) (by decide), in64_small HBS.out.2.1 HBS.out.2.2, fun z hz => by have := HBS.out.1 z hz; exact in64_small this.1 (by omega), Kids.nil _ _ _ _⟩,
    S4.out.turn hgr (fun k e => ⟨by have := Option.some.inj e; show g ≤ k; omega, by have := Option.some.inj e; omega⟩), M4.out.turn hgr hNw (fun k e => ⟨by have := Option.some.inj e; omega, .inr (.inr (by have := Option.some.inj e; omega))⟩)⟩
end Go.Proofs.YtcokplikmjegcaaGreatDoor
namespace Go.Proofs.YtcokplikmjegcaaGreatDoor
open Go.RowKit
open ME (F Nd)
open MC (Pr)
theorem six0_64 : ∀ z ∈ ([0, 0, 0, 0, 0, 0] : List Int), In64 z := fun z hz => by
  have h0 : z = 0 := by simpa using hz
  rw [h0]
  exact in64_small (z := 0) (by decide) (by decide)
def zeroN12 : NT := ⟨0, [0, 0, 0, 0, 0, 0], 0, none, 0, .nil⟩
theorem zero12_ok (w : World) (ok : Nat → Prop) : zeroN12.Ok w ok := by
  have i0 : In64 0 := by unfold In64; omega
  exact ⟨rfl, i0, i0, fun q hq => by have : q = 0 := by simpa [zeroN12] using hq
                                     rw [this]; exact i0, Kids.nil _ _ _ _⟩
theorem go_two {p q r s : Prop} (h : p ∨ (q ∧ r)) (h1 : p → s) (h2 : q → r → s) : s := h.elim h1 (fun x => h2 x.1 x.2)
set_option maxRecDepth 100000 in
set_option maxHeartbeats 16000000 in
theorem rexp_bad1 (A : Option Addr) (n cp : Nat) (LP : List Pr) (N f g : Nat) (ts : List Tk) (er : Int) (w : World) (h : SR (fun k => g ≤ k) w g ts er) (hk : MX.hk ts ≠ 1) (hO : MC.isO 123 ts[0]? = false) (hf : f + 1 ≤ 100000) (hN : N ≤ g) (hNw : N ≤ w.heap.size) (hP : ∀ w', Below N w w' → Prs w' A n cp LP) (hc : MC.chkL LP = 0) : Calls Tryz.prog 31 #[.slice A n cp, .pointer (some ⟨g, 0, none⟩)] w (fun e w' => ∃ y : NT, e = .returned y.val ∧ ((MX.rdE LP (f + 1) ts er).2.2 = 0 → y.n = (MX.rdE LP (f + 1) ts er).1) ∧ y.Ok w' (fun k => w.heap.size ≤ k) ∧ SR (fun k => g ≤ k) w' g (MX.rdE LP (f + 1) ts er).2.1 (MX.rdE LP (f + 1) ts er).2.2 ∧ Mv N g g w w') := by
  suffices H9 : ∀ (PP : Ending → World → Prop), (∀ e w', (∃ y : NT, e = .returned y.val ∧ ((MX.rdE LP (f + 1) ts er).2.2 = 0 → y.n = (MX.rdE LP (f + 1) ts er).1) ∧ y.Ok w' (fun k => w.heap.size ≤ k) ∧ SR (fun k => g ≤ k) w' g (MX.rdE LP (f + 1) ts er).2.1 (MX.rdE LP (f + 1) ts er).2.2 ∧ Mv N g g w w') → PP e w') → Calls Tryz.prog 31 #[.slice A n cp, .pointer (some ⟨g, 0, none⟩)] w PP from H9 _ (fun _ _ q => q)
  intro PP hPP
  have POST0 := Lib.hid hPP
  clear hPP
  have hbd : (MX.bid LP ts er).2.2 = ([], nmE ts er) ∧ nmE ts er ≠ 0 := by
    by_cases he : er = 0
    · subst he
      have e1 := MC.scan_bad (l := LP) hO
      have hw := wrong_ne ts[0]?
      have e2 : nmE ts 0 = MC.wrongE ts[0]? := by
        unfold nmE
        rw [if_pos rfl]
        cases ts with
        | nil => rfl
        | cons t r => exact if_neg hk
      rw [bid_scan0 (by rw [e1]; exact hw), e1, e2]
      exact ⟨rfl, hw⟩
    · have e0 := h.dead he
      subst e0
      have e2 : nmE [] er = er := by unfold nmE; rw [if_neg he]
      rw [bid_dead0 he, e2]
      exact ⟨rfl, he⟩
  have HF : Hid ((MX.rdE LP (f + 1) ts er).2 = ([], nmE ts er)) := Lib.hid (by rw [MX.rdE, if_pos hk]; exact hbd.1)
  have hne := hbd.2
  clear hbd
  obtain ⟨R1, hR1⟩ : ∃ R1, (MX.rdE LP (f + 1) ts er).1 = R1 := ⟨_, rfl⟩
  rw [HF.out, hR1] at POST0
  have NM := Lib.hid (fun (w' : World) (hs : SR (fun k => g ≤ k) w' g ts er) => rnameU hs)
  have ht0 : nmT' ts er = [] := by unfold nmT'; rw [if_neg hne]
  rw [if_neg hne, ht0, show str [] = (⟨#[]⟩ : ByteArray) from rfl] at NM
  have hkd : (headT ts).kind ≠ 1 := by rw [← hk_head]; exact hk
  have htx : (headT ts).kind = 3 → (headT ts).text ≠ [123] := fun q1 q2 => by
    cases ts with
    | nil => exact absurd q1 (by decide)
    | cons t r => exact Bool.false_ne_true (hO.symm.trans (isM_iff.2 ⟨q1, q2⟩))
  obtain ⟨tk, htk⟩ : ∃ tk, headT ts = tk := ⟨_, rfl⟩
  have HT := Lib.hid htk
  rw [htk] at hkd htx
  obtain ⟨kd, tx, vl, at9⟩ := tk
  dsimp only at hkd htx
  have hflE : flE 2 (nmE ts er) = nmE ts er := by unfold flE; rw [if_neg hne]
  have FLH := Lib.hid (fun (w' : World) (hs : SR (fun k => g ≤ k) w' g [] (nmE ts er)) => rfailU 2 (by decide) hs)
  rw [hflE] at FLH
  clear hflE HF hR1 ht0 hO hk htk hP hc
  generalize nmE ts er = ne at *
  have HK3 := Lib.hid htx
  clear htx hkd
  have hgw : g < w.heap.size := h.lt
  have B0 := below_new w (.cells #[.int .i64 0, .int .i64 0, .int .i64 0, .int .i64 0, .int .i64 0, .int .i64 0, .int .i64 0, .int .i64 0, .slice none 0 0] 27)
  have RB := Lib.hid (show B9 (w.alloc (.cells #[.int .i64 0, .int .i64 0, .int .i64 0, .int .i64 0, .int .i64 0, .int .i64 0, .int .i64 0, .int .i64 0, .slice none 0 0] 27)) w.heap.size (.int .i64 0) (.int .i64 0) (.int .i64 0) (.int .i64 0) (.int .i64 0) (.int .i64 0) (.int .i64 0) (.int .i64 0) (.slice none 0 0) from heap_new w (.cells #[.int .i64 0, .int .i64 0, .int .i64 0, .int .i64 0, .int .i64 0, .int .i64 0, .int .i64 0, .int .i64 0, .slice none 0 0] 27))
  have HM := Lib.hid ((Mv.refl N g g w).quiet B0 hNw)
  have HS := Lib.hid (h.keep B0)
  have PK := Lib.hid (fun (w' : World) (hs : SR (fun k => g ≤ k) w' g ts er) => rpeekU hs)
  clear h B0
  go_enter Tryz.func31, Tryz.ntmps31
  go_upto_region 1 with (fail)
  obtain ⟨W0, hW0⟩ : ∃ W0, W0 = w.alloc (.cells #[.int .i64 0, .int .i64 0, .int .i64 0, .int .i64 0, .int .i64 0, .int .i64 0, .int .i64 0, .int .i64 0, .slice none 0 0] 27) := ⟨_, rfl⟩
  rw [← hW0] at RB HM HS ⊢
  clear hW0
  go_wp2_with fail
  refine (PK.out _ HS.out).mono ?_
  rintro ev w1 ⟨rfl, hb⟩
  unfold aggT
  rw [HT.out]
  dsimp only
  have BT := below_new w1 (.cells #[.int .i64 kd, .string (str tx), .int .i64 vl, .int .i64 at9] 105)
  have S2 := Lib.hid ((HS.out.keep hb).keep BT)
  have M2 := Lib.hid ((HM.out.quiet hb hNw).quiet BT hNw)
  have R2 := Lib.hid ((RB.out.keep hb).keep BT)
  have T2 := Lib.hid (heap_new w1 (.cells #[.int .i64 kd, .string (str tx), .int .i64 vl, .int .i64 at9] 105))
  clear hb BT HS HM RB PK HT
  go_upto_region 2 with (fail)
  obtain ⟨W2, hW2⟩ : ∃ W2, W2 = w1.alloc (.cells #[.int .i64 kd, .string (str tx), .int .i64 vl, .int .i64 at9] 105) := ⟨_, rfl⟩
  rw [← hW2] at S2 M2 R2 T2 ⊢
  clear hW2
  generalize w1.heap.size = gt at *
  have c0 : W2.cell? ⟨gt, 0, none⟩ = some (.int .i64 kd) := by rw [cell_of_row _ _ _ _ _ _ T2.out]; rfl
  have c1 : W2.cell? ⟨gt, 1, none⟩ = some (.string (str tx)) := by rw [cell_of_row _ _ _ _ _ _ T2.out]; rfl
  have BE := below_new W2 (.cells #[.int .i64 0, .int .i64 0, .int .i64 0, .int .i64 0, .int .i64 0, .int .i64 0, .int .i64 0, .int .i64 0, .slice none 0 0] 27)
  have hgeW : w.heap.size < W2.heap.size := R2.out.lt
  have E3 : Hid (ES N g W2.heap.size 0 0 0 0 0 0 0 0 (.slice none 0 0) (.slice none 0 0) [] ts er w (W2.alloc (.cells #[.int .i64 0, .int .i64 0, .int .i64 0, .int .i64 0, .int .i64 0, .int .i64 0, .int .i64 0, .int .i64 0, .slice none 0 0] 27))) := Lib.hid ⟨S2.out.keep BE, heap_new W2 (.cells #[.int .i64 0, .int .i64 0, .int .i64 0, .int .i64 0, .int .i64 0, .int .i64 0, .int .i64 0, .int .i64 0, .slice none 0 0] 27), OwnL.nil _ _ _, (fun z hz => by cases hz), R2.out.keep BE, M2.out.quiet BE hNw⟩
  clear BE S2 M2 R2 T2
  have h3c : ((kd == 3) = false) ∨ ((kd == 3) = true ∧ ((str tx).toList == ([123] : List UInt8)) = false) := by
    by_cases h3 : kd = 3
    · exact .inr ⟨beq_iff_eq.2 h3, by rw [ByteArray.toList_eq, str_data]; exact beq_eq_false_iff_ne.2 (HK3.out h3)⟩
    · exact .inl (beq_eq_false_iff_ne.2 h3)
  clear HK3
  generalize str tx = stx at *
  refine go_two h3c (fun h3 => ?_) (fun h3 h4 => ?_)
  · go_upto_region 6 with (fail)
    obtain ⟨W3, hW3⟩ : ∃ W3, W3 = W2.alloc (.cells #[.int .i64 0, .int .i64 0, .int .i64 0, .int .i64 0, .int .i64 0, .int .i64 0, .int .i64 0, .int .i64 0, .slice none 0 0] 27) := ⟨_, rfl⟩
    rw [← hW3] at E3 ⊢
    clear hW3 c0 c1
    obtain ⟨ge, hgee⟩ : ∃ ge, ge = W2.heap.size := ⟨_, rfl⟩
    rw [← hgee] at E3 hgeW ⊢
    clear hgee W2
    have hge := hgeW
    clear hgeW
    have NM3 := Lib.hid (NM.out _ E3.out.sp)
    clear NM
    go_wp2_with fail
    refine NM3.out.mono ?_
    rintro ev w4 ⟨rfl, hs4, hg4⟩
    have E5 := Lib.hid (E3.out.turn hg4 hs4 hN hNw hgw hge)
    have FL := Lib.hid (FLH.out _ hs4)
    clear hs4 hg4 E3 NM3 FLH
    go_wp2_with fail
    refine FL.out.mono ?_
    rintro ev w9 ⟨rfl, hs9, hg9⟩
    have E9 := Lib.hid (E5.out.turn hg9 hs9 hN hNw hgw hge)
    clear hs9 hg9 E5 FL
    obtain ⟨a0, a1, a2, a3, a4, a5, a6, a7, a8⟩ := E9.out.box.cells
    obtain ⟨r0, r1, r2, r3, r4, r5, r6, r7, r8⟩ := E9.out.rb.cells
    obtain ⟨f0, f1, f2, f3, f4, f5, f6, f7, f8⟩ := E9.out.rb.free
    have hzr := E9.out.rb.lt
    have hza := E9.out.box.lt
    go_wp2
    refine bodyPost_ret (rexp_results _ rfl (by rw [nest_0]; exact E9.out.rb.put _ _ _ _ _ _ _ _ _)) rfl ?_
    rw [nest_0]
    have hgr := grown_setsP (w := w9) (g := w.heap.size) [.int .i64 0, .int .i64 0, .int .i64 0, .int .i64 0, .int .i64 0, .int .i64 0, .int .i64 0, .int .i64 0, .slice none 0 0] 0
    exact POST0.out _ _ ⟨zeroN12, rfl, fun q => absurd q hne, zero12_ok _ _,
      E9.out.sp.turn hgr (fun k e => ⟨by have := Option.some.inj e; show g ≤ k; omega, by have := Option.some.inj e; omega⟩), E9.out.mv.turn hgr hNw (fun k e => ⟨by have := Option.some.inj e; omega, .inr (.inr (by have := Option.some.inj e; omega))⟩)⟩
  · go_upto_region 6 with (fail)
    obtain ⟨W3, hW3⟩ : ∃ W3, W3 = W2.alloc (.cells #[.int .i64 0, .int .i64 0, .int .i64 0, .int .i64 0, .int .i64 0, .int .i64 0, .int .i64 0, .int .i64 0, .slice none 0 0] 27) := ⟨_, rfl⟩
    rw [← hW3] at E3 ⊢
    clear hW3 c0 c1
    obtain ⟨ge, hgee⟩ : ∃ ge, ge = W2.heap.size := ⟨_, rfl⟩
    rw [← hgee] at E3 hgeW ⊢
    clear hgee W2
    have hge := hgeW
    clear hgeW
    have NM3 := Lib.hid (NM.out _ E3.out.sp)
    clear NM
    go_wp2_with fail
    refine NM3.out.mono ?_
    rintro ev w4 ⟨rfl, hs4, hg4⟩
    have E5 := Lib.hid (E3.out.turn hg4 hs4 hN hNw hgw hge)
    have FL := Lib.hid (FLH.out _ hs4)
    clear hs4 hg4 E3 NM3 FLH
    go_wp2_with fail
    refine FL.out.mono ?_
    rintro ev w9 ⟨rfl, hs9, hg9⟩
    have E9 := Lib.hid (E5.out.turn hg9 hs9 hN hNw hgw hge)
    clear hs9 hg9 E5 FL
    obtain ⟨a0, a1, a2, a3, a4, a5, a6, a7, a8⟩ := E9.out.box.cells
    obtain ⟨r0, r1, r2, r3, r4, r5, r6, r7, r8⟩ := E9.out.rb.cells
    obtain ⟨f0, f1, f2, f3, f4, f5, f6, f7, f8⟩ := E9.out.rb.free
    have hzr := E9.out.rb.lt
    have hza := E9.out.box.lt
    go_wp2
    refine bodyPost_ret (rexp_results _ rfl (by rw [nest_0]; exact E9.out.rb.put _ _ _ _ _ _ _ _ _)) rfl ?_
    rw [nest_0]
    have hgr := grown_setsP (w := w9) (g := w.heap.size) [.int .i64 0, .int .i64 0, .int .i64 0, .int .i64 0, .int .i64 0, .int .i64 0, .int .i64 0, .int .i64 0, .slice none 0 0] 0
    exact POST0.out _ _ ⟨zeroN12, rfl, fun q => absurd q hne, zero12_ok _ _,
      E9.out.sp.turn hgr (fun k e => ⟨by have := Option.some.inj e; show g ≤ k; omega, by have := Option.some.inj e; omega⟩), E9.out.mv.turn hgr hNw (fun k e => ⟨by have := Option.some.inj e; omega, .inr (.inr (by have := Option.some.inj e; omega))⟩)⟩
set_option maxRecDepth 100000 in
set_option maxHeartbeats 16000000 in
theorem rexp_bad2 (A : Option Addr) (n cp : Nat) (LP : List Pr) (N f g : Nat) (tx : List UInt8) (vl at9 : Int) (r : List Tk) (w : World) (h : SR (fun k => g ≤ k) w g (⟨1, tx, vl, at9⟩ :: r) 0) (ho : MX.opW tx = 0) (hf : f + 1 ≤ 100000) (hN : N ≤ g) (hNw : N ≤ w.heap.size) (hP : ∀ w', Below N w w' → Prs w' A n cp LP) (hc : MC.chkL LP = 0) : Calls Tryz.prog 31 #[.slice A n cp, .pointer (some ⟨g, 0, none⟩)] w (fun e w' => ∃ y : NT, e = .returned y.val ∧ ((MX.rdE LP (f + 1) (⟨1, tx, vl, at9⟩ :: r) 0).2.2 = 0 → y.n = (MX.rdE LP (f + 1) (⟨1, tx, vl, at9⟩ :: r) 0).1) ∧ y.Ok w' (fun k => w.heap.size ≤ k) ∧ SR (fun k => g ≤ k) w' g (MX.rdE LP (f + 1) (⟨1, tx, vl, at9⟩ :: r) 0).2.1 (MX.rdE LP (f + 1) (⟨1, tx, vl, at9⟩ :: r) 0).2.2 ∧ Mv N g g w w') := by
  suffices H9 : ∀ (PP : Ending → World → Prop), (∀ e w', (∃ y : NT, e = .returned y.val ∧ ((MX.rdE LP (f + 1) (⟨1, tx, vl, at9⟩ :: r) 0).2.2 = 0 → y.n = (MX.rdE LP (f + 1) (⟨1, tx, vl, at9⟩ :: r) 0).1) ∧ y.Ok w' (fun k => w.heap.size ≤ k) ∧ SR (fun k => g ≤ k) w' g (MX.rdE LP (f + 1) (⟨1, tx, vl, at9⟩ :: r) 0).2.1 (MX.rdE LP (f + 1) (⟨1, tx, vl, at9⟩ :: r) 0).2.2 ∧ Mv N g g w w') → PP e w') → Calls Tryz.prog 31 #[.slice A n cp, .pointer (some ⟨g, 0, none⟩)] w PP from H9 _ (fun _ _ q => q)
  intro PP hPP
  have POST0 := Lib.hid hPP
  clear hPP
  have HF : Hid ((MX.rdE LP (f + 1) (⟨1, tx, vl, at9⟩ :: r) 0).2 = ([], 2)) := Lib.hid (by
    rw [MX.rdE, if_neg (show ¬ MX.hk (⟨1, tx, vl, at9⟩ :: r) ≠ 1 from fun q => q rfl), if_pos (show MX.opW (MX.hw (⟨1, tx, vl, at9⟩ :: r)) = 0 from ho)]; rfl)
  obtain ⟨R1, hR1⟩ : ∃ R1, (MX.rdE LP (f + 1) (⟨1, tx, vl, at9⟩ :: r) 0).1 = R1 := ⟨_, rfl⟩
  rw [HF.out, hR1] at POST0
  have NM := Lib.hid (fun (w' : World) (hs : SR (fun k => g ≤ k) w' g (⟨1, tx, vl, at9⟩ :: r) 0) => rnameU hs)
  have hn0 : nmE (⟨1, tx, vl, at9⟩ :: r) 0 = 0 := rfl
  have ht0 : nmT' (⟨1, tx, vl, at9⟩ :: r) 0 = tx := rfl
  rw [if_pos hn0, hn0, ht0, List.drop_succ_cons, List.drop_zero] at NM
  have HT : Hid (headT (⟨1, tx, vl, at9⟩ :: r) = ⟨1, tx, vl, at9⟩) := Lib.hid rfl
  have hx0 : tx ≠ MX.xorW := fun e => by rw [e] at ho; exact absurd ho (by decide)
  have ha0 : (([120, 111, 114] : List UInt8) == (str tx).toList) = false := by rw [ByteArray.toList_eq, str_data]; exact beq_eq_false_iff_ne.2 (fun e => hx0 e.symm)
  have hb0 : ((str tx).toList == ([120, 111, 114] : List UInt8)) = false := by rw [ByteArray.toList_eq, str_data]; exact beq_eq_false_iff_ne.2 hx0
  have hx1 : tx ≠ MX.orW := fun e => by rw [e] at ho; exact absurd ho (by decide)
  have ha1 : (([111, 114] : List UInt8) == (str tx).toList) = false := by rw [ByteArray.toList_eq, str_data]; exact beq_eq_false_iff_ne.2 (fun e => hx1 e.symm)
  have hb1 : ((str tx).toList == ([111, 114] : List UInt8)) = false := by rw [ByteArray.toList_eq, str_data]; exact beq_eq_false_iff_ne.2 hx1
  have hx2 : tx ≠ MX.bonusW := fun e => by rw [e] at ho; exact absurd ho (by decide)
  have ha2 : (([98, 111, 110, 117, 115] : List UInt8) == (str tx).toList) = false := by rw [ByteArray.toList_eq, str_data]; exact beq_eq_false_iff_ne.2 (fun e => hx2 e.symm)
  have hb2 : ((str tx).toList == ([98, 111, 110, 117, 115] : List UInt8)) = false := by rw [ByteArray.toList_eq, str_data]; exact beq_eq_false_iff_ne.2 hx2
  have hx3 : tx ≠ MX.limitW := fun e => by rw [e] at ho; exact absurd ho (by decide)
  have ha3 : (([108, 105, 109, 105, 116] : List UInt8) == (str tx).toList) = false := by rw [ByteArray.toList_eq, str_data]; exact beq_eq_false_iff_ne.2 (fun e => hx3 e.symm)
  have hb3 : ((str tx).toList == ([108, 105, 109, 105, 116] : List UInt8)) = false := by rw [ByteArray.toList_eq, str_data]; exact beq_eq_false_iff_ne.2 hx3
  have FLH := Lib.hid (fun (w' : World) (hs : SR (fun k => g ≤ k) w' g r 0) => rfailU 2 (by decide) hs)
  rw [show flE 2 0 = 2 from rfl] at FLH
  have HXX := Lib.hid (And.intro ha0 (And.intro ha1 (And.intro ha2 (And.intro ha3 (And.intro hb0 (And.intro hb1 (And.intro hb2 hb3)))))))
  clear HF hR1 ht0 hn0 hP hc ho hx0 hx1 hx2 hx3 ha0 ha1 ha2 ha3 hb0 hb1 hb2 hb3
  have hgw : g < w.heap.size := h.lt
  have B0 := below_new w (.cells #[.int .i64 0, .int .i64 0, .int .i64 0, .int .i64 0, .int .i64 0, .int .i64 0, .int .i64 0, .int .i64 0, .slice none 0 0] 27)
  have RB := Lib.hid (show B9 (w.alloc (.cells #[.int .i64 0, .int .i64 0, .int .i64 0, .int .i64 0, .int .i64 0, .int .i64 0, .int .i64 0, .int .i64 0, .slice none 0 0] 27)) w.heap.size (.int .i64 0) (.int .i64 0) (.int .i64 0) (.int .i64 0) (.int .i64 0) (.int .i64 0) (.int .i64 0) (.int .i64 0) (.slice none 0 0) from heap_new w (.cells #[.int .i64 0, .int .i64 0, .int .i64 0, .int .i64 0, .int .i64 0, .int .i64 0, .int .i64 0, .int .i64 0, .slice none 0 0] 27))
  have HM := Lib.hid ((Mv.refl N g g w).quiet B0 hNw)
  have HS := Lib.hid (h.keep B0)
  have PK := Lib.hid (fun (w' : World) (hs : SR (fun k => g ≤ k) w' g (⟨1, tx, vl, at9⟩ :: r) 0) => rpeekU hs)
  clear h B0
  go_enter Tryz.func31, Tryz.ntmps31
  go_upto_region 1 with (fail)
  obtain ⟨W0, hW0⟩ : ∃ W0, W0 = w.alloc (.cells #[.int .i64 0, .int .i64 0, .int .i64 0, .int .i64 0, .int .i64 0, .int .i64 0, .int .i64 0, .int .i64 0, .slice none 0 0] 27) := ⟨_, rfl⟩
  rw [← hW0] at RB HM HS ⊢
  clear hW0
  go_wp2_with fail
  refine (PK.out _ HS.out).mono ?_
  rintro ev w1 ⟨rfl, hb⟩
  unfold aggT
  rw [HT.out]
  dsimp only
  have BT := below_new w1 (.cells #[.int .i64 1, .string (str tx), .int .i64 vl, .int .i64 at9] 105)
  have S2 := Lib.hid ((HS.out.keep hb).keep BT)
  have M2 := Lib.hid ((HM.out.quiet hb hNw).quiet BT hNw)
  have R2 := Lib.hid ((RB.out.keep hb).keep BT)
  have T2 := Lib.hid (heap_new w1 (.cells #[.int .i64 1, .string (str tx), .int .i64 vl, .int .i64 at9] 105))
  clear hb BT HS HM RB PK HT
  go_upto_region 2 with (fail)
  obtain ⟨W2, hW2⟩ : ∃ W2, W2 = w1.alloc (.cells #[.int .i64 1, .string (str tx), .int .i64 vl, .int .i64 at9] 105) := ⟨_, rfl⟩
  rw [← hW2] at S2 M2 R2 T2 ⊢
  clear hW2
  generalize w1.heap.size = gt at *
  have c0 : W2.cell? ⟨gt, 0, none⟩ = some (.int .i64 1) := by rw [cell_of_row _ _ _ _ _ _ T2.out]; rfl
  have c1 : W2.cell? ⟨gt, 1, none⟩ = some (.string (str tx)) := by rw [cell_of_row _ _ _ _ _ _ T2.out]; rfl
  have BE := below_new W2 (.cells #[.int .i64 0, .int .i64 0, .int .i64 0, .int .i64 0, .int .i64 0, .int .i64 0, .int .i64 0, .int .i64 0, .slice none 0 0] 27)
  have hgeW : w.heap.size < W2.heap.size := R2.out.lt
  have E3 : Hid (ES N g W2.heap.size 0 0 0 0 0 0 0 0 (.slice none 0 0) (.slice none 0 0) [] (⟨1, tx, vl, at9⟩ :: r) 0 w (W2.alloc (.cells #[.int .i64 0, .int .i64 0, .int .i64 0, .int .i64 0, .int .i64 0, .int .i64 0, .int .i64 0, .int .i64 0, .slice none 0 0] 27))) := Lib.hid ⟨S2.out.keep BE, heap_new W2 (.cells #[.int .i64 0, .int .i64 0, .int .i64 0, .int .i64 0, .int .i64 0, .int .i64 0, .int .i64 0, .int .i64 0, .slice none 0 0] 27), OwnL.nil _ _ _, (fun z hz => by cases hz), R2.out.keep BE, M2.out.quiet BE hNw⟩
  clear BE S2 M2 R2 T2
  obtain ⟨ha0, ha1, ha2, ha3, hb0, hb1, hb2, hb3⟩ := HXX.out
  clear HXX
  generalize str tx = stx at *
  go_upto_region 6 with (fail)
  obtain ⟨W3, hW3⟩ : ∃ W3, W3 = W2.alloc (.cells #[.int .i64 0, .int .i64 0, .int .i64 0, .int .i64 0, .int .i64 0, .int .i64 0, .int .i64 0, .int .i64 0, .slice none 0 0] 27) := ⟨_, rfl⟩
  rw [← hW3] at E3 ⊢
  clear hW3 c0 c1
  obtain ⟨ge, hgee⟩ : ∃ ge, ge = W2.heap.size := ⟨_, rfl⟩
  rw [← hgee] at E3 hgeW ⊢
  clear hgee W2
  have hge := hgeW
  clear hgeW
  have NM3 := Lib.hid (NM.out _ E3.out.sp)
  clear NM
  go_wp2_with fail
  refine NM3.out.mono ?_
  rintro ev w4 ⟨rfl, hs4, hg4⟩
  have E5 := Lib.hid (E3.out.turn hg4 hs4 hN hNw hgw hge)
  have FL := Lib.hid (FLH.out _ hs4)
  clear hs4 hg4 E3 NM3 FLH
  go_wp2_with fail
  refine FL.out.mono ?_
  rintro ev w9 ⟨rfl, hs9, hg9⟩
  have E9 := Lib.hid (E5.out.turn hg9 hs9 hN hNw hgw hge)
  clear hs9 hg9 E5 FL
  obtain ⟨a0, a1, a2, a3, a4, a5, a6, a7, a8⟩ := E9.out.box.cells
  obtain ⟨r0, r1, r2, r3, r4, r5, r6, r7, r8⟩ := E9.out.rb.cells
  obtain ⟨f0, f1, f2, f3, f4, f5, f6, f7, f8⟩ := E9.out.rb.free
  have hzr := E9.out.rb.lt
  have hza := E9.out.box.lt
  go_wp2
  refine bodyPost_ret (rexp_results _ rfl (by rw [nest_0]; exact E9.out.rb.put _ _ _ _ _ _ _ _ _)) rfl ?_
  rw [nest_0]
  have hgr := grown_setsP (w := w9) (g := w.heap.size) [.int .i64 0, .int .i64 0, .int .i64 0, .int .i64 0, .int .i64 0, .int .i64 0, .int .i64 0, .int .i64 0, .slice none 0 0] 0
  exact POST0.out _ _ ⟨zeroN12, rfl, fun q => absurd q (by decide), zero12_ok _ _,
    E9.out.sp.turn hgr (fun k e => ⟨by have := Option.some.inj e; show g ≤ k; omega, by have := Option.some.inj e; omega⟩), E9.out.mv.turn hgr hNw (fun k e => ⟨by have := Option.some.inj e; omega, .inr (.inr (by have := Option.some.inj e; omega))⟩)⟩
end Go.Proofs.YtcokplikmjegcaaGreatDoor

/- Words for awake: no claim of its own. -/
import Derived.Test.YtpemamkhaiiaaaaEAtoms2
import Derived.Test.YtpemamkhaiiaaaaECheck4
import Derived.Test.YtpemamkhaiiaaaaEProd
import Derived.Test.YtpemamkhaiiaaaaEEq
import Derived.Test.YtpemamkhaiiaaaaEDepth
import Derived.Deep.RegionHeld3
namespace Go.Proofs.Ytpemamkhaiiaaaa
open Go.RowKit
open ME (F Nd)
def twiceN (n : Nd) : Nd := ⟨n.o, n.b, wrap64 (n.v * 2), n.k⟩
theorem wrap_in (z : Int) : In64 (wrap64 z) := by unfold In64 wrap64; omega
theorem awake1_results {w : World} {R1 : Nat} {z0 z1 z2 z3 z4 z5 z6 z7 z8 : Value} (tmps : Array Value) (h2 : tmps.getD 2 undef = .pointer (some ⟨R1, 0, none⟩)) (b1 : B9 w R1 z0 z1 z2 z3 z4 z5 z6 z7 z8) :
    (results Try.f12 tmps).run Try.prog w = .ok (.agg #[z0, z1, z2, z3, z4, z5, z6, z7, z8]) w := by
  have h2' : tmps[2]?.getD undef = .pointer (some ⟨R1, 0, none⟩) := by simpa using h2
  obtain ⟨r0, r1, r2, r3, r4, r5, r6, r7, r8⟩ := b1.cells
  simp [results, Try.results12, h2', go_sem, r0, r1, r2, r3, r4, r5, r6, r7, r8]
set_option maxRecDepth 100000 in
set_option maxHeartbeats 4000000 in
theorem awake1_acts : Acts 12 #[] NoI twiceN (fun s => s) where
  enters := enters_of Try.func12 (by kernel_rfl) rfl
  lt s D w h k hk := by rw [show D = _ from h] at hk; exact hk.elim
  keep s D w w' h _ _ := h
  call s D w x ok h _ hok := by
    obtain rfl := h
    obtain ⟨o, b, v, A, c, k⟩ := x
    obtain ⟨x0, x1, x2, x3, x4, x5, rfl⟩ := six hok.six
    have HO := Lib.hid hok
    have HB1 := Lib.hid (below_new w (.cells #[.int .i64 o, .int .i64 x0, .int .i64 x1, .int .i64 x2, .int .i64 x3, .int .i64 x4, .int .i64 x5, .int .i64 v, .slice A k.len c] 26))
    have HB := Lib.hid (HB1.out.alloc HB1.out.size (.cells #[.int .i64 0, .int .i64 0, .int .i64 0, .int .i64 0, .int .i64 0, .int .i64 0, .int .i64 0, .int .i64 0, .slice none 0 0] 26))
    have hs1 : (w.alloc (.cells #[.int .i64 o, .int .i64 x0, .int .i64 x1, .int .i64 x2, .int .i64 x3, .int .i64 x4, .int .i64 x5, .int .i64 v, .slice A k.len c] 26)).heap.size = w.heap.size + 1 := by simp
    have X0 : Hid (B9 ((w.alloc (.cells #[.int .i64 o, .int .i64 x0, .int .i64 x1, .int .i64 x2, .int .i64 x3, .int .i64 x4, .int .i64 x5, .int .i64 v, .slice A k.len c] 26)).alloc (.cells #[.int .i64 0, .int .i64 0, .int .i64 0, .int .i64 0, .int .i64 0, .int .i64 0, .int .i64 0, .int .i64 0, .slice none 0 0] 26)) w.heap.size (.int .i64 o) (.int .i64 x0) (.int .i64 x1) (.int .i64 x2) (.int .i64 x3) (.int .i64 x4) (.int .i64 x5) (.int .i64 v) (.slice A k.len c)) := Lib.hid ((Below.heap_alloc _ _ _ (by rw [hs1]; omega)).trans (heap_new _ _))
    have R0 : Hid (B9 ((w.alloc (.cells #[.int .i64 o, .int .i64 x0, .int .i64 x1, .int .i64 x2, .int .i64 x3, .int .i64 x4, .int .i64 x5, .int .i64 v, .slice A k.len c] 26)).alloc (.cells #[.int .i64 0, .int .i64 0, .int .i64 0, .int .i64 0, .int .i64 0, .int .i64 0, .int .i64 0, .int .i64 0, .slice none 0 0] 26)) (w.heap.size + 1) (.int .i64 0) (.int .i64 0) (.int .i64 0) (.int .i64 0) (.int .i64 0) (.int .i64 0) (.int .i64 0) (.int .i64 0) (.slice none 0 0)) := Lib.hid (by have := heap_new (w.alloc (.cells #[.int .i64 o, .int .i64 x0, .int .i64 x1, .int .i64 x2, .int .i64 x3, .int .i64 x4, .int .i64 x5, .int .i64 v, .slice A k.len c] 26)) (.cells #[.int .i64 0, .int .i64 0, .int .i64 0, .int .i64 0, .int .i64 0, .int .i64 0, .int .i64 0, .int .i64 0, .slice none 0 0] 26); rwa [hs1] at this)
    rw [NT.val_lit]
    clear hok hs1
    show Calls Try.prog _ #[.agg #[.int .i64 o, .int .i64 x0, .int .i64 x1, .int .i64 x2, .int .i64 x3, .int .i64 x4, .int .i64 x5, .int .i64 v, .slice A k.len c]] w _
    obtain ⟨W0, hW0⟩ : ∃ W0, W0 = (w.alloc (.cells #[.int .i64 o, .int .i64 x0, .int .i64 x1, .int .i64 x2, .int .i64 x3, .int .i64 x4, .int .i64 x5, .int .i64 v, .slice A k.len c] 26)).alloc (.cells #[.int .i64 0, .int .i64 0, .int .i64 0, .int .i64 0, .int .i64 0, .int .i64 0, .int .i64 0, .int .i64 0, .slice none 0 0] 26) := ⟨_, rfl⟩
    rw [← hW0] at HB X0 R0
    go_enter Try.func12, Try.ntmps12
    go_upto_region 1 with (fail)
    rw [← hW0]
    clear hW0 HB1
    have a7 := X0.out.cells.2.2.2.2.2.2.2.1
    have f7 := X0.out.free.2.2.2.2.2.2.2.1
    obtain ⟨W1, hW1⟩ : ∃ W1, W1 = W0.setCell ⟨w.heap.size, 7, none⟩ (.int .i64 (wrap64 (v * 2))) := ⟨_, rfl⟩
    have X1 : Hid (B9 W1 w.heap.size (.int .i64 o) (.int .i64 x0) (.int .i64 x1) (.int .i64 x2) (.int .i64 x3) (.int .i64 x4) (.int .i64 x5) (.int .i64 (wrap64 (v * 2))) (.slice A k.len c)) := Lib.hid (by rw [hW1]; exact X0.out.set7 _)
    have G1 : Hid (W0.grownBy W1 (some w.heap.size)) := Lib.hid (by rw [hW1]; exact ⟨rfl, rfl, rfl, by rw [World.size_setCell]; exact Nat.le_refl _, fun k _ hk => Below.heap_setCell W0 ⟨w.heap.size, 7, none⟩ _ k (fun e => hk (by rw [e]))⟩)
    have R1 : Hid (B9 W1 (w.heap.size + 1) (.int .i64 0) (.int .i64 0) (.int .i64 0) (.int .i64 0) (.int .i64 0) (.int .i64 0) (.int .i64 0) (.int .i64 0) (.slice none 0 0)) := Lib.hid (R0.out.same (G1.out.block _ R0.out.lt (fun e => by have := Option.some.inj e; omega)))
    go_upto_region 2 with (fail)
    rw [← hW1]
    clear hW1 a7 f7 X0 R0
    obtain ⟨a0, a1, a2, a3, a4, a5, a6, a7, a8⟩ := X1.out.cells
    obtain ⟨r0, r1, r2, r3, r4, r5, r6, r7, r8⟩ := R1.out.cells
    obtain ⟨f0, f1, f2, f3, f4, f5, f6, f7, f8⟩ := R1.out.free
    go_wp2
    refine bodyPost_ret (awake1_results _ rfl (by rw [nest_0]; exact R1.out.put _ _ _ _ _ _ _ _ _)) rfl ?_
    rw [nest_0]
    obtain ⟨w9, hw9⟩ : ∃ w9, w9 = sets W1 (w.heap.size + 1) 0 [.int .i64 o, .int .i64 x0, .int .i64 x1, .int .i64 x2, .int .i64 x3, .int .i64 x4, .int .i64 x5, .int .i64 (wrap64 (v * 2)), .slice A k.len c] := ⟨_, rfl⟩
    have gs : W1.grownBy w9 (some (w.heap.size + 1)) := by rw [hw9]; exact grown_sets _ _
    rw [← hw9]
    have far : ∀ j, j < w.heap.size → w9.heap[j]? = w.heap[j]? := fun j hj => by
      have h0 : w.heap.size ≤ W0.heap.size := HB.out.size
      rw [gs.block j (Nat.lt_of_lt_of_le (by omega) G1.out.size) (fun e => by have := Option.some.inj e; omega), G1.out.block j (by omega) (fun e => by have := Option.some.inj e; omega), HB.out.block j hj]
    have hsz : w.heap.size ≤ w9.heap.size := Nat.le_trans HB.out.size (Nat.le_trans G1.out.size gs.size)
    have QO : NT.Ok ⟨o, [x0, x1, x2, x3, x4, x5], wrap64 (v * 2), A, c, k⟩ w9 ok := ⟨rfl, HO.out.o64, wrap_in _, HO.out.b64, HO.out.kids.keep (fun j _ hj => far j hj) hsz (fun _ h _ => h)⟩
    have QV : VI NoI (fun _ => False) w s (fun _ => False) w9 := ⟨rfl, ⟨gs.os.trans (G1.out.os.trans HB.out.os), gs.tape.trans (G1.out.tape.trans HB.out.tape), gs.output.trans (G1.out.output.trans HB.out.output), hsz, fun j hj _ => far j hj⟩, fun _ h => .inl h⟩
    first
      | exact ⟨⟨o, [x0, x1, x2, x3, x4, x5], wrap64 (v * 2), A, c, k⟩, rfl, rfl, QO, fun h => h, _, QV⟩
      | exact ⟨⟨o, [x0, x1, x2, x3, x4, x5], wrap64 (v * 2), A, c, k⟩, _, rfl, rfl, QO, fun h => h, QV⟩
/-- The chapter's expressions. -/
def tA : NT := ⟨1, [1, 0, 0, 0, 0, 0], 5, none, 0, .nil⟩
def tB : NT := ⟨1, [0, 1, 0, 0, 0, 0], 7, none, 0, .nil⟩
def tO (g : Nat) : NT := ⟨3, [0, 0, 0, 0, 0, 0], 0, some ⟨g, 0, none⟩, 2, FT.of [tA, tB]⟩
def tE (g h : Nat) : NT := ⟨5, [0, 0, 0, 0, 0, 0], 10, some ⟨h, 0, none⟩, 1, FT.of [tO g]⟩
/-- The awake world: what lies. -/
structure Awk (w : World) (g : Nat) : Prop where
  a : B9 w g (.int .i64 1) (.int .i64 1) (.int .i64 0) (.int .i64 0) (.int .i64 0) (.int .i64 0) (.int .i64 0) (.int .i64 5) (.slice none 0 0)
  b : B9 w (g + 1) (.int .i64 1) (.int .i64 0) (.int .i64 1) (.int .i64 0) (.int .i64 0) (.int .i64 0) (.int .i64 0) (.int .i64 7) (.slice none 0 0)
  r2 : w.heap[g + 2]? = some (.cells #[.int .i64 1, .int .i64 1, .int .i64 0, .int .i64 0, .int .i64 0, .int .i64 0, .int .i64 0, .int .i64 5, .slice none 0 0, .int .i64 1, .int .i64 0, .int .i64 1, .int .i64 0, .int .i64 0, .int .i64 0, .int .i64 0, .int .i64 7, .slice none 0 0] 26 (0, 0))
  o : B9 w (g + 3) (.int .i64 3) (.int .i64 0) (.int .i64 0) (.int .i64 0) (.int .i64 0) (.int .i64 0) (.int .i64 0) (.int .i64 0) (.slice (some ⟨g + 2, 0, none⟩) 2 2)
  r4 : w.heap[g + 4]? = some (.cells #[.int .i64 3, .int .i64 0, .int .i64 0, .int .i64 0, .int .i64 0, .int .i64 0, .int .i64 0, .int .i64 0, .slice (some ⟨g + 2, 0, none⟩) 2 2] 26 (0, 0))
  e : B9 w (g + 5) (.int .i64 5) (.int .i64 0) (.int .i64 0) (.int .i64 0) (.int .i64 0) (.int .i64 0) (.int .i64 0) (.int .i64 10) (.slice (some ⟨g + 4, 0, none⟩) 1 1)
theorem Awk.keep {w w' : World} {g : Nat} (h : Awk w g) (hb : Below w.heap.size w w') : Awk w' g :=
  ⟨h.a.keep hb, h.b.keep hb, (hb.block _ (Array.getElem?_eq_some_iff.1 h.r2).1).trans h.r2, h.o.keep hb, (hb.block _ (Array.getElem?_eq_some_iff.1 h.r4).1).trans h.r4, h.e.keep hb⟩
theorem in_small {z : Int} (h : 0 ≤ z ∧ z ≤ 10) : In64 z := ⟨by omega, by omega⟩
theorem six_small (x0 x1 x2 x3 x4 x5 : Int) (h : ∀ z ∈ [x0, x1, x2, x3, x4, x5], 0 ≤ z ∧ z ≤ 10) : ∀ z ∈ [x0, x1, x2, x3, x4, x5], In64 z := fun z hz => in_small (h z hz)
theorem Awk.okA (w : World) (ok : Nat → Prop) : tA.Ok w ok := ⟨rfl, in_small (by decide), in_small (by decide), six_small _ _ _ _ _ _ (by decide), Kids.nil _ _ _ _⟩
theorem Awk.okB (w : World) (ok : Nat → Prop) : tB.Ok w ok := ⟨rfl, in_small (by decide), in_small (by decide), six_small _ _ _ _ _ _ (by decide), Kids.nil _ _ _ _⟩
theorem Awk.arg2 {w : World} {g : Nat} (h : Awk w g) : Arg w (g + 2) 2 [tA, tB] := ⟨Nat.le_refl _, fun y hy => by
  simp only [List.mem_cons, List.not_mem_nil, or_false] at hy
  rcases hy with rfl | rfl <;> rfl, _, h.r2, rfl, fun j u hu => by rw [← hu]; simp [El.all, ntE, cellsE, tA, tB, FT.len]⟩
theorem Awk.okO {w : World} {g : Nat} (h : Awk w g) : (tO (g + 2)).Ok w (fun _ => True) :=
  ⟨rfl, in_small (z := 3) (by decide), in_small (z := 0) (by decide), six_small _ _ _ _ _ _ (by decide), h.arg2.kids rfl (by decide) trivial (fun y hy => by
    simp only [List.mem_cons, List.not_mem_nil, or_false] at hy
    rcases hy with rfl | rfl
    · exact Awk.okA _ _
    · exact Awk.okB _ _)⟩
theorem Awk.arg4 {w : World} {g : Nat} (h : Awk w g) : Arg w (g + 4) 1 [tO (g + 2)] := ⟨Nat.le_refl _, fun y hy => by rw [List.mem_singleton.1 hy]; rfl, _, h.r4, rfl, fun j u hu => by rw [← hu]; simp [El.all, ntE, cellsE, tO, FT.of, FT.len]⟩
theorem Awk.okE {w : World} {g : Nat} (h : Awk w g) : (tE (g + 2) (g + 4)).Ok w (fun _ => True) :=
  ⟨rfl, in_small (z := 5) (by decide), in_small (z := 10) (by decide), six_small _ _ _ _ _ _ (by decide), h.arg4.kids rfl (by decide) trivial (fun y hy => by rw [List.mem_singleton.1 hy]; exact h.okO)⟩
theorem up1 {w : World} {k : Nat} {o : Obj} (h : w.heap[k]? = some o) (o' : Obj) : (w.alloc o').heap[k]? = some o := (Below.heap_alloc w o' k (Array.getElem?_eq_some_iff.1 h).1).trans h
theorem new1 {w : World} {k : Nat} (h : w.heap.size = k) (o : Obj) : (w.alloc o).heap[k]? = some o ∧ (w.alloc o).heap.size = k + 1 := by subst h; exact ⟨heap_new w o, by simp⟩
theorem six_new (w : World) (o0 o1 o2 o3 o4 o5 : Obj) : ((((((w.alloc o0).alloc o1).alloc o2).alloc o3).alloc o4).alloc o5).heap[w.heap.size]? = some o0 ∧ ((((((w.alloc o0).alloc o1).alloc o2).alloc o3).alloc o4).alloc o5).heap[w.heap.size + 1]? = some o1 ∧ ((((((w.alloc o0).alloc o1).alloc o2).alloc o3).alloc o4).alloc o5).heap[w.heap.size + 2]? = some o2 ∧
    ((((((w.alloc o0).alloc o1).alloc o2).alloc o3).alloc o4).alloc o5).heap[w.heap.size + 3]? = some o3 ∧ ((((((w.alloc o0).alloc o1).alloc o2).alloc o3).alloc o4).alloc o5).heap[w.heap.size + 4]? = some o4 ∧ ((((((w.alloc o0).alloc o1).alloc o2).alloc o3).alloc o4).alloc o5).heap[w.heap.size + 5]? = some o5 := by
  obtain ⟨a0, s0⟩ := new1 (w := w) rfl o0
  obtain ⟨a1, s1⟩ := new1 s0 o1
  obtain ⟨a2, s2⟩ := new1 s1 o2
  obtain ⟨a3, s3⟩ := new1 s2 o3
  obtain ⟨a4, s4⟩ := new1 s3 o4
  obtain ⟨a5, s5⟩ := new1 s4 o5
  exact ⟨up1 (up1 (up1 (up1 (up1 a0 _) _) _) _) _, up1 (up1 (up1 (up1 a1 _) _) _) _, up1 (up1 (up1 a2 _) _) _, up1 (up1 a3 _) _, up1 a4 _, a5⟩
theorem below_six_new (w : World) (o0 o1 o2 o3 o4 o5 : Obj) : Below w.heap.size w ((((((w.alloc o0).alloc o1).alloc o2).alloc o3).alloc o4).alloc o5) :=
  ((((((Below.refl _ w).alloc (Nat.le_refl _) o0).alloc (by simp) o1).alloc (by simp; omega) o2).alloc (by simp; omega) o3).alloc (by simp; omega) o4).alloc (by simp; omega) o5
def nO : Nd := ⟨3, [0, 0, 0, 0, 0, 0], 0, .cons 1 [1, 0, 0, 0, 0, 0] 5 .nil (.cons 1 [0, 1, 0, 0, 0, 0] 7 .nil .nil)⟩
def nE : Nd := ⟨5, [0, 0, 0, 0, 0, 0], 10, nO.f⟩
def nT : Nd := ⟨3, [0, 0, 0, 0, 0, 0], 0, .cons 1 [1, 0, 0, 0, 0, 0] 10 .nil (.cons 1 [0, 1, 0, 0, 0, 0] 14 .nil .nil)⟩
theorem nE_facts : ME.checkE nE = 0 ∧ nE.size = 4 ∧ nE.depth = 3 ∧ ME.prodL nE.pre ME.zero6 = [1, 1, 0, 0, 0, 0] ∧ (ME.atomsL nE.pre).length = 2 ∧ nO.map twiceN = nT := by
  refine ⟨by decide +kernel, by decide +kernel, by decide +kernel, by decide +kernel, by decide +kernel, ME.f_inj (by decide +kernel)⟩
theorem Awk.seven {w : World} {g : Nat} (h : Awk w g) : w.cell? ⟨g + 2, 7, none⟩ = some (.int .i64 5) := by rw [cell_of_row _ _ _ _ _ _ h.r2]; rfl
/-- The doubled expression: what lies. -/
structure Twi (w : World) (g : Nat) (ad : Addr) (c : Nat) : Prop where
  box : B9 w g (.int .i64 3) (.int .i64 0) (.int .i64 0) (.int .i64 0) (.int .i64 0) (.int .i64 0) (.int .i64 0) (.int .i64 0) (.slice (some ad) 2 c)
  lt : ad.block < w.heap.size
  v0 : w.cell? ⟨ad.block, ad.off + 7, none⟩ = some (.int .i64 10)
  v1 : w.cell? ⟨(ad.add 9).block, (ad.add 9).off + 7, none⟩ = some (.int .i64 14)
theorem Twi.keep {w w' : World} {g : Nat} {ad : Addr} {c : Nat} (h : Twi w g ad c) (hb : Below w.heap.size w w') : Twi w' g ad c :=
  ⟨h.box.keep hb, Nat.lt_of_lt_of_le h.lt hb.size, (cell_same (a := ⟨ad.block, ad.off + 7, none⟩) (hb.block _ h.lt)).trans h.v0, (cell_same (a := ⟨(ad.add 9).block, (ad.add 9).off + 7, none⟩) (hb.block _ (by show (ad.add 9).block < _; rw [block_of_add]; exact h.lt))).trans h.v1⟩
theorem Twi.v1' {w : World} {g : Nat} {ad : Addr} {c : Nat} (h : Twi w g ad c) : w.cell? ⟨ad.block, ad.off + 9 + 7, none⟩ = some (.int .i64 14) := by
  have q := h.v1
  have e2 : (ad.add 9).off = ad.off + 9 := by unfold Addr.add; rw [if_neg (by decide)]
  rw [block_of_add, e2] at q
  exact q
structure SW (w : World) (g gt : Nat) (ad : Addr) (c : Nat) : Prop where
  aw : Awk w g
  tw : Twi w gt ad c
theorem SW.keep {w w' : World} {g gt : Nat} {ad : Addr} {c : Nat} (h : SW w g gt ad c) (hb : Below w.heap.size w w') : SW w' g gt ad c := ⟨h.aw.keep hb, h.tw.keep hb⟩
theorem twi_of {w : World} {ok : Nat → Prop} {y : NT} (hn : y.n = nT) (ho : y.Ok w ok) : ∃ ad c, y.val = .agg #[.int .i64 3, .int .i64 0, .int .i64 0, .int .i64 0, .int .i64 0, .int .i64 0, .int .i64 0, .int .i64 0, .slice (some ad) 2 c] ∧ 2 ≤ c ∧ ad.block < w.heap.size ∧ w.cell? ⟨ad.block, ad.off + 7, none⟩ = some (.int .i64 10) ∧ w.cell? ⟨(ad.add 9).block, (ad.add 9).off + 7, none⟩ = some (.int .i64 14) := by
  obtain ⟨o, b, v, A, c, k⟩ := y
  have h1 : o = 3 := congrArg ME.Nd.o hn
  have h2 : b = [0, 0, 0, 0, 0, 0] := congrArg ME.Nd.b hn
  have h3 : v = 0 := congrArg ME.Nd.v hn
  have h4 : k.f = .cons 1 [1, 0, 0, 0, 0, 0] 10 .nil (.cons 1 [0, 1, 0, 0, 0, 0] 14 .nil .nil) := congrArg ME.Nd.k hn
  subst h1 h2 h3
  have hcc := ho.kids.cap
  cases k with
  | nil => cases h4
  | cons o1 b1 v1 A1 c1 k1 r1 =>
    injection h4 with e1 e2 e3 e4 e5
    subst e1 e2 e3
    cases r1 with
    | nil => cases e5
    | cons o2 b2 v2 A2 c2 k2 r2 =>
      injection e5 with f1 f2 f3 f4 f5
      subst f1 f2 f3
      cases r2 with
      | cons _ _ _ _ _ _ _ => cases f5
      | nil =>
        rcases ho.kids.lay with q | ⟨ad, e, ⟨_, hl, _, hc⟩, _, _, _, ⟨_, _, _, hc2⟩, _⟩
        · cases q
        · have e' : A = some ad := e
          subst e'
          exact ⟨ad, c, rfl, hcc, hl, hc 7 _ rfl, hc2 7 _ rfl⟩
set_option maxRecDepth 100000 in
set_option maxHeartbeats 8000000 in
theorem awake_any (w : World) : Calls Try.prog 5 #[] w (Gives (.bool true) w) := by
  obtain ⟨W, hW⟩ : ∃ W, W = ((((((w.alloc (.cells #[.int .i64 1, .int .i64 1, .int .i64 0, .int .i64 0, .int .i64 0, .int .i64 0, .int .i64 0, .int .i64 5, .slice none 0 0] 26)).alloc (.cells #[.int .i64 1, .int .i64 0, .int .i64 1, .int .i64 0, .int .i64 0, .int .i64 0, .int .i64 0, .int .i64 7, .slice none 0 0] 26)).alloc (.cells #[.int .i64 1, .int .i64 1, .int .i64 0, .int .i64 0, .int .i64 0, .int .i64 0, .int .i64 0, .int .i64 5, .slice none 0 0, .int .i64 1, .int .i64 0, .int .i64 1, .int .i64 0, .int .i64 0, .int .i64 0, .int .i64 0, .int .i64 7, .slice none 0 0] 26)).alloc (.cells #[.int .i64 3, .int .i64 0, .int .i64 0, .int .i64 0, .int .i64 0, .int .i64 0, .int .i64 0, .int .i64 0, .slice (some ⟨w.heap.size + 2, 0, none⟩) 2 2] 26)).alloc (.cells #[.int .i64 3, .int .i64 0, .int .i64 0, .int .i64 0, .int .i64 0, .int .i64 0, .int .i64 0, .int .i64 0, .slice (some ⟨w.heap.size + 2, 0, none⟩) 2 2] 26)).alloc (.cells #[.int .i64 5, .int .i64 0, .int .i64 0, .int .i64 0, .int .i64 0, .int .i64 0, .int .i64 0, .int .i64 10, .slice (some ⟨w.heap.size + 4, 0, none⟩) 1 1] 26)) := ⟨_, rfl⟩
  have AW : Hid (Awk W w.heap.size) := Lib.hid (by rw [hW]; obtain ⟨h0, h1, h2, h3, h4, h5⟩ := six_new w (.cells #[.int .i64 1, .int .i64 1, .int .i64 0, .int .i64 0, .int .i64 0, .int .i64 0, .int .i64 0, .int .i64 5, .slice none 0 0] 26) (.cells #[.int .i64 1, .int .i64 0, .int .i64 1, .int .i64 0, .int .i64 0, .int .i64 0, .int .i64 0, .int .i64 7, .slice none 0 0] 26) (.cells #[.int .i64 1, .int .i64 1, .int .i64 0, .int .i64 0, .int .i64 0, .int .i64 0, .int .i64 0, .int .i64 5, .slice none 0 0, .int .i64 1, .int .i64 0, .int .i64 1, .int .i64 0, .int .i64 0, .int .i64 0, .int .i64 0, .int .i64 7, .slice none 0 0] 26) (.cells #[.int .i64 3, .int .i64 0, .int .i64 0, .int .i64 0, .int .i64 0, .int .i64 0, .int .i64 0, .int .i64 0, .slice (some ⟨w.heap.size + 2, 0, none⟩) 2 2] 26) (.cells #[.int .i64 3, .int .i64 0, .int .i64 0, .int .i64 0, .int .i64 0, .int .i64 0, .int .i64 0, .int .i64 0, .slice (some ⟨w.heap.size + 2, 0, none⟩) 2 2] 26) (.cells #[.int .i64 5, .int .i64 0, .int .i64 0, .int .i64 0, .int .i64 0, .int .i64 0, .int .i64 0, .int .i64 10, .slice (some ⟨w.heap.size + 4, 0, none⟩) 1 1] 26); exact ⟨h0, h1, h2, h3, h4, h5⟩)
  have HB : Hid (Below w.heap.size w W) := Lib.hid (by rw [hW]; exact below_six_new w _ _ _ _ _ _)
  obtain ⟨nf1, nf2, nf3, nf4, nf5, nf6⟩ := nE_facts
  have CM : Hid (∀ w' g, Awk w' g → Calls Try.prog 11 #[.agg #[.int .i64 3, .int .i64 0, .int .i64 0, .int .i64 0, .int .i64 0, .int .i64 0, .int .i64 0, .int .i64 0, .slice (some ⟨g + 2, 0, none⟩) 2 2], .func (.func 12) #[] #[]] w' (App NoI (fun _ => False) w' nT (itr (fun s => s) (tO (g + 2)).size ()))) := Lib.hid (fun w' g h => by
    have e : (tO (g + 2)).n.map twiceN = nT := nf6
    have := map_any awake1_acts (tO (g + 2)) (show 3 ≤ 2000000 by decide) (by rw [e]; decide +kernel) () (fun _ => False) w' rfl (h.okO.keep (fun _ _ _ => rfl) (Nat.le_refl _) (fun _ _ _ q => q))
    rw [e] at this
    exact this)
  have CK1 : Hid (∀ w' g, Awk w' g → Calls Try.prog 13 #[.agg #[.int .i64 5, .int .i64 0, .int .i64 0, .int .i64 0, .int .i64 0, .int .i64 0, .int .i64 0, .int .i64 10, .slice (some ⟨g + 4, 0, none⟩) 1 1]] w' (Gives (.int .i64 0) w')) := Lib.hid (fun w' g h => by
    have := check_any (tE (g + 2) (g + 4)) (show 4 ≤ 2000000 by decide) w' _ h.okE
    rw [show ME.checkE (NT.n (tE (g + 2) (g + 4))) = 0 from nf1] at this
    exact this)
  have CK2 : Hid (∀ w', Calls Try.prog 13 #[.agg #[.int .i64 1, .int .i64 0, .int .i64 0, .int .i64 0, .int .i64 0, .int .i64 0, .int .i64 0, .int .i64 5, .slice none 0 0]] w' (Gives (.int .i64 4) w')) := Lib.hid (fun w' => by
    have := check_any ⟨1, [0, 0, 0, 0, 0, 0], 5, none, 0, .nil⟩ (by decide +kernel) w' (fun _ => True) ⟨rfl, in_small (z := 1) (by decide), in_small (z := 5) (by decide), six_small _ _ _ _ _ _ (by decide), Kids.nil _ _ _ _⟩
    rw [show ME.checkE (NT.n ⟨1, [0, 0, 0, 0, 0, 0], 5, none, 0, .nil⟩) = 4 by decide +kernel] at this
    exact this)
  have CK3 : Hid (∀ w', Calls Try.prog 13 #[.agg #[.int .i64 2, .int .i64 0, .int .i64 0, .int .i64 0, .int .i64 0, .int .i64 0, .int .i64 0, .int .i64 0, .slice none 0 0]] w' (Gives (.int .i64 2) w')) := Lib.hid (fun w' => by
    have := check_any ⟨2, [0, 0, 0, 0, 0, 0], 0, none, 0, .nil⟩ (by decide +kernel) w' (fun _ => True) ⟨rfl, in_small (z := 2) (by decide), in_small (z := 0) (by decide), six_small _ _ _ _ _ _ (by decide), Kids.nil _ _ _ _⟩
    rw [show ME.checkE (NT.n ⟨2, [0, 0, 0, 0, 0, 0], 0, none, 0, .nil⟩) = 2 by decide +kernel] at this
    exact this)
  have CSZ : Hid (∀ w' g, Awk w' g → Calls Try.prog 14 #[.agg #[.int .i64 5, .int .i64 0, .int .i64 0, .int .i64 0, .int .i64 0, .int .i64 0, .int .i64 0, .int .i64 10, .slice (some ⟨g + 4, 0, none⟩) 1 1]] w' (Gives (.int .i64 4) w')) := Lib.hid (fun w' g h => size_any (tE (g + 2) (g + 4)) w' _ h.okE (show 4 ≤ 1000000 by decide))
  have CDP : Hid (∀ w' g, Awk w' g → Calls Try.prog 15 #[.agg #[.int .i64 5, .int .i64 0, .int .i64 0, .int .i64 0, .int .i64 0, .int .i64 0, .int .i64 0, .int .i64 10, .slice (some ⟨g + 4, 0, none⟩) 1 1]] w' (Gives (.int .i64 3) w')) := Lib.hid (fun w' g h => by
    have := depth_any 100 (by decide) (tE (g + 2) (g + 4)) (show 4 ≤ 100 by decide) w' _ h.okE
    rw [show ME.Nd.depth (NT.n (tE (g + 2) (g + 4))) = 3 from nf3] at this
    exact this)
  have CPR : Hid (∀ w' g, Awk w' g → Calls Try.prog 16 #[.agg #[.int .i64 5, .int .i64 0, .int .i64 0, .int .i64 0, .int .i64 0, .int .i64 0, .int .i64 0, .int .i64 10, .slice (some ⟨g + 4, 0, none⟩) 1 1]] w' (Gives (.agg #[.int .i64 1, .int .i64 1, .int .i64 0, .int .i64 0, .int .i64 0, .int .i64 0]) w')) := Lib.hid (fun w' g h => by
    have := prod_any (tE (g + 2) (g + 4)) (show 4 ≤ 2000000 by decide) w' _ h.okE
    rw [show ME.prodL (NT.n (tE (g + 2) (g + 4))).pre ME.zero6 = [1, 1, 0, 0, 0, 0] from nf4] at this
    exact this)
  have CAT : Hid (∀ w' g, Awk w' g → Calls Try.prog 8 #[.agg #[.int .i64 5, .int .i64 0, .int .i64 0, .int .i64 0, .int .i64 0, .int .i64 0, .int .i64 0, .int .i64 10, .slice (some ⟨g + 4, 0, none⟩) 1 1]] w' (fun e w2 => ∃ A c, e = .returned (.slice A 2 c) ∧ Below w'.heap.size w' w2)) := Lib.hid (fun w' g h => by
    refine Calls.mono (atoms_any (tE (g + 2) (g + 4)) (show 4 ≤ 1000000 by decide) w' _ h.okE) ?_
    rintro e w2 ⟨v, L, rfl, ho, hm, _, hb⟩
    have hl : L.length = 2 := by rw [← List.length_map (f := NT.n), hm]; exact nf5
    obtain ⟨A, c, rfl, _⟩ := ho.form (by omega)
    rw [hl]
    exact ⟨A, c, rfl, hb⟩)
  have CCP : Hid (∀ w' g, Awk w' g → Calls Try.prog 6 #[.agg #[.int .i64 5, .int .i64 0, .int .i64 0, .int .i64 0, .int .i64 0, .int .i64 0, .int .i64 0, .int .i64 10, .slice (some ⟨g + 4, 0, none⟩) 1 1]] w' (GivesX w' nE)) := Lib.hid (fun w' g h => copy_any (tE (g + 2) (g + 4)) (show 4 ≤ 2000000 by decide) w' _ h.okE)
  have CMN : Hid (∀ w' g, Awk w' g → Calls Try.prog 11 #[.agg #[.int .i64 5, .int .i64 0, .int .i64 0, .int .i64 0, .int .i64 0, .int .i64 0, .int .i64 0, .int .i64 10, .slice (some ⟨g + 4, 0, none⟩) 1 1], .nilFunc] w' (GivesX w' nE)) := Lib.hid (fun w' g h => map_nil (tE (g + 2) (g + 4)) (show 4 ≤ 2000000 by decide) w' _ h.okE)
  have CEQ : Hid (∀ w' g (y : NT) (ok : Nat → Prop), Awk w' g → y.n = nE → y.Ok w' ok → Calls Try.prog 17 #[y.val, .agg #[.int .i64 5, .int .i64 0, .int .i64 0, .int .i64 0, .int .i64 0, .int .i64 0, .int .i64 0, .int .i64 10, .slice (some ⟨g + 4, 0, none⟩) 1 1]] w' (Gives (.bool true) w')) := Lib.hid (fun w' g y ok h hy ho => by
    have := equal_any _ y (tE (g + 2) (g + 4)) (Nat.le_refl _) w' _ _ ho h.okE
    rw [hy, show NT.n (tE (g + 2) (g + 4)) = nE from rfl, ME.eqN_self] at this
    exact this)
  have CNE : Hid (∀ w', Calls Try.prog 17 #[.agg #[.int .i64 1, .int .i64 1, .int .i64 0, .int .i64 0, .int .i64 0, .int .i64 0, .int .i64 0, .int .i64 5, .slice none 0 0], .agg #[.int .i64 1, .int .i64 0, .int .i64 1, .int .i64 0, .int .i64 0, .int .i64 0, .int .i64 0, .int .i64 7, .slice none 0 0]] w' (Gives (.bool false) w')) := Lib.hid (fun w' => by
    have := equal_any _ tA tB (Nat.le_refl _) w' _ _ (Awk.okA w' (fun _ => True)) (Awk.okB w' (fun _ => True))
    rw [show ME.eqN tA.n tB.n = false by decide +kernel] at this
    exact this)
  have SM := run_same [1, 1, 0, 0, 0, 0] [1, 1, 0, 0, 0, 0] rfl rfl
  rw [cellsB_lit, decide_eq_true rfl] at SM
  clear nf1 nf2 nf3 nf4 nf5 nf6
  go_enter Try.func5, Try.ntmps5
  go_upto_region 5 with (fail)
  rw [← hW]
  clear hW
  obtain ⟨g, hg⟩ : ∃ g, w.heap.size = g := ⟨_, rfl⟩
  rw [hg] at AW ⊢
  have HB0 : Hid (∀ w', Below W.heap.size W w' → Below w.heap.size w w') := Lib.hid (fun w' h => HB.out.trans (h.mono HB.out.size))
  clear hg HB
  obtain ⟨a0, a1, a2, a3, a4, a5, a6, a7, a8⟩ := AW.out.o.cells
  go_wp2_with fail
  refine (CM.out _ _ AW.out).mono ?_
  rintro ev w1 ⟨y, D1, rfl, hyn, hyo, _, hv⟩
  obtain rfl : D1 = _ := hv.inv
  obtain ⟨ad, cc, hy, hcc, hl, hv0, hv1⟩ := twi_of hyn hyo.toOk
  have HB1 : Hid (Below W.heap.size W w1) := Lib.hid (below_of_no hv.kx (fun _ h => h))
  have AW1 := Lib.hid (AW.out.keep HB1.out)
  rw [hy]
  have TW1 : Hid (Twi (w1.alloc (.cells #[.int .i64 3, .int .i64 0, .int .i64 0, .int .i64 0, .int .i64 0, .int .i64 0, .int .i64 0, .int .i64 0, .slice (some ad) 2 cc] 26)) w1.heap.size ad cc) := Lib.hid ⟨heap_new _ _, by rw [World.size_alloc]; omega, (cell_same (a := ⟨ad.block, ad.off + 7, none⟩) (Below.heap_alloc w1 _ _ hl)).trans hv0, (cell_same (a := ⟨(ad.add 9).block, (ad.add 9).off + 7, none⟩) (Below.heap_alloc w1 _ _ (by show (ad.add 9).block < _; rw [block_of_add]; exact hl))).trans hv1⟩
  have HB2 := Lib.hid (HB1.out.alloc HB1.out.size (.cells #[.int .i64 3, .int .i64 0, .int .i64 0, .int .i64 0, .int .i64 0, .int .i64 0, .int .i64 0, .int .i64 0, .slice (some ad) 2 cc] 26))
  have AW2 := Lib.hid (AW1.out.keep (below_new w1 (.cells #[.int .i64 3, .int .i64 0, .int .i64 0, .int .i64 0, .int .i64 0, .int .i64 0, .int .i64 0, .int .i64 0, .slice (some ad) 2 cc] 26)))
  clear hyn hyo hv hy hl hv0 hv1 AW AW1 HB1 CM a0 a1 a2 a3 a4 a5 a6 a7 a8
  go_upto_region 6 with (fail)
  obtain ⟨X, hX⟩ : ∃ X, X = w1.alloc (.cells #[.int .i64 3, .int .i64 0, .int .i64 0, .int .i64 0, .int .i64 0, .int .i64 0, .int .i64 0, .int .i64 0, .slice (some ad) 2 cc] 26) := ⟨_, rfl⟩
  rw [← hX] at TW1 HB2 AW2 ⊢
  clear hX
  generalize w1.heap.size = gt at *
  have SW0 : Hid (SW X.drew g gt ad cc) := Lib.hid ⟨AW2.out.keep (below_drawn X), TW1.out.keep (below_drawn X)⟩
  have HBs0 := Lib.hid (HB2.out.trans ((below_drawn X).mono HB2.out.size))
  clear AW2 TW1 HB2
  refine wp_region_held_drew (S := fun w' => SW w' g gt ad cc) (by kernel_rfl) SW0.out (fun hHeld => ?_)
  refine wpAnyH_take (i := 0) (oi := { dst := some 19, op := Op.load 26 (Operand.tmp 4), type := 26, pos := "law.go:20", after := #[], guard := none }) (v := ?_) rfl (by kernel_rfl) (by kernel_rfl) (by kernel_rfl) (fun _ _ _ h => h) (Or.inl ⟨by rfl, ?_⟩) (by assumption) ?_
  rotate_left
  · intro w hSw; (try dsimp only at hSw); obtain ⟨a0, a1, a2, a3, a4, a5, a6, a7, a8⟩ := hSw.aw.e.cells; obtain ⟨p0, p1, p2, p3, p4, p5, p6, p7, p8⟩ := hSw.aw.a.cells; obtain ⟨q0, q1, q2, q3, q4, q5, q6, q7, q8⟩ := hSw.aw.b.cells; have o8 := hSw.aw.o.cells.2.2.2.2.2.2.2.2; have t8 := hSw.tw.box.cells.2.2.2.2.2.2.2.2; have tv0 := hSw.tw.v0; have tv1 := hSw.tw.v1'; have r7 := hSw.aw.seven; go_simp; try with_reducible rfl
  (try simp only [Act.put, List.setIfInBounds_toArray, List.set_cons_zero, List.set_cons_succ])
  refine wpAnyH_ready (rs := [1]) (by kernel_rfl) (by simp) ?_
  refine AllReadyH.cons (o := { dst := some 20, op := Op.call { callee := Callee.value (Operand.func 13), args := #[Operand.tmp 19], argTypes := #[26] }, type := 36, pos := "law.go:20", after := #[{ on := 0, ground := Ground.data }], guard := none }) rfl (fun K hK => ?_) AllReadyH.nil
  go_simp
  refine Calls.mono (CK1.out _ _ SW0.out.aw) ?_
  rintro ev w1 ⟨rfl, hb⟩
  have SW1 := Lib.hid (SW0.out.keep hb)
  have HBs1 := Lib.hid (HBs0.out.trans (hb.mono HBs0.out.size))
  clear hb HBs0
  refine hK.out _ _ ?_ (fun hHeld => ?_)
  · exact SW1.out
  clear hK K
  (try simp only [Act.put, List.setIfInBounds_toArray, List.set_cons_zero, List.set_cons_succ])
  refine wpAnyH_take (i := 2) (oi := { dst := some 21, op := Op.binOp BinOp.eql 36 (Operand.tmp 20) (Operand.const (Value.int IntKind.i64 0)) 36, type := 4, pos := "law.go:20", after := #[{ on := 1, ground := Ground.data }], guard := none }) (v := ?_) rfl (by kernel_rfl) (by kernel_rfl) (by kernel_rfl) (fun _ _ _ h => h) (Or.inl ⟨by rfl, ?_⟩) (by assumption) ?_
  rotate_left
  · intro w hSw; (try dsimp only at hSw); obtain ⟨a0, a1, a2, a3, a4, a5, a6, a7, a8⟩ := hSw.aw.e.cells; obtain ⟨p0, p1, p2, p3, p4, p5, p6, p7, p8⟩ := hSw.aw.a.cells; obtain ⟨q0, q1, q2, q3, q4, q5, q6, q7, q8⟩ := hSw.aw.b.cells; have o8 := hSw.aw.o.cells.2.2.2.2.2.2.2.2; have t8 := hSw.tw.box.cells.2.2.2.2.2.2.2.2; have tv0 := hSw.tw.v0; have tv1 := hSw.tw.v1'; have r7 := hSw.aw.seven; go_simp; try with_reducible rfl
  (try simp only [Act.put, List.setIfInBounds_toArray, List.set_cons_zero, List.set_cons_succ])
  refine wpAnyH_take (i := 3) (oi := { dst := some 22, op := Op.move (Operand.tmp 21), type := 4, pos := "law.go:20", after := #[{ on := 2, ground := Ground.data }, { on := 1, ground := Ground.chain }], guard := none }) (v := ?_) rfl (by kernel_rfl) (by kernel_rfl) (by kernel_rfl) (fun _ _ _ h => h) (Or.inl ⟨by rfl, ?_⟩) (by assumption) ?_
  rotate_left
  · intro w hSw; (try dsimp only at hSw); obtain ⟨a0, a1, a2, a3, a4, a5, a6, a7, a8⟩ := hSw.aw.e.cells; obtain ⟨p0, p1, p2, p3, p4, p5, p6, p7, p8⟩ := hSw.aw.a.cells; obtain ⟨q0, q1, q2, q3, q4, q5, q6, q7, q8⟩ := hSw.aw.b.cells; have o8 := hSw.aw.o.cells.2.2.2.2.2.2.2.2; have t8 := hSw.tw.box.cells.2.2.2.2.2.2.2.2; have tv0 := hSw.tw.v0; have tv1 := hSw.tw.v1'; have r7 := hSw.aw.seven; go_simp; try with_reducible rfl
  (try simp only [Act.put, List.setIfInBounds_toArray, List.set_cons_zero, List.set_cons_succ])
  refine wpAnyH_take (i := 4) (oi := { dst := some 23, op := Op.build 26 #[(0, Operand.const (Value.int IntKind.i64 1)), (2, Operand.const (Value.int IntKind.i64 5))], type := 26, pos := "law.go:20", after := #[{ on := 3, ground := Ground.guard }], guard := some (3, true) }) (v := ?_) rfl (by kernel_rfl) (by kernel_rfl) (by kernel_rfl) (fun _ _ _ h => h) (Or.inl ⟨by rfl, ?_⟩) (by assumption) ?_
  rotate_left
  · intro w hSw; (try dsimp only at hSw); obtain ⟨a0, a1, a2, a3, a4, a5, a6, a7, a8⟩ := hSw.aw.e.cells; obtain ⟨p0, p1, p2, p3, p4, p5, p6, p7, p8⟩ := hSw.aw.a.cells; obtain ⟨q0, q1, q2, q3, q4, q5, q6, q7, q8⟩ := hSw.aw.b.cells; have o8 := hSw.aw.o.cells.2.2.2.2.2.2.2.2; have t8 := hSw.tw.box.cells.2.2.2.2.2.2.2.2; have tv0 := hSw.tw.v0; have tv1 := hSw.tw.v1'; have r7 := hSw.aw.seven; go_simp; try with_reducible rfl
  (try simp only [Act.put, List.setIfInBounds_toArray, List.set_cons_zero, List.set_cons_succ])
  refine wpAnyH_ready (rs := [5]) (by kernel_rfl) (by simp) ?_
  refine AllReadyH.cons (o := { dst := some 24, op := Op.call { callee := Callee.value (Operand.func 13), args := #[Operand.tmp 23], argTypes := #[26] }, type := 36, pos := "law.go:20", after := #[{ on := 4, ground := Ground.data }, { on := 3, ground := Ground.chain }, { on := 3, ground := Ground.guard }], guard := some (3, true) }) rfl (fun K hK => ?_) AllReadyH.nil
  go_simp
  refine Calls.mono (CK2.out _) ?_
  rintro ev w2 ⟨rfl, hb⟩
  have SW2 := Lib.hid (SW1.out.keep hb)
  have HBs2 := Lib.hid (HBs1.out.trans (hb.mono HBs1.out.size))
  clear hb HBs1
  refine hK.out _ _ ?_ (fun hHeld => ?_)
  · exact SW2.out
  clear hK K
  (try simp only [Act.put, List.setIfInBounds_toArray, List.set_cons_zero, List.set_cons_succ])
  refine wpAnyH_take (i := 6) (oi := { dst := some 25, op := Op.binOp BinOp.eql 36 (Operand.tmp 24) (Operand.const (Value.int IntKind.i64 4)) 36, type := 4, pos := "law.go:20", after := #[{ on := 5, ground := Ground.data }, { on := 3, ground := Ground.guard }], guard := some (3, true) }) (v := ?_) rfl (by kernel_rfl) (by kernel_rfl) (by kernel_rfl) (fun _ _ _ h => h) (Or.inl ⟨by rfl, ?_⟩) (by assumption) ?_
  rotate_left
  · intro w hSw; (try dsimp only at hSw); obtain ⟨a0, a1, a2, a3, a4, a5, a6, a7, a8⟩ := hSw.aw.e.cells; obtain ⟨p0, p1, p2, p3, p4, p5, p6, p7, p8⟩ := hSw.aw.a.cells; obtain ⟨q0, q1, q2, q3, q4, q5, q6, q7, q8⟩ := hSw.aw.b.cells; have o8 := hSw.aw.o.cells.2.2.2.2.2.2.2.2; have t8 := hSw.tw.box.cells.2.2.2.2.2.2.2.2; have tv0 := hSw.tw.v0; have tv1 := hSw.tw.v1'; have r7 := hSw.aw.seven; go_simp; try with_reducible rfl
  (try simp only [Act.put, List.setIfInBounds_toArray, List.set_cons_zero, List.set_cons_succ])
  refine wpAnyH_take (i := 7) (oi := { dst := some 26, op := Op.pick (Operand.tmp 22) (Operand.tmp 25) (Operand.const (Value.bool false)), type := 4, pos := "law.go:20", after := #[{ on := 3, ground := Ground.data }, { on := 6, ground := Ground.data }], guard := none }) (v := ?_) rfl (by kernel_rfl) (by kernel_rfl) (by kernel_rfl) (fun _ _ _ h => h) (Or.inl ⟨by rfl, ?_⟩) (by assumption) ?_
  rotate_left
  · intro w hSw; (try dsimp only at hSw); obtain ⟨a0, a1, a2, a3, a4, a5, a6, a7, a8⟩ := hSw.aw.e.cells; obtain ⟨p0, p1, p2, p3, p4, p5, p6, p7, p8⟩ := hSw.aw.a.cells; obtain ⟨q0, q1, q2, q3, q4, q5, q6, q7, q8⟩ := hSw.aw.b.cells; have o8 := hSw.aw.o.cells.2.2.2.2.2.2.2.2; have t8 := hSw.tw.box.cells.2.2.2.2.2.2.2.2; have tv0 := hSw.tw.v0; have tv1 := hSw.tw.v1'; have r7 := hSw.aw.seven; go_simp; try with_reducible rfl
  (try simp only [Act.put, List.setIfInBounds_toArray, List.set_cons_zero, List.set_cons_succ])
  refine wpAnyH_take (i := 8) (oi := { dst := some 27, op := Op.move (Operand.tmp 26), type := 4, pos := "law.go:20", after := #[{ on := 7, ground := Ground.data }, { on := 5, ground := Ground.chain }], guard := none }) (v := ?_) rfl (by kernel_rfl) (by kernel_rfl) (by kernel_rfl) (fun _ _ _ h => h) (Or.inl ⟨by rfl, ?_⟩) (by assumption) ?_
  rotate_left
  · intro w hSw; (try dsimp only at hSw); obtain ⟨a0, a1, a2, a3, a4, a5, a6, a7, a8⟩ := hSw.aw.e.cells; obtain ⟨p0, p1, p2, p3, p4, p5, p6, p7, p8⟩ := hSw.aw.a.cells; obtain ⟨q0, q1, q2, q3, q4, q5, q6, q7, q8⟩ := hSw.aw.b.cells; have o8 := hSw.aw.o.cells.2.2.2.2.2.2.2.2; have t8 := hSw.tw.box.cells.2.2.2.2.2.2.2.2; have tv0 := hSw.tw.v0; have tv1 := hSw.tw.v1'; have r7 := hSw.aw.seven; go_simp; try with_reducible rfl
  (try simp only [Act.put, List.setIfInBounds_toArray, List.set_cons_zero, List.set_cons_succ])
  refine wpAnyH_take (i := 9) (oi := { dst := some 28, op := Op.build 26 #[(0, Operand.const (Value.int IntKind.i64 2))], type := 26, pos := "law.go:20", after := #[{ on := 8, ground := Ground.guard }], guard := some (8, true) }) (v := ?_) rfl (by kernel_rfl) (by kernel_rfl) (by kernel_rfl) (fun _ _ _ h => h) (Or.inl ⟨by rfl, ?_⟩) (by assumption) ?_
  rotate_left
  · intro w hSw; (try dsimp only at hSw); obtain ⟨a0, a1, a2, a3, a4, a5, a6, a7, a8⟩ := hSw.aw.e.cells; obtain ⟨p0, p1, p2, p3, p4, p5, p6, p7, p8⟩ := hSw.aw.a.cells; obtain ⟨q0, q1, q2, q3, q4, q5, q6, q7, q8⟩ := hSw.aw.b.cells; have o8 := hSw.aw.o.cells.2.2.2.2.2.2.2.2; have t8 := hSw.tw.box.cells.2.2.2.2.2.2.2.2; have tv0 := hSw.tw.v0; have tv1 := hSw.tw.v1'; have r7 := hSw.aw.seven; go_simp; try with_reducible rfl
  (try simp only [Act.put, List.setIfInBounds_toArray, List.set_cons_zero, List.set_cons_succ])
  refine wpAnyH_ready (rs := [10]) (by kernel_rfl) (by simp) ?_
  refine AllReadyH.cons (o := { dst := some 29, op := Op.call { callee := Callee.value (Operand.func 13), args := #[Operand.tmp 28], argTypes := #[26] }, type := 36, pos := "law.go:20", after := #[{ on := 9, ground := Ground.data }, { on := 8, ground := Ground.chain }, { on := 8, ground := Ground.guard }], guard := some (8, true) }) rfl (fun K hK => ?_) AllReadyH.nil
  go_simp
  refine Calls.mono (CK3.out _) ?_
  rintro ev w3 ⟨rfl, hb⟩
  have SW3 := Lib.hid (SW2.out.keep hb)
  have HBs3 := Lib.hid (HBs2.out.trans (hb.mono HBs2.out.size))
  clear hb HBs2
  refine hK.out _ _ ?_ (fun hHeld => ?_)
  · exact SW3.out
  clear hK K
  (try simp only [Act.put, List.setIfInBounds_toArray, List.set_cons_zero, List.set_cons_succ])
  refine wpAnyH_take (i := 11) (oi := { dst := some 30, op := Op.binOp BinOp.eql 36 (Operand.tmp 29) (Operand.const (Value.int IntKind.i64 2)) 36, type := 4, pos := "law.go:20", after := #[{ on := 10, ground := Ground.data }, { on := 8, ground := Ground.guard }], guard := some (8, true) }) (v := ?_) rfl (by kernel_rfl) (by kernel_rfl) (by kernel_rfl) (fun _ _ _ h => h) (Or.inl ⟨by rfl, ?_⟩) (by assumption) ?_
  rotate_left
  · intro w hSw; (try dsimp only at hSw); obtain ⟨a0, a1, a2, a3, a4, a5, a6, a7, a8⟩ := hSw.aw.e.cells; obtain ⟨p0, p1, p2, p3, p4, p5, p6, p7, p8⟩ := hSw.aw.a.cells; obtain ⟨q0, q1, q2, q3, q4, q5, q6, q7, q8⟩ := hSw.aw.b.cells; have o8 := hSw.aw.o.cells.2.2.2.2.2.2.2.2; have t8 := hSw.tw.box.cells.2.2.2.2.2.2.2.2; have tv0 := hSw.tw.v0; have tv1 := hSw.tw.v1'; have r7 := hSw.aw.seven; go_simp; try with_reducible rfl
  (try simp only [Act.put, List.setIfInBounds_toArray, List.set_cons_zero, List.set_cons_succ])
  refine wpAnyH_take (i := 12) (oi := { dst := some 31, op := Op.pick (Operand.tmp 27) (Operand.tmp 30) (Operand.const (Value.bool false)), type := 4, pos := "law.go:20", after := #[{ on := 8, ground := Ground.data }, { on := 11, ground := Ground.data }], guard := none }) (v := ?_) rfl (by kernel_rfl) (by kernel_rfl) (by kernel_rfl) (fun _ _ _ h => h) (Or.inl ⟨by rfl, ?_⟩) (by assumption) ?_
  rotate_left
  · intro w hSw; (try dsimp only at hSw); obtain ⟨a0, a1, a2, a3, a4, a5, a6, a7, a8⟩ := hSw.aw.e.cells; obtain ⟨p0, p1, p2, p3, p4, p5, p6, p7, p8⟩ := hSw.aw.a.cells; obtain ⟨q0, q1, q2, q3, q4, q5, q6, q7, q8⟩ := hSw.aw.b.cells; have o8 := hSw.aw.o.cells.2.2.2.2.2.2.2.2; have t8 := hSw.tw.box.cells.2.2.2.2.2.2.2.2; have tv0 := hSw.tw.v0; have tv1 := hSw.tw.v1'; have r7 := hSw.aw.seven; go_simp; try with_reducible rfl
  (try simp only [Act.put, List.setIfInBounds_toArray, List.set_cons_zero, List.set_cons_succ])
  refine wpAnyH_take (i := 13) (oi := { dst := some 32, op := Op.move (Operand.tmp 31), type := 4, pos := "law.go:20", after := #[{ on := 12, ground := Ground.data }, { on := 10, ground := Ground.chain }], guard := none }) (v := ?_) rfl (by kernel_rfl) (by kernel_rfl) (by kernel_rfl) (fun _ _ _ h => h) (Or.inl ⟨by rfl, ?_⟩) (by assumption) ?_
  rotate_left
  · intro w hSw; (try dsimp only at hSw); obtain ⟨a0, a1, a2, a3, a4, a5, a6, a7, a8⟩ := hSw.aw.e.cells; obtain ⟨p0, p1, p2, p3, p4, p5, p6, p7, p8⟩ := hSw.aw.a.cells; obtain ⟨q0, q1, q2, q3, q4, q5, q6, q7, q8⟩ := hSw.aw.b.cells; have o8 := hSw.aw.o.cells.2.2.2.2.2.2.2.2; have t8 := hSw.tw.box.cells.2.2.2.2.2.2.2.2; have tv0 := hSw.tw.v0; have tv1 := hSw.tw.v1'; have r7 := hSw.aw.seven; go_simp; try with_reducible rfl
  (try simp only [Act.put, List.setIfInBounds_toArray, List.set_cons_zero, List.set_cons_succ])
  refine wpAnyH_take (i := 14) (oi := { dst := some 33, op := Op.load 26 (Operand.tmp 4), type := 26, pos := "law.go:20", after := #[{ on := 13, ground := Ground.guard }], guard := some (13, true) }) (v := ?_) rfl (by kernel_rfl) (by kernel_rfl) (by kernel_rfl) (fun _ _ _ h => h) (Or.inl ⟨by rfl, ?_⟩) (by assumption) ?_
  rotate_left
  · intro w hSw; (try dsimp only at hSw); obtain ⟨a0, a1, a2, a3, a4, a5, a6, a7, a8⟩ := hSw.aw.e.cells; obtain ⟨p0, p1, p2, p3, p4, p5, p6, p7, p8⟩ := hSw.aw.a.cells; obtain ⟨q0, q1, q2, q3, q4, q5, q6, q7, q8⟩ := hSw.aw.b.cells; have o8 := hSw.aw.o.cells.2.2.2.2.2.2.2.2; have t8 := hSw.tw.box.cells.2.2.2.2.2.2.2.2; have tv0 := hSw.tw.v0; have tv1 := hSw.tw.v1'; have r7 := hSw.aw.seven; go_simp; try with_reducible rfl
  (try simp only [Act.put, List.setIfInBounds_toArray, List.set_cons_zero, List.set_cons_succ])
  refine wpAnyH_ready (rs := [15]) (by kernel_rfl) (by simp) ?_
  refine AllReadyH.cons (o := { dst := some 34, op := Op.call { callee := Callee.value (Operand.func 14), args := #[Operand.tmp 33], argTypes := #[26] }, type := 3, pos := "law.go:20", after := #[{ on := 14, ground := Ground.data }, { on := 13, ground := Ground.chain }, { on := 13, ground := Ground.guard }], guard := some (13, true) }) rfl (fun K hK => ?_) AllReadyH.nil
  go_simp
  refine Calls.mono (CSZ.out _ _ SW3.out.aw) ?_
  rintro ev w4 ⟨rfl, hb⟩
  have SW4 := Lib.hid (SW3.out.keep hb)
  have HBs4 := Lib.hid (HBs3.out.trans (hb.mono HBs3.out.size))
  clear hb HBs3
  refine hK.out _ _ ?_ (fun hHeld => ?_)
  · exact SW4.out
  clear hK K
  (try simp only [Act.put, List.setIfInBounds_toArray, List.set_cons_zero, List.set_cons_succ])
  refine wpAnyH_take (i := 16) (oi := { dst := some 35, op := Op.binOp BinOp.eql 3 (Operand.tmp 34) (Operand.const (Value.int IntKind.i64 4)) 3, type := 4, pos := "law.go:20", after := #[{ on := 15, ground := Ground.data }, { on := 13, ground := Ground.guard }], guard := some (13, true) }) (v := ?_) rfl (by kernel_rfl) (by kernel_rfl) (by kernel_rfl) (fun _ _ _ h => h) (Or.inl ⟨by rfl, ?_⟩) (by assumption) ?_
  rotate_left
  · intro w hSw; (try dsimp only at hSw); obtain ⟨a0, a1, a2, a3, a4, a5, a6, a7, a8⟩ := hSw.aw.e.cells; obtain ⟨p0, p1, p2, p3, p4, p5, p6, p7, p8⟩ := hSw.aw.a.cells; obtain ⟨q0, q1, q2, q3, q4, q5, q6, q7, q8⟩ := hSw.aw.b.cells; have o8 := hSw.aw.o.cells.2.2.2.2.2.2.2.2; have t8 := hSw.tw.box.cells.2.2.2.2.2.2.2.2; have tv0 := hSw.tw.v0; have tv1 := hSw.tw.v1'; have r7 := hSw.aw.seven; go_simp; try with_reducible rfl
  (try simp only [Act.put, List.setIfInBounds_toArray, List.set_cons_zero, List.set_cons_succ])
  refine wpAnyH_take (i := 17) (oi := { dst := some 36, op := Op.pick (Operand.tmp 32) (Operand.tmp 35) (Operand.const (Value.bool false)), type := 4, pos := "law.go:20", after := #[{ on := 13, ground := Ground.data }, { on := 16, ground := Ground.data }], guard := none }) (v := ?_) rfl (by kernel_rfl) (by kernel_rfl) (by kernel_rfl) (fun _ _ _ h => h) (Or.inl ⟨by rfl, ?_⟩) (by assumption) ?_
  rotate_left
  · intro w hSw; (try dsimp only at hSw); obtain ⟨a0, a1, a2, a3, a4, a5, a6, a7, a8⟩ := hSw.aw.e.cells; obtain ⟨p0, p1, p2, p3, p4, p5, p6, p7, p8⟩ := hSw.aw.a.cells; obtain ⟨q0, q1, q2, q3, q4, q5, q6, q7, q8⟩ := hSw.aw.b.cells; have o8 := hSw.aw.o.cells.2.2.2.2.2.2.2.2; have t8 := hSw.tw.box.cells.2.2.2.2.2.2.2.2; have tv0 := hSw.tw.v0; have tv1 := hSw.tw.v1'; have r7 := hSw.aw.seven; go_simp; try with_reducible rfl
  (try simp only [Act.put, List.setIfInBounds_toArray, List.set_cons_zero, List.set_cons_succ])
  refine wpAnyH_take (i := 18) (oi := { dst := some 37, op := Op.move (Operand.tmp 36), type := 4, pos := "law.go:20", after := #[{ on := 17, ground := Ground.data }, { on := 15, ground := Ground.chain }], guard := none }) (v := ?_) rfl (by kernel_rfl) (by kernel_rfl) (by kernel_rfl) (fun _ _ _ h => h) (Or.inl ⟨by rfl, ?_⟩) (by assumption) ?_
  rotate_left
  · intro w hSw; (try dsimp only at hSw); obtain ⟨a0, a1, a2, a3, a4, a5, a6, a7, a8⟩ := hSw.aw.e.cells; obtain ⟨p0, p1, p2, p3, p4, p5, p6, p7, p8⟩ := hSw.aw.a.cells; obtain ⟨q0, q1, q2, q3, q4, q5, q6, q7, q8⟩ := hSw.aw.b.cells; have o8 := hSw.aw.o.cells.2.2.2.2.2.2.2.2; have t8 := hSw.tw.box.cells.2.2.2.2.2.2.2.2; have tv0 := hSw.tw.v0; have tv1 := hSw.tw.v1'; have r7 := hSw.aw.seven; go_simp; try with_reducible rfl
  (try simp only [Act.put, List.setIfInBounds_toArray, List.set_cons_zero, List.set_cons_succ])
  refine wpAnyH_take (i := 19) (oi := { dst := some 38, op := Op.load 26 (Operand.tmp 4), type := 26, pos := "law.go:20", after := #[{ on := 18, ground := Ground.guard }], guard := some (18, true) }) (v := ?_) rfl (by kernel_rfl) (by kernel_rfl) (by kernel_rfl) (fun _ _ _ h => h) (Or.inl ⟨by rfl, ?_⟩) (by assumption) ?_
  rotate_left
  · intro w hSw; (try dsimp only at hSw); obtain ⟨a0, a1, a2, a3, a4, a5, a6, a7, a8⟩ := hSw.aw.e.cells; obtain ⟨p0, p1, p2, p3, p4, p5, p6, p7, p8⟩ := hSw.aw.a.cells; obtain ⟨q0, q1, q2, q3, q4, q5, q6, q7, q8⟩ := hSw.aw.b.cells; have o8 := hSw.aw.o.cells.2.2.2.2.2.2.2.2; have t8 := hSw.tw.box.cells.2.2.2.2.2.2.2.2; have tv0 := hSw.tw.v0; have tv1 := hSw.tw.v1'; have r7 := hSw.aw.seven; go_simp; try with_reducible rfl
  (try simp only [Act.put, List.setIfInBounds_toArray, List.set_cons_zero, List.set_cons_succ])
  refine wpAnyH_ready (rs := [20]) (by kernel_rfl) (by simp) ?_
  refine AllReadyH.cons (o := { dst := some 39, op := Op.call { callee := Callee.value (Operand.func 15), args := #[Operand.tmp 38], argTypes := #[26] }, type := 3, pos := "law.go:20", after := #[{ on := 19, ground := Ground.data }, { on := 18, ground := Ground.chain }, { on := 18, ground := Ground.guard }], guard := some (18, true) }) rfl (fun K hK => ?_) AllReadyH.nil
  go_simp
  refine Calls.mono (CDP.out _ _ SW4.out.aw) ?_
  rintro ev w5 ⟨rfl, hb⟩
  have SW5 := Lib.hid (SW4.out.keep hb)
  have HBs5 := Lib.hid (HBs4.out.trans (hb.mono HBs4.out.size))
  clear hb HBs4
  refine hK.out _ _ ?_ (fun hHeld => ?_)
  · exact SW5.out
  clear hK K
  (try simp only [Act.put, List.setIfInBounds_toArray, List.set_cons_zero, List.set_cons_succ])
  refine wpAnyH_take (i := 21) (oi := { dst := some 40, op := Op.binOp BinOp.eql 3 (Operand.tmp 39) (Operand.const (Value.int IntKind.i64 3)) 3, type := 4, pos := "law.go:20", after := #[{ on := 20, ground := Ground.data }, { on := 18, ground := Ground.guard }], guard := some (18, true) }) (v := ?_) rfl (by kernel_rfl) (by kernel_rfl) (by kernel_rfl) (fun _ _ _ h => h) (Or.inl ⟨by rfl, ?_⟩) (by assumption) ?_
  rotate_left
  · intro w hSw; (try dsimp only at hSw); obtain ⟨a0, a1, a2, a3, a4, a5, a6, a7, a8⟩ := hSw.aw.e.cells; obtain ⟨p0, p1, p2, p3, p4, p5, p6, p7, p8⟩ := hSw.aw.a.cells; obtain ⟨q0, q1, q2, q3, q4, q5, q6, q7, q8⟩ := hSw.aw.b.cells; have o8 := hSw.aw.o.cells.2.2.2.2.2.2.2.2; have t8 := hSw.tw.box.cells.2.2.2.2.2.2.2.2; have tv0 := hSw.tw.v0; have tv1 := hSw.tw.v1'; have r7 := hSw.aw.seven; go_simp; try with_reducible rfl
  (try simp only [Act.put, List.setIfInBounds_toArray, List.set_cons_zero, List.set_cons_succ])
  refine wpAnyH_take (i := 22) (oi := { dst := some 41, op := Op.pick (Operand.tmp 37) (Operand.tmp 40) (Operand.const (Value.bool false)), type := 4, pos := "law.go:20", after := #[{ on := 18, ground := Ground.data }, { on := 21, ground := Ground.data }], guard := none }) (v := ?_) rfl (by kernel_rfl) (by kernel_rfl) (by kernel_rfl) (fun _ _ _ h => h) (Or.inl ⟨by rfl, ?_⟩) (by assumption) ?_
  rotate_left
  · intro w hSw; (try dsimp only at hSw); obtain ⟨a0, a1, a2, a3, a4, a5, a6, a7, a8⟩ := hSw.aw.e.cells; obtain ⟨p0, p1, p2, p3, p4, p5, p6, p7, p8⟩ := hSw.aw.a.cells; obtain ⟨q0, q1, q2, q3, q4, q5, q6, q7, q8⟩ := hSw.aw.b.cells; have o8 := hSw.aw.o.cells.2.2.2.2.2.2.2.2; have t8 := hSw.tw.box.cells.2.2.2.2.2.2.2.2; have tv0 := hSw.tw.v0; have tv1 := hSw.tw.v1'; have r7 := hSw.aw.seven; go_simp; try with_reducible rfl
  (try simp only [Act.put, List.setIfInBounds_toArray, List.set_cons_zero, List.set_cons_succ])
  refine wpAnyH_take (i := 23) (oi := { dst := some 42, op := Op.move (Operand.tmp 41), type := 4, pos := "law.go:20", after := #[{ on := 22, ground := Ground.data }, { on := 20, ground := Ground.chain }], guard := none }) (v := ?_) rfl (by kernel_rfl) (by kernel_rfl) (by kernel_rfl) (fun _ _ _ h => h) (Or.inl ⟨by rfl, ?_⟩) (by assumption) ?_
  rotate_left
  · intro w hSw; (try dsimp only at hSw); obtain ⟨a0, a1, a2, a3, a4, a5, a6, a7, a8⟩ := hSw.aw.e.cells; obtain ⟨p0, p1, p2, p3, p4, p5, p6, p7, p8⟩ := hSw.aw.a.cells; obtain ⟨q0, q1, q2, q3, q4, q5, q6, q7, q8⟩ := hSw.aw.b.cells; have o8 := hSw.aw.o.cells.2.2.2.2.2.2.2.2; have t8 := hSw.tw.box.cells.2.2.2.2.2.2.2.2; have tv0 := hSw.tw.v0; have tv1 := hSw.tw.v1'; have r7 := hSw.aw.seven; go_simp; try with_reducible rfl
  (try simp only [Act.put, List.setIfInBounds_toArray, List.set_cons_zero, List.set_cons_succ])
  refine wpAnyH_take (i := 24) (oi := { dst := some 43, op := Op.load 26 (Operand.tmp 4), type := 26, pos := "law.go:20", after := #[{ on := 23, ground := Ground.guard }], guard := some (23, true) }) (v := ?_) rfl (by kernel_rfl) (by kernel_rfl) (by kernel_rfl) (fun _ _ _ h => h) (Or.inl ⟨by rfl, ?_⟩) (by assumption) ?_
  rotate_left
  · intro w hSw; (try dsimp only at hSw); obtain ⟨a0, a1, a2, a3, a4, a5, a6, a7, a8⟩ := hSw.aw.e.cells; obtain ⟨p0, p1, p2, p3, p4, p5, p6, p7, p8⟩ := hSw.aw.a.cells; obtain ⟨q0, q1, q2, q3, q4, q5, q6, q7, q8⟩ := hSw.aw.b.cells; have o8 := hSw.aw.o.cells.2.2.2.2.2.2.2.2; have t8 := hSw.tw.box.cells.2.2.2.2.2.2.2.2; have tv0 := hSw.tw.v0; have tv1 := hSw.tw.v1'; have r7 := hSw.aw.seven; go_simp; try with_reducible rfl
  (try simp only [Act.put, List.setIfInBounds_toArray, List.set_cons_zero, List.set_cons_succ])
  refine wpAnyH_take (i := 26) (oi := { dst := some 45, op := Op.build 23 #[(0, Operand.const (Value.int IntKind.i64 1)), (1, Operand.const (Value.int IntKind.i64 1))], type := 23, pos := "law.go:20", after := #[{ on := 23, ground := Ground.guard }], guard := some (23, true) }) (v := ?_) rfl (by kernel_rfl) (by kernel_rfl) (by kernel_rfl) (fun _ _ _ h => h) (Or.inl ⟨by rfl, ?_⟩) (by assumption) ?_
  rotate_left
  · intro w hSw; (try dsimp only at hSw); obtain ⟨a0, a1, a2, a3, a4, a5, a6, a7, a8⟩ := hSw.aw.e.cells; obtain ⟨p0, p1, p2, p3, p4, p5, p6, p7, p8⟩ := hSw.aw.a.cells; obtain ⟨q0, q1, q2, q3, q4, q5, q6, q7, q8⟩ := hSw.aw.b.cells; have o8 := hSw.aw.o.cells.2.2.2.2.2.2.2.2; have t8 := hSw.tw.box.cells.2.2.2.2.2.2.2.2; have tv0 := hSw.tw.v0; have tv1 := hSw.tw.v1'; have r7 := hSw.aw.seven; go_simp; try with_reducible rfl
  (try simp only [Act.put, List.setIfInBounds_toArray, List.set_cons_zero, List.set_cons_succ])
  refine wpAnyH_ready (rs := [25]) (by kernel_rfl) (by simp) ?_
  refine AllReadyH.cons (o := { dst := some 44, op := Op.call { callee := Callee.value (Operand.func 16), args := #[Operand.tmp 43], argTypes := #[26] }, type := 23, pos := "law.go:20", after := #[{ on := 24, ground := Ground.data }, { on := 23, ground := Ground.chain }, { on := 23, ground := Ground.guard }], guard := some (23, true) }) rfl (fun K hK => ?_) AllReadyH.nil
  go_simp
  refine Calls.mono (CPR.out _ _ SW5.out.aw) ?_
  rintro ev w6 ⟨rfl, hb⟩
  have SW6 := Lib.hid (SW5.out.keep hb)
  have HBs6 := Lib.hid (HBs5.out.trans (hb.mono HBs5.out.size))
  clear hb HBs5
  refine hK.out _ _ ?_ (fun hHeld => ?_)
  · exact SW6.out
  clear hK K
  (try simp only [Act.put, List.setIfInBounds_toArray, List.set_cons_zero, List.set_cons_succ])
  refine wpAnyH_take (i := 27) (oi := { dst := some 46, op := Op.binOp BinOp.eql 23 (Operand.tmp 44) (Operand.tmp 45) 23, type := 4, pos := "law.go:20", after := #[{ on := 25, ground := Ground.data }, { on := 26, ground := Ground.data }, { on := 23, ground := Ground.guard }], guard := some (23, true) }) (v := ?_) rfl (by kernel_rfl) (by kernel_rfl) (by kernel_rfl) (fun _ _ _ h => h) (Or.inl ⟨by rfl, ?_⟩) (by assumption) ?_
  rotate_left
  · intro w hSw; (try dsimp only at hSw); obtain ⟨a0, a1, a2, a3, a4, a5, a6, a7, a8⟩ := hSw.aw.e.cells; obtain ⟨p0, p1, p2, p3, p4, p5, p6, p7, p8⟩ := hSw.aw.a.cells; obtain ⟨q0, q1, q2, q3, q4, q5, q6, q7, q8⟩ := hSw.aw.b.cells; have o8 := hSw.aw.o.cells.2.2.2.2.2.2.2.2; have t8 := hSw.tw.box.cells.2.2.2.2.2.2.2.2; have tv0 := hSw.tw.v0; have tv1 := hSw.tw.v1'; have r7 := hSw.aw.seven; go_simp; try with_reducible rfl
  (try simp only [Act.put, List.setIfInBounds_toArray, List.set_cons_zero, List.set_cons_succ])
  refine wpAnyH_take (i := 28) (oi := { dst := some 47, op := Op.pick (Operand.tmp 42) (Operand.tmp 46) (Operand.const (Value.bool false)), type := 4, pos := "law.go:20", after := #[{ on := 23, ground := Ground.data }, { on := 27, ground := Ground.data }], guard := none }) (v := ?_) rfl (by kernel_rfl) (by kernel_rfl) (by kernel_rfl) (fun _ _ _ h => h) (Or.inl ⟨by rfl, ?_⟩) (by assumption) ?_
  rotate_left
  · intro w hSw; (try dsimp only at hSw); obtain ⟨a0, a1, a2, a3, a4, a5, a6, a7, a8⟩ := hSw.aw.e.cells; obtain ⟨p0, p1, p2, p3, p4, p5, p6, p7, p8⟩ := hSw.aw.a.cells; obtain ⟨q0, q1, q2, q3, q4, q5, q6, q7, q8⟩ := hSw.aw.b.cells; have o8 := hSw.aw.o.cells.2.2.2.2.2.2.2.2; have t8 := hSw.tw.box.cells.2.2.2.2.2.2.2.2; have tv0 := hSw.tw.v0; have tv1 := hSw.tw.v1'; have r7 := hSw.aw.seven; go_simp; try with_reducible rfl
  (try simp only [Act.put, List.setIfInBounds_toArray, List.set_cons_zero, List.set_cons_succ])
  refine wpAnyH_take (i := 29) (oi := { dst := some 48, op := Op.move (Operand.tmp 47), type := 4, pos := "law.go:20", after := #[{ on := 28, ground := Ground.data }, { on := 25, ground := Ground.chain }], guard := none }) (v := ?_) rfl (by kernel_rfl) (by kernel_rfl) (by kernel_rfl) (fun _ _ _ h => h) (Or.inl ⟨by rfl, ?_⟩) (by assumption) ?_
  rotate_left
  · intro w hSw; (try dsimp only at hSw); obtain ⟨a0, a1, a2, a3, a4, a5, a6, a7, a8⟩ := hSw.aw.e.cells; obtain ⟨p0, p1, p2, p3, p4, p5, p6, p7, p8⟩ := hSw.aw.a.cells; obtain ⟨q0, q1, q2, q3, q4, q5, q6, q7, q8⟩ := hSw.aw.b.cells; have o8 := hSw.aw.o.cells.2.2.2.2.2.2.2.2; have t8 := hSw.tw.box.cells.2.2.2.2.2.2.2.2; have tv0 := hSw.tw.v0; have tv1 := hSw.tw.v1'; have r7 := hSw.aw.seven; go_simp; try with_reducible rfl
  (try simp only [Act.put, List.setIfInBounds_toArray, List.set_cons_zero, List.set_cons_succ])
  refine wpAnyH_take (i := 30) (oi := { dst := some 49, op := Op.load 26 (Operand.tmp 4), type := 26, pos := "law.go:20", after := #[{ on := 29, ground := Ground.guard }], guard := some (29, true) }) (v := ?_) rfl (by kernel_rfl) (by kernel_rfl) (by kernel_rfl) (fun _ _ _ h => h) (Or.inl ⟨by rfl, ?_⟩) (by assumption) ?_
  rotate_left
  · intro w hSw; (try dsimp only at hSw); obtain ⟨a0, a1, a2, a3, a4, a5, a6, a7, a8⟩ := hSw.aw.e.cells; obtain ⟨p0, p1, p2, p3, p4, p5, p6, p7, p8⟩ := hSw.aw.a.cells; obtain ⟨q0, q1, q2, q3, q4, q5, q6, q7, q8⟩ := hSw.aw.b.cells; have o8 := hSw.aw.o.cells.2.2.2.2.2.2.2.2; have t8 := hSw.tw.box.cells.2.2.2.2.2.2.2.2; have tv0 := hSw.tw.v0; have tv1 := hSw.tw.v1'; have r7 := hSw.aw.seven; go_simp; try with_reducible rfl
  (try simp only [Act.put, List.setIfInBounds_toArray, List.set_cons_zero, List.set_cons_succ])
  refine wpAnyH_ready (rs := [31]) (by kernel_rfl) (by simp) ?_
  refine AllReadyH.cons (o := { dst := some 50, op := Op.call { callee := Callee.value (Operand.func 8), args := #[Operand.tmp 49], argTypes := #[26] }, type := 24, pos := "law.go:20", after := #[{ on := 30, ground := Ground.data }, { on := 29, ground := Ground.chain }, { on := 29, ground := Ground.guard }], guard := some (29, true) }) rfl (fun K hK => ?_) AllReadyH.nil
  go_simp
  refine Calls.mono (CAT.out _ _ SW6.out.aw) ?_
  rintro ev w7 ⟨Aa, ca, rfl, hb⟩
  have SW7 := Lib.hid (SW6.out.keep hb)
  have HBs7 := Lib.hid (HBs6.out.trans (hb.mono HBs6.out.size))
  clear hb HBs6
  refine hK.out _ _ ?_ (fun hHeld => ?_)
  · exact SW7.out
  clear hK K
  (try simp only [Act.put, List.setIfInBounds_toArray, List.set_cons_zero, List.set_cons_succ])
  refine wpAnyH_take (i := 32) (oi := { dst := some 51, op := Op.call { callee := Callee.builtin Builtin.len, args := #[Operand.tmp 50], argTypes := #[24] }, type := 3, pos := "law.go:20", after := #[{ on := 31, ground := Ground.data }, { on := 29, ground := Ground.guard }], guard := some (29, true) }) (v := ?_) rfl (by kernel_rfl) (by kernel_rfl) (by kernel_rfl) (fun _ _ _ h => h) (Or.inl ⟨by rfl, ?_⟩) (by assumption) ?_
  rotate_left
  · intro w hSw; (try dsimp only at hSw); obtain ⟨a0, a1, a2, a3, a4, a5, a6, a7, a8⟩ := hSw.aw.e.cells; obtain ⟨p0, p1, p2, p3, p4, p5, p6, p7, p8⟩ := hSw.aw.a.cells; obtain ⟨q0, q1, q2, q3, q4, q5, q6, q7, q8⟩ := hSw.aw.b.cells; have o8 := hSw.aw.o.cells.2.2.2.2.2.2.2.2; have t8 := hSw.tw.box.cells.2.2.2.2.2.2.2.2; have tv0 := hSw.tw.v0; have tv1 := hSw.tw.v1'; have r7 := hSw.aw.seven; go_simp; try with_reducible rfl
  (try simp only [Act.put, List.setIfInBounds_toArray, List.set_cons_zero, List.set_cons_succ])
  refine wpAnyH_take (i := 33) (oi := { dst := some 52, op := Op.binOp BinOp.eql 3 (Operand.tmp 51) (Operand.const (Value.int IntKind.i64 2)) 3, type := 4, pos := "law.go:20", after := #[{ on := 32, ground := Ground.data }, { on := 29, ground := Ground.guard }], guard := some (29, true) }) (v := ?_) rfl (by kernel_rfl) (by kernel_rfl) (by kernel_rfl) (fun _ _ _ h => h) (Or.inl ⟨by rfl, ?_⟩) (by assumption) ?_
  rotate_left
  · intro w hSw; (try dsimp only at hSw); obtain ⟨a0, a1, a2, a3, a4, a5, a6, a7, a8⟩ := hSw.aw.e.cells; obtain ⟨p0, p1, p2, p3, p4, p5, p6, p7, p8⟩ := hSw.aw.a.cells; obtain ⟨q0, q1, q2, q3, q4, q5, q6, q7, q8⟩ := hSw.aw.b.cells; have o8 := hSw.aw.o.cells.2.2.2.2.2.2.2.2; have t8 := hSw.tw.box.cells.2.2.2.2.2.2.2.2; have tv0 := hSw.tw.v0; have tv1 := hSw.tw.v1'; have r7 := hSw.aw.seven; go_simp; try with_reducible rfl
  (try simp only [Act.put, List.setIfInBounds_toArray, List.set_cons_zero, List.set_cons_succ])
  refine wpAnyH_take (i := 34) (oi := { dst := some 53, op := Op.pick (Operand.tmp 48) (Operand.tmp 52) (Operand.const (Value.bool false)), type := 4, pos := "law.go:20", after := #[{ on := 29, ground := Ground.data }, { on := 33, ground := Ground.data }], guard := none }) (v := ?_) rfl (by kernel_rfl) (by kernel_rfl) (by kernel_rfl) (fun _ _ _ h => h) (Or.inl ⟨by rfl, ?_⟩) (by assumption) ?_
  rotate_left
  · intro w hSw; (try dsimp only at hSw); obtain ⟨a0, a1, a2, a3, a4, a5, a6, a7, a8⟩ := hSw.aw.e.cells; obtain ⟨p0, p1, p2, p3, p4, p5, p6, p7, p8⟩ := hSw.aw.a.cells; obtain ⟨q0, q1, q2, q3, q4, q5, q6, q7, q8⟩ := hSw.aw.b.cells; have o8 := hSw.aw.o.cells.2.2.2.2.2.2.2.2; have t8 := hSw.tw.box.cells.2.2.2.2.2.2.2.2; have tv0 := hSw.tw.v0; have tv1 := hSw.tw.v1'; have r7 := hSw.aw.seven; go_simp; try with_reducible rfl
  (try simp only [Act.put, List.setIfInBounds_toArray, List.set_cons_zero, List.set_cons_succ])
  refine wpAnyH_take (i := 35) (oi := { dst := some 54, op := Op.move (Operand.tmp 53), type := 4, pos := "law.go:20", after := #[{ on := 34, ground := Ground.data }, { on := 31, ground := Ground.chain }], guard := none }) (v := ?_) rfl (by kernel_rfl) (by kernel_rfl) (by kernel_rfl) (fun _ _ _ h => h) (Or.inl ⟨by rfl, ?_⟩) (by assumption) ?_
  rotate_left
  · intro w hSw; (try dsimp only at hSw); obtain ⟨a0, a1, a2, a3, a4, a5, a6, a7, a8⟩ := hSw.aw.e.cells; obtain ⟨p0, p1, p2, p3, p4, p5, p6, p7, p8⟩ := hSw.aw.a.cells; obtain ⟨q0, q1, q2, q3, q4, q5, q6, q7, q8⟩ := hSw.aw.b.cells; have o8 := hSw.aw.o.cells.2.2.2.2.2.2.2.2; have t8 := hSw.tw.box.cells.2.2.2.2.2.2.2.2; have tv0 := hSw.tw.v0; have tv1 := hSw.tw.v1'; have r7 := hSw.aw.seven; go_simp; try with_reducible rfl
  (try simp only [Act.put, List.setIfInBounds_toArray, List.set_cons_zero, List.set_cons_succ])
  refine wpAnyH_take (i := 36) (oi := { dst := some 55, op := Op.fieldAddr 26 (Operand.tmp 5) 3, type := 0, pos := "law.go:20", after := #[{ on := 35, ground := Ground.guard }], guard := some (35, true) }) (v := ?_) rfl (by kernel_rfl) (by kernel_rfl) (by kernel_rfl) (fun _ _ _ h => h) (Or.inl ⟨by rfl, ?_⟩) (by assumption) ?_
  rotate_left
  · intro w hSw; (try dsimp only at hSw); obtain ⟨a0, a1, a2, a3, a4, a5, a6, a7, a8⟩ := hSw.aw.e.cells; obtain ⟨p0, p1, p2, p3, p4, p5, p6, p7, p8⟩ := hSw.aw.a.cells; obtain ⟨q0, q1, q2, q3, q4, q5, q6, q7, q8⟩ := hSw.aw.b.cells; have o8 := hSw.aw.o.cells.2.2.2.2.2.2.2.2; have t8 := hSw.tw.box.cells.2.2.2.2.2.2.2.2; have tv0 := hSw.tw.v0; have tv1 := hSw.tw.v1'; have r7 := hSw.aw.seven; go_simp; try with_reducible rfl
  (try simp only [Act.put, List.setIfInBounds_toArray, List.set_cons_zero, List.set_cons_succ])
  refine wpAnyH_take (i := 37) (oi := { dst := some 56, op := Op.load 24 (Operand.tmp 55), type := 24, pos := "law.go:20", after := #[{ on := 36, ground := Ground.data }, { on := 35, ground := Ground.guard }], guard := some (35, true) }) (v := ?_) rfl (by kernel_rfl) (by kernel_rfl) (by kernel_rfl) (fun _ _ _ h => h) (Or.inl ⟨by rfl, ?_⟩) (by assumption) ?_
  rotate_left
  · intro w hSw; (try dsimp only at hSw); obtain ⟨a0, a1, a2, a3, a4, a5, a6, a7, a8⟩ := hSw.aw.e.cells; obtain ⟨p0, p1, p2, p3, p4, p5, p6, p7, p8⟩ := hSw.aw.a.cells; obtain ⟨q0, q1, q2, q3, q4, q5, q6, q7, q8⟩ := hSw.aw.b.cells; have o8 := hSw.aw.o.cells.2.2.2.2.2.2.2.2; have t8 := hSw.tw.box.cells.2.2.2.2.2.2.2.2; have tv0 := hSw.tw.v0; have tv1 := hSw.tw.v1'; have r7 := hSw.aw.seven; go_simp; try with_reducible rfl
  (try simp only [Act.put, List.setIfInBounds_toArray, List.set_cons_zero, List.set_cons_succ])
  refine wpAnyH_take (i := 38) (oi := { dst := some 57, op := Op.call { callee := Callee.builtin Builtin.len, args := #[Operand.tmp 56], argTypes := #[24] }, type := 3, pos := "law.go:20", after := #[{ on := 37, ground := Ground.data }, { on := 35, ground := Ground.guard }], guard := some (35, true) }) (v := ?_) rfl (by kernel_rfl) (by kernel_rfl) (by kernel_rfl) (fun _ _ _ h => h) (Or.inl ⟨by rfl, ?_⟩) (by assumption) ?_
  rotate_left
  · intro w hSw; (try dsimp only at hSw); obtain ⟨a0, a1, a2, a3, a4, a5, a6, a7, a8⟩ := hSw.aw.e.cells; obtain ⟨p0, p1, p2, p3, p4, p5, p6, p7, p8⟩ := hSw.aw.a.cells; obtain ⟨q0, q1, q2, q3, q4, q5, q6, q7, q8⟩ := hSw.aw.b.cells; have o8 := hSw.aw.o.cells.2.2.2.2.2.2.2.2; have t8 := hSw.tw.box.cells.2.2.2.2.2.2.2.2; have tv0 := hSw.tw.v0; have tv1 := hSw.tw.v1'; have r7 := hSw.aw.seven; go_simp; try with_reducible rfl
  (try simp only [Act.put, List.setIfInBounds_toArray, List.set_cons_zero, List.set_cons_succ])
  refine wpAnyH_take (i := 39) (oi := { dst := some 58, op := Op.binOp BinOp.eql 3 (Operand.tmp 57) (Operand.const (Value.int IntKind.i64 2)) 3, type := 4, pos := "law.go:20", after := #[{ on := 38, ground := Ground.data }, { on := 35, ground := Ground.guard }], guard := some (35, true) }) (v := ?_) rfl (by kernel_rfl) (by kernel_rfl) (by kernel_rfl) (fun _ _ _ h => h) (Or.inl ⟨by rfl, ?_⟩) (by assumption) ?_
  rotate_left
  · intro w hSw; (try dsimp only at hSw); obtain ⟨a0, a1, a2, a3, a4, a5, a6, a7, a8⟩ := hSw.aw.e.cells; obtain ⟨p0, p1, p2, p3, p4, p5, p6, p7, p8⟩ := hSw.aw.a.cells; obtain ⟨q0, q1, q2, q3, q4, q5, q6, q7, q8⟩ := hSw.aw.b.cells; have o8 := hSw.aw.o.cells.2.2.2.2.2.2.2.2; have t8 := hSw.tw.box.cells.2.2.2.2.2.2.2.2; have tv0 := hSw.tw.v0; have tv1 := hSw.tw.v1'; have r7 := hSw.aw.seven; go_simp; try with_reducible rfl
  (try simp only [Act.put, List.setIfInBounds_toArray, List.set_cons_zero, List.set_cons_succ])
  refine wpAnyH_take (i := 40) (oi := { dst := some 59, op := Op.pick (Operand.tmp 54) (Operand.tmp 58) (Operand.const (Value.bool false)), type := 4, pos := "law.go:20", after := #[{ on := 35, ground := Ground.data }, { on := 39, ground := Ground.data }], guard := none }) (v := ?_) rfl (by kernel_rfl) (by kernel_rfl) (by kernel_rfl) (fun _ _ _ h => h) (Or.inl ⟨by rfl, ?_⟩) (by assumption) ?_
  rotate_left
  · intro w hSw; (try dsimp only at hSw); obtain ⟨a0, a1, a2, a3, a4, a5, a6, a7, a8⟩ := hSw.aw.e.cells; obtain ⟨p0, p1, p2, p3, p4, p5, p6, p7, p8⟩ := hSw.aw.a.cells; obtain ⟨q0, q1, q2, q3, q4, q5, q6, q7, q8⟩ := hSw.aw.b.cells; have o8 := hSw.aw.o.cells.2.2.2.2.2.2.2.2; have t8 := hSw.tw.box.cells.2.2.2.2.2.2.2.2; have tv0 := hSw.tw.v0; have tv1 := hSw.tw.v1'; have r7 := hSw.aw.seven; go_simp; try with_reducible rfl
  (try simp only [Act.put, List.setIfInBounds_toArray, List.set_cons_zero, List.set_cons_succ])
  refine wpAnyH_take (i := 41) (oi := { dst := some 60, op := Op.move (Operand.tmp 59), type := 4, pos := "law.go:20", after := #[{ on := 40, ground := Ground.data }, { on := 35, ground := Ground.chain }], guard := none }) (v := ?_) rfl (by kernel_rfl) (by kernel_rfl) (by kernel_rfl) (fun _ _ _ h => h) (Or.inl ⟨by rfl, ?_⟩) (by assumption) ?_
  rotate_left
  · intro w hSw; (try dsimp only at hSw); obtain ⟨a0, a1, a2, a3, a4, a5, a6, a7, a8⟩ := hSw.aw.e.cells; obtain ⟨p0, p1, p2, p3, p4, p5, p6, p7, p8⟩ := hSw.aw.a.cells; obtain ⟨q0, q1, q2, q3, q4, q5, q6, q7, q8⟩ := hSw.aw.b.cells; have o8 := hSw.aw.o.cells.2.2.2.2.2.2.2.2; have t8 := hSw.tw.box.cells.2.2.2.2.2.2.2.2; have tv0 := hSw.tw.v0; have tv1 := hSw.tw.v1'; have r7 := hSw.aw.seven; go_simp; try with_reducible rfl
  (try simp only [Act.put, List.setIfInBounds_toArray, List.set_cons_zero, List.set_cons_succ])
  refine wpAnyH_take (i := 42) (oi := { dst := some 61, op := Op.fieldAddr 26 (Operand.tmp 5) 3, type := 0, pos := "law.go:20", after := #[{ on := 41, ground := Ground.guard }], guard := some (41, true) }) (v := ?_) rfl (by kernel_rfl) (by kernel_rfl) (by kernel_rfl) (fun _ _ _ h => h) (Or.inl ⟨by rfl, ?_⟩) (by assumption) ?_
  rotate_left
  · intro w hSw; (try dsimp only at hSw); obtain ⟨a0, a1, a2, a3, a4, a5, a6, a7, a8⟩ := hSw.aw.e.cells; obtain ⟨p0, p1, p2, p3, p4, p5, p6, p7, p8⟩ := hSw.aw.a.cells; obtain ⟨q0, q1, q2, q3, q4, q5, q6, q7, q8⟩ := hSw.aw.b.cells; have o8 := hSw.aw.o.cells.2.2.2.2.2.2.2.2; have t8 := hSw.tw.box.cells.2.2.2.2.2.2.2.2; have tv0 := hSw.tw.v0; have tv1 := hSw.tw.v1'; have r7 := hSw.aw.seven; go_simp; try with_reducible rfl
  (try simp only [Act.put, List.setIfInBounds_toArray, List.set_cons_zero, List.set_cons_succ])
  refine wpAnyH_take (i := 43) (oi := { dst := some 62, op := Op.load 24 (Operand.tmp 61), type := 24, pos := "law.go:20", after := #[{ on := 42, ground := Ground.data }, { on := 41, ground := Ground.guard }], guard := some (41, true) }) (v := ?_) rfl (by kernel_rfl) (by kernel_rfl) (by kernel_rfl) (fun _ _ _ h => h) (Or.inl ⟨by rfl, ?_⟩) (by assumption) ?_
  rotate_left
  · intro w hSw; (try dsimp only at hSw); obtain ⟨a0, a1, a2, a3, a4, a5, a6, a7, a8⟩ := hSw.aw.e.cells; obtain ⟨p0, p1, p2, p3, p4, p5, p6, p7, p8⟩ := hSw.aw.a.cells; obtain ⟨q0, q1, q2, q3, q4, q5, q6, q7, q8⟩ := hSw.aw.b.cells; have o8 := hSw.aw.o.cells.2.2.2.2.2.2.2.2; have t8 := hSw.tw.box.cells.2.2.2.2.2.2.2.2; have tv0 := hSw.tw.v0; have tv1 := hSw.tw.v1'; have r7 := hSw.aw.seven; go_simp; try with_reducible rfl
  (try simp only [Act.put, List.setIfInBounds_toArray, List.set_cons_zero, List.set_cons_succ])
  refine wpAnyH_take (i := 44) (oi := { dst := some 63, op := Op.indexAddr 24 (Operand.tmp 62) (Operand.const (Value.int IntKind.i64 0)), type := 0, pos := "law.go:20", after := #[{ on := 43, ground := Ground.data }, { on := 41, ground := Ground.guard }], guard := some (41, true) }) (v := ?_) rfl (by kernel_rfl) (by kernel_rfl) (by kernel_rfl) (fun _ _ _ h => h) (Or.inl ⟨by rfl, ?_⟩) (by assumption) ?_
  rotate_left
  · intro w hSw; (try dsimp only at hSw); obtain ⟨a0, a1, a2, a3, a4, a5, a6, a7, a8⟩ := hSw.aw.e.cells; obtain ⟨p0, p1, p2, p3, p4, p5, p6, p7, p8⟩ := hSw.aw.a.cells; obtain ⟨q0, q1, q2, q3, q4, q5, q6, q7, q8⟩ := hSw.aw.b.cells; have o8 := hSw.aw.o.cells.2.2.2.2.2.2.2.2; have t8 := hSw.tw.box.cells.2.2.2.2.2.2.2.2; have tv0 := hSw.tw.v0; have tv1 := hSw.tw.v1'; have r7 := hSw.aw.seven; go_simp; try with_reducible rfl
  (try simp only [Act.put, List.setIfInBounds_toArray, List.set_cons_zero, List.set_cons_succ])
  refine wpAnyH_take (i := 45) (oi := { dst := some 64, op := Op.fieldAddr 26 (Operand.tmp 63) 2, type := 0, pos := "law.go:20", after := #[{ on := 44, ground := Ground.data }, { on := 41, ground := Ground.guard }], guard := some (41, true) }) (v := ?_) rfl (by kernel_rfl) (by kernel_rfl) (by kernel_rfl) (fun _ _ _ h => h) (Or.inl ⟨by rfl, ?_⟩) (by assumption) ?_
  rotate_left
  · intro w hSw; (try dsimp only at hSw); obtain ⟨a0, a1, a2, a3, a4, a5, a6, a7, a8⟩ := hSw.aw.e.cells; obtain ⟨p0, p1, p2, p3, p4, p5, p6, p7, p8⟩ := hSw.aw.a.cells; obtain ⟨q0, q1, q2, q3, q4, q5, q6, q7, q8⟩ := hSw.aw.b.cells; have o8 := hSw.aw.o.cells.2.2.2.2.2.2.2.2; have t8 := hSw.tw.box.cells.2.2.2.2.2.2.2.2; have tv0 := hSw.tw.v0; have tv1 := hSw.tw.v1'; have r7 := hSw.aw.seven; go_simp; try with_reducible rfl
  (try simp only [Act.put, List.setIfInBounds_toArray, List.set_cons_zero, List.set_cons_succ])
  refine wpAnyH_take (i := 46) (oi := { dst := some 65, op := Op.load 2 (Operand.tmp 64), type := 2, pos := "law.go:20", after := #[{ on := 45, ground := Ground.data }, { on := 41, ground := Ground.guard }], guard := some (41, true) }) (v := ?_) rfl (by kernel_rfl) (by kernel_rfl) (by kernel_rfl) (fun _ _ _ h => h) (Or.inl ⟨by rfl, ?_⟩) (by assumption) ?_
  rotate_left
  · intro w hSw; (try dsimp only at hSw); obtain ⟨a0, a1, a2, a3, a4, a5, a6, a7, a8⟩ := hSw.aw.e.cells; obtain ⟨p0, p1, p2, p3, p4, p5, p6, p7, p8⟩ := hSw.aw.a.cells; obtain ⟨q0, q1, q2, q3, q4, q5, q6, q7, q8⟩ := hSw.aw.b.cells; have o8 := hSw.aw.o.cells.2.2.2.2.2.2.2.2; have t8 := hSw.tw.box.cells.2.2.2.2.2.2.2.2; have tv0 := hSw.tw.v0; have tv1 := hSw.tw.v1'; have r7 := hSw.aw.seven; go_simp; try with_reducible rfl
  (try simp only [Act.put, List.setIfInBounds_toArray, List.set_cons_zero, List.set_cons_succ])
  refine wpAnyH_take (i := 47) (oi := { dst := some 66, op := Op.binOp BinOp.eql 2 (Operand.tmp 65) (Operand.const (Value.int IntKind.i64 10)) 2, type := 4, pos := "law.go:20", after := #[{ on := 46, ground := Ground.data }, { on := 41, ground := Ground.guard }], guard := some (41, true) }) (v := ?_) rfl (by kernel_rfl) (by kernel_rfl) (by kernel_rfl) (fun _ _ _ h => h) (Or.inl ⟨by rfl, ?_⟩) (by assumption) ?_
  rotate_left
  · intro w hSw; (try dsimp only at hSw); obtain ⟨a0, a1, a2, a3, a4, a5, a6, a7, a8⟩ := hSw.aw.e.cells; obtain ⟨p0, p1, p2, p3, p4, p5, p6, p7, p8⟩ := hSw.aw.a.cells; obtain ⟨q0, q1, q2, q3, q4, q5, q6, q7, q8⟩ := hSw.aw.b.cells; have o8 := hSw.aw.o.cells.2.2.2.2.2.2.2.2; have t8 := hSw.tw.box.cells.2.2.2.2.2.2.2.2; have tv0 := hSw.tw.v0; have tv1 := hSw.tw.v1'; have r7 := hSw.aw.seven; go_simp; try with_reducible rfl
  (try simp only [Act.put, List.setIfInBounds_toArray, List.set_cons_zero, List.set_cons_succ])
  refine wpAnyH_take (i := 48) (oi := { dst := some 67, op := Op.pick (Operand.tmp 60) (Operand.tmp 66) (Operand.const (Value.bool false)), type := 4, pos := "law.go:20", after := #[{ on := 41, ground := Ground.data }, { on := 47, ground := Ground.data }], guard := none }) (v := ?_) rfl (by kernel_rfl) (by kernel_rfl) (by kernel_rfl) (fun _ _ _ h => h) (Or.inl ⟨by rfl, ?_⟩) (by assumption) ?_
  rotate_left
  · intro w hSw; (try dsimp only at hSw); obtain ⟨a0, a1, a2, a3, a4, a5, a6, a7, a8⟩ := hSw.aw.e.cells; obtain ⟨p0, p1, p2, p3, p4, p5, p6, p7, p8⟩ := hSw.aw.a.cells; obtain ⟨q0, q1, q2, q3, q4, q5, q6, q7, q8⟩ := hSw.aw.b.cells; have o8 := hSw.aw.o.cells.2.2.2.2.2.2.2.2; have t8 := hSw.tw.box.cells.2.2.2.2.2.2.2.2; have tv0 := hSw.tw.v0; have tv1 := hSw.tw.v1'; have r7 := hSw.aw.seven; go_simp; try with_reducible rfl
  (try simp only [Act.put, List.setIfInBounds_toArray, List.set_cons_zero, List.set_cons_succ])
  refine wpAnyH_take (i := 49) (oi := { dst := some 68, op := Op.move (Operand.tmp 67), type := 4, pos := "law.go:20", after := #[{ on := 48, ground := Ground.data }, { on := 41, ground := Ground.chain }], guard := none }) (v := ?_) rfl (by kernel_rfl) (by kernel_rfl) (by kernel_rfl) (fun _ _ _ h => h) (Or.inl ⟨by rfl, ?_⟩) (by assumption) ?_
  rotate_left
  · intro w hSw; (try dsimp only at hSw); obtain ⟨a0, a1, a2, a3, a4, a5, a6, a7, a8⟩ := hSw.aw.e.cells; obtain ⟨p0, p1, p2, p3, p4, p5, p6, p7, p8⟩ := hSw.aw.a.cells; obtain ⟨q0, q1, q2, q3, q4, q5, q6, q7, q8⟩ := hSw.aw.b.cells; have o8 := hSw.aw.o.cells.2.2.2.2.2.2.2.2; have t8 := hSw.tw.box.cells.2.2.2.2.2.2.2.2; have tv0 := hSw.tw.v0; have tv1 := hSw.tw.v1'; have r7 := hSw.aw.seven; go_simp; try with_reducible rfl
  (try simp only [Act.put, List.setIfInBounds_toArray, List.set_cons_zero, List.set_cons_succ])
  refine wpAnyH_take (i := 50) (oi := { dst := some 69, op := Op.fieldAddr 26 (Operand.tmp 5) 3, type := 0, pos := "law.go:20", after := #[{ on := 49, ground := Ground.guard }], guard := some (49, true) }) (v := ?_) rfl (by kernel_rfl) (by kernel_rfl) (by kernel_rfl) (fun _ _ _ h => h) (Or.inl ⟨by rfl, ?_⟩) (by assumption) ?_
  rotate_left
  · intro w hSw; (try dsimp only at hSw); obtain ⟨a0, a1, a2, a3, a4, a5, a6, a7, a8⟩ := hSw.aw.e.cells; obtain ⟨p0, p1, p2, p3, p4, p5, p6, p7, p8⟩ := hSw.aw.a.cells; obtain ⟨q0, q1, q2, q3, q4, q5, q6, q7, q8⟩ := hSw.aw.b.cells; have o8 := hSw.aw.o.cells.2.2.2.2.2.2.2.2; have t8 := hSw.tw.box.cells.2.2.2.2.2.2.2.2; have tv0 := hSw.tw.v0; have tv1 := hSw.tw.v1'; have r7 := hSw.aw.seven; go_simp; try with_reducible rfl
  (try simp only [Act.put, List.setIfInBounds_toArray, List.set_cons_zero, List.set_cons_succ])
  refine wpAnyH_take (i := 51) (oi := { dst := some 70, op := Op.load 24 (Operand.tmp 69), type := 24, pos := "law.go:20", after := #[{ on := 50, ground := Ground.data }, { on := 49, ground := Ground.guard }], guard := some (49, true) }) (v := ?_) rfl (by kernel_rfl) (by kernel_rfl) (by kernel_rfl) (fun _ _ _ h => h) (Or.inl ⟨by rfl, ?_⟩) (by assumption) ?_
  rotate_left
  · intro w hSw; (try dsimp only at hSw); obtain ⟨a0, a1, a2, a3, a4, a5, a6, a7, a8⟩ := hSw.aw.e.cells; obtain ⟨p0, p1, p2, p3, p4, p5, p6, p7, p8⟩ := hSw.aw.a.cells; obtain ⟨q0, q1, q2, q3, q4, q5, q6, q7, q8⟩ := hSw.aw.b.cells; have o8 := hSw.aw.o.cells.2.2.2.2.2.2.2.2; have t8 := hSw.tw.box.cells.2.2.2.2.2.2.2.2; have tv0 := hSw.tw.v0; have tv1 := hSw.tw.v1'; have r7 := hSw.aw.seven; go_simp; try with_reducible rfl
  (try simp only [Act.put, List.setIfInBounds_toArray, List.set_cons_zero, List.set_cons_succ])
  refine wpAnyH_take (i := 52) (oi := { dst := some 71, op := Op.indexAddr 24 (Operand.tmp 70) (Operand.const (Value.int IntKind.i64 1)), type := 0, pos := "law.go:20", after := #[{ on := 51, ground := Ground.data }, { on := 49, ground := Ground.guard }], guard := some (49, true) }) (v := ?_) rfl (by kernel_rfl) (by kernel_rfl) (by kernel_rfl) (fun _ _ _ h => h) (Or.inl ⟨by rfl, ?_⟩) (by assumption) ?_
  rotate_left
  · intro w hSw; (try dsimp only at hSw); obtain ⟨a0, a1, a2, a3, a4, a5, a6, a7, a8⟩ := hSw.aw.e.cells; obtain ⟨p0, p1, p2, p3, p4, p5, p6, p7, p8⟩ := hSw.aw.a.cells; obtain ⟨q0, q1, q2, q3, q4, q5, q6, q7, q8⟩ := hSw.aw.b.cells; have o8 := hSw.aw.o.cells.2.2.2.2.2.2.2.2; have t8 := hSw.tw.box.cells.2.2.2.2.2.2.2.2; have tv0 := hSw.tw.v0; have tv1 := hSw.tw.v1'; have r7 := hSw.aw.seven; go_simp; try with_reducible rfl
  (try simp only [Act.put, List.setIfInBounds_toArray, List.set_cons_zero, List.set_cons_succ])
  refine wpAnyH_take (i := 53) (oi := { dst := some 72, op := Op.fieldAddr 26 (Operand.tmp 71) 2, type := 0, pos := "law.go:20", after := #[{ on := 52, ground := Ground.data }, { on := 49, ground := Ground.guard }], guard := some (49, true) }) (v := ?_) rfl (by kernel_rfl) (by kernel_rfl) (by kernel_rfl) (fun _ _ _ h => h) (Or.inl ⟨by rfl, ?_⟩) (by assumption) ?_
  rotate_left
  · intro w hSw; (try dsimp only at hSw); obtain ⟨a0, a1, a2, a3, a4, a5, a6, a7, a8⟩ := hSw.aw.e.cells; obtain ⟨p0, p1, p2, p3, p4, p5, p6, p7, p8⟩ := hSw.aw.a.cells; obtain ⟨q0, q1, q2, q3, q4, q5, q6, q7, q8⟩ := hSw.aw.b.cells; have o8 := hSw.aw.o.cells.2.2.2.2.2.2.2.2; have t8 := hSw.tw.box.cells.2.2.2.2.2.2.2.2; have tv0 := hSw.tw.v0; have tv1 := hSw.tw.v1'; have r7 := hSw.aw.seven; go_simp; try with_reducible rfl
  (try simp only [Act.put, List.setIfInBounds_toArray, List.set_cons_zero, List.set_cons_succ])
  refine wpAnyH_take (i := 54) (oi := { dst := some 73, op := Op.load 2 (Operand.tmp 72), type := 2, pos := "law.go:20", after := #[{ on := 53, ground := Ground.data }, { on := 49, ground := Ground.guard }], guard := some (49, true) }) (v := ?_) rfl (by kernel_rfl) (by kernel_rfl) (by kernel_rfl) (fun _ _ _ h => h) (Or.inl ⟨by rfl, ?_⟩) (by assumption) ?_
  rotate_left
  · intro w hSw; (try dsimp only at hSw); obtain ⟨a0, a1, a2, a3, a4, a5, a6, a7, a8⟩ := hSw.aw.e.cells; obtain ⟨p0, p1, p2, p3, p4, p5, p6, p7, p8⟩ := hSw.aw.a.cells; obtain ⟨q0, q1, q2, q3, q4, q5, q6, q7, q8⟩ := hSw.aw.b.cells; have o8 := hSw.aw.o.cells.2.2.2.2.2.2.2.2; have t8 := hSw.tw.box.cells.2.2.2.2.2.2.2.2; have tv0 := hSw.tw.v0; have tv1 := hSw.tw.v1'; have r7 := hSw.aw.seven; go_simp; try with_reducible rfl
  (try simp only [Act.put, List.setIfInBounds_toArray, List.set_cons_zero, List.set_cons_succ])
  refine wpAnyH_take (i := 55) (oi := { dst := some 74, op := Op.binOp BinOp.eql 2 (Operand.tmp 73) (Operand.const (Value.int IntKind.i64 14)) 2, type := 4, pos := "law.go:20", after := #[{ on := 54, ground := Ground.data }, { on := 49, ground := Ground.guard }], guard := some (49, true) }) (v := ?_) rfl (by kernel_rfl) (by kernel_rfl) (by kernel_rfl) (fun _ _ _ h => h) (Or.inl ⟨by rfl, ?_⟩) (by assumption) ?_
  rotate_left
  · intro w hSw; (try dsimp only at hSw); obtain ⟨a0, a1, a2, a3, a4, a5, a6, a7, a8⟩ := hSw.aw.e.cells; obtain ⟨p0, p1, p2, p3, p4, p5, p6, p7, p8⟩ := hSw.aw.a.cells; obtain ⟨q0, q1, q2, q3, q4, q5, q6, q7, q8⟩ := hSw.aw.b.cells; have o8 := hSw.aw.o.cells.2.2.2.2.2.2.2.2; have t8 := hSw.tw.box.cells.2.2.2.2.2.2.2.2; have tv0 := hSw.tw.v0; have tv1 := hSw.tw.v1'; have r7 := hSw.aw.seven; go_simp; try with_reducible rfl
  (try simp only [Act.put, List.setIfInBounds_toArray, List.set_cons_zero, List.set_cons_succ])
  refine wpAnyH_take (i := 56) (oi := { dst := some 75, op := Op.pick (Operand.tmp 68) (Operand.tmp 74) (Operand.const (Value.bool false)), type := 4, pos := "law.go:20", after := #[{ on := 49, ground := Ground.data }, { on := 55, ground := Ground.data }], guard := none }) (v := ?_) rfl (by kernel_rfl) (by kernel_rfl) (by kernel_rfl) (fun _ _ _ h => h) (Or.inl ⟨by rfl, ?_⟩) (by assumption) ?_
  rotate_left
  · intro w hSw; (try dsimp only at hSw); obtain ⟨a0, a1, a2, a3, a4, a5, a6, a7, a8⟩ := hSw.aw.e.cells; obtain ⟨p0, p1, p2, p3, p4, p5, p6, p7, p8⟩ := hSw.aw.a.cells; obtain ⟨q0, q1, q2, q3, q4, q5, q6, q7, q8⟩ := hSw.aw.b.cells; have o8 := hSw.aw.o.cells.2.2.2.2.2.2.2.2; have t8 := hSw.tw.box.cells.2.2.2.2.2.2.2.2; have tv0 := hSw.tw.v0; have tv1 := hSw.tw.v1'; have r7 := hSw.aw.seven; go_simp; try with_reducible rfl
  (try simp only [Act.put, List.setIfInBounds_toArray, List.set_cons_zero, List.set_cons_succ])
  refine wpAnyH_take (i := 57) (oi := { dst := some 76, op := Op.move (Operand.tmp 75), type := 4, pos := "law.go:20", after := #[{ on := 56, ground := Ground.data }, { on := 49, ground := Ground.chain }], guard := none }) (v := ?_) rfl (by kernel_rfl) (by kernel_rfl) (by kernel_rfl) (fun _ _ _ h => h) (Or.inl ⟨by rfl, ?_⟩) (by assumption) ?_
  rotate_left
  · intro w hSw; (try dsimp only at hSw); obtain ⟨a0, a1, a2, a3, a4, a5, a6, a7, a8⟩ := hSw.aw.e.cells; obtain ⟨p0, p1, p2, p3, p4, p5, p6, p7, p8⟩ := hSw.aw.a.cells; obtain ⟨q0, q1, q2, q3, q4, q5, q6, q7, q8⟩ := hSw.aw.b.cells; have o8 := hSw.aw.o.cells.2.2.2.2.2.2.2.2; have t8 := hSw.tw.box.cells.2.2.2.2.2.2.2.2; have tv0 := hSw.tw.v0; have tv1 := hSw.tw.v1'; have r7 := hSw.aw.seven; go_simp; try with_reducible rfl
  (try simp only [Act.put, List.setIfInBounds_toArray, List.set_cons_zero, List.set_cons_succ])
  refine wpAnyH_take (i := 58) (oi := { dst := some 77, op := Op.fieldAddr 26 (Operand.tmp 3) 3, type := 0, pos := "law.go:20", after := #[{ on := 57, ground := Ground.guard }], guard := some (57, true) }) (v := ?_) rfl (by kernel_rfl) (by kernel_rfl) (by kernel_rfl) (fun _ _ _ h => h) (Or.inl ⟨by rfl, ?_⟩) (by assumption) ?_
  rotate_left
  · intro w hSw; (try dsimp only at hSw); obtain ⟨a0, a1, a2, a3, a4, a5, a6, a7, a8⟩ := hSw.aw.e.cells; obtain ⟨p0, p1, p2, p3, p4, p5, p6, p7, p8⟩ := hSw.aw.a.cells; obtain ⟨q0, q1, q2, q3, q4, q5, q6, q7, q8⟩ := hSw.aw.b.cells; have o8 := hSw.aw.o.cells.2.2.2.2.2.2.2.2; have t8 := hSw.tw.box.cells.2.2.2.2.2.2.2.2; have tv0 := hSw.tw.v0; have tv1 := hSw.tw.v1'; have r7 := hSw.aw.seven; go_simp; try with_reducible rfl
  (try simp only [Act.put, List.setIfInBounds_toArray, List.set_cons_zero, List.set_cons_succ])
  refine wpAnyH_take (i := 59) (oi := { dst := some 78, op := Op.load 24 (Operand.tmp 77), type := 24, pos := "law.go:20", after := #[{ on := 58, ground := Ground.data }, { on := 57, ground := Ground.guard }], guard := some (57, true) }) (v := ?_) rfl (by kernel_rfl) (by kernel_rfl) (by kernel_rfl) (fun _ _ _ h => h) (Or.inl ⟨by rfl, ?_⟩) (by assumption) ?_
  rotate_left
  · intro w hSw; (try dsimp only at hSw); obtain ⟨a0, a1, a2, a3, a4, a5, a6, a7, a8⟩ := hSw.aw.e.cells; obtain ⟨p0, p1, p2, p3, p4, p5, p6, p7, p8⟩ := hSw.aw.a.cells; obtain ⟨q0, q1, q2, q3, q4, q5, q6, q7, q8⟩ := hSw.aw.b.cells; have o8 := hSw.aw.o.cells.2.2.2.2.2.2.2.2; have t8 := hSw.tw.box.cells.2.2.2.2.2.2.2.2; have tv0 := hSw.tw.v0; have tv1 := hSw.tw.v1'; have r7 := hSw.aw.seven; go_simp; try with_reducible rfl
  (try simp only [Act.put, List.setIfInBounds_toArray, List.set_cons_zero, List.set_cons_succ])
  refine wpAnyH_take (i := 60) (oi := { dst := some 79, op := Op.indexAddr 24 (Operand.tmp 78) (Operand.const (Value.int IntKind.i64 0)), type := 0, pos := "law.go:20", after := #[{ on := 59, ground := Ground.data }, { on := 57, ground := Ground.guard }], guard := some (57, true) }) (v := ?_) rfl (by kernel_rfl) (by kernel_rfl) (by kernel_rfl) (fun _ _ _ h => h) (Or.inl ⟨by rfl, ?_⟩) (by assumption) ?_
  rotate_left
  · intro w hSw; (try dsimp only at hSw); obtain ⟨a0, a1, a2, a3, a4, a5, a6, a7, a8⟩ := hSw.aw.e.cells; obtain ⟨p0, p1, p2, p3, p4, p5, p6, p7, p8⟩ := hSw.aw.a.cells; obtain ⟨q0, q1, q2, q3, q4, q5, q6, q7, q8⟩ := hSw.aw.b.cells; have o8 := hSw.aw.o.cells.2.2.2.2.2.2.2.2; have t8 := hSw.tw.box.cells.2.2.2.2.2.2.2.2; have tv0 := hSw.tw.v0; have tv1 := hSw.tw.v1'; have r7 := hSw.aw.seven; go_simp; try with_reducible rfl
  (try simp only [Act.put, List.setIfInBounds_toArray, List.set_cons_zero, List.set_cons_succ])
  refine wpAnyH_take (i := 61) (oi := { dst := some 80, op := Op.fieldAddr 26 (Operand.tmp 79) 2, type := 0, pos := "law.go:20", after := #[{ on := 60, ground := Ground.data }, { on := 57, ground := Ground.guard }], guard := some (57, true) }) (v := ?_) rfl (by kernel_rfl) (by kernel_rfl) (by kernel_rfl) (fun _ _ _ h => h) (Or.inl ⟨by rfl, ?_⟩) (by assumption) ?_
  rotate_left
  · intro w hSw; (try dsimp only at hSw); obtain ⟨a0, a1, a2, a3, a4, a5, a6, a7, a8⟩ := hSw.aw.e.cells; obtain ⟨p0, p1, p2, p3, p4, p5, p6, p7, p8⟩ := hSw.aw.a.cells; obtain ⟨q0, q1, q2, q3, q4, q5, q6, q7, q8⟩ := hSw.aw.b.cells; have o8 := hSw.aw.o.cells.2.2.2.2.2.2.2.2; have t8 := hSw.tw.box.cells.2.2.2.2.2.2.2.2; have tv0 := hSw.tw.v0; have tv1 := hSw.tw.v1'; have r7 := hSw.aw.seven; go_simp; try with_reducible rfl
  (try simp only [Act.put, List.setIfInBounds_toArray, List.set_cons_zero, List.set_cons_succ])
  refine wpAnyH_take (i := 62) (oi := { dst := some 81, op := Op.load 2 (Operand.tmp 80), type := 2, pos := "law.go:20", after := #[{ on := 61, ground := Ground.data }, { on := 57, ground := Ground.guard }], guard := some (57, true) }) (v := ?_) rfl (by kernel_rfl) (by kernel_rfl) (by kernel_rfl) (fun _ _ _ h => h) (Or.inl ⟨by rfl, ?_⟩) (by assumption) ?_
  rotate_left
  · intro w hSw; (try dsimp only at hSw); obtain ⟨a0, a1, a2, a3, a4, a5, a6, a7, a8⟩ := hSw.aw.e.cells; obtain ⟨p0, p1, p2, p3, p4, p5, p6, p7, p8⟩ := hSw.aw.a.cells; obtain ⟨q0, q1, q2, q3, q4, q5, q6, q7, q8⟩ := hSw.aw.b.cells; have o8 := hSw.aw.o.cells.2.2.2.2.2.2.2.2; have t8 := hSw.tw.box.cells.2.2.2.2.2.2.2.2; have tv0 := hSw.tw.v0; have tv1 := hSw.tw.v1'; have r7 := hSw.aw.seven; go_simp; try with_reducible rfl
  (try simp only [Act.put, List.setIfInBounds_toArray, List.set_cons_zero, List.set_cons_succ])
  refine wpAnyH_take (i := 63) (oi := { dst := some 82, op := Op.binOp BinOp.eql 2 (Operand.tmp 81) (Operand.const (Value.int IntKind.i64 5)) 2, type := 4, pos := "law.go:20", after := #[{ on := 62, ground := Ground.data }, { on := 57, ground := Ground.guard }], guard := some (57, true) }) (v := ?_) rfl (by kernel_rfl) (by kernel_rfl) (by kernel_rfl) (fun _ _ _ h => h) (Or.inl ⟨by rfl, ?_⟩) (by assumption) ?_
  rotate_left
  · intro w hSw; (try dsimp only at hSw); obtain ⟨a0, a1, a2, a3, a4, a5, a6, a7, a8⟩ := hSw.aw.e.cells; obtain ⟨p0, p1, p2, p3, p4, p5, p6, p7, p8⟩ := hSw.aw.a.cells; obtain ⟨q0, q1, q2, q3, q4, q5, q6, q7, q8⟩ := hSw.aw.b.cells; have o8 := hSw.aw.o.cells.2.2.2.2.2.2.2.2; have t8 := hSw.tw.box.cells.2.2.2.2.2.2.2.2; have tv0 := hSw.tw.v0; have tv1 := hSw.tw.v1'; have r7 := hSw.aw.seven; go_simp; try with_reducible rfl
  (try simp only [Act.put, List.setIfInBounds_toArray, List.set_cons_zero, List.set_cons_succ])
  refine wpAnyH_take (i := 64) (oi := { dst := some 83, op := Op.pick (Operand.tmp 76) (Operand.tmp 82) (Operand.const (Value.bool false)), type := 4, pos := "law.go:20", after := #[{ on := 57, ground := Ground.data }, { on := 63, ground := Ground.data }], guard := none }) (v := ?_) rfl (by kernel_rfl) (by kernel_rfl) (by kernel_rfl) (fun _ _ _ h => h) (Or.inl ⟨by rfl, ?_⟩) (by assumption) ?_
  rotate_left
  · intro w hSw; (try dsimp only at hSw); obtain ⟨a0, a1, a2, a3, a4, a5, a6, a7, a8⟩ := hSw.aw.e.cells; obtain ⟨p0, p1, p2, p3, p4, p5, p6, p7, p8⟩ := hSw.aw.a.cells; obtain ⟨q0, q1, q2, q3, q4, q5, q6, q7, q8⟩ := hSw.aw.b.cells; have o8 := hSw.aw.o.cells.2.2.2.2.2.2.2.2; have t8 := hSw.tw.box.cells.2.2.2.2.2.2.2.2; have tv0 := hSw.tw.v0; have tv1 := hSw.tw.v1'; have r7 := hSw.aw.seven; go_simp; try with_reducible rfl
  (try simp only [Act.put, List.setIfInBounds_toArray, List.set_cons_zero, List.set_cons_succ])
  refine wpAnyH_take (i := 65) (oi := { dst := some 84, op := Op.move (Operand.tmp 83), type := 4, pos := "law.go:20", after := #[{ on := 64, ground := Ground.data }, { on := 57, ground := Ground.chain }], guard := none }) (v := ?_) rfl (by kernel_rfl) (by kernel_rfl) (by kernel_rfl) (fun _ _ _ h => h) (Or.inl ⟨by rfl, ?_⟩) (by assumption) ?_
  rotate_left
  · intro w hSw; (try dsimp only at hSw); obtain ⟨a0, a1, a2, a3, a4, a5, a6, a7, a8⟩ := hSw.aw.e.cells; obtain ⟨p0, p1, p2, p3, p4, p5, p6, p7, p8⟩ := hSw.aw.a.cells; obtain ⟨q0, q1, q2, q3, q4, q5, q6, q7, q8⟩ := hSw.aw.b.cells; have o8 := hSw.aw.o.cells.2.2.2.2.2.2.2.2; have t8 := hSw.tw.box.cells.2.2.2.2.2.2.2.2; have tv0 := hSw.tw.v0; have tv1 := hSw.tw.v1'; have r7 := hSw.aw.seven; go_simp; try with_reducible rfl
  (try simp only [Act.put, List.setIfInBounds_toArray, List.set_cons_zero, List.set_cons_succ])
  refine wpAnyH_take (i := 66) (oi := { dst := some 85, op := Op.load 26 (Operand.tmp 4), type := 26, pos := "law.go:20", after := #[{ on := 65, ground := Ground.guard }], guard := some (65, true) }) (v := ?_) rfl (by kernel_rfl) (by kernel_rfl) (by kernel_rfl) (fun _ _ _ h => h) (Or.inl ⟨by rfl, ?_⟩) (by assumption) ?_
  rotate_left
  · intro w hSw; (try dsimp only at hSw); obtain ⟨a0, a1, a2, a3, a4, a5, a6, a7, a8⟩ := hSw.aw.e.cells; obtain ⟨p0, p1, p2, p3, p4, p5, p6, p7, p8⟩ := hSw.aw.a.cells; obtain ⟨q0, q1, q2, q3, q4, q5, q6, q7, q8⟩ := hSw.aw.b.cells; have o8 := hSw.aw.o.cells.2.2.2.2.2.2.2.2; have t8 := hSw.tw.box.cells.2.2.2.2.2.2.2.2; have tv0 := hSw.tw.v0; have tv1 := hSw.tw.v1'; have r7 := hSw.aw.seven; go_simp; try with_reducible rfl
  (try simp only [Act.put, List.setIfInBounds_toArray, List.set_cons_zero, List.set_cons_succ])
  refine wpAnyH_take (i := 68) (oi := { dst := some 87, op := Op.load 26 (Operand.tmp 4), type := 26, pos := "law.go:20", after := #[{ on := 65, ground := Ground.guard }], guard := some (65, true) }) (v := ?_) rfl (by kernel_rfl) (by kernel_rfl) (by kernel_rfl) (fun _ _ _ h => h) (Or.inl ⟨by rfl, ?_⟩) (by assumption) ?_
  rotate_left
  · intro w hSw; (try dsimp only at hSw); obtain ⟨a0, a1, a2, a3, a4, a5, a6, a7, a8⟩ := hSw.aw.e.cells; obtain ⟨p0, p1, p2, p3, p4, p5, p6, p7, p8⟩ := hSw.aw.a.cells; obtain ⟨q0, q1, q2, q3, q4, q5, q6, q7, q8⟩ := hSw.aw.b.cells; have o8 := hSw.aw.o.cells.2.2.2.2.2.2.2.2; have t8 := hSw.tw.box.cells.2.2.2.2.2.2.2.2; have tv0 := hSw.tw.v0; have tv1 := hSw.tw.v1'; have r7 := hSw.aw.seven; go_simp; try with_reducible rfl
  (try simp only [Act.put, List.setIfInBounds_toArray, List.set_cons_zero, List.set_cons_succ])
  refine wpAnyH_ready (rs := [67]) (by kernel_rfl) (by simp) ?_
  refine AllReadyH.cons (o := { dst := some 86, op := Op.call { callee := Callee.value (Operand.func 6), args := #[Operand.tmp 85], argTypes := #[26] }, type := 26, pos := "law.go:20", after := #[{ on := 66, ground := Ground.data }, { on := 65, ground := Ground.chain }, { on := 65, ground := Ground.guard }], guard := some (65, true) }) rfl (fun K hK => ?_) AllReadyH.nil
  go_simp
  refine Calls.mono (CCP.out _ _ SW7.out.aw) ?_
  rintro ev w8 ⟨y, rfl, hyn, hyo, _, hb⟩
  have HYN := Lib.hid hyn
  have HYO := Lib.hid hyo
  clear hyn hyo
  have SW8 := Lib.hid (SW7.out.keep hb)
  have HBs8 := Lib.hid (HBs7.out.trans (hb.mono HBs7.out.size))
  clear hb HBs7
  refine hK.out _ _ ?_ (fun hHeld => ?_)
  · exact SW8.out
  clear hK K
  (try simp only [Act.put, List.setIfInBounds_toArray, List.set_cons_zero, List.set_cons_succ])
  refine wpAnyH_ready (rs := [69]) (by kernel_rfl) (by simp) ?_
  refine AllReadyH.cons (o := { dst := some 88, op := Op.call { callee := Callee.value (Operand.func 17), args := #[Operand.tmp 86, Operand.tmp 87], argTypes := #[26, 26] }, type := 4, pos := "law.go:20", after := #[{ on := 67, ground := Ground.data }, { on := 68, ground := Ground.data }, { on := 67, ground := Ground.chain }, { on := 65, ground := Ground.guard }], guard := some (65, true) }) rfl (fun K hK => ?_) AllReadyH.nil
  go_simp
  refine Calls.mono (CEQ.out _ _ _ _ SW8.out.aw HYN.out HYO.out.toOk) ?_
  rintro ev w9 ⟨rfl, hb⟩
  have SW9 := Lib.hid (SW8.out.keep hb)
  have HBs9 := Lib.hid (HBs8.out.trans (hb.mono HBs8.out.size))
  clear hb HBs8 HYN HYO
  refine hK.out _ _ ?_ (fun hHeld => ?_)
  · exact SW9.out
  clear hK K
  (try simp only [Act.put, List.setIfInBounds_toArray, List.set_cons_zero, List.set_cons_succ])
  refine wpAnyH_take (i := 70) (oi := { dst := some 89, op := Op.pick (Operand.tmp 84) (Operand.tmp 88) (Operand.const (Value.bool false)), type := 4, pos := "law.go:20", after := #[{ on := 65, ground := Ground.data }, { on := 69, ground := Ground.data }], guard := none }) (v := ?_) rfl (by kernel_rfl) (by kernel_rfl) (by kernel_rfl) (fun _ _ _ h => h) (Or.inl ⟨by rfl, ?_⟩) (by assumption) ?_
  rotate_left
  · intro w hSw; (try dsimp only at hSw); obtain ⟨a0, a1, a2, a3, a4, a5, a6, a7, a8⟩ := hSw.aw.e.cells; obtain ⟨p0, p1, p2, p3, p4, p5, p6, p7, p8⟩ := hSw.aw.a.cells; obtain ⟨q0, q1, q2, q3, q4, q5, q6, q7, q8⟩ := hSw.aw.b.cells; have o8 := hSw.aw.o.cells.2.2.2.2.2.2.2.2; have t8 := hSw.tw.box.cells.2.2.2.2.2.2.2.2; have tv0 := hSw.tw.v0; have tv1 := hSw.tw.v1'; have r7 := hSw.aw.seven; go_simp; try with_reducible rfl
  (try simp only [Act.put, List.setIfInBounds_toArray, List.set_cons_zero, List.set_cons_succ])
  refine wpAnyH_take (i := 71) (oi := { dst := some 90, op := Op.move (Operand.tmp 89), type := 4, pos := "law.go:20", after := #[{ on := 70, ground := Ground.data }, { on := 69, ground := Ground.chain }], guard := none }) (v := ?_) rfl (by kernel_rfl) (by kernel_rfl) (by kernel_rfl) (fun _ _ _ h => h) (Or.inl ⟨by rfl, ?_⟩) (by assumption) ?_
  rotate_left
  · intro w hSw; (try dsimp only at hSw); obtain ⟨a0, a1, a2, a3, a4, a5, a6, a7, a8⟩ := hSw.aw.e.cells; obtain ⟨p0, p1, p2, p3, p4, p5, p6, p7, p8⟩ := hSw.aw.a.cells; obtain ⟨q0, q1, q2, q3, q4, q5, q6, q7, q8⟩ := hSw.aw.b.cells; have o8 := hSw.aw.o.cells.2.2.2.2.2.2.2.2; have t8 := hSw.tw.box.cells.2.2.2.2.2.2.2.2; have tv0 := hSw.tw.v0; have tv1 := hSw.tw.v1'; have r7 := hSw.aw.seven; go_simp; try with_reducible rfl
  (try simp only [Act.put, List.setIfInBounds_toArray, List.set_cons_zero, List.set_cons_succ])
  refine wpAnyH_take (i := 72) (oi := { dst := some 91, op := Op.load 26 (Operand.tmp 1), type := 26, pos := "law.go:20", after := #[{ on := 71, ground := Ground.guard }], guard := some (71, true) }) (v := ?_) rfl (by kernel_rfl) (by kernel_rfl) (by kernel_rfl) (fun _ _ _ h => h) (Or.inl ⟨by rfl, ?_⟩) (by assumption) ?_
  rotate_left
  · intro w hSw; (try dsimp only at hSw); obtain ⟨a0, a1, a2, a3, a4, a5, a6, a7, a8⟩ := hSw.aw.e.cells; obtain ⟨p0, p1, p2, p3, p4, p5, p6, p7, p8⟩ := hSw.aw.a.cells; obtain ⟨q0, q1, q2, q3, q4, q5, q6, q7, q8⟩ := hSw.aw.b.cells; have o8 := hSw.aw.o.cells.2.2.2.2.2.2.2.2; have t8 := hSw.tw.box.cells.2.2.2.2.2.2.2.2; have tv0 := hSw.tw.v0; have tv1 := hSw.tw.v1'; have r7 := hSw.aw.seven; go_simp; try with_reducible rfl
  (try simp only [Act.put, List.setIfInBounds_toArray, List.set_cons_zero, List.set_cons_succ])
  refine wpAnyH_take (i := 73) (oi := { dst := some 92, op := Op.load 26 (Operand.tmp 2), type := 26, pos := "law.go:20", after := #[{ on := 71, ground := Ground.guard }], guard := some (71, true) }) (v := ?_) rfl (by kernel_rfl) (by kernel_rfl) (by kernel_rfl) (fun _ _ _ h => h) (Or.inl ⟨by rfl, ?_⟩) (by assumption) ?_
  rotate_left
  · intro w hSw; (try dsimp only at hSw); obtain ⟨a0, a1, a2, a3, a4, a5, a6, a7, a8⟩ := hSw.aw.e.cells; obtain ⟨p0, p1, p2, p3, p4, p5, p6, p7, p8⟩ := hSw.aw.a.cells; obtain ⟨q0, q1, q2, q3, q4, q5, q6, q7, q8⟩ := hSw.aw.b.cells; have o8 := hSw.aw.o.cells.2.2.2.2.2.2.2.2; have t8 := hSw.tw.box.cells.2.2.2.2.2.2.2.2; have tv0 := hSw.tw.v0; have tv1 := hSw.tw.v1'; have r7 := hSw.aw.seven; go_simp; try with_reducible rfl
  (try simp only [Act.put, List.setIfInBounds_toArray, List.set_cons_zero, List.set_cons_succ])
  refine wpAnyH_ready (rs := [74]) (by kernel_rfl) (by simp) ?_
  refine AllReadyH.cons (o := { dst := some 93, op := Op.call { callee := Callee.value (Operand.func 17), args := #[Operand.tmp 91, Operand.tmp 92], argTypes := #[26, 26] }, type := 4, pos := "law.go:20", after := #[{ on := 72, ground := Ground.data }, { on := 73, ground := Ground.data }, { on := 71, ground := Ground.chain }, { on := 71, ground := Ground.guard }], guard := some (71, true) }) rfl (fun K hK => ?_) AllReadyH.nil
  go_simp
  refine Calls.mono (CNE.out _) ?_
  rintro ev w10 ⟨rfl, hb⟩
  have SW10 := Lib.hid (SW9.out.keep hb)
  have HBs10 := Lib.hid (HBs9.out.trans (hb.mono HBs9.out.size))
  clear hb HBs9
  refine hK.out _ _ ?_ (fun hHeld => ?_)
  · exact SW10.out
  clear hK K
  (try simp only [Act.put, List.setIfInBounds_toArray, List.set_cons_zero, List.set_cons_succ])
  refine wpAnyH_take (i := 75) (oi := { dst := some 94, op := Op.unOp UnOp.not 4 (Operand.tmp 93), type := 4, pos := "law.go:20", after := #[{ on := 74, ground := Ground.data }, { on := 71, ground := Ground.guard }], guard := some (71, true) }) (v := ?_) rfl (by kernel_rfl) (by kernel_rfl) (by kernel_rfl) (fun _ _ _ h => h) (Or.inl ⟨by rfl, ?_⟩) (by assumption) ?_
  rotate_left
  · intro w hSw; (try dsimp only at hSw); obtain ⟨a0, a1, a2, a3, a4, a5, a6, a7, a8⟩ := hSw.aw.e.cells; obtain ⟨p0, p1, p2, p3, p4, p5, p6, p7, p8⟩ := hSw.aw.a.cells; obtain ⟨q0, q1, q2, q3, q4, q5, q6, q7, q8⟩ := hSw.aw.b.cells; have o8 := hSw.aw.o.cells.2.2.2.2.2.2.2.2; have t8 := hSw.tw.box.cells.2.2.2.2.2.2.2.2; have tv0 := hSw.tw.v0; have tv1 := hSw.tw.v1'; have r7 := hSw.aw.seven; go_simp; try with_reducible rfl
  (try simp only [Act.put, List.setIfInBounds_toArray, List.set_cons_zero, List.set_cons_succ])
  refine wpAnyH_take (i := 76) (oi := { dst := some 95, op := Op.pick (Operand.tmp 90) (Operand.tmp 94) (Operand.const (Value.bool false)), type := 4, pos := "law.go:20", after := #[{ on := 71, ground := Ground.data }, { on := 75, ground := Ground.data }], guard := none }) (v := ?_) rfl (by kernel_rfl) (by kernel_rfl) (by kernel_rfl) (fun _ _ _ h => h) (Or.inl ⟨by rfl, ?_⟩) (by assumption) ?_
  rotate_left
  · intro w hSw; (try dsimp only at hSw); obtain ⟨a0, a1, a2, a3, a4, a5, a6, a7, a8⟩ := hSw.aw.e.cells; obtain ⟨p0, p1, p2, p3, p4, p5, p6, p7, p8⟩ := hSw.aw.a.cells; obtain ⟨q0, q1, q2, q3, q4, q5, q6, q7, q8⟩ := hSw.aw.b.cells; have o8 := hSw.aw.o.cells.2.2.2.2.2.2.2.2; have t8 := hSw.tw.box.cells.2.2.2.2.2.2.2.2; have tv0 := hSw.tw.v0; have tv1 := hSw.tw.v1'; have r7 := hSw.aw.seven; go_simp; try with_reducible rfl
  (try simp only [Act.put, List.setIfInBounds_toArray, List.set_cons_zero, List.set_cons_succ])
  refine wpAnyH_take (i := 77) (oi := { dst := some 96, op := Op.move (Operand.tmp 95), type := 4, pos := "law.go:20", after := #[{ on := 76, ground := Ground.data }, { on := 74, ground := Ground.chain }], guard := none }) (v := ?_) rfl (by kernel_rfl) (by kernel_rfl) (by kernel_rfl) (fun _ _ _ h => h) (Or.inl ⟨by rfl, ?_⟩) (by assumption) ?_
  rotate_left
  · intro w hSw; (try dsimp only at hSw); obtain ⟨a0, a1, a2, a3, a4, a5, a6, a7, a8⟩ := hSw.aw.e.cells; obtain ⟨p0, p1, p2, p3, p4, p5, p6, p7, p8⟩ := hSw.aw.a.cells; obtain ⟨q0, q1, q2, q3, q4, q5, q6, q7, q8⟩ := hSw.aw.b.cells; have o8 := hSw.aw.o.cells.2.2.2.2.2.2.2.2; have t8 := hSw.tw.box.cells.2.2.2.2.2.2.2.2; have tv0 := hSw.tw.v0; have tv1 := hSw.tw.v1'; have r7 := hSw.aw.seven; go_simp; try with_reducible rfl
  (try simp only [Act.put, List.setIfInBounds_toArray, List.set_cons_zero, List.set_cons_succ])
  refine wpAnyH_take (i := 78) (oi := { dst := some 97, op := Op.load 26 (Operand.tmp 4), type := 26, pos := "law.go:20", after := #[{ on := 77, ground := Ground.guard }], guard := some (77, true) }) (v := ?_) rfl (by kernel_rfl) (by kernel_rfl) (by kernel_rfl) (fun _ _ _ h => h) (Or.inl ⟨by rfl, ?_⟩) (by assumption) ?_
  rotate_left
  · intro w hSw; (try dsimp only at hSw); obtain ⟨a0, a1, a2, a3, a4, a5, a6, a7, a8⟩ := hSw.aw.e.cells; obtain ⟨p0, p1, p2, p3, p4, p5, p6, p7, p8⟩ := hSw.aw.a.cells; obtain ⟨q0, q1, q2, q3, q4, q5, q6, q7, q8⟩ := hSw.aw.b.cells; have o8 := hSw.aw.o.cells.2.2.2.2.2.2.2.2; have t8 := hSw.tw.box.cells.2.2.2.2.2.2.2.2; have tv0 := hSw.tw.v0; have tv1 := hSw.tw.v1'; have r7 := hSw.aw.seven; go_simp; try with_reducible rfl
  (try simp only [Act.put, List.setIfInBounds_toArray, List.set_cons_zero, List.set_cons_succ])
  refine wpAnyH_take (i := 80) (oi := { dst := some 99, op := Op.load 26 (Operand.tmp 4), type := 26, pos := "law.go:20", after := #[{ on := 77, ground := Ground.guard }], guard := some (77, true) }) (v := ?_) rfl (by kernel_rfl) (by kernel_rfl) (by kernel_rfl) (fun _ _ _ h => h) (Or.inl ⟨by rfl, ?_⟩) (by assumption) ?_
  rotate_left
  · intro w hSw; (try dsimp only at hSw); obtain ⟨a0, a1, a2, a3, a4, a5, a6, a7, a8⟩ := hSw.aw.e.cells; obtain ⟨p0, p1, p2, p3, p4, p5, p6, p7, p8⟩ := hSw.aw.a.cells; obtain ⟨q0, q1, q2, q3, q4, q5, q6, q7, q8⟩ := hSw.aw.b.cells; have o8 := hSw.aw.o.cells.2.2.2.2.2.2.2.2; have t8 := hSw.tw.box.cells.2.2.2.2.2.2.2.2; have tv0 := hSw.tw.v0; have tv1 := hSw.tw.v1'; have r7 := hSw.aw.seven; go_simp; try with_reducible rfl
  (try simp only [Act.put, List.setIfInBounds_toArray, List.set_cons_zero, List.set_cons_succ])
  refine wpAnyH_ready (rs := [79]) (by kernel_rfl) (by simp) ?_
  refine AllReadyH.cons (o := { dst := some 98, op := Op.call { callee := Callee.value (Operand.func 11), args := #[Operand.tmp 97, Operand.const Value.nilFunc], argTypes := #[26, 29] }, type := 26, pos := "law.go:20", after := #[{ on := 78, ground := Ground.data }, { on := 77, ground := Ground.chain }, { on := 77, ground := Ground.guard }], guard := some (77, true) }) rfl (fun K hK => ?_) AllReadyH.nil
  go_simp
  refine Calls.mono (CMN.out _ _ SW10.out.aw) ?_
  rintro ev w11 ⟨y, rfl, hyn, hyo, _, hb⟩
  have HYN := Lib.hid hyn
  have HYO := Lib.hid hyo
  clear hyn hyo
  have SW11 := Lib.hid (SW10.out.keep hb)
  have HBs11 := Lib.hid (HBs10.out.trans (hb.mono HBs10.out.size))
  clear hb HBs10
  refine hK.out _ _ ?_ (fun hHeld => ?_)
  · exact SW11.out
  clear hK K
  (try simp only [Act.put, List.setIfInBounds_toArray, List.set_cons_zero, List.set_cons_succ])
  refine wpAnyH_ready (rs := [81]) (by kernel_rfl) (by simp) ?_
  refine AllReadyH.cons (o := { dst := some 100, op := Op.call { callee := Callee.value (Operand.func 17), args := #[Operand.tmp 98, Operand.tmp 99], argTypes := #[26, 26] }, type := 4, pos := "law.go:20", after := #[{ on := 79, ground := Ground.data }, { on := 80, ground := Ground.data }, { on := 79, ground := Ground.chain }, { on := 77, ground := Ground.guard }], guard := some (77, true) }) rfl (fun K hK => ?_) AllReadyH.nil
  go_simp
  refine Calls.mono (CEQ.out _ _ _ _ SW11.out.aw HYN.out HYO.out.toOk) ?_
  rintro ev w12 ⟨rfl, hb⟩
  have SW12 := Lib.hid (SW11.out.keep hb)
  have HBs12 := Lib.hid (HBs11.out.trans (hb.mono HBs11.out.size))
  clear hb HBs11 HYN HYO
  refine hK.out _ _ ?_ (fun hHeld => ?_)
  · exact SW12.out
  clear hK K
  (try simp only [Act.put, List.setIfInBounds_toArray, List.set_cons_zero, List.set_cons_succ])
  refine wpAnyH_take (i := 82) (oi := { dst := some 101, op := Op.pick (Operand.tmp 96) (Operand.tmp 100) (Operand.const (Value.bool false)), type := 4, pos := "law.go:20", after := #[{ on := 77, ground := Ground.data }, { on := 81, ground := Ground.data }], guard := none }) (v := ?_) rfl (by kernel_rfl) (by kernel_rfl) (by kernel_rfl) (fun _ _ _ h => h) (Or.inl ⟨by rfl, ?_⟩) (by assumption) ?_
  rotate_left
  · intro w hSw; (try dsimp only at hSw); obtain ⟨a0, a1, a2, a3, a4, a5, a6, a7, a8⟩ := hSw.aw.e.cells; obtain ⟨p0, p1, p2, p3, p4, p5, p6, p7, p8⟩ := hSw.aw.a.cells; obtain ⟨q0, q1, q2, q3, q4, q5, q6, q7, q8⟩ := hSw.aw.b.cells; have o8 := hSw.aw.o.cells.2.2.2.2.2.2.2.2; have t8 := hSw.tw.box.cells.2.2.2.2.2.2.2.2; have tv0 := hSw.tw.v0; have tv1 := hSw.tw.v1'; have r7 := hSw.aw.seven; go_simp; try with_reducible rfl
  (try simp only [Act.put, List.setIfInBounds_toArray, List.set_cons_zero, List.set_cons_succ])
  refine wpAnyH_take (i := 83) (oi := { dst := some 0, op := Op.assign (Operand.tmp 101), type := 4, pos := "law.go:20", after := ([{ on := 82, ground := Ground.data }, { on := 81, ground := Ground.chain }, { on := 0, ground := Ground.phase }, { on := 1, ground := Ground.phase }, { on := 2, ground := Ground.phase }, { on := 3, ground := Ground.phase }, { on := 4, ground := Ground.phase }, { on := 5, ground := Ground.phase }, { on := 6, ground := Ground.phase }, { on := 7, ground := Ground.phase }, { on := 8, ground := Ground.phase }, { on := 9, ground := Ground.phase }, { on := 10, ground := Ground.phase }, { on := 11, ground := Ground.phase }, { on := 12, ground := Ground.phase }, { on := 13, ground := Ground.phase }, { on := 14, ground := Ground.phase }, { on := 15, ground := Ground.phase }, { on := 16, ground := Ground.phase }, { on := 17, ground := Ground.phase }, { on := 18, ground := Ground.phase }, { on := 19, ground := Ground.phase }, { on := 20, ground := Ground.phase }, { on := 21, ground := Ground.phase }, { on := 22, ground := Ground.phase }, { on := 23, ground := Ground.phase }, { on := 24, ground := Ground.phase }, { on := 25, ground := Ground.phase }, { on := 26, ground := Ground.phase }, { on := 27, ground := Ground.phase }, { on := 28, ground := Ground.phase }, { on := 29, ground := Ground.phase }, { on := 30, ground := Ground.phase }, { on := 31, ground := Ground.phase }, { on := 32, ground := Ground.phase }, { on := 33, ground := Ground.phase }, { on := 34, ground := Ground.phase }, { on := 35, ground := Ground.phase }, { on := 36, ground := Ground.phase }, { on := 37, ground := Ground.phase }, { on := 38, ground := Ground.phase }, { on := 39, ground := Ground.phase }].append [{ on := 40, ground := Ground.phase }, { on := 41, ground := Ground.phase }, { on := 42, ground := Ground.phase }, { on := 43, ground := Ground.phase }, { on := 44, ground := Ground.phase }, { on := 45, ground := Ground.phase }, { on := 46, ground := Ground.phase }, { on := 47, ground := Ground.phase }, { on := 48, ground := Ground.phase }, { on := 49, ground := Ground.phase }, { on := 50, ground := Ground.phase }, { on := 51, ground := Ground.phase }, { on := 52, ground := Ground.phase }, { on := 53, ground := Ground.phase }, { on := 54, ground := Ground.phase }, { on := 55, ground := Ground.phase }, { on := 56, ground := Ground.phase }, { on := 57, ground := Ground.phase }, { on := 58, ground := Ground.phase }, { on := 59, ground := Ground.phase }, { on := 60, ground := Ground.phase }, { on := 61, ground := Ground.phase }, { on := 62, ground := Ground.phase }, { on := 63, ground := Ground.phase }, { on := 64, ground := Ground.phase }, { on := 65, ground := Ground.phase }, { on := 66, ground := Ground.phase }, { on := 67, ground := Ground.phase }, { on := 68, ground := Ground.phase }, { on := 69, ground := Ground.phase }, { on := 70, ground := Ground.phase }, { on := 71, ground := Ground.phase }, { on := 72, ground := Ground.phase }, { on := 73, ground := Ground.phase }, { on := 74, ground := Ground.phase }, { on := 75, ground := Ground.phase }, { on := 76, ground := Ground.phase }, { on := 77, ground := Ground.phase }, { on := 78, ground := Ground.phase }, { on := 79, ground := Ground.phase }, { on := 80, ground := Ground.phase }, { on := 81, ground := Ground.phase }, { on := 82, ground := Ground.phase }]).toArray, guard := none }) (v := ?_) rfl (by kernel_rfl) (by kernel_rfl) (by kernel_rfl) (fun _ _ _ h => h) (Or.inl ⟨by rfl, ?_⟩) (by assumption) ?_
  rotate_left
  · intro w hSw; (try dsimp only at hSw); obtain ⟨a0, a1, a2, a3, a4, a5, a6, a7, a8⟩ := hSw.aw.e.cells; obtain ⟨p0, p1, p2, p3, p4, p5, p6, p7, p8⟩ := hSw.aw.a.cells; obtain ⟨q0, q1, q2, q3, q4, q5, q6, q7, q8⟩ := hSw.aw.b.cells; have o8 := hSw.aw.o.cells.2.2.2.2.2.2.2.2; have t8 := hSw.tw.box.cells.2.2.2.2.2.2.2.2; have tv0 := hSw.tw.v0; have tv1 := hSw.tw.v1'; have r7 := hSw.aw.seven; go_simp; try with_reducible rfl
  (try simp only [Act.put, List.setIfInBounds_toArray, List.set_cons_zero, List.set_cons_succ])
  refine wpAnyH_done (by kernel_rfl) ?_ _
  go_wp2
  go_ret
  exact ⟨rfl, HB0.out _ HBs12.out⟩
end Go.Proofs.Ytpemamkhaiiaaaa

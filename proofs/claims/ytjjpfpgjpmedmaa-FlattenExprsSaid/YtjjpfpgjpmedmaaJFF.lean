/- FEith, FGroups, FToExpr, joined: no claim of its own. -/
import Derived.Test.YtjjpfpgjpmedmaaVAtomF
import Derived.Test.YtjjpfpgjpmedmaaJVL
import Derived.Test.YtjjpfpgjpmedmaaJFE
import Derived.Test.YtjjpfpgjpmedmaaJFD
import Derived.Test.YtjjpfpgjpmedmaaJEA
import Derived.Test.YtjjpfpgjpmedmaaJP
namespace Go.Proofs.Ytjjpfpgjpmedmaa
open Go.RowKit
theorem either_results {w : World} {R1 : Nat} {z0 z1 z2 z3 z4 z5 z6 z7 z8 : Value} (tmps : Array Value) (h4 : tmps.getD 2 undef = .pointer (some ⟨R1, 0, none⟩)) (b1 : B9 w R1 z0 z1 z2 z3 z4 z5 z6 z7 z8) :
    (results Try.f34 tmps).run Try.prog w = .ok (.agg #[z0, z1, z2, z3, z4, z5, z6, z7, z8]) w := by
  have h4' : tmps[2]?.getD undef = .pointer (some ⟨R1, 0, none⟩) := by simpa using h4
  obtain ⟨r0, r1, r2, r3, r4, r5, r6, r7, r8⟩ := b1.cells
  simp [results, Try.results34, h4', go_sem, r0, r1, r2, r3, r4, r5, r6, r7, r8]
set_option maxRecDepth 100000 in
set_option maxHeartbeats 4000000 in
theorem either_more (A : Option Addr) (n c : Nat) (hn : n ≠ 1) (w : World) : Calls Try.prog 34 #[.slice A n c] w (Gives (.agg #[.int .i64 2, .int .i64 0, .int .i64 0, .int .i64 0, .int .i64 0, .int .i64 0, .int .i64 0, .int .i64 0, .slice A n c]) w) := by
  have HB := Lib.hid (below_new w (.cells #[.int .i64 0, .int .i64 0, .int .i64 0, .int .i64 0, .int .i64 0, .int .i64 0, .int .i64 0, .int .i64 0, .slice none 0 0] 28))
  have E0 := Lib.hid (show B9 (w.alloc (.cells #[.int .i64 0, .int .i64 0, .int .i64 0, .int .i64 0, .int .i64 0, .int .i64 0, .int .i64 0, .int .i64 0, .slice none 0 0] 28)) w.heap.size (.int .i64 0) (.int .i64 0) (.int .i64 0) (.int .i64 0) (.int .i64 0) (.int .i64 0) (.int .i64 0) (.int .i64 0) (.slice none 0 0) from heap_new w _)
  have hne : ((n : Int) == 1) = false := beq_eq_false_iff_ne.2 (by omega)
  go_enter Try.func34, Try.ntmps34
  go_upto_region 1 with (fail)
  generalize w.alloc (.cells #[.int .i64 0, .int .i64 0, .int .i64 0, .int .i64 0, .int .i64 0, .int .i64 0, .int .i64 0, .int .i64 0, .slice none 0 0] 28) = w1 at *
  obtain ⟨e0, e1, e2, e3, e4, e5, e6, e7, e8⟩ := E0.out.cells
  obtain ⟨g0, g1, g2, g3, g4, g5, g6, g7, g8⟩ := E0.out.free
  go_wp2
  refine bodyPost_ret (either_results _ rfl (by rw [nest_0]; exact E0.out.put _ _ _ _ _ _ _ _ _)) rfl ⟨rfl, ?_⟩
  rw [nest_0]
  exact HB.out.grown (grown_setsV _ _) HB.out.size (fun k hk => by injection hk with hk; omega)
set_option maxRecDepth 100000 in
set_option maxHeartbeats 4000000 in
theorem either_one (ad : Addr) (c : Nat) (w : World) (o x0 x1 x2 x3 x4 x5 v : Int) (A : Option Addr) (m d : Nat) (h : ad.block < w.heap.size ∧ Cell9 w ad o x0 x1 x2 x3 x4 x5 v (.slice A m d)) : Calls Try.prog 34 #[.slice (some ad) 1 c] w (Gives (.agg #[.int .i64 o, .int .i64 x0, .int .i64 x1, .int .i64 x2, .int .i64 x3, .int .i64 x4, .int .i64 x5, .int .i64 v, .slice A m d]) w) := by
  have HB := Lib.hid (below_new w (.cells #[.int .i64 0, .int .i64 0, .int .i64 0, .int .i64 0, .int .i64 0, .int .i64 0, .int .i64 0, .int .i64 0, .slice none 0 0] 28))
  have E0 := Lib.hid (show B9 (w.alloc (.cells #[.int .i64 0, .int .i64 0, .int .i64 0, .int .i64 0, .int .i64 0, .int .i64 0, .int .i64 0, .int .i64 0, .slice none 0 0] 28)) w.heap.size (.int .i64 0) (.int .i64 0) (.int .i64 0) (.int .i64 0) (.int .i64 0) (.int .i64 0) (.int .i64 0) (.int .i64 0) (.slice none 0 0) from heap_new w _)
  have C0 := Lib.hid (Cell9.keep h HB.out)
  clear h
  go_enter Try.func34, Try.ntmps34
  go_upto_region 1 with (fail)
  generalize w.alloc (.cells #[.int .i64 0, .int .i64 0, .int .i64 0, .int .i64 0, .int .i64 0, .int .i64 0, .int .i64 0, .int .i64 0, .slice none 0 0] 28) = w1 at *
  obtain ⟨e0, e1, e2, e3, e4, e5, e6, e7, e8⟩ := E0.out.cells
  obtain ⟨g0, g1, g2, g3, g4, g5, g6, g7, g8⟩ := E0.out.free
  obtain ⟨_, a0, a1, a2, a3, a4, a5, a6, a7, a8⟩ := C0.out
  have a0' : w1.cell? (ad.add 0) = some (.int .i64 o) := by rw [show ad.add 0 = ad from by unfold Addr.add; simp]; exact a0
  go_wp2
  refine bodyPost_ret (either_results _ rfl (by rw [nest_0]; exact E0.out.put _ _ _ _ _ _ _ _ _)) rfl ⟨rfl, ?_⟩
  rw [nest_0]
  exact HB.out.grown (grown_setsV _ _) HB.out.size (fun k hk => by injection hk with hk; omega)
theorem group_results {w : World} {R1 : Nat} {z0 z1 z2 z3 z4 z5 z6 z7 z8 : Value} (tmps : Array Value) (h4 : tmps.getD 2 undef = .pointer (some ⟨R1, 0, none⟩)) (b1 : B9 w R1 z0 z1 z2 z3 z4 z5 z6 z7 z8) :
    (results Try.f37 tmps).run Try.prog w = .ok (.agg #[z0, z1, z2, z3, z4, z5, z6, z7, z8]) w := by
  have h4' : tmps[2]?.getD undef = .pointer (some ⟨R1, 0, none⟩) := by simpa using h4
  obtain ⟨r0, r1, r2, r3, r4, r5, r6, r7, r8⟩ := b1.cells
  simp [results, Try.results37, h4', go_sem, r0, r1, r2, r3, r4, r5, r6, r7, r8]
set_option maxRecDepth 100000 in
set_option maxHeartbeats 4000000 in
theorem group_more (A : Option Addr) (n c : Nat) (hn : n ≠ 1) (w : World) : Calls Try.prog 37 #[.slice A n c] w (Gives (.agg #[.int .i64 2, .int .i64 0, .int .i64 0, .int .i64 0, .int .i64 0, .int .i64 0, .int .i64 0, .int .i64 0, .slice A n c]) w) := by
  have HB := Lib.hid (below_new w (.cells #[.int .i64 0, .int .i64 0, .int .i64 0, .int .i64 0, .int .i64 0, .int .i64 0, .int .i64 0, .int .i64 0, .slice none 0 0] 28))
  have E0 := Lib.hid (show B9 (w.alloc (.cells #[.int .i64 0, .int .i64 0, .int .i64 0, .int .i64 0, .int .i64 0, .int .i64 0, .int .i64 0, .int .i64 0, .slice none 0 0] 28)) w.heap.size (.int .i64 0) (.int .i64 0) (.int .i64 0) (.int .i64 0) (.int .i64 0) (.int .i64 0) (.int .i64 0) (.int .i64 0) (.slice none 0 0) from heap_new w _)
  have hne : ((n : Int) == 1) = false := beq_eq_false_iff_ne.2 (by omega)
  go_enter Try.func37, Try.ntmps37
  go_upto_region 1 with (fail)
  generalize w.alloc (.cells #[.int .i64 0, .int .i64 0, .int .i64 0, .int .i64 0, .int .i64 0, .int .i64 0, .int .i64 0, .int .i64 0, .slice none 0 0] 28) = w1 at *
  obtain ⟨e0, e1, e2, e3, e4, e5, e6, e7, e8⟩ := E0.out.cells
  obtain ⟨g0, g1, g2, g3, g4, g5, g6, g7, g8⟩ := E0.out.free
  go_wp2
  refine bodyPost_ret (group_results _ rfl (by rw [nest_0]; exact E0.out.put _ _ _ _ _ _ _ _ _)) rfl ⟨rfl, ?_⟩
  rw [nest_0]
  exact HB.out.grown (grown_setsV _ _) HB.out.size (fun k hk => by injection hk with hk; omega)
set_option maxRecDepth 100000 in
set_option maxHeartbeats 4000000 in
theorem group_one (ad : Addr) (c : Nat) (w : World) (o x0 x1 x2 x3 x4 x5 v : Int) (A : Option Addr) (m d : Nat) (h : ad.block < w.heap.size ∧ Cell9 w ad o x0 x1 x2 x3 x4 x5 v (.slice A m d)) : Calls Try.prog 37 #[.slice (some ad) 1 c] w (Gives (.agg #[.int .i64 o, .int .i64 x0, .int .i64 x1, .int .i64 x2, .int .i64 x3, .int .i64 x4, .int .i64 x5, .int .i64 v, .slice A m d]) w) := by
  have HB := Lib.hid (below_new w (.cells #[.int .i64 0, .int .i64 0, .int .i64 0, .int .i64 0, .int .i64 0, .int .i64 0, .int .i64 0, .int .i64 0, .slice none 0 0] 28))
  have E0 := Lib.hid (show B9 (w.alloc (.cells #[.int .i64 0, .int .i64 0, .int .i64 0, .int .i64 0, .int .i64 0, .int .i64 0, .int .i64 0, .int .i64 0, .slice none 0 0] 28)) w.heap.size (.int .i64 0) (.int .i64 0) (.int .i64 0) (.int .i64 0) (.int .i64 0) (.int .i64 0) (.int .i64 0) (.int .i64 0) (.slice none 0 0) from heap_new w _)
  have C0 := Lib.hid (Cell9.keep h HB.out)
  clear h
  go_enter Try.func37, Try.ntmps37
  go_upto_region 1 with (fail)
  generalize w.alloc (.cells #[.int .i64 0, .int .i64 0, .int .i64 0, .int .i64 0, .int .i64 0, .int .i64 0, .int .i64 0, .int .i64 0, .slice none 0 0] 28) = w1 at *
  obtain ⟨e0, e1, e2, e3, e4, e5, e6, e7, e8⟩ := E0.out.cells
  obtain ⟨g0, g1, g2, g3, g4, g5, g6, g7, g8⟩ := E0.out.free
  obtain ⟨_, a0, a1, a2, a3, a4, a5, a6, a7, a8⟩ := C0.out
  have a0' : w1.cell? (ad.add 0) = some (.int .i64 o) := by rw [show ad.add 0 = ad from by unfold Addr.add; simp]; exact a0
  go_wp2
  refine bodyPost_ret (group_results _ rfl (by rw [nest_0]; exact E0.out.put _ _ _ _ _ _ _ _ _)) rfl ⟨rfl, ?_⟩
  rw [nest_0]
  exact HB.out.grown (grown_setsV _ _) HB.out.size (fun k hk => by injection hk with hk; omega)
end Go.Proofs.Ytjjpfpgjpmedmaa
namespace Go.Proofs.Ytjjpfpgjpmedmaa
open Go.RowKit
attribute [local go_sem] Oper.semAt_some
/-- The expression of some Atoms, which lie in block g. -/
def grX (g : Nat) (ys : List NT) : NT := if ys.length = 1 then ys.getD 0 ntZ else ⟨2, [0, 0, 0, 0, 0, 0], 0, some ⟨g, 0, none⟩, ys.length, FT.of ys⟩
/-- The same as a node. -/
def grN (zs : List ME.Nd) : ME.Nd := if zs.length = 1 then zs.getD 0 ntZ.n else ⟨2, [0, 0, 0, 0, 0, 0], 0, zs.foldr (fun z k => .cons z.o z.b z.v z.k k) .nil⟩
theorem of_n : ∀ ys : List NT, (FT.of ys).f = (ys.map NT.n).foldr (fun z k => ME.F.cons z.o z.b z.v z.k k) .nil
  | [] => rfl
  | y :: r => by simp only [FT.of, FT.f, of_n r, List.map_cons, List.foldr_cons]; rfl
theorem grX_n (g : Nat) (ys : List NT) : (grX g ys).n = grN (ys.map NT.n) := by
  unfold grX grN
  rw [List.length_map]
  split
  · rename_i h
    obtain ⟨y, rfl⟩ := List.length_eq_one_iff.1 h
    rfl
  · unfold NT.n
    dsimp only
    rw [of_n]
    rfl
theorem grX_six {g : Nat} {ys : List NT} (h : ntE.Fine ys) : (grX g ys).b.length = 6 := by
  unfold grX
  split
  · rename_i h1
    obtain ⟨y, rfl⟩ := List.length_eq_one_iff.1 h1
    exact h y (by simp)
  · rfl
theorem grX_ok {X : World} {g m : Nat} {ys : List NT} (h : Arg X g m ys) (hm : ys.length = m) (hf : m ≤ 9223372036854775807) (hy : ∀ y ∈ ys, ∀ X (ok : Nat → Prop), y.Ok X ok) : (grX g ys).Ok X (fun k => k = g) := by
  unfold grX
  split
  · rename_i h1
    obtain ⟨y, rfl⟩ := List.length_eq_one_iff.1 h1
    exact hy y (by simp) X _
  · refine ⟨rfl, show In64 (2 : Int) from ⟨by decide, by decide⟩, show In64 (0 : Int) from ⟨by decide, by decide⟩, fun z hz => ?_, ?_⟩
    · have : z = 0 := by simpa using hz
      rw [this]; exact ⟨by decide, by decide⟩
    · have := h.kids hm hf (ok := fun k => k = g) rfl (fun y q => hy y q X _)
      dsimp only
      rw [hm]
      exact this
set_option maxRecDepth 100000 in
theorem either_grp (X : World) (g m : Nat) (ys : List NT) (h : Arg X g m ys) (hm : ys.length = m) (h0 : 0 < m) : Calls Try.prog 34 #[.slice (some ⟨g, 0, none⟩) m m] X (Gives (grX g ys).val X) := by
  unfold grX
  by_cases h1 : ys.length = 1
  · rw [if_pos h1]
    obtain ⟨y, rfl⟩ := List.length_eq_one_iff.1 h1
    have hm1 : m = 1 := by rw [← hm, h1]
    subst hm1
    obtain ⟨cur, hc1, hc2, hc3⟩ := h.row
    have h6 := h.fine y (by simp)
    obtain ⟨o, b, v, A, c, k⟩ := y
    obtain ⟨x0, x1, x2, x3, x4, x5, rfl⟩ := six h6
    have hat : ∀ j u, (cellsE o [x0, x1, x2, x3, x4, x5] v A k.len c)[j]? = some u → X.cell? ⟨g, j, none⟩ = some u := fun j u hu => by
      rw [cell_of_row X g j _ _ _ hc1]
      exact hc3 j u (by rw [El.all_one]; exact hu)
    exact either_one ⟨g, 0, none⟩ 1 X o x0 x1 x2 x3 x4 x5 v A k.len c ⟨h.lt, hat 0 _ rfl, hat 1 _ rfl, hat 2 _ rfl, hat 3 _ rfl, hat 4 _ rfl, hat 5 _ rfl, hat 6 _ rfl, hat 7 _ rfl, hat 8 _ rfl⟩
  · rw [if_neg h1]
    have := either_more (some ⟨g, 0, none⟩) m m (by omega) X
    rw [show NT.val ⟨2, [0, 0, 0, 0, 0, 0], 0, some ⟨g, 0, none⟩, ys.length, FT.of ys⟩ = .agg #[.int .i64 2, .int .i64 0, .int .i64 0, .int .i64 0, .int .i64 0, .int .i64 0, .int .i64 0, .int .i64 0, .slice (some ⟨g, 0, none⟩) m m] from by rw [NT.val_lit, FT.of_len, hm]]
    exact this
theorem Kpt2_grow {Bn : Nat → Prop} {b e : Nat} {X Y : World} {row : Option Nat} (h : X.grownBy Y row) (hr : ∀ r, row = some r → e ≤ r) (h1 : ∀ k, Bn k → k < e) (h2 : e ≤ X.heap.size) : Kpt2 Bn b e X Y :=
  ⟨h.size, fun k hk => h.block k (by have := h1 k hk; omega) (fun q => by have := hr _ q.symm; have := h1 k hk; omega), fun k _ hk => h.block k (by omega) (fun q => by have := hr _ q.symm; omega)⟩
theorem ntZ_ok (X : World) (ok : Nat → Prop) : ntZ.Ok X ok := ⟨rfl, show In64 (0 : Int) from ⟨by decide, by decide⟩, show In64 (0 : Int) from ⟨by decide, by decide⟩, fun z hz => by
  have : z = 0 := by simpa [ntZ] using hz
  rw [this]; exact ⟨by decide, by decide⟩, Kids.nil _ _ _ _⟩
/-- What groupsOf has laid: the groups' variable (v in it, u its value), the groups, each of its own arguments. -/
structure GI (w : World) (e : Nat) (v u : Value) (L : List NT) (zs : List ME.Nd) (X : World) : Prop where
  below : Below w.heap.size w X
  bx : Boxed X w.heap.size 26 v
  own : OwnL ntE 28 X e u L
  eq : L.map NT.n = zs
  ok : ∀ z ∈ L, z.Ok X (fun k => e ≤ k ∧ u.ownBlock ≠ some k)
  ge : e ≤ X.heap.size
  le : w.heap.size + 3 ≤ e
  few : L.length ≤ 200000
section
variable {w X Y : World} {e b : Nat} {v u : Value} {L : List NT} {zs : List ME.Nd}
theorem GI.keep (h : GI w e v u L zs X) (hb : Below X.heap.size X Y) : GI w e v u L zs Y :=
  ⟨h.below.trans (hb.mono (by have := h.ge; have := h.le; omega)), (hb.block _ h.bx.lt).trans h.bx, h.own.keep hb, h.eq, fun z hz => (h.ok z hz).below hb, Nat.le_trans h.ge hb.size, h.le, h.few⟩
theorem GI.step (h : GI w e v u L zs X) (hs : Stp b e X Y) (hb : w.heap.size + 3 ≤ b) : GI w e v u L zs Y := by
  obtain ⟨row, hg, hr⟩ := hs
  have hl := h.le
  have hge := h.ge
  have hu : u.ownBlock = none ∨ u.ownBlock ≠ row := by
    cases hu : u.ownBlock with
    | none => exact .inl rfl
    | some j => exact .inr fun q => by have h1 := hr j q.symm; have := (World.ownsRow.lt h.own.1 j hu).1; omega
  refine ⟨h.below.grown hg (by omega) (fun k q => by have := hr k q; omega), (hg.block _ h.bx.lt (fun q => by have := hr _ q.symm; omega)).trans h.bx, ⟨World.ownsRow.kept (row := row) h.own.1 hg hu, h.own.2⟩, h.eq, fun z hz => (h.ok z hz).keep (fun k hk hk2 => hg.block k hk2 (fun q => by have := hr k q.symm; have := hk.1; omega)) hg.size (fun _ hk _ => hk), Nat.le_trans hge hg.size, hl, h.few⟩
theorem GI.app {gg cp : Nat} (h : GI w e v u L zs X) (hown : Y.ownsRow e 28 9 (.slice (some ⟨gg, 0, none⟩) (L.length + 1) cp) (L.length + 1) (ntE.all L ++ [.int .i64 0, .int .i64 0, .int .i64 0, .int .i64 0, .int .i64 0, .int .i64 0, .int .i64 0, .int .i64 0, .slice none 0 0])) (hg : X.grownBy Y u.ownBlock) (hat : u.ownBlock = some gg ∨ gg = X.heap.size) (hf : L.length + 1 ≤ 200000) : GI w e v (.slice (some ⟨gg, 0, none⟩) (L.length + 1) cp) (L ++ [ntZ]) (zs ++ [ntZ.n]) Y := by
  have hl := h.le
  have hge := h.ge
  have hrow : ∀ k, u.ownBlock = some k → e ≤ k ∧ k < X.heap.size := fun k hk => World.ownsRow.lt h.own.1 k hk
  refine ⟨h.below.grown hg (by omega) (fun k q => by have := hrow k q; omega), (hg.block _ h.bx.lt (fun q => by have := hrow _ q.symm; omega)).trans h.bx, ⟨?_, h.own.2.snoc rfl⟩, by rw [List.map_append, h.eq]; rfl, fun z hz => ?_, Nat.le_trans hge hg.size, hl, by rw [List.length_append]; exact hf⟩
  · rw [El.all_append, El.all_one, ntZ_cells, List.length_append]; exact hown
  · rcases List.mem_append.1 hz with hz | hz
    · refine (h.ok z hz).keep (fun k hk hk2 => hg.block k hk2 (fun q => hk.2 q.symm)) hg.size (fun k hk hk2 => ⟨hk.1, fun q => ?_⟩)
      have hgk : gg = k := by simpa [Value.ownBlock] using q
      rcases hat with p | p
      · exact hk.2 (by rw [p, hgk])
      · omega
    · rw [List.mem_singleton.1 hz]; exact ntZ_ok _ _
theorem GI.rowge {gg cp n : Nat} (h : GI w e v (.slice (some ⟨gg, 0, none⟩) n cp) L zs X) : e ≤ gg := (World.ownsRow.lt h.own.1 gg rfl).1
theorem GI.fill {g0 gg cp ga : Nat} {y : NT} {u0 u1 u2 u3 u4 u5 u6 u7 u8 : Value} (h : GI w (g0 + 1) v (.slice (some ⟨gg, 0, none⟩) (L.length + 1) cp) (L ++ [ntZ]) (zs ++ [ntZ.n]) X) (hy : cellsE y.o y.b y.v y.A y.k.len y.c = [u0, u1, u2, u3, u4, u5, u6, u7, u8]) (h6 : y.b.length = 6) (hok : y.Ok X (fun k => k = ga)) (hne : gg ≠ ga) (hga : g0 + 1 ≤ ga) :
    GI w (g0 + 1) v (.slice (some ⟨gg, 0, none⟩) (L.length + 1) cp) (L ++ [y]) (zs ++ [y.n]) (sets X gg (L.length * 9) [u0, u1, u2, u3, u4, u5, u6, u7, u8]) := by
  have hl := h.le
  have hge := h.ge
  have hrg := h.rowge
  have hg := sets_grown (w := X) (g := gg) [u0, u1, u2, u3, u4, u5, u6, u7, u8] (L.length * 9)
  have hzs : L.map NT.n = zs := by
    have := h.eq
    rw [List.map_append, List.map_cons, List.map_nil] at this
    exact (List.append_inj' this rfl).1
  refine ⟨h.below.grown hg (by omega) (fun k q => by injection q with q; omega), (hg.block _ h.bx.lt (fun q => by injection q with q; omega)).trans h.bx, own_last h.own hy h6, by rw [List.map_append, hzs]; rfl, fun z hz => ?_, Nat.le_trans hge hg.size, hl, by have := h.few; rw [List.length_append] at this ⊢; exact this⟩
  rcases List.mem_append.1 hz with hz | hz
  · exact (h.ok z (List.mem_append_left _ hz)).keep (fun k hk hk2 => hg.block k hk2 (fun q => hk.2 q.symm)) hg.size (fun _ hk _ => hk)
  · rw [List.mem_singleton.1 hz]
    refine hok.keep (fun k hk hk2 => hg.block k hk2 (fun q => by injection q with q; omega)) hg.size (fun k hk _ => ⟨by omega, fun q => ?_⟩)
    have : gg = k := by simpa [Value.ownBlock] using q
    omega
theorem GI.box {zs' : List ME.Nd} (h : GI w e v u L zs X) (hz : zs = zs') : GI w e u u L zs' (X.setCell ⟨w.heap.size, 0, none⟩ u) := by
  subst hz
  have hl := h.le
  have hge := h.ge
  have hg := fset_grown X w.heap.size 0 u
  have hrow : ∀ k, u.ownBlock = some k → e ≤ k ∧ k < X.heap.size := fun k hk => World.ownsRow.lt h.own.1 k hk
  refine ⟨h.below.setCell (p := ⟨w.heap.size, 0, none⟩) (Nat.le_refl _) _, h.bx.set _, ⟨World.ownsRow.kept (row := some w.heap.size) h.own.1 hg ?_, h.own.2⟩, h.eq, fun z hz => (h.ok z hz).keep (fun k hk hk2 => hg.block k hk2 (fun q => by injection q with q; have := hk.1; omega)) hg.size (fun _ hk _ => hk), Nat.le_trans hge hg.size, hl, h.few⟩
  cases hu : u.ownBlock with
  | none => exact .inl rfl
  | some j => exact .inr fun q => by injection q with q; have := hrow j hu; omega
theorem GI.rebase {e' : Nat} (h : GI w e (.slice none 0 0) (.slice none 0 0) [] [] X) (h1 : w.heap.size + 3 ≤ e') (h2 : e' ≤ X.heap.size) : GI w e' (.slice none 0 0) (.slice none 0 0) [] [] X :=
  ⟨h.below, h.bx, OwnL.nil _ _ _, rfl, fun z hz => (by cases hz), h2, h1, h.few⟩
end
theorem copy_eq {P : Program} (w : World) (dT sT ty elem : TypeId) (size g n dCap : Nat) (ad : Addr) (sCap : Nat) (cur : Array Value) (t : TypeId) (cs : List Value)
    (hu : P.underlying dT = some (.slice elem)) (hs : (P.info? elem).map (·.size) = some size)
    (hg : w.heap[g]? = some (.cells cur t (0, 0))) (hn : cs.length = n * size)
    (hsrc : ∀ j v, cs[j]? = some v → w.cell? (ad.add j) = some v) (hfit : cs.length = cur.size) (h1 : ∀ v ∈ cs, v.oneCell' = true) :
    ∃ w', (Builtin.copy_ #[dT, sT] ty #[.slice (some ⟨g, 0, none⟩) n dCap, .slice (some ad) n sCap]).run P w = .ok (goInt n) w' ∧ w'.heap[g]? = some (.cells cs.toArray t (0, 0)) ∧ w.grownBy w' (some g) := by
  have hrun := run_copy_big (P := P) w dT sT ty elem size g 0 n dCap ad n sCap cur t cs hu hs hg (by simpa using hn) hsrc (by omega) h1
  have hm : Nat.min n n = n := Nat.min_self n
  rw [hm] at hrun
  refine ⟨_, hrun, ?_, setRow_grown _ _ _⟩
  rw [setRow_heap w g cur _ t _ hg]
  simp [hfit]
/-- The law of the statement where the loop's variable lies in a slot. -/
theorem range_slot {α : Type} (p q : Nat) {g : Operand} {ps : Array Tmp} {assign body : Code} {Q : Exit → Act → World → Prop} {a : Act} {w : World} {gf : Nat} {lb : Array Value} {enc : α → Value} {xs : List α} {Bn : Nat → Prop}
    (hg : a.eval g = .func (.func gf) #[] lb) (eg : ∀ args w, (callFunc gf args).run Try.prog w = .ok (.enter gf args) w) (hit : Iter2 gf lb (fun x => #[enc x]) xs Bn w) (hBn : ∀ k, Bn k → k < w.heap.size) (hps : ∀ x : α, (#[enc x] : Array Value).size = ps.size)
    (I : Nat → List α → World → Prop) (Ix : Code → Nat → List α → World → Prop)
    (hI : ∀ e pre X Y, w.heap.size + 2 ≤ e → e ≤ X.heap.size → I e pre X → Stp w.heap.size e X Y → I e pre Y)
    (hIx : ∀ c e pre X Y, w.heap.size + 2 ≤ e → e ≤ X.heap.size → Ix c e pre X → Stp w.heap.size e X Y → Ix c e pre Y)
    (h0 : ∀ e X, w.heap.size + 2 ≤ e → e ≤ X.heap.size → Below w.heap.size w X → I e [] X)
    (hassign : ∀ l e pre x X, w.heap.size + 2 ≤ e → e ≤ X.heap.size → I e pre X → (pre ++ [x]) <+: xs →
      assign.wpIn (Fence.wide.inRound l) 5 Try.prog (Exit.then (fun a' X' => Kpt2 Bn w.heap.size e X X' ∧ I e pre X' ∧ a' = { tmps := (a.tmps.setIfInBounds p (enc x)).setIfInBounds q (enc x), defers := [] }) (fun _ _ _ => False)) { tmps := (ps.zip #[enc x]).foldl (fun t (p, v) => t.setIfInBounds p v) a.tmps, defers := [] } X)
    (hbody : ∀ l e pre x X, w.heap.size + 2 ≤ e → e ≤ X.heap.size → I e pre X → (pre ++ [x]) <+: xs →
      body.wpIn (Fence.wide.inRound l) 5 Try.prog (leftBy2 Bn w.heap.size e I Ix (pre ++ [x]) X) { tmps := (a.tmps.setIfInBounds p (enc x)).setIfInBounds q (enc x), defers := [] } X)
    (hdone : ∀ e Y, w.heap.size + 2 ≤ e → e ≤ Y.heap.size → I e xs Y → Y.heap[w.heap.size]? = some (.deferred (some [])) → Q .normal { a with defers := { target := .collected w.heap.size, args := #[] } :: a.defers } Y)
    (hstop : ∀ c e pre Y, w.heap.size + 2 ≤ e → e ≤ Y.heap.size → pre <+: xs → Ix c e pre Y → Y.heap[w.heap.size]? = some (.deferred (some [])) → c.wpIn Fence.wide 5 Try.prog Q { a with defers := { target := .collected w.heap.size, args := #[] } :: a.defers } Y) :
    (Code.rangeFunc g ps assign body).wpIn Fence.wide 5 Try.prog Q a w :=
  range_law2 (encs := fun x => #[enc x]) hg eg hit hBn hps I Ix hI hIx h0
    (fun _ x a' _ => a' = { tmps := (a.tmps.setIfInBounds p (enc x)).setIfInBounds q (enc x), defers := [] })
    (fun _ _ _ _ _ _ h _ => h)
    hassign (fun l e pre x a' X he heX hi hpre ha => by subst ha; exact hbody l e pre x X he heX hi hpre) hdone hstop
/-- The groups' expressions. -/
def gN (ns : List ME.Nd) (x : Nat × Nat) : ME.Nd := grN ((ns.drop x.1).take x.2)
def GivesG (zs : List ME.Nd) (w : World) (e : Ending) (w' : World) : Prop := ∃ v L, e = .returned v ∧ OwnL ntE 28 w' w.heap.size v L ∧ L.map NT.n = zs ∧ (∀ z ∈ L, z.Ok w' (fun k => w.heap.size ≤ k)) ∧ Below w.heap.size w w'
theorem grp_res {w : World} (tmps : Array Value) (v : Value) (h4 : tmps.getD 2 undef = v) : (results Try.f35 tmps).run Try.prog w = .ok v w := by
  have h4' : tmps[2]?.getD undef = v := by simpa using h4
  simp [results, Try.results35, h4', go_sem]
theorem chL_mem {n : Nat} {x : Nat × Nat} (h : x ∈ chL n) : 0 < x.2 ∧ x.1 + x.2 ≤ n := by
  unfold chL chP at h
  obtain ⟨j, hj, rfl⟩ := List.mem_map.1 h
  have := List.mem_range.1 hj
  dsimp only
  omega
theorem atX_ok {p : MF.Of} (h : ofE.fine p) (X : World) (ok : Nat → Prop) : (atX p).Ok X ok := by
  obtain ⟨_, h0, h1, h2, h3, h4, h5, h7⟩ := h
  refine ⟨rfl, show In64 (1 : Int) from ⟨by decide, by decide⟩, h7, fun z hz => ?_, Kids.nil _ _ _ _⟩
  have : z ∈ [p.b0, p.b1, p.b2, p.b3, p.b4, p.b5] := hz
  simp only [List.mem_cons, List.not_mem_nil, or_false] at this
  rcases this with rfl | rfl | rfl | rfl | rfl | rfl <;> assumption
set_option maxRecDepth 100000 in
set_option maxHeartbeats 8000000 in
theorem fgroups_any (ad : Addr) (n c : Nat) (l : List MF.Of) (hn0 : 0 < n) (hn : n ≤ 1000000) (w : World) (hl : Lst ntE w (some ad) n c (l.map atX)) (hf : ∀ p ∈ l, ofE.fine p) :
    Calls Try.prog 35 #[.slice (some ad) n c] w (GivesG ((chL n).map (gN ((l.map atX).map NT.n))) w) := by
  have HL := Lib.hid hl
  have HLN := Lib.hid hl.len
  have HF := Lib.hid (fun (y : NT) (hy : y ∈ l.map atX) X ok => (by obtain ⟨p, hp, rfl⟩ := List.mem_map.1 hy; exact atX_ok (hf p hp) X ok : y.Ok X ok))
  have hnc := hl.cap
  generalize l.map atX = Y0 at *
  clear hl hf
  obtain ⟨i0, hi, hz0, hz1, hz2⟩ := info_parts infoExpr
  have B1 := Lib.hid (below_new w (.cells #[.slice none 0 0] 26))
  have X1 := Lib.hid (Boxed.new w 26 (.slice none 0 0))
  have hs1 : (w.alloc (.cells #[.slice none 0 0] 26)).heap.size = w.heap.size + 1 := by simp
  refine (callsIn_wide (n := 5)).1 ?_
  refine callsIn_of_wp_marks Try.func35 rfl trivial ?_ rfl
  simp only [Try.ntmps35, List.size_toArray, List.length_cons, List.length_nil, Nat.reduceAdd, Nat.reduceSub, Array.replicate_succ, Array.replicate_zero, List.push_toArray, List.append_toArray, List.nil_append, List.cons_append]
  refine wpIn_wide.2 ?_
  go_upto_region 2 with (fail)
  generalize w.alloc (.cells #[.slice none 0 0] 26) = w1 at *
  go_wp2_with fail
  refine (chunk_any (some ad) n c w1).mono ?_
  rintro ev w2 ⟨rfl, hw2⟩
  have hs2 : w2.heap.size = w.heap.size + 3 := by rw [hw2]; simp; omega
  have nb2 : Below w1.heap.size w1 w2 := by rw [hw2]; exact below_two w1 _ _
  have P1 := Lib.hid (show Boxed w2 (w.heap.size + 1) 26 (.slice (some ad) n c) from by
    rw [hw2]
    have := (below_new (w1.alloc (.cells #[.slice (some ad) n c] 26)) (.cells #[.int .i64 8] 3)).block w1.heap.size (by simp)
    rw [hs1] at this
    have h2 := heap_new w1 (.cells #[.slice (some ad) n c] 26)
    rw [hs1] at h2
    exact this.trans h2)
  have P2 := Lib.hid (show Boxed w2 (w.heap.size + 2) 3 (.int .i64 8) from by
    rw [hw2]
    have h2 := heap_new (w1.alloc (.cells #[.slice (some ad) n c] 26)) (.cells #[.int .i64 8] 3)
    rw [World.size_alloc, hs1] at h2
    exact h2)
  have M2 := Lib.hid (show GI w (w.heap.size + 3) (.slice none 0 0) (.slice none 0 0) [] [] w2 from ⟨B1.out.trans (nb2.mono B1.out.size), (nb2.block _ X1.out.lt).trans X1.out, OwnL.nil _ _ _, rfl, fun z hz => (by cases hz), Nat.le_of_eq hs2.symm, Nat.le_refl _, Nat.zero_le _⟩)
  clear nb2 B1 X1 hw2
  go_wp2_with fail
  refine (wpIn_wide (n := 5)).1 (range_slot 8 4 (gf := 86) (lb := #[.pointer (some ⟨w.heap.size + 1, 0, none⟩), .pointer (some ⟨w.heap.size + 2, 0, none⟩)]) (enc := fun x : Nat × Nat => .slice (some (ad.add (x.1 * 9))) x.2 x.2) (xs := chL n) (Bn := (fun k => k = w.heap.size + 1 ∨ k = w.heap.size + 2)) ?hg (enters_of Try.func86 (by kernel_rfl) rfl)
    (chunk_iter ad n c hn hnc _ _ w2 P1.out P2.out) (by intro k hk; omega) (fun _ => rfl)
    (fun e pre X => ∃ v L, GI w e v v L (pre.map (gN (Y0.map NT.n))) X)
    (fun _ _ _ _ => False)
    ?hI ?hIx ?h0 ?assign ?body ?done ?stop)
  case hg => simp [Act.eval]
  case hI =>
    rintro e pre X Y he heX ⟨v, L, hm⟩ hs
    exact ⟨v, L, hm.step hs (by omega)⟩
  case hIx => exact fun _ _ _ _ _ _ _ h _ => h
  case h0 =>
    intro e X he heX hb
    exact ⟨_, _, (M2.out.keep hb).rebase (by omega) heX⟩
  case assign =>
    rintro l e pre ⟨i, m⟩ X he heX ⟨v, L, hm⟩ hpre
    simp only [List.setIfInBounds_toArray, List.set_cons_zero, List.set_cons_succ]
    have hT := Lib.hid hm
    clear hm hpre
    gi_wp2
    exact ⟨Kpt2.refl _ _ _ _, ⟨v, L, hT.out⟩, trivial⟩
  case body =>
    rintro l e pre ⟨i, m⟩ X he heX ⟨vl, L, hm⟩ hpre
    obtain ⟨g0, rfl⟩ : ∃ g0, e = g0 + 1 := ⟨e - 1, by omega⟩
    have hx := chL_mem (hpre.subset (by simp : (i, m) ∈ pre ++ [(i, m)]))
    have hpl := hpre.length_le
    obtain ⟨hm0, him⟩ : 0 < m ∧ i + m ≤ n := hx
    have HFW := Lib.hid (show L.length + 1 ≤ 200000 from by
      have h1 := congrArg List.length hm.eq
      rw [List.length_map, List.length_map] at h1
      rw [List.length_append, List.length_singleton] at hpl
      have : (chL n).length = (n + 7) / 8 := by unfold chL chP; simp
      omega)
    obtain ⟨Av, cv, rfl, _, _⟩ := hm.own.form2 (by have := HFW.out; omega)
    obtain ⟨ys, hys⟩ : ∃ ys, ys = (Y0.drop i).take m := ⟨_, rfl⟩
    have hyl : ys.length = m := by rw [hys, List.length_take, List.length_drop, HLN.out]; omega
    have HYY := Lib.hid (fun (y : NT) (hy : y ∈ ys) => HF.out y (List.mem_of_mem_drop (List.mem_of_mem_take (hys ▸ hy))))
    have HZN : Hid (pre.map (gN (Y0.map NT.n)) ++ [grN (ys.map NT.n)] = (pre ++ [(i, m)]).map (gN (Y0.map NT.n))) := Lib.hid (by rw [List.map_append, hys]; unfold gN; simp [List.map_drop, List.map_take])
    have hS : Lst ntE X (some (ad.add (i * 9))) m (c - i) ys := by
      have h1 := ((HL.out.keep hm.below).drop (k := i) (by omega)).take (k := m) (by omega)
      rw [if_neg (by omega)] at h1
      rw [hys]; exact h1
    obtain ⟨w3, hmk, hown, hg3⟩ := run_makeSlice_full (P := Try.prog) X X.heap.size 26 28 i0 (.agg #[.int .i64 0, .int .i64 0, .int .i64 0, .int .i64 0, .int .i64 0, .int .i64 0, .int .i64 0, .int .i64 0, .slice none 0 0]) 9 Try.underlying26 hi hz0 hz1 .i64 .i64 m (by omega) (by rw [hz2]; omega) (by unfold maxLen; omega) (Nat.le_refl _)
    obtain ⟨cur, hcur, hcs⟩ : ∃ cur, w3.heap[X.heap.size]? = some (.cells cur 28 (0, 0)) ∧ cur.size = m * 9 := by
      rcases hown.2 with ⟨e, _⟩ | ⟨g', cap', cur, e, hB, hh, _, _, hs, _⟩
      · cases e
      · simp only [Value.slice.injEq, Option.some.injEq, Addr.mk.injEq, and_true] at e
        obtain ⟨rfl, _, rfl⟩ := e
        exact ⟨cur, hh, hs⟩
    have n3 : Below X.heap.size X w3 := (Below.refl _ _).grown hg3 (Nat.le_refl _) (fun k e => by cases e)
    have hS3 := hS.keep n3
    obtain ⟨w4, hcp, hblk, hg4⟩ := copy_eq (P := Try.prog) w3 26 26 3 28 9 X.heap.size m m (ad.add (i * 9)) m cur 28 (ntE.all ys) Try.underlying26 (by kernel_rfl) hcur (by rw [El.all_length hS.fine, hyl]; rfl)
      (by obtain ⟨ad2, e2, _, h3⟩ := hS3.reads.2 hm0; injection e2 with e2; subst e2; exact h3) (by rw [El.all_length hS.fine, hyl, hcs]; rfl) (fun u hu => by obtain ⟨x, _, hx⟩ := List.mem_flatMap.1 hu; exact ntE.one x u hx)
    have HA4 := Lib.hid (show Arg w4 X.heap.size m ys from ⟨by omega, hS.fine, _, hblk, by rw [List.size_toArray, El.all_length hS.fine, hyl]; rfl, fun j u hu => by simpa using hu⟩)
    have n4 : Below X.heap.size X w4 := n3.grown hg4 n3.size (fun k e => by injection e with e; omega)
    have HM4 := Lib.hid (hm.keep n4)
    have HK4 := Lib.hid (Kpt2.below (Bn := (fun k => k = w.heap.size + 1 ∨ k = w.heap.size + 2)) (b := w2.heap.size) (e := g0 + 1) n4 (by intro k hk; omega) heX)
    have HGE := Lib.hid (show g0 + 1 ≤ X.heap.size from heX)
    have HGA := Lib.hid (show Value.ownBlock (.slice Av L.length cv) ≠ some X.heap.size from fun hg => by have := (World.ownsRow.lt hm.own.1 _ hg).2; omega)
    have hmo : Try.prog.follows .mixedOrders = true := by kernel_rfl
    simp only [List.setIfInBounds_toArray, List.set_cons_zero, List.set_cons_succ]
    clear hm hpre hpl hS hS3 hown hg3 hblk hg4 n3 n4 hcur hcs hys
    gi_wp2_with fail
    have HM := Lib.hid (HM4.out.keep (below_drawn w4))
    have HA := Lib.hid (HA4.out.same ((below_drawn w4).block X.heap.size HA4.out.lt))
    have HK := Lib.hid (HK4.out.trans (Kpt2.below (Bn := (fun k => k = w.heap.size + 1 ∨ k = w.heap.size + 2)) (b := w2.heap.size) (e := g0 + 1) (below_drawn w4) (by have := HM4.out.ge; intro k hk; omega) HM4.out.ge))
    have CE := Lib.hid (fun X' (h : Arg X' X.heap.size m ys) => either_grp X' X.heap.size m ys h hyl hm0)
    have HYO := Lib.hid (fun X' (h : Arg X' X.heap.size m ys) => grX_ok h hyl (by omega) HYY.out)
    have HYN := Lib.hid (grX_n X.heap.size ys)
    have h6 := grX_six (g := X.heap.size) HA4.out.fine
    clear HM4 HA4 HK4 hcp hmk
    generalize hyy : grX X.heap.size ys = y at *
    clear hyy
    obtain ⟨oy, byy, vy, Ay, cy, ky⟩ := y
    obtain ⟨q0, q1, q2, q3, q4, q5, rfl⟩ := six h6
    rw [NT.val_lit] at CE
    have HZS := Lib.hid (show pre.map (gN (Y0.map NT.n)) ++ [NT.n ⟨oy, [q0, q1, q2, q3, q4, q5], vy, Ay, cy, ky⟩] = (pre ++ [(i, m)]).map (gN (Y0.map NT.n)) from by rw [HYN.out]; exact HZN.out)
    clear HYN HZN h6
    generalize X.heap.size = ga at *
    refine region_held_in (S := fun w' => True) hmo (by kernel_rfl) ?_ trivial (fun hHeld => ?_)
    · rintro ⟨_, _, h⟩; exact h
    generalize w4.drew = Y at *
    refine wpAnyH_take (i := 1) (oi := { dst := some 16, op := Op.move (Operand.tmp 5), type := 26, pos := "expression.go:38", after := #[], guard := none }) (v := ?_) rfl (by kernel_rfl) (by kernel_rfl) (by kernel_rfl) (fun _ _ _ h => h) (Or.inl ⟨by rfl, ?_⟩) (by assumption) ?_
    rotate_left
    · intro w hSw; (try dsimp only at hSw); have hLL : ((L.length : Int) < (L.length : Int) + 1) := (by omega); go_simp; try with_reducible rfl
    (try simp only [Act.put, List.setIfInBounds_toArray, List.set_cons_zero, List.set_cons_succ])
    refine wpAnyH_ready (rs := [0, 2, 4]) (by kernel_rfl) (by simp) ?_
    refine AllReadyH.cons (o := { dst := some 15, op := Op.load 26 (Operand.tmp 3), type := 26, pos := "expression.go:38", after := #[], guard := none }) rfl (fun K hK => ?_) (AllReadyH.cons (o := { dst := some 17, op := Op.call { callee := Callee.value (Operand.func 34), args := #[Operand.tmp 16], argTypes := #[26] }, type := 28, pos := "expression.go:38", after := #[{ on := 1, ground := Ground.data }], guard := none }) rfl (fun K hK => ?_) (AllReadyH.cons (o := { dst := some 19, op := Op.buildSlice 26 1 #[(0, Operand.const (Value.agg #[Value.int IntKind.i64 0, Value.int IntKind.i64 0, Value.int IntKind.i64 0, Value.int IntKind.i64 0, Value.int IntKind.i64 0, Value.int IntKind.i64 0, Value.int IntKind.i64 0, Value.int IntKind.i64 0, Value.slice none 0 0]))], type := 26, pos := "expression.go:38", after := #[], guard := none }) rfl (fun K hK => ?_) AllReadyH.nil))
    {
 have hbx := HM.out.bx.cell
 go_simp
 refine hK.out _ _ ?_ (fun hHeld => ?_)
 · exact trivial
 clear hbx
 clear hK K
 (try simp only [Act.put, List.setIfInBounds_toArray, List.set_cons_zero, List.set_cons_succ])
 refine wpAnyH_take (i := 3) (oi := { dst := some 18, op := Op.call { callee := Callee.builtin Builtin.len, args := #[Operand.tmp 15], argTypes := #[26] }, type := 3, pos := "expression.go:38", after := #[{ on := 0, ground := Ground.data }], guard := none }) (v := ?_) rfl (by kernel_rfl) (by kernel_rfl) (by kernel_rfl) (fun _ _ _ h => h) (Or.inl ⟨by rfl, ?_⟩) (by assumption) ?_
 rotate_left
 · intro w hSw; (try dsimp only at hSw); have hLL : ((L.length : Int) < (L.length : Int) + 1) := (by omega); go_simp; try with_reducible rfl
 (try simp only [Act.put, List.setIfInBounds_toArray, List.set_cons_zero, List.set_cons_succ])
 refine wpAnyH_ready (rs := [2, 4]) (by kernel_rfl) (by simp) ?_
 refine AllReadyH.cons (o := { dst := some 17, op := Op.call { callee := Callee.value (Operand.func 34), args := #[Operand.tmp 16], argTypes := #[26] }, type := 28, pos := "expression.go:38", after := #[{ on := 1, ground := Ground.data }], guard := none }) rfl (fun K hK => ?_) (AllReadyH.cons (o := { dst := some 19, op := Op.buildSlice 26 1 #[(0, Operand.const (Value.agg #[Value.int IntKind.i64 0, Value.int IntKind.i64 0, Value.int IntKind.i64 0, Value.int IntKind.i64 0, Value.int IntKind.i64 0, Value.int IntKind.i64 0, Value.int IntKind.i64 0, Value.int IntKind.i64 0, Value.slice none 0 0]))], type := 26, pos := "expression.go:38", after := #[], guard := none }) rfl (fun K hK => ?_) AllReadyH.nil)
 {
 go_simp
 refine (CE.out Y HA.out).mono ?_
 rintro ev w5 ⟨rfl, nb⟩
 have HM5 := Lib.hid (HM.out.keep nb)
 have HA5 := Lib.hid (HA.out.same (nb.block ga HA.out.lt))
 have HK5 := Lib.hid (HK.out.trans (Kpt2.below (Bn := (fun k => k = w.heap.size + 1 ∨ k = w.heap.size + 2)) (b := w2.heap.size) (e := g0 + 1) nb (by have := HM.out.ge; have := HM.out.le; intro k hk; omega) HM.out.ge))
 clear nb HM HA HK
 have HM := HM5
 have HA := HA5
 have HK := HK5
 clear HM5 HA5 HK5
 refine hK.out _ _ ?_ (fun hHeld => ?_)
 · exact trivial
 clear hK K
 (try simp only [Act.put, List.setIfInBounds_toArray, List.set_cons_zero, List.set_cons_succ])
 refine wpAnyH_ready (rs := [4]) (by kernel_rfl) (by simp) ?_
 refine AllReadyH.cons (o := { dst := some 19, op := Op.buildSlice 26 1 #[(0, Operand.const (Value.agg #[Value.int IntKind.i64 0, Value.int IntKind.i64 0, Value.int IntKind.i64 0, Value.int IntKind.i64 0, Value.int IntKind.i64 0, Value.int IntKind.i64 0, Value.int IntKind.i64 0, Value.int IntKind.i64 0, Value.slice none 0 0]))], type := 26, pos := "expression.go:38", after := #[], guard := none }) rfl (fun K hK => ?_) AllReadyH.nil
 go_simp
 have nb := below_new w5 (.cells #[.int .i64 0, .int .i64 0, .int .i64 0, .int .i64 0, .int .i64 0, .int .i64 0, .int .i64 0, .int .i64 0, .slice none 0 0] 28)
 have HZ := Lib.hid (heap_new w5 (.cells #[.int .i64 0, .int .i64 0, .int .i64 0, .int .i64 0, .int .i64 0, .int .i64 0, .int .i64 0, .int .i64 0, .slice none 0 0] 28))
 have HM6 := Lib.hid (HM.out.keep nb)
 have HA6 := Lib.hid (HA.out.same (nb.block ga HA.out.lt))
 have HK6 := Lib.hid (HK.out.trans (Kpt2.below (Bn := (fun k => k = w.heap.size + 1 ∨ k = w.heap.size + 2)) (b := w2.heap.size) (e := g0 + 1) nb (by have := HM.out.ge; have := HM.out.le; intro k hk; omega) HM.out.ge))
 clear nb HM HA HK
 have HM := HM6
 have HA := HA6
 have HK := HK6
 clear HM6 HA6 HK6
 obtain ⟨w6, hw6⟩ : ∃ w6, w6 = w5.alloc (.cells #[.int .i64 0, .int .i64 0, .int .i64 0, .int .i64 0, .int .i64 0, .int .i64 0, .int .i64 0, .int .i64 0, .slice none 0 0] 28) := ⟨_, rfl⟩
 rw [← hw6] at HZ HM HA HK ⊢
 clear hw6
 obtain ⟨Bz, hBz⟩ : ∃ Bz, Bz = w5.heap.size := ⟨_, rfl⟩
 rw [← hBz] at HZ ⊢
 clear hBz
 refine hK.out _ _ ?_ (fun hHeld => ?_)
 · exact trivial
 clear hK K
 (try simp only [Act.put, List.setIfInBounds_toArray, List.set_cons_zero, List.set_cons_succ])
 refine wpAnyH_ready (rs := [5]) (by kernel_rfl) (by simp) ?_
 refine AllReadyH.cons (o := { dst := some 20, op := Op.call { callee := Callee.builtin Builtin.append, args := #[Operand.tmp 15, Operand.tmp 19], argTypes := #[26, 26] }, type := 26, pos := "expression.go:38", after := #[{ on := 0, ground := Ground.data }, { on := 4, ground := Ground.data }, { on := 2, ground := Ground.chain }, { on := 0, ground := Ground.phase }, { on := 1, ground := Ground.phase }, { on := 2, ground := Ground.phase }, { on := 3, ground := Ground.phase }, { on := 4, ground := Ground.phase }], guard := none }) rfl (fun K hK => ?_) AllReadyH.nil
 have hfew := HFW.out
 refine step_append_lies _ (by rfl) _ _ _ (by rfl) (g0 + 1) 28 i0 (.agg #[.int .i64 0, .int .i64 0, .int .i64 0, .int .i64 0, .int .i64 0, .int .i64 0, .int .i64 0, .int .i64 0, .slice none 0 0]) 9 88 Try.underlying26 hi hz0 hz1 hz2 rfl (by decide) _ _ _ (by rfl) HM.out.own.1 ⟨Bz, 0, none⟩ 1 1 [.int .i64 0, .int .i64 0, .int .i64 0, .int .i64 0, .int .i64 0, .int .i64 0, .int .i64 0, .int .i64 0, .slice none 0 0] (by rfl) rfl ?c1 ?c2 (by decide) ?c4 ?c5 ?c6 _ rfl ?_
 case c1 => exact World.news_of_block HZ.out
 case c2 => exact ntE.one ntZ
 case c4 => unfold maxLen; omega
 case c5 => omega
 case c6 => exact HM.out.ge
 intro gg cp w7 hown hgrow hat hlt7
 have HM7 := Lib.hid (HM.out.app hown hgrow hat HFW.out)
 have HGG := Lib.hid (show gg ≠ ga from fun e => by rcases hat with p | p; (exact HGA.out (p.trans (by rw [e]))); (have := HA.out.lt; omega))
 have HA7 := Lib.hid (HA.out.same (hgrow.block ga HA.out.lt (fun e => HGA.out e.symm)))
 have HK7 := Lib.hid (HK.out.trans (Kpt2_grow (Bn := (fun k => k = w.heap.size + 1 ∨ k = w.heap.size + 2)) (b := w2.heap.size) (e := g0 + 1) hgrow (fun r hr => (World.ownsRow.lt HM.out.own.1 r hr).1) (by have := HM.out.le; intro k hk; omega) HM.out.ge))
 clear hown hgrow hat hlt7 HZ HM HA HK
 have HM := HM7
 have HA := HA7
 have HK := HK7
 clear HM7 HA7 HK7
 refine hK.out _ _ ?_ (fun hHeld => ?_)
 · exact trivial
 clear hK K
 (try simp only [Act.put, List.setIfInBounds_toArray, List.set_cons_zero, List.set_cons_succ])
 refine wpAnyH_take (i := 6) (oi := { dst := some 21, op := Op.indexAddr 26 (Operand.tmp 20) (Operand.tmp 18), type := 0, pos := "expression.go:38", after := #[{ on := 5, ground := Ground.data }, { on := 3, ground := Ground.data }, { on := 0, ground := Ground.phase }, { on := 1, ground := Ground.phase }, { on := 2, ground := Ground.phase }, { on := 3, ground := Ground.phase }, { on := 4, ground := Ground.phase }, { on := 5, ground := Ground.phase }, { on := 8, ground := Ground.gcOnly Departure.appendInPlace }], guard := none }) (v := ?_) rfl (by kernel_rfl) (by kernel_rfl) (by kernel_rfl) (fun _ _ _ h => h) (Or.inl ⟨by rfl, ?_⟩) (by assumption) ?_
 rotate_left
 · intro w hSw; (try dsimp only at hSw); have hLL : ((L.length : Int) < (L.length : Int) + 1) := (by omega); go_simp; try with_reducible rfl
 (try simp only [Act.put, List.setIfInBounds_toArray, List.set_cons_zero, List.set_cons_succ])
 refine wpAnyH_ready (rs := [7, 8]) (by kernel_rfl) (by simp) ?_
 refine AllReadyH.cons (o := { dst := none, op := Op.store 28 (Operand.tmp 21) (Operand.tmp 17), type := 0, pos := "expression.go:38", after := #[{ on := 6, ground := Ground.data }, { on := 2, ground := Ground.data }, { on := 5, ground := Ground.chain }, { on := 0, ground := Ground.phase }, { on := 1, ground := Ground.phase }, { on := 2, ground := Ground.phase }, { on := 3, ground := Ground.phase }, { on := 4, ground := Ground.phase }, { on := 5, ground := Ground.phase }, { on := 8, ground := Ground.gcOnly Departure.appendInPlace }], guard := none }) rfl (fun K hK => ?_) (AllReadyH.cons (o := { dst := none, op := Op.store 26 (Operand.tmp 3) (Operand.tmp 20), type := 0, pos := "expression.go:38", after := #[{ on := 5, ground := Ground.data }, { on := 5, ground := Ground.chain }, { on := 7, ground := Ground.textOnly Departure.appendInPlace }, { on := 0, ground := Ground.phase }, { on := 1, ground := Ground.phase }, { on := 2, ground := Ground.phase }, { on := 3, ground := Ground.phase }, { on := 4, ground := Ground.phase }, { on := 5, ground := Ground.phase }, { on := 6, ground := Ground.textOnly Departure.appendInPlace }, { on := 7, ground := Ground.textOnly Departure.appendInPlace }], guard := none }) rfl (fun K hK => ?_) AllReadyH.nil)
 {
 obtain ⟨hc9, hf9⟩ := own_cells HM.out.own
 have d0 := hc9 0 _ rfl
 have d1 := hc9 1 _ rfl
 have d2 := hc9 2 _ rfl
 have d3 := hc9 3 _ rfl
 have d4 := hc9 4 _ rfl
 have d5 := hc9 5 _ rfl
 have d6 := hc9 6 _ rfl
 have d7 := hc9 7 _ rfl
 have d8 := hc9 8 _ rfl
 have f0 := hf9 (L.length * 9 + 0)
 have f1 := hf9 (L.length * 9 + 1)
 have f2 := hf9 (L.length * 9 + 2)
 have f3 := hf9 (L.length * 9 + 3)
 have f4 := hf9 (L.length * 9 + 4)
 have f5 := hf9 (L.length * 9 + 5)
 have f6 := hf9 (L.length * 9 + 6)
 have f7 := hf9 (L.length * 9 + 7)
 have f8 := hf9 (L.length * 9 + 8)
 have d0' := d0
 rw [Nat.add_zero] at d0' f0
 clear hc9 hf9 d0
 go_simp
 rw [nest_q]
 have HM8 := Lib.hid (HM.out.fill (y := ⟨oy, [q0, q1, q2, q3, q4, q5], vy, Ay, cy, ky⟩) (ga := ga) (list9 oy q0 q1 q2 q3 q4 q5 vy Ay ky.len cy) rfl (HYO.out w7 HA.out) HGG.out HGE.out)
 have HA8 := Lib.hid (HA.out.same (sets_far (fun e => HGG.out e.symm) [.int .i64 oy, .int .i64 q0, .int .i64 q1, .int .i64 q2, .int .i64 q3, .int .i64 q4, .int .i64 q5, .int .i64 vy, .slice Ay ky.len cy] w7 (L.length * 9)))
 have HK8 := Lib.hid (HK.out.trans (Kpt2_grow (Bn := (fun k => k = w.heap.size + 1 ∨ k = w.heap.size + 2)) (b := w2.heap.size) (e := g0 + 1) (sets_grown (w := w7) (g := gg) [.int .i64 oy, .int .i64 q0, .int .i64 q1, .int .i64 q2, .int .i64 q3, .int .i64 q4, .int .i64 q5, .int .i64 vy, .slice Ay ky.len cy] (L.length * 9)) (fun r hr => by injection hr with hr; have := HM.out.rowge; omega) (by have := HM.out.le; intro k hk; omega) HM.out.ge))
 obtain ⟨w8, hw8⟩ : ∃ w8, w8 = sets w7 gg (L.length * 9) [.int .i64 oy, .int .i64 q0, .int .i64 q1, .int .i64 q2, .int .i64 q3, .int .i64 q4, .int .i64 q5, .int .i64 vy, .slice Ay ky.len cy] := ⟨_, rfl⟩
 rw [← hw8] at HM8 HA8 HK8 ⊢
 clear hw8 HM HA HK
 have HM := HM8
 have HA := HA8
 have HK := HK8
 clear HM8 HA8 HK8
 refine hK.out _ _ ?_ (fun hHeld => ?_)
 · exact trivial
 clear d0' d1 d2 d3 d4 d5 d6 d7 d8 f0 f1 f2 f3 f4 f5 f6 f7 f8
 clear hK K
 (try simp only [Act.put, List.setIfInBounds_toArray, List.set_cons_zero, List.set_cons_succ])
 refine wpAnyH_ready (rs := [8]) (by kernel_rfl) (by simp) ?_
 refine AllReadyH.cons (o := { dst := none, op := Op.store 26 (Operand.tmp 3) (Operand.tmp 20), type := 0, pos := "expression.go:38", after := #[{ on := 5, ground := Ground.data }, { on := 5, ground := Ground.chain }, { on := 7, ground := Ground.textOnly Departure.appendInPlace }, { on := 0, ground := Ground.phase }, { on := 1, ground := Ground.phase }, { on := 2, ground := Ground.phase }, { on := 3, ground := Ground.phase }, { on := 4, ground := Ground.phase }, { on := 5, ground := Ground.phase }, { on := 6, ground := Ground.textOnly Departure.appendInPlace }, { on := 7, ground := Ground.textOnly Departure.appendInPlace }], guard := none }) rfl (fun K hK => ?_) AllReadyH.nil
 have cb := HM.out.bx.cell
 have fb := HM.out.bx.frozen
 go_simp
 have HM9 := Lib.hid (HM.out.box rfl)
 have HA9 := Lib.hid (HA.out.same (Below.heap_setCell w8 ⟨w.heap.size, 0, none⟩ (.slice (some ⟨gg, 0, none⟩) (L.length + 1) cp) ga (by have := HGE.out; have := HM.out.le; show ga ≠ w.heap.size; omega)))
 have HK9 := Lib.hid (HK.out.trans (Kpt2.setCell w8 (g := w.heap.size) 0 (.slice (some ⟨gg, 0, none⟩) (L.length + 1) cp) (by intro k hk; omega) (.inl (by omega))))
 obtain ⟨w9, hw9⟩ : ∃ w9, w9 = w8.setCell ⟨w.heap.size, 0, none⟩ (.slice (some ⟨gg, 0, none⟩) (L.length + 1) cp) := ⟨_, rfl⟩
 rw [← hw9] at HM9 HA9 HK9 ⊢
 clear hw9 HM HA HK
 have HM := HM9
 have HA := HA9
 have HK := HK9
 clear HM9 HA9 HK9
 refine hK.out _ _ ?_ (fun hHeld => ?_)
 · exact trivial
 clear cb fb
 clear hK K
 (try simp only [Act.put, List.setIfInBounds_toArray, List.set_cons_zero, List.set_cons_succ])
 refine wpAnyH_done (by kernel_rfl) ?_ _
 gi_wp2
 exact ⟨HK.out, _, _, HZS.out ▸ HM.out⟩
 }
 {
 have cb := HM.out.bx.cell
 have fb := HM.out.bx.frozen
 go_simp
 have HM9 := Lib.hid (HM.out.box rfl)
 have HA9 := Lib.hid (HA.out.same (Below.heap_setCell w7 ⟨w.heap.size, 0, none⟩ (.slice (some ⟨gg, 0, none⟩) (L.length + 1) cp) ga (by have := HGE.out; have := HM.out.le; show ga ≠ w.heap.size; omega)))
 have HK9 := Lib.hid (HK.out.trans (Kpt2.setCell w7 (g := w.heap.size) 0 (.slice (some ⟨gg, 0, none⟩) (L.length + 1) cp) (by intro k hk; omega) (.inl (by omega))))
 obtain ⟨w9, hw9⟩ : ∃ w9, w9 = w7.setCell ⟨w.heap.size, 0, none⟩ (.slice (some ⟨gg, 0, none⟩) (L.length + 1) cp) := ⟨_, rfl⟩
 rw [← hw9] at HM9 HA9 HK9 ⊢
 clear hw9 HM HA HK
 have HM := HM9
 have HA := HA9
 have HK := HK9
 clear HM9 HA9 HK9
 refine hK.out _ _ ?_ (fun hHeld => ?_)
 · exact trivial
 clear cb fb
 clear hK K
 (try simp only [Act.put, List.setIfInBounds_toArray, List.set_cons_zero, List.set_cons_succ])
 refine wpAnyH_ready (rs := [7]) (by kernel_rfl) (by simp) ?_
 refine AllReadyH.cons (o := { dst := none, op := Op.store 28 (Operand.tmp 21) (Operand.tmp 17), type := 0, pos := "expression.go:38", after := #[{ on := 6, ground := Ground.data }, { on := 2, ground := Ground.data }, { on := 5, ground := Ground.chain }, { on := 0, ground := Ground.phase }, { on := 1, ground := Ground.phase }, { on := 2, ground := Ground.phase }, { on := 3, ground := Ground.phase }, { on := 4, ground := Ground.phase }, { on := 5, ground := Ground.phase }, { on := 8, ground := Ground.gcOnly Departure.appendInPlace }], guard := none }) rfl (fun K hK => ?_) AllReadyH.nil
 obtain ⟨hc9, hf9⟩ := own_cells HM.out.own
 have d0 := hc9 0 _ rfl
 have d1 := hc9 1 _ rfl
 have d2 := hc9 2 _ rfl
 have d3 := hc9 3 _ rfl
 have d4 := hc9 4 _ rfl
 have d5 := hc9 5 _ rfl
 have d6 := hc9 6 _ rfl
 have d7 := hc9 7 _ rfl
 have d8 := hc9 8 _ rfl
 have f0 := hf9 (L.length * 9 + 0)
 have f1 := hf9 (L.length * 9 + 1)
 have f2 := hf9 (L.length * 9 + 2)
 have f3 := hf9 (L.length * 9 + 3)
 have f4 := hf9 (L.length * 9 + 4)
 have f5 := hf9 (L.length * 9 + 5)
 have f6 := hf9 (L.length * 9 + 6)
 have f7 := hf9 (L.length * 9 + 7)
 have f8 := hf9 (L.length * 9 + 8)
 have d0' := d0
 rw [Nat.add_zero] at d0' f0
 clear hc9 hf9 d0
 go_simp
 rw [nest_q]
 have HM8 := Lib.hid (HM.out.fill (y := ⟨oy, [q0, q1, q2, q3, q4, q5], vy, Ay, cy, ky⟩) (ga := ga) (list9 oy q0 q1 q2 q3 q4 q5 vy Ay ky.len cy) rfl (HYO.out w9 HA.out) HGG.out HGE.out)
 have HA8 := Lib.hid (HA.out.same (sets_far (fun e => HGG.out e.symm) [.int .i64 oy, .int .i64 q0, .int .i64 q1, .int .i64 q2, .int .i64 q3, .int .i64 q4, .int .i64 q5, .int .i64 vy, .slice Ay ky.len cy] w9 (L.length * 9)))
 have HK8 := Lib.hid (HK.out.trans (Kpt2_grow (Bn := (fun k => k = w.heap.size + 1 ∨ k = w.heap.size + 2)) (b := w2.heap.size) (e := g0 + 1) (sets_grown (w := w9) (g := gg) [.int .i64 oy, .int .i64 q0, .int .i64 q1, .int .i64 q2, .int .i64 q3, .int .i64 q4, .int .i64 q5, .int .i64 vy, .slice Ay ky.len cy] (L.length * 9)) (fun r hr => by injection hr with hr; have := HM.out.rowge; omega) (by have := HM.out.le; intro k hk; omega) HM.out.ge))
 obtain ⟨w8, hw8⟩ : ∃ w8, w8 = sets w9 gg (L.length * 9) [.int .i64 oy, .int .i64 q0, .int .i64 q1, .int .i64 q2, .int .i64 q3, .int .i64 q4, .int .i64 q5, .int .i64 vy, .slice Ay ky.len cy] := ⟨_, rfl⟩
 rw [← hw8] at HM8 HA8 HK8 ⊢
 clear hw8 HM HA HK
 have HM := HM8
 have HA := HA8
 have HK := HK8
 clear HM8 HA8 HK8
 refine hK.out _ _ ?_ (fun hHeld => ?_)
 · exact trivial
 clear d0' d1 d2 d3 d4 d5 d6 d7 d8 f0 f1 f2 f3 f4 f5 f6 f7 f8
 clear hK K
 (try simp only [Act.put, List.setIfInBounds_toArray, List.set_cons_zero, List.set_cons_succ])
 refine wpAnyH_done (by kernel_rfl) ?_ _
 gi_wp2
 exact ⟨HK.out, _, _, HZS.out ▸ HM.out⟩
 }
 }
 {
 go_simp
 have nb := below_new Y (.cells #[.int .i64 0, .int .i64 0, .int .i64 0, .int .i64 0, .int .i64 0, .int .i64 0, .int .i64 0, .int .i64 0, .slice none 0 0] 28)
 have HZ := Lib.hid (heap_new Y (.cells #[.int .i64 0, .int .i64 0, .int .i64 0, .int .i64 0, .int .i64 0, .int .i64 0, .int .i64 0, .int .i64 0, .slice none 0 0] 28))
 have HM6 := Lib.hid (HM.out.keep nb)
 have HA6 := Lib.hid (HA.out.same (nb.block ga HA.out.lt))
 have HK6 := Lib.hid (HK.out.trans (Kpt2.below (Bn := (fun k => k = w.heap.size + 1 ∨ k = w.heap.size + 2)) (b := w2.heap.size) (e := g0 + 1) nb (by have := HM.out.ge; have := HM.out.le; intro k hk; omega) HM.out.ge))
 clear nb HM HA HK
 have HM := HM6
 have HA := HA6
 have HK := HK6
 clear HM6 HA6 HK6
 obtain ⟨w6, hw6⟩ : ∃ w6, w6 = Y.alloc (.cells #[.int .i64 0, .int .i64 0, .int .i64 0, .int .i64 0, .int .i64 0, .int .i64 0, .int .i64 0, .int .i64 0, .slice none 0 0] 28) := ⟨_, rfl⟩
 rw [← hw6] at HZ HM HA HK ⊢
 clear hw6
 obtain ⟨Bz, hBz⟩ : ∃ Bz, Bz = Y.heap.size := ⟨_, rfl⟩
 rw [← hBz] at HZ ⊢
 clear hBz
 refine hK.out _ _ ?_ (fun hHeld => ?_)
 · exact trivial
 clear hK K
 (try simp only [Act.put, List.setIfInBounds_toArray, List.set_cons_zero, List.set_cons_succ])
 refine wpAnyH_ready (rs := [2]) (by kernel_rfl) (by simp) ?_
 refine AllReadyH.cons (o := { dst := some 17, op := Op.call { callee := Callee.value (Operand.func 34), args := #[Operand.tmp 16], argTypes := #[26] }, type := 28, pos := "expression.go:38", after := #[{ on := 1, ground := Ground.data }], guard := none }) rfl (fun K hK => ?_) AllReadyH.nil
 go_simp
 refine (CE.out w6 HA.out).mono ?_
 rintro ev w5 ⟨rfl, nb⟩
 have HM5 := Lib.hid (HM.out.keep nb)
 have HA5 := Lib.hid (HA.out.same (nb.block ga HA.out.lt))
 have HK5 := Lib.hid (HK.out.trans (Kpt2.below (Bn := (fun k => k = w.heap.size + 1 ∨ k = w.heap.size + 2)) (b := w2.heap.size) (e := g0 + 1) nb (by have := HM.out.ge; have := HM.out.le; intro k hk; omega) HM.out.ge))
 have HZ5 := Lib.hid ((nb.block Bz (Array.getElem?_eq_some_iff.1 HZ.out).1).trans HZ.out)
 clear nb HM HA HK HZ
 have HM := HM5
 have HA := HA5
 have HK := HK5
 have HZ := HZ5
 clear HM5 HA5 HK5 HZ5
 refine hK.out _ _ ?_ (fun hHeld => ?_)
 · exact trivial
 clear hK K
 (try simp only [Act.put, List.setIfInBounds_toArray, List.set_cons_zero, List.set_cons_succ])
 refine wpAnyH_ready (rs := [5]) (by kernel_rfl) (by simp) ?_
 refine AllReadyH.cons (o := { dst := some 20, op := Op.call { callee := Callee.builtin Builtin.append, args := #[Operand.tmp 15, Operand.tmp 19], argTypes := #[26, 26] }, type := 26, pos := "expression.go:38", after := #[{ on := 0, ground := Ground.data }, { on := 4, ground := Ground.data }, { on := 2, ground := Ground.chain }, { on := 0, ground := Ground.phase }, { on := 1, ground := Ground.phase }, { on := 2, ground := Ground.phase }, { on := 3, ground := Ground.phase }, { on := 4, ground := Ground.phase }], guard := none }) rfl (fun K hK => ?_) AllReadyH.nil
 have hfew := HFW.out
 refine step_append_lies _ (by rfl) _ _ _ (by rfl) (g0 + 1) 28 i0 (.agg #[.int .i64 0, .int .i64 0, .int .i64 0, .int .i64 0, .int .i64 0, .int .i64 0, .int .i64 0, .int .i64 0, .slice none 0 0]) 9 88 Try.underlying26 hi hz0 hz1 hz2 rfl (by decide) _ _ _ (by rfl) HM.out.own.1 ⟨Bz, 0, none⟩ 1 1 [.int .i64 0, .int .i64 0, .int .i64 0, .int .i64 0, .int .i64 0, .int .i64 0, .int .i64 0, .int .i64 0, .slice none 0 0] (by rfl) rfl ?c1 ?c2 (by decide) ?c4 ?c5 ?c6 _ rfl ?_
 case c1 => exact World.news_of_block HZ.out
 case c2 => exact ntE.one ntZ
 case c4 => unfold maxLen; omega
 case c5 => omega
 case c6 => exact HM.out.ge
 intro gg cp w7 hown hgrow hat hlt7
 have HM7 := Lib.hid (HM.out.app hown hgrow hat HFW.out)
 have HGG := Lib.hid (show gg ≠ ga from fun e => by rcases hat with p | p; (exact HGA.out (p.trans (by rw [e]))); (have := HA.out.lt; omega))
 have HA7 := Lib.hid (HA.out.same (hgrow.block ga HA.out.lt (fun e => HGA.out e.symm)))
 have HK7 := Lib.hid (HK.out.trans (Kpt2_grow (Bn := (fun k => k = w.heap.size + 1 ∨ k = w.heap.size + 2)) (b := w2.heap.size) (e := g0 + 1) hgrow (fun r hr => (World.ownsRow.lt HM.out.own.1 r hr).1) (by have := HM.out.le; intro k hk; omega) HM.out.ge))
 clear hown hgrow hat hlt7 HZ HM HA HK
 have HM := HM7
 have HA := HA7
 have HK := HK7
 clear HM7 HA7 HK7
 refine hK.out _ _ ?_ (fun hHeld => ?_)
 · exact trivial
 clear hK K
 (try simp only [Act.put, List.setIfInBounds_toArray, List.set_cons_zero, List.set_cons_succ])
 refine wpAnyH_take (i := 6) (oi := { dst := some 21, op := Op.indexAddr 26 (Operand.tmp 20) (Operand.tmp 18), type := 0, pos := "expression.go:38", after := #[{ on := 5, ground := Ground.data }, { on := 3, ground := Ground.data }, { on := 0, ground := Ground.phase }, { on := 1, ground := Ground.phase }, { on := 2, ground := Ground.phase }, { on := 3, ground := Ground.phase }, { on := 4, ground := Ground.phase }, { on := 5, ground := Ground.phase }, { on := 8, ground := Ground.gcOnly Departure.appendInPlace }], guard := none }) (v := ?_) rfl (by kernel_rfl) (by kernel_rfl) (by kernel_rfl) (fun _ _ _ h => h) (Or.inl ⟨by rfl, ?_⟩) (by assumption) ?_
 rotate_left
 · intro w hSw; (try dsimp only at hSw); have hLL : ((L.length : Int) < (L.length : Int) + 1) := (by omega); go_simp; try with_reducible rfl
 (try simp only [Act.put, List.setIfInBounds_toArray, List.set_cons_zero, List.set_cons_succ])
 refine wpAnyH_ready (rs := [7, 8]) (by kernel_rfl) (by simp) ?_
 refine AllReadyH.cons (o := { dst := none, op := Op.store 28 (Operand.tmp 21) (Operand.tmp 17), type := 0, pos := "expression.go:38", after := #[{ on := 6, ground := Ground.data }, { on := 2, ground := Ground.data }, { on := 5, ground := Ground.chain }, { on := 0, ground := Ground.phase }, { on := 1, ground := Ground.phase }, { on := 2, ground := Ground.phase }, { on := 3, ground := Ground.phase }, { on := 4, ground := Ground.phase }, { on := 5, ground := Ground.phase }, { on := 8, ground := Ground.gcOnly Departure.appendInPlace }], guard := none }) rfl (fun K hK => ?_) (AllReadyH.cons (o := { dst := none, op := Op.store 26 (Operand.tmp 3) (Operand.tmp 20), type := 0, pos := "expression.go:38", after := #[{ on := 5, ground := Ground.data }, { on := 5, ground := Ground.chain }, { on := 7, ground := Ground.textOnly Departure.appendInPlace }, { on := 0, ground := Ground.phase }, { on := 1, ground := Ground.phase }, { on := 2, ground := Ground.phase }, { on := 3, ground := Ground.phase }, { on := 4, ground := Ground.phase }, { on := 5, ground := Ground.phase }, { on := 6, ground := Ground.textOnly Departure.appendInPlace }, { on := 7, ground := Ground.textOnly Departure.appendInPlace }], guard := none }) rfl (fun K hK => ?_) AllReadyH.nil)
 {
 obtain ⟨hc9, hf9⟩ := own_cells HM.out.own
 have d0 := hc9 0 _ rfl
 have d1 := hc9 1 _ rfl
 have d2 := hc9 2 _ rfl
 have d3 := hc9 3 _ rfl
 have d4 := hc9 4 _ rfl
 have d5 := hc9 5 _ rfl
 have d6 := hc9 6 _ rfl
 have d7 := hc9 7 _ rfl
 have d8 := hc9 8 _ rfl
 have f0 := hf9 (L.length * 9 + 0)
 have f1 := hf9 (L.length * 9 + 1)
 have f2 := hf9 (L.length * 9 + 2)
 have f3 := hf9 (L.length * 9 + 3)
 have f4 := hf9 (L.length * 9 + 4)
 have f5 := hf9 (L.length * 9 + 5)
 have f6 := hf9 (L.length * 9 + 6)
 have f7 := hf9 (L.length * 9 + 7)
 have f8 := hf9 (L.length * 9 + 8)
 have d0' := d0
 rw [Nat.add_zero] at d0' f0
 clear hc9 hf9 d0
 go_simp
 rw [nest_q]
 have HM8 := Lib.hid (HM.out.fill (y := ⟨oy, [q0, q1, q2, q3, q4, q5], vy, Ay, cy, ky⟩) (ga := ga) (list9 oy q0 q1 q2 q3 q4 q5 vy Ay ky.len cy) rfl (HYO.out w7 HA.out) HGG.out HGE.out)
 have HA8 := Lib.hid (HA.out.same (sets_far (fun e => HGG.out e.symm) [.int .i64 oy, .int .i64 q0, .int .i64 q1, .int .i64 q2, .int .i64 q3, .int .i64 q4, .int .i64 q5, .int .i64 vy, .slice Ay ky.len cy] w7 (L.length * 9)))
 have HK8 := Lib.hid (HK.out.trans (Kpt2_grow (Bn := (fun k => k = w.heap.size + 1 ∨ k = w.heap.size + 2)) (b := w2.heap.size) (e := g0 + 1) (sets_grown (w := w7) (g := gg) [.int .i64 oy, .int .i64 q0, .int .i64 q1, .int .i64 q2, .int .i64 q3, .int .i64 q4, .int .i64 q5, .int .i64 vy, .slice Ay ky.len cy] (L.length * 9)) (fun r hr => by injection hr with hr; have := HM.out.rowge; omega) (by have := HM.out.le; intro k hk; omega) HM.out.ge))
 obtain ⟨w8, hw8⟩ : ∃ w8, w8 = sets w7 gg (L.length * 9) [.int .i64 oy, .int .i64 q0, .int .i64 q1, .int .i64 q2, .int .i64 q3, .int .i64 q4, .int .i64 q5, .int .i64 vy, .slice Ay ky.len cy] := ⟨_, rfl⟩
 rw [← hw8] at HM8 HA8 HK8 ⊢
 clear hw8 HM HA HK
 have HM := HM8
 have HA := HA8
 have HK := HK8
 clear HM8 HA8 HK8
 refine hK.out _ _ ?_ (fun hHeld => ?_)
 · exact trivial
 clear d0' d1 d2 d3 d4 d5 d6 d7 d8 f0 f1 f2 f3 f4 f5 f6 f7 f8
 clear hK K
 (try simp only [Act.put, List.setIfInBounds_toArray, List.set_cons_zero, List.set_cons_succ])
 refine wpAnyH_ready (rs := [8]) (by kernel_rfl) (by simp) ?_
 refine AllReadyH.cons (o := { dst := none, op := Op.store 26 (Operand.tmp 3) (Operand.tmp 20), type := 0, pos := "expression.go:38", after := #[{ on := 5, ground := Ground.data }, { on := 5, ground := Ground.chain }, { on := 7, ground := Ground.textOnly Departure.appendInPlace }, { on := 0, ground := Ground.phase }, { on := 1, ground := Ground.phase }, { on := 2, ground := Ground.phase }, { on := 3, ground := Ground.phase }, { on := 4, ground := Ground.phase }, { on := 5, ground := Ground.phase }, { on := 6, ground := Ground.textOnly Departure.appendInPlace }, { on := 7, ground := Ground.textOnly Departure.appendInPlace }], guard := none }) rfl (fun K hK => ?_) AllReadyH.nil
 have cb := HM.out.bx.cell
 have fb := HM.out.bx.frozen
 go_simp
 have HM9 := Lib.hid (HM.out.box rfl)
 have HA9 := Lib.hid (HA.out.same (Below.heap_setCell w8 ⟨w.heap.size, 0, none⟩ (.slice (some ⟨gg, 0, none⟩) (L.length + 1) cp) ga (by have := HGE.out; have := HM.out.le; show ga ≠ w.heap.size; omega)))
 have HK9 := Lib.hid (HK.out.trans (Kpt2.setCell w8 (g := w.heap.size) 0 (.slice (some ⟨gg, 0, none⟩) (L.length + 1) cp) (by intro k hk; omega) (.inl (by omega))))
 obtain ⟨w9, hw9⟩ : ∃ w9, w9 = w8.setCell ⟨w.heap.size, 0, none⟩ (.slice (some ⟨gg, 0, none⟩) (L.length + 1) cp) := ⟨_, rfl⟩
 rw [← hw9] at HM9 HA9 HK9 ⊢
 clear hw9 HM HA HK
 have HM := HM9
 have HA := HA9
 have HK := HK9
 clear HM9 HA9 HK9
 refine hK.out _ _ ?_ (fun hHeld => ?_)
 · exact trivial
 clear cb fb
 clear hK K
 (try simp only [Act.put, List.setIfInBounds_toArray, List.set_cons_zero, List.set_cons_succ])
 refine wpAnyH_done (by kernel_rfl) ?_ _
 gi_wp2
 exact ⟨HK.out, _, _, HZS.out ▸ HM.out⟩
 }
 {
 have cb := HM.out.bx.cell
 have fb := HM.out.bx.frozen
 go_simp
 have HM9 := Lib.hid (HM.out.box rfl)
 have HA9 := Lib.hid (HA.out.same (Below.heap_setCell w7 ⟨w.heap.size, 0, none⟩ (.slice (some ⟨gg, 0, none⟩) (L.length + 1) cp) ga (by have := HGE.out; have := HM.out.le; show ga ≠ w.heap.size; omega)))
 have HK9 := Lib.hid (HK.out.trans (Kpt2.setCell w7 (g := w.heap.size) 0 (.slice (some ⟨gg, 0, none⟩) (L.length + 1) cp) (by intro k hk; omega) (.inl (by omega))))
 obtain ⟨w9, hw9⟩ : ∃ w9, w9 = w7.setCell ⟨w.heap.size, 0, none⟩ (.slice (some ⟨gg, 0, none⟩) (L.length + 1) cp) := ⟨_, rfl⟩
 rw [← hw9] at HM9 HA9 HK9 ⊢
 clear hw9 HM HA HK
 have HM := HM9
 have HA := HA9
 have HK := HK9
 clear HM9 HA9 HK9
 refine hK.out _ _ ?_ (fun hHeld => ?_)
 · exact trivial
 clear cb fb
 clear hK K
 (try simp only [Act.put, List.setIfInBounds_toArray, List.set_cons_zero, List.set_cons_succ])
 refine wpAnyH_ready (rs := [7]) (by kernel_rfl) (by simp) ?_
 refine AllReadyH.cons (o := { dst := none, op := Op.store 28 (Operand.tmp 21) (Operand.tmp 17), type := 0, pos := "expression.go:38", after := #[{ on := 6, ground := Ground.data }, { on := 2, ground := Ground.data }, { on := 5, ground := Ground.chain }, { on := 0, ground := Ground.phase }, { on := 1, ground := Ground.phase }, { on := 2, ground := Ground.phase }, { on := 3, ground := Ground.phase }, { on := 4, ground := Ground.phase }, { on := 5, ground := Ground.phase }, { on := 8, ground := Ground.gcOnly Departure.appendInPlace }], guard := none }) rfl (fun K hK => ?_) AllReadyH.nil
 obtain ⟨hc9, hf9⟩ := own_cells HM.out.own
 have d0 := hc9 0 _ rfl
 have d1 := hc9 1 _ rfl
 have d2 := hc9 2 _ rfl
 have d3 := hc9 3 _ rfl
 have d4 := hc9 4 _ rfl
 have d5 := hc9 5 _ rfl
 have d6 := hc9 6 _ rfl
 have d7 := hc9 7 _ rfl
 have d8 := hc9 8 _ rfl
 have f0 := hf9 (L.length * 9 + 0)
 have f1 := hf9 (L.length * 9 + 1)
 have f2 := hf9 (L.length * 9 + 2)
 have f3 := hf9 (L.length * 9 + 3)
 have f4 := hf9 (L.length * 9 + 4)
 have f5 := hf9 (L.length * 9 + 5)
 have f6 := hf9 (L.length * 9 + 6)
 have f7 := hf9 (L.length * 9 + 7)
 have f8 := hf9 (L.length * 9 + 8)
 have d0' := d0
 rw [Nat.add_zero] at d0' f0
 clear hc9 hf9 d0
 go_simp
 rw [nest_q]
 have HM8 := Lib.hid (HM.out.fill (y := ⟨oy, [q0, q1, q2, q3, q4, q5], vy, Ay, cy, ky⟩) (ga := ga) (list9 oy q0 q1 q2 q3 q4 q5 vy Ay ky.len cy) rfl (HYO.out w9 HA.out) HGG.out HGE.out)
 have HA8 := Lib.hid (HA.out.same (sets_far (fun e => HGG.out e.symm) [.int .i64 oy, .int .i64 q0, .int .i64 q1, .int .i64 q2, .int .i64 q3, .int .i64 q4, .int .i64 q5, .int .i64 vy, .slice Ay ky.len cy] w9 (L.length * 9)))
 have HK8 := Lib.hid (HK.out.trans (Kpt2_grow (Bn := (fun k => k = w.heap.size + 1 ∨ k = w.heap.size + 2)) (b := w2.heap.size) (e := g0 + 1) (sets_grown (w := w9) (g := gg) [.int .i64 oy, .int .i64 q0, .int .i64 q1, .int .i64 q2, .int .i64 q3, .int .i64 q4, .int .i64 q5, .int .i64 vy, .slice Ay ky.len cy] (L.length * 9)) (fun r hr => by injection hr with hr; have := HM.out.rowge; omega) (by have := HM.out.le; intro k hk; omega) HM.out.ge))
 obtain ⟨w8, hw8⟩ : ∃ w8, w8 = sets w9 gg (L.length * 9) [.int .i64 oy, .int .i64 q0, .int .i64 q1, .int .i64 q2, .int .i64 q3, .int .i64 q4, .int .i64 q5, .int .i64 vy, .slice Ay ky.len cy] := ⟨_, rfl⟩
 rw [← hw8] at HM8 HA8 HK8 ⊢
 clear hw8 HM HA HK
 have HM := HM8
 have HA := HA8
 have HK := HK8
 clear HM8 HA8 HK8
 refine hK.out _ _ ?_ (fun hHeld => ?_)
 · exact trivial
 clear d0' d1 d2 d3 d4 d5 d6 d7 d8 f0 f1 f2 f3 f4 f5 f6 f7 f8
 clear hK K
 (try simp only [Act.put, List.setIfInBounds_toArray, List.set_cons_zero, List.set_cons_succ])
 refine wpAnyH_done (by kernel_rfl) ?_ _
 gi_wp2
 exact ⟨HK.out, _, _, HZS.out ▸ HM.out⟩
 }
 }
 }
    {
 go_simp
 refine (CE.out Y HA.out).mono ?_
 rintro ev w5 ⟨rfl, nb⟩
 have HM5 := Lib.hid (HM.out.keep nb)
 have HA5 := Lib.hid (HA.out.same (nb.block ga HA.out.lt))
 have HK5 := Lib.hid (HK.out.trans (Kpt2.below (Bn := (fun k => k = w.heap.size + 1 ∨ k = w.heap.size + 2)) (b := w2.heap.size) (e := g0 + 1) nb (by have := HM.out.ge; have := HM.out.le; intro k hk; omega) HM.out.ge))
 clear nb HM HA HK
 have HM := HM5
 have HA := HA5
 have HK := HK5
 clear HM5 HA5 HK5
 refine hK.out _ _ ?_ (fun hHeld => ?_)
 · exact trivial
 clear hK K
 (try simp only [Act.put, List.setIfInBounds_toArray, List.set_cons_zero, List.set_cons_succ])
 refine wpAnyH_ready (rs := [0, 4]) (by kernel_rfl) (by simp) ?_
 refine AllReadyH.cons (o := { dst := some 15, op := Op.load 26 (Operand.tmp 3), type := 26, pos := "expression.go:38", after := #[], guard := none }) rfl (fun K hK => ?_) (AllReadyH.cons (o := { dst := some 19, op := Op.buildSlice 26 1 #[(0, Operand.const (Value.agg #[Value.int IntKind.i64 0, Value.int IntKind.i64 0, Value.int IntKind.i64 0, Value.int IntKind.i64 0, Value.int IntKind.i64 0, Value.int IntKind.i64 0, Value.int IntKind.i64 0, Value.int IntKind.i64 0, Value.slice none 0 0]))], type := 26, pos := "expression.go:38", after := #[], guard := none }) rfl (fun K hK => ?_) AllReadyH.nil)
 {
 have hbx := HM.out.bx.cell
 go_simp
 refine hK.out _ _ ?_ (fun hHeld => ?_)
 · exact trivial
 clear hbx
 clear hK K
 (try simp only [Act.put, List.setIfInBounds_toArray, List.set_cons_zero, List.set_cons_succ])
 refine wpAnyH_take (i := 3) (oi := { dst := some 18, op := Op.call { callee := Callee.builtin Builtin.len, args := #[Operand.tmp 15], argTypes := #[26] }, type := 3, pos := "expression.go:38", after := #[{ on := 0, ground := Ground.data }], guard := none }) (v := ?_) rfl (by kernel_rfl) (by kernel_rfl) (by kernel_rfl) (fun _ _ _ h => h) (Or.inl ⟨by rfl, ?_⟩) (by assumption) ?_
 rotate_left
 · intro w hSw; (try dsimp only at hSw); have hLL : ((L.length : Int) < (L.length : Int) + 1) := (by omega); go_simp; try with_reducible rfl
 (try simp only [Act.put, List.setIfInBounds_toArray, List.set_cons_zero, List.set_cons_succ])
 refine wpAnyH_ready (rs := [4]) (by kernel_rfl) (by simp) ?_
 refine AllReadyH.cons (o := { dst := some 19, op := Op.buildSlice 26 1 #[(0, Operand.const (Value.agg #[Value.int IntKind.i64 0, Value.int IntKind.i64 0, Value.int IntKind.i64 0, Value.int IntKind.i64 0, Value.int IntKind.i64 0, Value.int IntKind.i64 0, Value.int IntKind.i64 0, Value.int IntKind.i64 0, Value.slice none 0 0]))], type := 26, pos := "expression.go:38", after := #[], guard := none }) rfl (fun K hK => ?_) AllReadyH.nil
 go_simp
 have nb := below_new w5 (.cells #[.int .i64 0, .int .i64 0, .int .i64 0, .int .i64 0, .int .i64 0, .int .i64 0, .int .i64 0, .int .i64 0, .slice none 0 0] 28)
 have HZ := Lib.hid (heap_new w5 (.cells #[.int .i64 0, .int .i64 0, .int .i64 0, .int .i64 0, .int .i64 0, .int .i64 0, .int .i64 0, .int .i64 0, .slice none 0 0] 28))
 have HM6 := Lib.hid (HM.out.keep nb)
 have HA6 := Lib.hid (HA.out.same (nb.block ga HA.out.lt))
 have HK6 := Lib.hid (HK.out.trans (Kpt2.below (Bn := (fun k => k = w.heap.size + 1 ∨ k = w.heap.size + 2)) (b := w2.heap.size) (e := g0 + 1) nb (by have := HM.out.ge; have := HM.out.le; intro k hk; omega) HM.out.ge))
 clear nb HM HA HK
 have HM := HM6
 have HA := HA6
 have HK := HK6
 clear HM6 HA6 HK6
 obtain ⟨w6, hw6⟩ : ∃ w6, w6 = w5.alloc (.cells #[.int .i64 0, .int .i64 0, .int .i64 0, .int .i64 0, .int .i64 0, .int .i64 0, .int .i64 0, .int .i64 0, .slice none 0 0] 28) := ⟨_, rfl⟩
 rw [← hw6] at HZ HM HA HK ⊢
 clear hw6
 obtain ⟨Bz, hBz⟩ : ∃ Bz, Bz = w5.heap.size := ⟨_, rfl⟩
 rw [← hBz] at HZ ⊢
 clear hBz
 refine hK.out _ _ ?_ (fun hHeld => ?_)
 · exact trivial
 clear hK K
 (try simp only [Act.put, List.setIfInBounds_toArray, List.set_cons_zero, List.set_cons_succ])
 refine wpAnyH_ready (rs := [5]) (by kernel_rfl) (by simp) ?_
 refine AllReadyH.cons (o := { dst := some 20, op := Op.call { callee := Callee.builtin Builtin.append, args := #[Operand.tmp 15, Operand.tmp 19], argTypes := #[26, 26] }, type := 26, pos := "expression.go:38", after := #[{ on := 0, ground := Ground.data }, { on := 4, ground := Ground.data }, { on := 2, ground := Ground.chain }, { on := 0, ground := Ground.phase }, { on := 1, ground := Ground.phase }, { on := 2, ground := Ground.phase }, { on := 3, ground := Ground.phase }, { on := 4, ground := Ground.phase }], guard := none }) rfl (fun K hK => ?_) AllReadyH.nil
 have hfew := HFW.out
 refine step_append_lies _ (by rfl) _ _ _ (by rfl) (g0 + 1) 28 i0 (.agg #[.int .i64 0, .int .i64 0, .int .i64 0, .int .i64 0, .int .i64 0, .int .i64 0, .int .i64 0, .int .i64 0, .slice none 0 0]) 9 88 Try.underlying26 hi hz0 hz1 hz2 rfl (by decide) _ _ _ (by rfl) HM.out.own.1 ⟨Bz, 0, none⟩ 1 1 [.int .i64 0, .int .i64 0, .int .i64 0, .int .i64 0, .int .i64 0, .int .i64 0, .int .i64 0, .int .i64 0, .slice none 0 0] (by rfl) rfl ?c1 ?c2 (by decide) ?c4 ?c5 ?c6 _ rfl ?_
 case c1 => exact World.news_of_block HZ.out
 case c2 => exact ntE.one ntZ
 case c4 => unfold maxLen; omega
 case c5 => omega
 case c6 => exact HM.out.ge
 intro gg cp w7 hown hgrow hat hlt7
 have HM7 := Lib.hid (HM.out.app hown hgrow hat HFW.out)
 have HGG := Lib.hid (show gg ≠ ga from fun e => by rcases hat with p | p; (exact HGA.out (p.trans (by rw [e]))); (have := HA.out.lt; omega))
 have HA7 := Lib.hid (HA.out.same (hgrow.block ga HA.out.lt (fun e => HGA.out e.symm)))
 have HK7 := Lib.hid (HK.out.trans (Kpt2_grow (Bn := (fun k => k = w.heap.size + 1 ∨ k = w.heap.size + 2)) (b := w2.heap.size) (e := g0 + 1) hgrow (fun r hr => (World.ownsRow.lt HM.out.own.1 r hr).1) (by have := HM.out.le; intro k hk; omega) HM.out.ge))
 clear hown hgrow hat hlt7 HZ HM HA HK
 have HM := HM7
 have HA := HA7
 have HK := HK7
 clear HM7 HA7 HK7
 refine hK.out _ _ ?_ (fun hHeld => ?_)
 · exact trivial
 clear hK K
 (try simp only [Act.put, List.setIfInBounds_toArray, List.set_cons_zero, List.set_cons_succ])
 refine wpAnyH_take (i := 6) (oi := { dst := some 21, op := Op.indexAddr 26 (Operand.tmp 20) (Operand.tmp 18), type := 0, pos := "expression.go:38", after := #[{ on := 5, ground := Ground.data }, { on := 3, ground := Ground.data }, { on := 0, ground := Ground.phase }, { on := 1, ground := Ground.phase }, { on := 2, ground := Ground.phase }, { on := 3, ground := Ground.phase }, { on := 4, ground := Ground.phase }, { on := 5, ground := Ground.phase }, { on := 8, ground := Ground.gcOnly Departure.appendInPlace }], guard := none }) (v := ?_) rfl (by kernel_rfl) (by kernel_rfl) (by kernel_rfl) (fun _ _ _ h => h) (Or.inl ⟨by rfl, ?_⟩) (by assumption) ?_
 rotate_left
 · intro w hSw; (try dsimp only at hSw); have hLL : ((L.length : Int) < (L.length : Int) + 1) := (by omega); go_simp; try with_reducible rfl
 (try simp only [Act.put, List.setIfInBounds_toArray, List.set_cons_zero, List.set_cons_succ])
 refine wpAnyH_ready (rs := [7, 8]) (by kernel_rfl) (by simp) ?_
 refine AllReadyH.cons (o := { dst := none, op := Op.store 28 (Operand.tmp 21) (Operand.tmp 17), type := 0, pos := "expression.go:38", after := #[{ on := 6, ground := Ground.data }, { on := 2, ground := Ground.data }, { on := 5, ground := Ground.chain }, { on := 0, ground := Ground.phase }, { on := 1, ground := Ground.phase }, { on := 2, ground := Ground.phase }, { on := 3, ground := Ground.phase }, { on := 4, ground := Ground.phase }, { on := 5, ground := Ground.phase }, { on := 8, ground := Ground.gcOnly Departure.appendInPlace }], guard := none }) rfl (fun K hK => ?_) (AllReadyH.cons (o := { dst := none, op := Op.store 26 (Operand.tmp 3) (Operand.tmp 20), type := 0, pos := "expression.go:38", after := #[{ on := 5, ground := Ground.data }, { on := 5, ground := Ground.chain }, { on := 7, ground := Ground.textOnly Departure.appendInPlace }, { on := 0, ground := Ground.phase }, { on := 1, ground := Ground.phase }, { on := 2, ground := Ground.phase }, { on := 3, ground := Ground.phase }, { on := 4, ground := Ground.phase }, { on := 5, ground := Ground.phase }, { on := 6, ground := Ground.textOnly Departure.appendInPlace }, { on := 7, ground := Ground.textOnly Departure.appendInPlace }], guard := none }) rfl (fun K hK => ?_) AllReadyH.nil)
 {
 obtain ⟨hc9, hf9⟩ := own_cells HM.out.own
 have d0 := hc9 0 _ rfl
 have d1 := hc9 1 _ rfl
 have d2 := hc9 2 _ rfl
 have d3 := hc9 3 _ rfl
 have d4 := hc9 4 _ rfl
 have d5 := hc9 5 _ rfl
 have d6 := hc9 6 _ rfl
 have d7 := hc9 7 _ rfl
 have d8 := hc9 8 _ rfl
 have f0 := hf9 (L.length * 9 + 0)
 have f1 := hf9 (L.length * 9 + 1)
 have f2 := hf9 (L.length * 9 + 2)
 have f3 := hf9 (L.length * 9 + 3)
 have f4 := hf9 (L.length * 9 + 4)
 have f5 := hf9 (L.length * 9 + 5)
 have f6 := hf9 (L.length * 9 + 6)
 have f7 := hf9 (L.length * 9 + 7)
 have f8 := hf9 (L.length * 9 + 8)
 have d0' := d0
 rw [Nat.add_zero] at d0' f0
 clear hc9 hf9 d0
 go_simp
 rw [nest_q]
 have HM8 := Lib.hid (HM.out.fill (y := ⟨oy, [q0, q1, q2, q3, q4, q5], vy, Ay, cy, ky⟩) (ga := ga) (list9 oy q0 q1 q2 q3 q4 q5 vy Ay ky.len cy) rfl (HYO.out w7 HA.out) HGG.out HGE.out)
 have HA8 := Lib.hid (HA.out.same (sets_far (fun e => HGG.out e.symm) [.int .i64 oy, .int .i64 q0, .int .i64 q1, .int .i64 q2, .int .i64 q3, .int .i64 q4, .int .i64 q5, .int .i64 vy, .slice Ay ky.len cy] w7 (L.length * 9)))
 have HK8 := Lib.hid (HK.out.trans (Kpt2_grow (Bn := (fun k => k = w.heap.size + 1 ∨ k = w.heap.size + 2)) (b := w2.heap.size) (e := g0 + 1) (sets_grown (w := w7) (g := gg) [.int .i64 oy, .int .i64 q0, .int .i64 q1, .int .i64 q2, .int .i64 q3, .int .i64 q4, .int .i64 q5, .int .i64 vy, .slice Ay ky.len cy] (L.length * 9)) (fun r hr => by injection hr with hr; have := HM.out.rowge; omega) (by have := HM.out.le; intro k hk; omega) HM.out.ge))
 obtain ⟨w8, hw8⟩ : ∃ w8, w8 = sets w7 gg (L.length * 9) [.int .i64 oy, .int .i64 q0, .int .i64 q1, .int .i64 q2, .int .i64 q3, .int .i64 q4, .int .i64 q5, .int .i64 vy, .slice Ay ky.len cy] := ⟨_, rfl⟩
 rw [← hw8] at HM8 HA8 HK8 ⊢
 clear hw8 HM HA HK
 have HM := HM8
 have HA := HA8
 have HK := HK8
 clear HM8 HA8 HK8
 refine hK.out _ _ ?_ (fun hHeld => ?_)
 · exact trivial
 clear d0' d1 d2 d3 d4 d5 d6 d7 d8 f0 f1 f2 f3 f4 f5 f6 f7 f8
 clear hK K
 (try simp only [Act.put, List.setIfInBounds_toArray, List.set_cons_zero, List.set_cons_succ])
 refine wpAnyH_ready (rs := [8]) (by kernel_rfl) (by simp) ?_
 refine AllReadyH.cons (o := { dst := none, op := Op.store 26 (Operand.tmp 3) (Operand.tmp 20), type := 0, pos := "expression.go:38", after := #[{ on := 5, ground := Ground.data }, { on := 5, ground := Ground.chain }, { on := 7, ground := Ground.textOnly Departure.appendInPlace }, { on := 0, ground := Ground.phase }, { on := 1, ground := Ground.phase }, { on := 2, ground := Ground.phase }, { on := 3, ground := Ground.phase }, { on := 4, ground := Ground.phase }, { on := 5, ground := Ground.phase }, { on := 6, ground := Ground.textOnly Departure.appendInPlace }, { on := 7, ground := Ground.textOnly Departure.appendInPlace }], guard := none }) rfl (fun K hK => ?_) AllReadyH.nil
 have cb := HM.out.bx.cell
 have fb := HM.out.bx.frozen
 go_simp
 have HM9 := Lib.hid (HM.out.box rfl)
 have HA9 := Lib.hid (HA.out.same (Below.heap_setCell w8 ⟨w.heap.size, 0, none⟩ (.slice (some ⟨gg, 0, none⟩) (L.length + 1) cp) ga (by have := HGE.out; have := HM.out.le; show ga ≠ w.heap.size; omega)))
 have HK9 := Lib.hid (HK.out.trans (Kpt2.setCell w8 (g := w.heap.size) 0 (.slice (some ⟨gg, 0, none⟩) (L.length + 1) cp) (by intro k hk; omega) (.inl (by omega))))
 obtain ⟨w9, hw9⟩ : ∃ w9, w9 = w8.setCell ⟨w.heap.size, 0, none⟩ (.slice (some ⟨gg, 0, none⟩) (L.length + 1) cp) := ⟨_, rfl⟩
 rw [← hw9] at HM9 HA9 HK9 ⊢
 clear hw9 HM HA HK
 have HM := HM9
 have HA := HA9
 have HK := HK9
 clear HM9 HA9 HK9
 refine hK.out _ _ ?_ (fun hHeld => ?_)
 · exact trivial
 clear cb fb
 clear hK K
 (try simp only [Act.put, List.setIfInBounds_toArray, List.set_cons_zero, List.set_cons_succ])
 refine wpAnyH_done (by kernel_rfl) ?_ _
 gi_wp2
 exact ⟨HK.out, _, _, HZS.out ▸ HM.out⟩
 }
 {
 have cb := HM.out.bx.cell
 have fb := HM.out.bx.frozen
 go_simp
 have HM9 := Lib.hid (HM.out.box rfl)
 have HA9 := Lib.hid (HA.out.same (Below.heap_setCell w7 ⟨w.heap.size, 0, none⟩ (.slice (some ⟨gg, 0, none⟩) (L.length + 1) cp) ga (by have := HGE.out; have := HM.out.le; show ga ≠ w.heap.size; omega)))
 have HK9 := Lib.hid (HK.out.trans (Kpt2.setCell w7 (g := w.heap.size) 0 (.slice (some ⟨gg, 0, none⟩) (L.length + 1) cp) (by intro k hk; omega) (.inl (by omega))))
 obtain ⟨w9, hw9⟩ : ∃ w9, w9 = w7.setCell ⟨w.heap.size, 0, none⟩ (.slice (some ⟨gg, 0, none⟩) (L.length + 1) cp) := ⟨_, rfl⟩
 rw [← hw9] at HM9 HA9 HK9 ⊢
 clear hw9 HM HA HK
 have HM := HM9
 have HA := HA9
 have HK := HK9
 clear HM9 HA9 HK9
 refine hK.out _ _ ?_ (fun hHeld => ?_)
 · exact trivial
 clear cb fb
 clear hK K
 (try simp only [Act.put, List.setIfInBounds_toArray, List.set_cons_zero, List.set_cons_succ])
 refine wpAnyH_ready (rs := [7]) (by kernel_rfl) (by simp) ?_
 refine AllReadyH.cons (o := { dst := none, op := Op.store 28 (Operand.tmp 21) (Operand.tmp 17), type := 0, pos := "expression.go:38", after := #[{ on := 6, ground := Ground.data }, { on := 2, ground := Ground.data }, { on := 5, ground := Ground.chain }, { on := 0, ground := Ground.phase }, { on := 1, ground := Ground.phase }, { on := 2, ground := Ground.phase }, { on := 3, ground := Ground.phase }, { on := 4, ground := Ground.phase }, { on := 5, ground := Ground.phase }, { on := 8, ground := Ground.gcOnly Departure.appendInPlace }], guard := none }) rfl (fun K hK => ?_) AllReadyH.nil
 obtain ⟨hc9, hf9⟩ := own_cells HM.out.own
 have d0 := hc9 0 _ rfl
 have d1 := hc9 1 _ rfl
 have d2 := hc9 2 _ rfl
 have d3 := hc9 3 _ rfl
 have d4 := hc9 4 _ rfl
 have d5 := hc9 5 _ rfl
 have d6 := hc9 6 _ rfl
 have d7 := hc9 7 _ rfl
 have d8 := hc9 8 _ rfl
 have f0 := hf9 (L.length * 9 + 0)
 have f1 := hf9 (L.length * 9 + 1)
 have f2 := hf9 (L.length * 9 + 2)
 have f3 := hf9 (L.length * 9 + 3)
 have f4 := hf9 (L.length * 9 + 4)
 have f5 := hf9 (L.length * 9 + 5)
 have f6 := hf9 (L.length * 9 + 6)
 have f7 := hf9 (L.length * 9 + 7)
 have f8 := hf9 (L.length * 9 + 8)
 have d0' := d0
 rw [Nat.add_zero] at d0' f0
 clear hc9 hf9 d0
 go_simp
 rw [nest_q]
 have HM8 := Lib.hid (HM.out.fill (y := ⟨oy, [q0, q1, q2, q3, q4, q5], vy, Ay, cy, ky⟩) (ga := ga) (list9 oy q0 q1 q2 q3 q4 q5 vy Ay ky.len cy) rfl (HYO.out w9 HA.out) HGG.out HGE.out)
 have HA8 := Lib.hid (HA.out.same (sets_far (fun e => HGG.out e.symm) [.int .i64 oy, .int .i64 q0, .int .i64 q1, .int .i64 q2, .int .i64 q3, .int .i64 q4, .int .i64 q5, .int .i64 vy, .slice Ay ky.len cy] w9 (L.length * 9)))
 have HK8 := Lib.hid (HK.out.trans (Kpt2_grow (Bn := (fun k => k = w.heap.size + 1 ∨ k = w.heap.size + 2)) (b := w2.heap.size) (e := g0 + 1) (sets_grown (w := w9) (g := gg) [.int .i64 oy, .int .i64 q0, .int .i64 q1, .int .i64 q2, .int .i64 q3, .int .i64 q4, .int .i64 q5, .int .i64 vy, .slice Ay ky.len cy] (L.length * 9)) (fun r hr => by injection hr with hr; have := HM.out.rowge; omega) (by have := HM.out.le; intro k hk; omega) HM.out.ge))
 obtain ⟨w8, hw8⟩ : ∃ w8, w8 = sets w9 gg (L.length * 9) [.int .i64 oy, .int .i64 q0, .int .i64 q1, .int .i64 q2, .int .i64 q3, .int .i64 q4, .int .i64 q5, .int .i64 vy, .slice Ay ky.len cy] := ⟨_, rfl⟩
 rw [← hw8] at HM8 HA8 HK8 ⊢
 clear hw8 HM HA HK
 have HM := HM8
 have HA := HA8
 have HK := HK8
 clear HM8 HA8 HK8
 refine hK.out _ _ ?_ (fun hHeld => ?_)
 · exact trivial
 clear d0' d1 d2 d3 d4 d5 d6 d7 d8 f0 f1 f2 f3 f4 f5 f6 f7 f8
 clear hK K
 (try simp only [Act.put, List.setIfInBounds_toArray, List.set_cons_zero, List.set_cons_succ])
 refine wpAnyH_done (by kernel_rfl) ?_ _
 gi_wp2
 exact ⟨HK.out, _, _, HZS.out ▸ HM.out⟩
 }
 }
 {
 go_simp
 have nb := below_new w5 (.cells #[.int .i64 0, .int .i64 0, .int .i64 0, .int .i64 0, .int .i64 0, .int .i64 0, .int .i64 0, .int .i64 0, .slice none 0 0] 28)
 have HZ := Lib.hid (heap_new w5 (.cells #[.int .i64 0, .int .i64 0, .int .i64 0, .int .i64 0, .int .i64 0, .int .i64 0, .int .i64 0, .int .i64 0, .slice none 0 0] 28))
 have HM6 := Lib.hid (HM.out.keep nb)
 have HA6 := Lib.hid (HA.out.same (nb.block ga HA.out.lt))
 have HK6 := Lib.hid (HK.out.trans (Kpt2.below (Bn := (fun k => k = w.heap.size + 1 ∨ k = w.heap.size + 2)) (b := w2.heap.size) (e := g0 + 1) nb (by have := HM.out.ge; have := HM.out.le; intro k hk; omega) HM.out.ge))
 clear nb HM HA HK
 have HM := HM6
 have HA := HA6
 have HK := HK6
 clear HM6 HA6 HK6
 obtain ⟨w6, hw6⟩ : ∃ w6, w6 = w5.alloc (.cells #[.int .i64 0, .int .i64 0, .int .i64 0, .int .i64 0, .int .i64 0, .int .i64 0, .int .i64 0, .int .i64 0, .slice none 0 0] 28) := ⟨_, rfl⟩
 rw [← hw6] at HZ HM HA HK ⊢
 clear hw6
 obtain ⟨Bz, hBz⟩ : ∃ Bz, Bz = w5.heap.size := ⟨_, rfl⟩
 rw [← hBz] at HZ ⊢
 clear hBz
 refine hK.out _ _ ?_ (fun hHeld => ?_)
 · exact trivial
 clear hK K
 (try simp only [Act.put, List.setIfInBounds_toArray, List.set_cons_zero, List.set_cons_succ])
 refine wpAnyH_ready (rs := [0]) (by kernel_rfl) (by simp) ?_
 refine AllReadyH.cons (o := { dst := some 15, op := Op.load 26 (Operand.tmp 3), type := 26, pos := "expression.go:38", after := #[], guard := none }) rfl (fun K hK => ?_) AllReadyH.nil
 have hbx := HM.out.bx.cell
 go_simp
 refine hK.out _ _ ?_ (fun hHeld => ?_)
 · exact trivial
 clear hbx
 clear hK K
 (try simp only [Act.put, List.setIfInBounds_toArray, List.set_cons_zero, List.set_cons_succ])
 refine wpAnyH_take (i := 3) (oi := { dst := some 18, op := Op.call { callee := Callee.builtin Builtin.len, args := #[Operand.tmp 15], argTypes := #[26] }, type := 3, pos := "expression.go:38", after := #[{ on := 0, ground := Ground.data }], guard := none }) (v := ?_) rfl (by kernel_rfl) (by kernel_rfl) (by kernel_rfl) (fun _ _ _ h => h) (Or.inl ⟨by rfl, ?_⟩) (by assumption) ?_
 rotate_left
 · intro w hSw; (try dsimp only at hSw); have hLL : ((L.length : Int) < (L.length : Int) + 1) := (by omega); go_simp; try with_reducible rfl
 (try simp only [Act.put, List.setIfInBounds_toArray, List.set_cons_zero, List.set_cons_succ])
 refine wpAnyH_ready (rs := [5]) (by kernel_rfl) (by simp) ?_
 refine AllReadyH.cons (o := { dst := some 20, op := Op.call { callee := Callee.builtin Builtin.append, args := #[Operand.tmp 15, Operand.tmp 19], argTypes := #[26, 26] }, type := 26, pos := "expression.go:38", after := #[{ on := 0, ground := Ground.data }, { on := 4, ground := Ground.data }, { on := 2, ground := Ground.chain }, { on := 0, ground := Ground.phase }, { on := 1, ground := Ground.phase }, { on := 2, ground := Ground.phase }, { on := 3, ground := Ground.phase }, { on := 4, ground := Ground.phase }], guard := none }) rfl (fun K hK => ?_) AllReadyH.nil
 have hfew := HFW.out
 refine step_append_lies _ (by rfl) _ _ _ (by rfl) (g0 + 1) 28 i0 (.agg #[.int .i64 0, .int .i64 0, .int .i64 0, .int .i64 0, .int .i64 0, .int .i64 0, .int .i64 0, .int .i64 0, .slice none 0 0]) 9 88 Try.underlying26 hi hz0 hz1 hz2 rfl (by decide) _ _ _ (by rfl) HM.out.own.1 ⟨Bz, 0, none⟩ 1 1 [.int .i64 0, .int .i64 0, .int .i64 0, .int .i64 0, .int .i64 0, .int .i64 0, .int .i64 0, .int .i64 0, .slice none 0 0] (by rfl) rfl ?c1 ?c2 (by decide) ?c4 ?c5 ?c6 _ rfl ?_
 case c1 => exact World.news_of_block HZ.out
 case c2 => exact ntE.one ntZ
 case c4 => unfold maxLen; omega
 case c5 => omega
 case c6 => exact HM.out.ge
 intro gg cp w7 hown hgrow hat hlt7
 have HM7 := Lib.hid (HM.out.app hown hgrow hat HFW.out)
 have HGG := Lib.hid (show gg ≠ ga from fun e => by rcases hat with p | p; (exact HGA.out (p.trans (by rw [e]))); (have := HA.out.lt; omega))
 have HA7 := Lib.hid (HA.out.same (hgrow.block ga HA.out.lt (fun e => HGA.out e.symm)))
 have HK7 := Lib.hid (HK.out.trans (Kpt2_grow (Bn := (fun k => k = w.heap.size + 1 ∨ k = w.heap.size + 2)) (b := w2.heap.size) (e := g0 + 1) hgrow (fun r hr => (World.ownsRow.lt HM.out.own.1 r hr).1) (by have := HM.out.le; intro k hk; omega) HM.out.ge))
 clear hown hgrow hat hlt7 HZ HM HA HK
 have HM := HM7
 have HA := HA7
 have HK := HK7
 clear HM7 HA7 HK7
 refine hK.out _ _ ?_ (fun hHeld => ?_)
 · exact trivial
 clear hK K
 (try simp only [Act.put, List.setIfInBounds_toArray, List.set_cons_zero, List.set_cons_succ])
 refine wpAnyH_take (i := 6) (oi := { dst := some 21, op := Op.indexAddr 26 (Operand.tmp 20) (Operand.tmp 18), type := 0, pos := "expression.go:38", after := #[{ on := 5, ground := Ground.data }, { on := 3, ground := Ground.data }, { on := 0, ground := Ground.phase }, { on := 1, ground := Ground.phase }, { on := 2, ground := Ground.phase }, { on := 3, ground := Ground.phase }, { on := 4, ground := Ground.phase }, { on := 5, ground := Ground.phase }, { on := 8, ground := Ground.gcOnly Departure.appendInPlace }], guard := none }) (v := ?_) rfl (by kernel_rfl) (by kernel_rfl) (by kernel_rfl) (fun _ _ _ h => h) (Or.inl ⟨by rfl, ?_⟩) (by assumption) ?_
 rotate_left
 · intro w hSw; (try dsimp only at hSw); have hLL : ((L.length : Int) < (L.length : Int) + 1) := (by omega); go_simp; try with_reducible rfl
 (try simp only [Act.put, List.setIfInBounds_toArray, List.set_cons_zero, List.set_cons_succ])
 refine wpAnyH_ready (rs := [7, 8]) (by kernel_rfl) (by simp) ?_
 refine AllReadyH.cons (o := { dst := none, op := Op.store 28 (Operand.tmp 21) (Operand.tmp 17), type := 0, pos := "expression.go:38", after := #[{ on := 6, ground := Ground.data }, { on := 2, ground := Ground.data }, { on := 5, ground := Ground.chain }, { on := 0, ground := Ground.phase }, { on := 1, ground := Ground.phase }, { on := 2, ground := Ground.phase }, { on := 3, ground := Ground.phase }, { on := 4, ground := Ground.phase }, { on := 5, ground := Ground.phase }, { on := 8, ground := Ground.gcOnly Departure.appendInPlace }], guard := none }) rfl (fun K hK => ?_) (AllReadyH.cons (o := { dst := none, op := Op.store 26 (Operand.tmp 3) (Operand.tmp 20), type := 0, pos := "expression.go:38", after := #[{ on := 5, ground := Ground.data }, { on := 5, ground := Ground.chain }, { on := 7, ground := Ground.textOnly Departure.appendInPlace }, { on := 0, ground := Ground.phase }, { on := 1, ground := Ground.phase }, { on := 2, ground := Ground.phase }, { on := 3, ground := Ground.phase }, { on := 4, ground := Ground.phase }, { on := 5, ground := Ground.phase }, { on := 6, ground := Ground.textOnly Departure.appendInPlace }, { on := 7, ground := Ground.textOnly Departure.appendInPlace }], guard := none }) rfl (fun K hK => ?_) AllReadyH.nil)
 {
 obtain ⟨hc9, hf9⟩ := own_cells HM.out.own
 have d0 := hc9 0 _ rfl
 have d1 := hc9 1 _ rfl
 have d2 := hc9 2 _ rfl
 have d3 := hc9 3 _ rfl
 have d4 := hc9 4 _ rfl
 have d5 := hc9 5 _ rfl
 have d6 := hc9 6 _ rfl
 have d7 := hc9 7 _ rfl
 have d8 := hc9 8 _ rfl
 have f0 := hf9 (L.length * 9 + 0)
 have f1 := hf9 (L.length * 9 + 1)
 have f2 := hf9 (L.length * 9 + 2)
 have f3 := hf9 (L.length * 9 + 3)
 have f4 := hf9 (L.length * 9 + 4)
 have f5 := hf9 (L.length * 9 + 5)
 have f6 := hf9 (L.length * 9 + 6)
 have f7 := hf9 (L.length * 9 + 7)
 have f8 := hf9 (L.length * 9 + 8)
 have d0' := d0
 rw [Nat.add_zero] at d0' f0
 clear hc9 hf9 d0
 go_simp
 rw [nest_q]
 have HM8 := Lib.hid (HM.out.fill (y := ⟨oy, [q0, q1, q2, q3, q4, q5], vy, Ay, cy, ky⟩) (ga := ga) (list9 oy q0 q1 q2 q3 q4 q5 vy Ay ky.len cy) rfl (HYO.out w7 HA.out) HGG.out HGE.out)
 have HA8 := Lib.hid (HA.out.same (sets_far (fun e => HGG.out e.symm) [.int .i64 oy, .int .i64 q0, .int .i64 q1, .int .i64 q2, .int .i64 q3, .int .i64 q4, .int .i64 q5, .int .i64 vy, .slice Ay ky.len cy] w7 (L.length * 9)))
 have HK8 := Lib.hid (HK.out.trans (Kpt2_grow (Bn := (fun k => k = w.heap.size + 1 ∨ k = w.heap.size + 2)) (b := w2.heap.size) (e := g0 + 1) (sets_grown (w := w7) (g := gg) [.int .i64 oy, .int .i64 q0, .int .i64 q1, .int .i64 q2, .int .i64 q3, .int .i64 q4, .int .i64 q5, .int .i64 vy, .slice Ay ky.len cy] (L.length * 9)) (fun r hr => by injection hr with hr; have := HM.out.rowge; omega) (by have := HM.out.le; intro k hk; omega) HM.out.ge))
 obtain ⟨w8, hw8⟩ : ∃ w8, w8 = sets w7 gg (L.length * 9) [.int .i64 oy, .int .i64 q0, .int .i64 q1, .int .i64 q2, .int .i64 q3, .int .i64 q4, .int .i64 q5, .int .i64 vy, .slice Ay ky.len cy] := ⟨_, rfl⟩
 rw [← hw8] at HM8 HA8 HK8 ⊢
 clear hw8 HM HA HK
 have HM := HM8
 have HA := HA8
 have HK := HK8
 clear HM8 HA8 HK8
 refine hK.out _ _ ?_ (fun hHeld => ?_)
 · exact trivial
 clear d0' d1 d2 d3 d4 d5 d6 d7 d8 f0 f1 f2 f3 f4 f5 f6 f7 f8
 clear hK K
 (try simp only [Act.put, List.setIfInBounds_toArray, List.set_cons_zero, List.set_cons_succ])
 refine wpAnyH_ready (rs := [8]) (by kernel_rfl) (by simp) ?_
 refine AllReadyH.cons (o := { dst := none, op := Op.store 26 (Operand.tmp 3) (Operand.tmp 20), type := 0, pos := "expression.go:38", after := #[{ on := 5, ground := Ground.data }, { on := 5, ground := Ground.chain }, { on := 7, ground := Ground.textOnly Departure.appendInPlace }, { on := 0, ground := Ground.phase }, { on := 1, ground := Ground.phase }, { on := 2, ground := Ground.phase }, { on := 3, ground := Ground.phase }, { on := 4, ground := Ground.phase }, { on := 5, ground := Ground.phase }, { on := 6, ground := Ground.textOnly Departure.appendInPlace }, { on := 7, ground := Ground.textOnly Departure.appendInPlace }], guard := none }) rfl (fun K hK => ?_) AllReadyH.nil
 have cb := HM.out.bx.cell
 have fb := HM.out.bx.frozen
 go_simp
 have HM9 := Lib.hid (HM.out.box rfl)
 have HA9 := Lib.hid (HA.out.same (Below.heap_setCell w8 ⟨w.heap.size, 0, none⟩ (.slice (some ⟨gg, 0, none⟩) (L.length + 1) cp) ga (by have := HGE.out; have := HM.out.le; show ga ≠ w.heap.size; omega)))
 have HK9 := Lib.hid (HK.out.trans (Kpt2.setCell w8 (g := w.heap.size) 0 (.slice (some ⟨gg, 0, none⟩) (L.length + 1) cp) (by intro k hk; omega) (.inl (by omega))))
 obtain ⟨w9, hw9⟩ : ∃ w9, w9 = w8.setCell ⟨w.heap.size, 0, none⟩ (.slice (some ⟨gg, 0, none⟩) (L.length + 1) cp) := ⟨_, rfl⟩
 rw [← hw9] at HM9 HA9 HK9 ⊢
 clear hw9 HM HA HK
 have HM := HM9
 have HA := HA9
 have HK := HK9
 clear HM9 HA9 HK9
 refine hK.out _ _ ?_ (fun hHeld => ?_)
 · exact trivial
 clear cb fb
 clear hK K
 (try simp only [Act.put, List.setIfInBounds_toArray, List.set_cons_zero, List.set_cons_succ])
 refine wpAnyH_done (by kernel_rfl) ?_ _
 gi_wp2
 exact ⟨HK.out, _, _, HZS.out ▸ HM.out⟩
 }
 {
 have cb := HM.out.bx.cell
 have fb := HM.out.bx.frozen
 go_simp
 have HM9 := Lib.hid (HM.out.box rfl)
 have HA9 := Lib.hid (HA.out.same (Below.heap_setCell w7 ⟨w.heap.size, 0, none⟩ (.slice (some ⟨gg, 0, none⟩) (L.length + 1) cp) ga (by have := HGE.out; have := HM.out.le; show ga ≠ w.heap.size; omega)))
 have HK9 := Lib.hid (HK.out.trans (Kpt2.setCell w7 (g := w.heap.size) 0 (.slice (some ⟨gg, 0, none⟩) (L.length + 1) cp) (by intro k hk; omega) (.inl (by omega))))
 obtain ⟨w9, hw9⟩ : ∃ w9, w9 = w7.setCell ⟨w.heap.size, 0, none⟩ (.slice (some ⟨gg, 0, none⟩) (L.length + 1) cp) := ⟨_, rfl⟩
 rw [← hw9] at HM9 HA9 HK9 ⊢
 clear hw9 HM HA HK
 have HM := HM9
 have HA := HA9
 have HK := HK9
 clear HM9 HA9 HK9
 refine hK.out _ _ ?_ (fun hHeld => ?_)
 · exact trivial
 clear cb fb
 clear hK K
 (try simp only [Act.put, List.setIfInBounds_toArray, List.set_cons_zero, List.set_cons_succ])
 refine wpAnyH_ready (rs := [7]) (by kernel_rfl) (by simp) ?_
 refine AllReadyH.cons (o := { dst := none, op := Op.store 28 (Operand.tmp 21) (Operand.tmp 17), type := 0, pos := "expression.go:38", after := #[{ on := 6, ground := Ground.data }, { on := 2, ground := Ground.data }, { on := 5, ground := Ground.chain }, { on := 0, ground := Ground.phase }, { on := 1, ground := Ground.phase }, { on := 2, ground := Ground.phase }, { on := 3, ground := Ground.phase }, { on := 4, ground := Ground.phase }, { on := 5, ground := Ground.phase }, { on := 8, ground := Ground.gcOnly Departure.appendInPlace }], guard := none }) rfl (fun K hK => ?_) AllReadyH.nil
 obtain ⟨hc9, hf9⟩ := own_cells HM.out.own
 have d0 := hc9 0 _ rfl
 have d1 := hc9 1 _ rfl
 have d2 := hc9 2 _ rfl
 have d3 := hc9 3 _ rfl
 have d4 := hc9 4 _ rfl
 have d5 := hc9 5 _ rfl
 have d6 := hc9 6 _ rfl
 have d7 := hc9 7 _ rfl
 have d8 := hc9 8 _ rfl
 have f0 := hf9 (L.length * 9 + 0)
 have f1 := hf9 (L.length * 9 + 1)
 have f2 := hf9 (L.length * 9 + 2)
 have f3 := hf9 (L.length * 9 + 3)
 have f4 := hf9 (L.length * 9 + 4)
 have f5 := hf9 (L.length * 9 + 5)
 have f6 := hf9 (L.length * 9 + 6)
 have f7 := hf9 (L.length * 9 + 7)
 have f8 := hf9 (L.length * 9 + 8)
 have d0' := d0
 rw [Nat.add_zero] at d0' f0
 clear hc9 hf9 d0
 go_simp
 rw [nest_q]
 have HM8 := Lib.hid (HM.out.fill (y := ⟨oy, [q0, q1, q2, q3, q4, q5], vy, Ay, cy, ky⟩) (ga := ga) (list9 oy q0 q1 q2 q3 q4 q5 vy Ay ky.len cy) rfl (HYO.out w9 HA.out) HGG.out HGE.out)
 have HA8 := Lib.hid (HA.out.same (sets_far (fun e => HGG.out e.symm) [.int .i64 oy, .int .i64 q0, .int .i64 q1, .int .i64 q2, .int .i64 q3, .int .i64 q4, .int .i64 q5, .int .i64 vy, .slice Ay ky.len cy] w9 (L.length * 9)))
 have HK8 := Lib.hid (HK.out.trans (Kpt2_grow (Bn := (fun k => k = w.heap.size + 1 ∨ k = w.heap.size + 2)) (b := w2.heap.size) (e := g0 + 1) (sets_grown (w := w9) (g := gg) [.int .i64 oy, .int .i64 q0, .int .i64 q1, .int .i64 q2, .int .i64 q3, .int .i64 q4, .int .i64 q5, .int .i64 vy, .slice Ay ky.len cy] (L.length * 9)) (fun r hr => by injection hr with hr; have := HM.out.rowge; omega) (by have := HM.out.le; intro k hk; omega) HM.out.ge))
 obtain ⟨w8, hw8⟩ : ∃ w8, w8 = sets w9 gg (L.length * 9) [.int .i64 oy, .int .i64 q0, .int .i64 q1, .int .i64 q2, .int .i64 q3, .int .i64 q4, .int .i64 q5, .int .i64 vy, .slice Ay ky.len cy] := ⟨_, rfl⟩
 rw [← hw8] at HM8 HA8 HK8 ⊢
 clear hw8 HM HA HK
 have HM := HM8
 have HA := HA8
 have HK := HK8
 clear HM8 HA8 HK8
 refine hK.out _ _ ?_ (fun hHeld => ?_)
 · exact trivial
 clear d0' d1 d2 d3 d4 d5 d6 d7 d8 f0 f1 f2 f3 f4 f5 f6 f7 f8
 clear hK K
 (try simp only [Act.put, List.setIfInBounds_toArray, List.set_cons_zero, List.set_cons_succ])
 refine wpAnyH_done (by kernel_rfl) ?_ _
 gi_wp2
 exact ⟨HK.out, _, _, HZS.out ▸ HM.out⟩
 }
 }
 }
    {
 go_simp
 have nb := below_new Y (.cells #[.int .i64 0, .int .i64 0, .int .i64 0, .int .i64 0, .int .i64 0, .int .i64 0, .int .i64 0, .int .i64 0, .slice none 0 0] 28)
 have HZ := Lib.hid (heap_new Y (.cells #[.int .i64 0, .int .i64 0, .int .i64 0, .int .i64 0, .int .i64 0, .int .i64 0, .int .i64 0, .int .i64 0, .slice none 0 0] 28))
 have HM6 := Lib.hid (HM.out.keep nb)
 have HA6 := Lib.hid (HA.out.same (nb.block ga HA.out.lt))
 have HK6 := Lib.hid (HK.out.trans (Kpt2.below (Bn := (fun k => k = w.heap.size + 1 ∨ k = w.heap.size + 2)) (b := w2.heap.size) (e := g0 + 1) nb (by have := HM.out.ge; have := HM.out.le; intro k hk; omega) HM.out.ge))
 clear nb HM HA HK
 have HM := HM6
 have HA := HA6
 have HK := HK6
 clear HM6 HA6 HK6
 obtain ⟨w6, hw6⟩ : ∃ w6, w6 = Y.alloc (.cells #[.int .i64 0, .int .i64 0, .int .i64 0, .int .i64 0, .int .i64 0, .int .i64 0, .int .i64 0, .int .i64 0, .slice none 0 0] 28) := ⟨_, rfl⟩
 rw [← hw6] at HZ HM HA HK ⊢
 clear hw6
 obtain ⟨Bz, hBz⟩ : ∃ Bz, Bz = Y.heap.size := ⟨_, rfl⟩
 rw [← hBz] at HZ ⊢
 clear hBz
 refine hK.out _ _ ?_ (fun hHeld => ?_)
 · exact trivial
 clear hK K
 (try simp only [Act.put, List.setIfInBounds_toArray, List.set_cons_zero, List.set_cons_succ])
 refine wpAnyH_ready (rs := [0, 2]) (by kernel_rfl) (by simp) ?_
 refine AllReadyH.cons (o := { dst := some 15, op := Op.load 26 (Operand.tmp 3), type := 26, pos := "expression.go:38", after := #[], guard := none }) rfl (fun K hK => ?_) (AllReadyH.cons (o := { dst := some 17, op := Op.call { callee := Callee.value (Operand.func 34), args := #[Operand.tmp 16], argTypes := #[26] }, type := 28, pos := "expression.go:38", after := #[{ on := 1, ground := Ground.data }], guard := none }) rfl (fun K hK => ?_) AllReadyH.nil)
 {
 have hbx := HM.out.bx.cell
 go_simp
 refine hK.out _ _ ?_ (fun hHeld => ?_)
 · exact trivial
 clear hbx
 clear hK K
 (try simp only [Act.put, List.setIfInBounds_toArray, List.set_cons_zero, List.set_cons_succ])
 refine wpAnyH_take (i := 3) (oi := { dst := some 18, op := Op.call { callee := Callee.builtin Builtin.len, args := #[Operand.tmp 15], argTypes := #[26] }, type := 3, pos := "expression.go:38", after := #[{ on := 0, ground := Ground.data }], guard := none }) (v := ?_) rfl (by kernel_rfl) (by kernel_rfl) (by kernel_rfl) (fun _ _ _ h => h) (Or.inl ⟨by rfl, ?_⟩) (by assumption) ?_
 rotate_left
 · intro w hSw; (try dsimp only at hSw); have hLL : ((L.length : Int) < (L.length : Int) + 1) := (by omega); go_simp; try with_reducible rfl
 (try simp only [Act.put, List.setIfInBounds_toArray, List.set_cons_zero, List.set_cons_succ])
 refine wpAnyH_ready (rs := [2]) (by kernel_rfl) (by simp) ?_
 refine AllReadyH.cons (o := { dst := some 17, op := Op.call { callee := Callee.value (Operand.func 34), args := #[Operand.tmp 16], argTypes := #[26] }, type := 28, pos := "expression.go:38", after := #[{ on := 1, ground := Ground.data }], guard := none }) rfl (fun K hK => ?_) AllReadyH.nil
 go_simp
 refine (CE.out w6 HA.out).mono ?_
 rintro ev w5 ⟨rfl, nb⟩
 have HM5 := Lib.hid (HM.out.keep nb)
 have HA5 := Lib.hid (HA.out.same (nb.block ga HA.out.lt))
 have HK5 := Lib.hid (HK.out.trans (Kpt2.below (Bn := (fun k => k = w.heap.size + 1 ∨ k = w.heap.size + 2)) (b := w2.heap.size) (e := g0 + 1) nb (by have := HM.out.ge; have := HM.out.le; intro k hk; omega) HM.out.ge))
 have HZ5 := Lib.hid ((nb.block Bz (Array.getElem?_eq_some_iff.1 HZ.out).1).trans HZ.out)
 clear nb HM HA HK HZ
 have HM := HM5
 have HA := HA5
 have HK := HK5
 have HZ := HZ5
 clear HM5 HA5 HK5 HZ5
 refine hK.out _ _ ?_ (fun hHeld => ?_)
 · exact trivial
 clear hK K
 (try simp only [Act.put, List.setIfInBounds_toArray, List.set_cons_zero, List.set_cons_succ])
 refine wpAnyH_ready (rs := [5]) (by kernel_rfl) (by simp) ?_
 refine AllReadyH.cons (o := { dst := some 20, op := Op.call { callee := Callee.builtin Builtin.append, args := #[Operand.tmp 15, Operand.tmp 19], argTypes := #[26, 26] }, type := 26, pos := "expression.go:38", after := #[{ on := 0, ground := Ground.data }, { on := 4, ground := Ground.data }, { on := 2, ground := Ground.chain }, { on := 0, ground := Ground.phase }, { on := 1, ground := Ground.phase }, { on := 2, ground := Ground.phase }, { on := 3, ground := Ground.phase }, { on := 4, ground := Ground.phase }], guard := none }) rfl (fun K hK => ?_) AllReadyH.nil
 have hfew := HFW.out
 refine step_append_lies _ (by rfl) _ _ _ (by rfl) (g0 + 1) 28 i0 (.agg #[.int .i64 0, .int .i64 0, .int .i64 0, .int .i64 0, .int .i64 0, .int .i64 0, .int .i64 0, .int .i64 0, .slice none 0 0]) 9 88 Try.underlying26 hi hz0 hz1 hz2 rfl (by decide) _ _ _ (by rfl) HM.out.own.1 ⟨Bz, 0, none⟩ 1 1 [.int .i64 0, .int .i64 0, .int .i64 0, .int .i64 0, .int .i64 0, .int .i64 0, .int .i64 0, .int .i64 0, .slice none 0 0] (by rfl) rfl ?c1 ?c2 (by decide) ?c4 ?c5 ?c6 _ rfl ?_
 case c1 => exact World.news_of_block HZ.out
 case c2 => exact ntE.one ntZ
 case c4 => unfold maxLen; omega
 case c5 => omega
 case c6 => exact HM.out.ge
 intro gg cp w7 hown hgrow hat hlt7
 have HM7 := Lib.hid (HM.out.app hown hgrow hat HFW.out)
 have HGG := Lib.hid (show gg ≠ ga from fun e => by rcases hat with p | p; (exact HGA.out (p.trans (by rw [e]))); (have := HA.out.lt; omega))
 have HA7 := Lib.hid (HA.out.same (hgrow.block ga HA.out.lt (fun e => HGA.out e.symm)))
 have HK7 := Lib.hid (HK.out.trans (Kpt2_grow (Bn := (fun k => k = w.heap.size + 1 ∨ k = w.heap.size + 2)) (b := w2.heap.size) (e := g0 + 1) hgrow (fun r hr => (World.ownsRow.lt HM.out.own.1 r hr).1) (by have := HM.out.le; intro k hk; omega) HM.out.ge))
 clear hown hgrow hat hlt7 HZ HM HA HK
 have HM := HM7
 have HA := HA7
 have HK := HK7
 clear HM7 HA7 HK7
 refine hK.out _ _ ?_ (fun hHeld => ?_)
 · exact trivial
 clear hK K
 (try simp only [Act.put, List.setIfInBounds_toArray, List.set_cons_zero, List.set_cons_succ])
 refine wpAnyH_take (i := 6) (oi := { dst := some 21, op := Op.indexAddr 26 (Operand.tmp 20) (Operand.tmp 18), type := 0, pos := "expression.go:38", after := #[{ on := 5, ground := Ground.data }, { on := 3, ground := Ground.data }, { on := 0, ground := Ground.phase }, { on := 1, ground := Ground.phase }, { on := 2, ground := Ground.phase }, { on := 3, ground := Ground.phase }, { on := 4, ground := Ground.phase }, { on := 5, ground := Ground.phase }, { on := 8, ground := Ground.gcOnly Departure.appendInPlace }], guard := none }) (v := ?_) rfl (by kernel_rfl) (by kernel_rfl) (by kernel_rfl) (fun _ _ _ h => h) (Or.inl ⟨by rfl, ?_⟩) (by assumption) ?_
 rotate_left
 · intro w hSw; (try dsimp only at hSw); have hLL : ((L.length : Int) < (L.length : Int) + 1) := (by omega); go_simp; try with_reducible rfl
 (try simp only [Act.put, List.setIfInBounds_toArray, List.set_cons_zero, List.set_cons_succ])
 refine wpAnyH_ready (rs := [7, 8]) (by kernel_rfl) (by simp) ?_
 refine AllReadyH.cons (o := { dst := none, op := Op.store 28 (Operand.tmp 21) (Operand.tmp 17), type := 0, pos := "expression.go:38", after := #[{ on := 6, ground := Ground.data }, { on := 2, ground := Ground.data }, { on := 5, ground := Ground.chain }, { on := 0, ground := Ground.phase }, { on := 1, ground := Ground.phase }, { on := 2, ground := Ground.phase }, { on := 3, ground := Ground.phase }, { on := 4, ground := Ground.phase }, { on := 5, ground := Ground.phase }, { on := 8, ground := Ground.gcOnly Departure.appendInPlace }], guard := none }) rfl (fun K hK => ?_) (AllReadyH.cons (o := { dst := none, op := Op.store 26 (Operand.tmp 3) (Operand.tmp 20), type := 0, pos := "expression.go:38", after := #[{ on := 5, ground := Ground.data }, { on := 5, ground := Ground.chain }, { on := 7, ground := Ground.textOnly Departure.appendInPlace }, { on := 0, ground := Ground.phase }, { on := 1, ground := Ground.phase }, { on := 2, ground := Ground.phase }, { on := 3, ground := Ground.phase }, { on := 4, ground := Ground.phase }, { on := 5, ground := Ground.phase }, { on := 6, ground := Ground.textOnly Departure.appendInPlace }, { on := 7, ground := Ground.textOnly Departure.appendInPlace }], guard := none }) rfl (fun K hK => ?_) AllReadyH.nil)
 {
 obtain ⟨hc9, hf9⟩ := own_cells HM.out.own
 have d0 := hc9 0 _ rfl
 have d1 := hc9 1 _ rfl
 have d2 := hc9 2 _ rfl
 have d3 := hc9 3 _ rfl
 have d4 := hc9 4 _ rfl
 have d5 := hc9 5 _ rfl
 have d6 := hc9 6 _ rfl
 have d7 := hc9 7 _ rfl
 have d8 := hc9 8 _ rfl
 have f0 := hf9 (L.length * 9 + 0)
 have f1 := hf9 (L.length * 9 + 1)
 have f2 := hf9 (L.length * 9 + 2)
 have f3 := hf9 (L.length * 9 + 3)
 have f4 := hf9 (L.length * 9 + 4)
 have f5 := hf9 (L.length * 9 + 5)
 have f6 := hf9 (L.length * 9 + 6)
 have f7 := hf9 (L.length * 9 + 7)
 have f8 := hf9 (L.length * 9 + 8)
 have d0' := d0
 rw [Nat.add_zero] at d0' f0
 clear hc9 hf9 d0
 go_simp
 rw [nest_q]
 have HM8 := Lib.hid (HM.out.fill (y := ⟨oy, [q0, q1, q2, q3, q4, q5], vy, Ay, cy, ky⟩) (ga := ga) (list9 oy q0 q1 q2 q3 q4 q5 vy Ay ky.len cy) rfl (HYO.out w7 HA.out) HGG.out HGE.out)
 have HA8 := Lib.hid (HA.out.same (sets_far (fun e => HGG.out e.symm) [.int .i64 oy, .int .i64 q0, .int .i64 q1, .int .i64 q2, .int .i64 q3, .int .i64 q4, .int .i64 q5, .int .i64 vy, .slice Ay ky.len cy] w7 (L.length * 9)))
 have HK8 := Lib.hid (HK.out.trans (Kpt2_grow (Bn := (fun k => k = w.heap.size + 1 ∨ k = w.heap.size + 2)) (b := w2.heap.size) (e := g0 + 1) (sets_grown (w := w7) (g := gg) [.int .i64 oy, .int .i64 q0, .int .i64 q1, .int .i64 q2, .int .i64 q3, .int .i64 q4, .int .i64 q5, .int .i64 vy, .slice Ay ky.len cy] (L.length * 9)) (fun r hr => by injection hr with hr; have := HM.out.rowge; omega) (by have := HM.out.le; intro k hk; omega) HM.out.ge))
 obtain ⟨w8, hw8⟩ : ∃ w8, w8 = sets w7 gg (L.length * 9) [.int .i64 oy, .int .i64 q0, .int .i64 q1, .int .i64 q2, .int .i64 q3, .int .i64 q4, .int .i64 q5, .int .i64 vy, .slice Ay ky.len cy] := ⟨_, rfl⟩
 rw [← hw8] at HM8 HA8 HK8 ⊢
 clear hw8 HM HA HK
 have HM := HM8
 have HA := HA8
 have HK := HK8
 clear HM8 HA8 HK8
 refine hK.out _ _ ?_ (fun hHeld => ?_)
 · exact trivial
 clear d0' d1 d2 d3 d4 d5 d6 d7 d8 f0 f1 f2 f3 f4 f5 f6 f7 f8
 clear hK K
 (try simp only [Act.put, List.setIfInBounds_toArray, List.set_cons_zero, List.set_cons_succ])
 refine wpAnyH_ready (rs := [8]) (by kernel_rfl) (by simp) ?_
 refine AllReadyH.cons (o := { dst := none, op := Op.store 26 (Operand.tmp 3) (Operand.tmp 20), type := 0, pos := "expression.go:38", after := #[{ on := 5, ground := Ground.data }, { on := 5, ground := Ground.chain }, { on := 7, ground := Ground.textOnly Departure.appendInPlace }, { on := 0, ground := Ground.phase }, { on := 1, ground := Ground.phase }, { on := 2, ground := Ground.phase }, { on := 3, ground := Ground.phase }, { on := 4, ground := Ground.phase }, { on := 5, ground := Ground.phase }, { on := 6, ground := Ground.textOnly Departure.appendInPlace }, { on := 7, ground := Ground.textOnly Departure.appendInPlace }], guard := none }) rfl (fun K hK => ?_) AllReadyH.nil
 have cb := HM.out.bx.cell
 have fb := HM.out.bx.frozen
 go_simp
 have HM9 := Lib.hid (HM.out.box rfl)
 have HA9 := Lib.hid (HA.out.same (Below.heap_setCell w8 ⟨w.heap.size, 0, none⟩ (.slice (some ⟨gg, 0, none⟩) (L.length + 1) cp) ga (by have := HGE.out; have := HM.out.le; show ga ≠ w.heap.size; omega)))
 have HK9 := Lib.hid (HK.out.trans (Kpt2.setCell w8 (g := w.heap.size) 0 (.slice (some ⟨gg, 0, none⟩) (L.length + 1) cp) (by intro k hk; omega) (.inl (by omega))))
 obtain ⟨w9, hw9⟩ : ∃ w9, w9 = w8.setCell ⟨w.heap.size, 0, none⟩ (.slice (some ⟨gg, 0, none⟩) (L.length + 1) cp) := ⟨_, rfl⟩
 rw [← hw9] at HM9 HA9 HK9 ⊢
 clear hw9 HM HA HK
 have HM := HM9
 have HA := HA9
 have HK := HK9
 clear HM9 HA9 HK9
 refine hK.out _ _ ?_ (fun hHeld => ?_)
 · exact trivial
 clear cb fb
 clear hK K
 (try simp only [Act.put, List.setIfInBounds_toArray, List.set_cons_zero, List.set_cons_succ])
 refine wpAnyH_done (by kernel_rfl) ?_ _
 gi_wp2
 exact ⟨HK.out, _, _, HZS.out ▸ HM.out⟩
 }
 {
 have cb := HM.out.bx.cell
 have fb := HM.out.bx.frozen
 go_simp
 have HM9 := Lib.hid (HM.out.box rfl)
 have HA9 := Lib.hid (HA.out.same (Below.heap_setCell w7 ⟨w.heap.size, 0, none⟩ (.slice (some ⟨gg, 0, none⟩) (L.length + 1) cp) ga (by have := HGE.out; have := HM.out.le; show ga ≠ w.heap.size; omega)))
 have HK9 := Lib.hid (HK.out.trans (Kpt2.setCell w7 (g := w.heap.size) 0 (.slice (some ⟨gg, 0, none⟩) (L.length + 1) cp) (by intro k hk; omega) (.inl (by omega))))
 obtain ⟨w9, hw9⟩ : ∃ w9, w9 = w7.setCell ⟨w.heap.size, 0, none⟩ (.slice (some ⟨gg, 0, none⟩) (L.length + 1) cp) := ⟨_, rfl⟩
 rw [← hw9] at HM9 HA9 HK9 ⊢
 clear hw9 HM HA HK
 have HM := HM9
 have HA := HA9
 have HK := HK9
 clear HM9 HA9 HK9
 refine hK.out _ _ ?_ (fun hHeld => ?_)
 · exact trivial
 clear cb fb
 clear hK K
 (try simp only [Act.put, List.setIfInBounds_toArray, List.set_cons_zero, List.set_cons_succ])
 refine wpAnyH_ready (rs := [7]) (by kernel_rfl) (by simp) ?_
 refine AllReadyH.cons (o := { dst := none, op := Op.store 28 (Operand.tmp 21) (Operand.tmp 17), type := 0, pos := "expression.go:38", after := #[{ on := 6, ground := Ground.data }, { on := 2, ground := Ground.data }, { on := 5, ground := Ground.chain }, { on := 0, ground := Ground.phase }, { on := 1, ground := Ground.phase }, { on := 2, ground := Ground.phase }, { on := 3, ground := Ground.phase }, { on := 4, ground := Ground.phase }, { on := 5, ground := Ground.phase }, { on := 8, ground := Ground.gcOnly Departure.appendInPlace }], guard := none }) rfl (fun K hK => ?_) AllReadyH.nil
 obtain ⟨hc9, hf9⟩ := own_cells HM.out.own
 have d0 := hc9 0 _ rfl
 have d1 := hc9 1 _ rfl
 have d2 := hc9 2 _ rfl
 have d3 := hc9 3 _ rfl
 have d4 := hc9 4 _ rfl
 have d5 := hc9 5 _ rfl
 have d6 := hc9 6 _ rfl
 have d7 := hc9 7 _ rfl
 have d8 := hc9 8 _ rfl
 have f0 := hf9 (L.length * 9 + 0)
 have f1 := hf9 (L.length * 9 + 1)
 have f2 := hf9 (L.length * 9 + 2)
 have f3 := hf9 (L.length * 9 + 3)
 have f4 := hf9 (L.length * 9 + 4)
 have f5 := hf9 (L.length * 9 + 5)
 have f6 := hf9 (L.length * 9 + 6)
 have f7 := hf9 (L.length * 9 + 7)
 have f8 := hf9 (L.length * 9 + 8)
 have d0' := d0
 rw [Nat.add_zero] at d0' f0
 clear hc9 hf9 d0
 go_simp
 rw [nest_q]
 have HM8 := Lib.hid (HM.out.fill (y := ⟨oy, [q0, q1, q2, q3, q4, q5], vy, Ay, cy, ky⟩) (ga := ga) (list9 oy q0 q1 q2 q3 q4 q5 vy Ay ky.len cy) rfl (HYO.out w9 HA.out) HGG.out HGE.out)
 have HA8 := Lib.hid (HA.out.same (sets_far (fun e => HGG.out e.symm) [.int .i64 oy, .int .i64 q0, .int .i64 q1, .int .i64 q2, .int .i64 q3, .int .i64 q4, .int .i64 q5, .int .i64 vy, .slice Ay ky.len cy] w9 (L.length * 9)))
 have HK8 := Lib.hid (HK.out.trans (Kpt2_grow (Bn := (fun k => k = w.heap.size + 1 ∨ k = w.heap.size + 2)) (b := w2.heap.size) (e := g0 + 1) (sets_grown (w := w9) (g := gg) [.int .i64 oy, .int .i64 q0, .int .i64 q1, .int .i64 q2, .int .i64 q3, .int .i64 q4, .int .i64 q5, .int .i64 vy, .slice Ay ky.len cy] (L.length * 9)) (fun r hr => by injection hr with hr; have := HM.out.rowge; omega) (by have := HM.out.le; intro k hk; omega) HM.out.ge))
 obtain ⟨w8, hw8⟩ : ∃ w8, w8 = sets w9 gg (L.length * 9) [.int .i64 oy, .int .i64 q0, .int .i64 q1, .int .i64 q2, .int .i64 q3, .int .i64 q4, .int .i64 q5, .int .i64 vy, .slice Ay ky.len cy] := ⟨_, rfl⟩
 rw [← hw8] at HM8 HA8 HK8 ⊢
 clear hw8 HM HA HK
 have HM := HM8
 have HA := HA8
 have HK := HK8
 clear HM8 HA8 HK8
 refine hK.out _ _ ?_ (fun hHeld => ?_)
 · exact trivial
 clear d0' d1 d2 d3 d4 d5 d6 d7 d8 f0 f1 f2 f3 f4 f5 f6 f7 f8
 clear hK K
 (try simp only [Act.put, List.setIfInBounds_toArray, List.set_cons_zero, List.set_cons_succ])
 refine wpAnyH_done (by kernel_rfl) ?_ _
 gi_wp2
 exact ⟨HK.out, _, _, HZS.out ▸ HM.out⟩
 }
 }
 {
 go_simp
 refine (CE.out w6 HA.out).mono ?_
 rintro ev w5 ⟨rfl, nb⟩
 have HM5 := Lib.hid (HM.out.keep nb)
 have HA5 := Lib.hid (HA.out.same (nb.block ga HA.out.lt))
 have HK5 := Lib.hid (HK.out.trans (Kpt2.below (Bn := (fun k => k = w.heap.size + 1 ∨ k = w.heap.size + 2)) (b := w2.heap.size) (e := g0 + 1) nb (by have := HM.out.ge; have := HM.out.le; intro k hk; omega) HM.out.ge))
 have HZ5 := Lib.hid ((nb.block Bz (Array.getElem?_eq_some_iff.1 HZ.out).1).trans HZ.out)
 clear nb HM HA HK HZ
 have HM := HM5
 have HA := HA5
 have HK := HK5
 have HZ := HZ5
 clear HM5 HA5 HK5 HZ5
 refine hK.out _ _ ?_ (fun hHeld => ?_)
 · exact trivial
 clear hK K
 (try simp only [Act.put, List.setIfInBounds_toArray, List.set_cons_zero, List.set_cons_succ])
 refine wpAnyH_ready (rs := [0]) (by kernel_rfl) (by simp) ?_
 refine AllReadyH.cons (o := { dst := some 15, op := Op.load 26 (Operand.tmp 3), type := 26, pos := "expression.go:38", after := #[], guard := none }) rfl (fun K hK => ?_) AllReadyH.nil
 have hbx := HM.out.bx.cell
 go_simp
 refine hK.out _ _ ?_ (fun hHeld => ?_)
 · exact trivial
 clear hbx
 clear hK K
 (try simp only [Act.put, List.setIfInBounds_toArray, List.set_cons_zero, List.set_cons_succ])
 refine wpAnyH_take (i := 3) (oi := { dst := some 18, op := Op.call { callee := Callee.builtin Builtin.len, args := #[Operand.tmp 15], argTypes := #[26] }, type := 3, pos := "expression.go:38", after := #[{ on := 0, ground := Ground.data }], guard := none }) (v := ?_) rfl (by kernel_rfl) (by kernel_rfl) (by kernel_rfl) (fun _ _ _ h => h) (Or.inl ⟨by rfl, ?_⟩) (by assumption) ?_
 rotate_left
 · intro w hSw; (try dsimp only at hSw); have hLL : ((L.length : Int) < (L.length : Int) + 1) := (by omega); go_simp; try with_reducible rfl
 (try simp only [Act.put, List.setIfInBounds_toArray, List.set_cons_zero, List.set_cons_succ])
 refine wpAnyH_ready (rs := [5]) (by kernel_rfl) (by simp) ?_
 refine AllReadyH.cons (o := { dst := some 20, op := Op.call { callee := Callee.builtin Builtin.append, args := #[Operand.tmp 15, Operand.tmp 19], argTypes := #[26, 26] }, type := 26, pos := "expression.go:38", after := #[{ on := 0, ground := Ground.data }, { on := 4, ground := Ground.data }, { on := 2, ground := Ground.chain }, { on := 0, ground := Ground.phase }, { on := 1, ground := Ground.phase }, { on := 2, ground := Ground.phase }, { on := 3, ground := Ground.phase }, { on := 4, ground := Ground.phase }], guard := none }) rfl (fun K hK => ?_) AllReadyH.nil
 have hfew := HFW.out
 refine step_append_lies _ (by rfl) _ _ _ (by rfl) (g0 + 1) 28 i0 (.agg #[.int .i64 0, .int .i64 0, .int .i64 0, .int .i64 0, .int .i64 0, .int .i64 0, .int .i64 0, .int .i64 0, .slice none 0 0]) 9 88 Try.underlying26 hi hz0 hz1 hz2 rfl (by decide) _ _ _ (by rfl) HM.out.own.1 ⟨Bz, 0, none⟩ 1 1 [.int .i64 0, .int .i64 0, .int .i64 0, .int .i64 0, .int .i64 0, .int .i64 0, .int .i64 0, .int .i64 0, .slice none 0 0] (by rfl) rfl ?c1 ?c2 (by decide) ?c4 ?c5 ?c6 _ rfl ?_
 case c1 => exact World.news_of_block HZ.out
 case c2 => exact ntE.one ntZ
 case c4 => unfold maxLen; omega
 case c5 => omega
 case c6 => exact HM.out.ge
 intro gg cp w7 hown hgrow hat hlt7
 have HM7 := Lib.hid (HM.out.app hown hgrow hat HFW.out)
 have HGG := Lib.hid (show gg ≠ ga from fun e => by rcases hat with p | p; (exact HGA.out (p.trans (by rw [e]))); (have := HA.out.lt; omega))
 have HA7 := Lib.hid (HA.out.same (hgrow.block ga HA.out.lt (fun e => HGA.out e.symm)))
 have HK7 := Lib.hid (HK.out.trans (Kpt2_grow (Bn := (fun k => k = w.heap.size + 1 ∨ k = w.heap.size + 2)) (b := w2.heap.size) (e := g0 + 1) hgrow (fun r hr => (World.ownsRow.lt HM.out.own.1 r hr).1) (by have := HM.out.le; intro k hk; omega) HM.out.ge))
 clear hown hgrow hat hlt7 HZ HM HA HK
 have HM := HM7
 have HA := HA7
 have HK := HK7
 clear HM7 HA7 HK7
 refine hK.out _ _ ?_ (fun hHeld => ?_)
 · exact trivial
 clear hK K
 (try simp only [Act.put, List.setIfInBounds_toArray, List.set_cons_zero, List.set_cons_succ])
 refine wpAnyH_take (i := 6) (oi := { dst := some 21, op := Op.indexAddr 26 (Operand.tmp 20) (Operand.tmp 18), type := 0, pos := "expression.go:38", after := #[{ on := 5, ground := Ground.data }, { on := 3, ground := Ground.data }, { on := 0, ground := Ground.phase }, { on := 1, ground := Ground.phase }, { on := 2, ground := Ground.phase }, { on := 3, ground := Ground.phase }, { on := 4, ground := Ground.phase }, { on := 5, ground := Ground.phase }, { on := 8, ground := Ground.gcOnly Departure.appendInPlace }], guard := none }) (v := ?_) rfl (by kernel_rfl) (by kernel_rfl) (by kernel_rfl) (fun _ _ _ h => h) (Or.inl ⟨by rfl, ?_⟩) (by assumption) ?_
 rotate_left
 · intro w hSw; (try dsimp only at hSw); have hLL : ((L.length : Int) < (L.length : Int) + 1) := (by omega); go_simp; try with_reducible rfl
 (try simp only [Act.put, List.setIfInBounds_toArray, List.set_cons_zero, List.set_cons_succ])
 refine wpAnyH_ready (rs := [7, 8]) (by kernel_rfl) (by simp) ?_
 refine AllReadyH.cons (o := { dst := none, op := Op.store 28 (Operand.tmp 21) (Operand.tmp 17), type := 0, pos := "expression.go:38", after := #[{ on := 6, ground := Ground.data }, { on := 2, ground := Ground.data }, { on := 5, ground := Ground.chain }, { on := 0, ground := Ground.phase }, { on := 1, ground := Ground.phase }, { on := 2, ground := Ground.phase }, { on := 3, ground := Ground.phase }, { on := 4, ground := Ground.phase }, { on := 5, ground := Ground.phase }, { on := 8, ground := Ground.gcOnly Departure.appendInPlace }], guard := none }) rfl (fun K hK => ?_) (AllReadyH.cons (o := { dst := none, op := Op.store 26 (Operand.tmp 3) (Operand.tmp 20), type := 0, pos := "expression.go:38", after := #[{ on := 5, ground := Ground.data }, { on := 5, ground := Ground.chain }, { on := 7, ground := Ground.textOnly Departure.appendInPlace }, { on := 0, ground := Ground.phase }, { on := 1, ground := Ground.phase }, { on := 2, ground := Ground.phase }, { on := 3, ground := Ground.phase }, { on := 4, ground := Ground.phase }, { on := 5, ground := Ground.phase }, { on := 6, ground := Ground.textOnly Departure.appendInPlace }, { on := 7, ground := Ground.textOnly Departure.appendInPlace }], guard := none }) rfl (fun K hK => ?_) AllReadyH.nil)
 {
 obtain ⟨hc9, hf9⟩ := own_cells HM.out.own
 have d0 := hc9 0 _ rfl
 have d1 := hc9 1 _ rfl
 have d2 := hc9 2 _ rfl
 have d3 := hc9 3 _ rfl
 have d4 := hc9 4 _ rfl
 have d5 := hc9 5 _ rfl
 have d6 := hc9 6 _ rfl
 have d7 := hc9 7 _ rfl
 have d8 := hc9 8 _ rfl
 have f0 := hf9 (L.length * 9 + 0)
 have f1 := hf9 (L.length * 9 + 1)
 have f2 := hf9 (L.length * 9 + 2)
 have f3 := hf9 (L.length * 9 + 3)
 have f4 := hf9 (L.length * 9 + 4)
 have f5 := hf9 (L.length * 9 + 5)
 have f6 := hf9 (L.length * 9 + 6)
 have f7 := hf9 (L.length * 9 + 7)
 have f8 := hf9 (L.length * 9 + 8)
 have d0' := d0
 rw [Nat.add_zero] at d0' f0
 clear hc9 hf9 d0
 go_simp
 rw [nest_q]
 have HM8 := Lib.hid (HM.out.fill (y := ⟨oy, [q0, q1, q2, q3, q4, q5], vy, Ay, cy, ky⟩) (ga := ga) (list9 oy q0 q1 q2 q3 q4 q5 vy Ay ky.len cy) rfl (HYO.out w7 HA.out) HGG.out HGE.out)
 have HA8 := Lib.hid (HA.out.same (sets_far (fun e => HGG.out e.symm) [.int .i64 oy, .int .i64 q0, .int .i64 q1, .int .i64 q2, .int .i64 q3, .int .i64 q4, .int .i64 q5, .int .i64 vy, .slice Ay ky.len cy] w7 (L.length * 9)))
 have HK8 := Lib.hid (HK.out.trans (Kpt2_grow (Bn := (fun k => k = w.heap.size + 1 ∨ k = w.heap.size + 2)) (b := w2.heap.size) (e := g0 + 1) (sets_grown (w := w7) (g := gg) [.int .i64 oy, .int .i64 q0, .int .i64 q1, .int .i64 q2, .int .i64 q3, .int .i64 q4, .int .i64 q5, .int .i64 vy, .slice Ay ky.len cy] (L.length * 9)) (fun r hr => by injection hr with hr; have := HM.out.rowge; omega) (by have := HM.out.le; intro k hk; omega) HM.out.ge))
 obtain ⟨w8, hw8⟩ : ∃ w8, w8 = sets w7 gg (L.length * 9) [.int .i64 oy, .int .i64 q0, .int .i64 q1, .int .i64 q2, .int .i64 q3, .int .i64 q4, .int .i64 q5, .int .i64 vy, .slice Ay ky.len cy] := ⟨_, rfl⟩
 rw [← hw8] at HM8 HA8 HK8 ⊢
 clear hw8 HM HA HK
 have HM := HM8
 have HA := HA8
 have HK := HK8
 clear HM8 HA8 HK8
 refine hK.out _ _ ?_ (fun hHeld => ?_)
 · exact trivial
 clear d0' d1 d2 d3 d4 d5 d6 d7 d8 f0 f1 f2 f3 f4 f5 f6 f7 f8
 clear hK K
 (try simp only [Act.put, List.setIfInBounds_toArray, List.set_cons_zero, List.set_cons_succ])
 refine wpAnyH_ready (rs := [8]) (by kernel_rfl) (by simp) ?_
 refine AllReadyH.cons (o := { dst := none, op := Op.store 26 (Operand.tmp 3) (Operand.tmp 20), type := 0, pos := "expression.go:38", after := #[{ on := 5, ground := Ground.data }, { on := 5, ground := Ground.chain }, { on := 7, ground := Ground.textOnly Departure.appendInPlace }, { on := 0, ground := Ground.phase }, { on := 1, ground := Ground.phase }, { on := 2, ground := Ground.phase }, { on := 3, ground := Ground.phase }, { on := 4, ground := Ground.phase }, { on := 5, ground := Ground.phase }, { on := 6, ground := Ground.textOnly Departure.appendInPlace }, { on := 7, ground := Ground.textOnly Departure.appendInPlace }], guard := none }) rfl (fun K hK => ?_) AllReadyH.nil
 have cb := HM.out.bx.cell
 have fb := HM.out.bx.frozen
 go_simp
 have HM9 := Lib.hid (HM.out.box rfl)
 have HA9 := Lib.hid (HA.out.same (Below.heap_setCell w8 ⟨w.heap.size, 0, none⟩ (.slice (some ⟨gg, 0, none⟩) (L.length + 1) cp) ga (by have := HGE.out; have := HM.out.le; show ga ≠ w.heap.size; omega)))
 have HK9 := Lib.hid (HK.out.trans (Kpt2.setCell w8 (g := w.heap.size) 0 (.slice (some ⟨gg, 0, none⟩) (L.length + 1) cp) (by intro k hk; omega) (.inl (by omega))))
 obtain ⟨w9, hw9⟩ : ∃ w9, w9 = w8.setCell ⟨w.heap.size, 0, none⟩ (.slice (some ⟨gg, 0, none⟩) (L.length + 1) cp) := ⟨_, rfl⟩
 rw [← hw9] at HM9 HA9 HK9 ⊢
 clear hw9 HM HA HK
 have HM := HM9
 have HA := HA9
 have HK := HK9
 clear HM9 HA9 HK9
 refine hK.out _ _ ?_ (fun hHeld => ?_)
 · exact trivial
 clear cb fb
 clear hK K
 (try simp only [Act.put, List.setIfInBounds_toArray, List.set_cons_zero, List.set_cons_succ])
 refine wpAnyH_done (by kernel_rfl) ?_ _
 gi_wp2
 exact ⟨HK.out, _, _, HZS.out ▸ HM.out⟩
 }
 {
 have cb := HM.out.bx.cell
 have fb := HM.out.bx.frozen
 go_simp
 have HM9 := Lib.hid (HM.out.box rfl)
 have HA9 := Lib.hid (HA.out.same (Below.heap_setCell w7 ⟨w.heap.size, 0, none⟩ (.slice (some ⟨gg, 0, none⟩) (L.length + 1) cp) ga (by have := HGE.out; have := HM.out.le; show ga ≠ w.heap.size; omega)))
 have HK9 := Lib.hid (HK.out.trans (Kpt2.setCell w7 (g := w.heap.size) 0 (.slice (some ⟨gg, 0, none⟩) (L.length + 1) cp) (by intro k hk; omega) (.inl (by omega))))
 obtain ⟨w9, hw9⟩ : ∃ w9, w9 = w7.setCell ⟨w.heap.size, 0, none⟩ (.slice (some ⟨gg, 0, none⟩) (L.length + 1) cp) := ⟨_, rfl⟩
 rw [← hw9] at HM9 HA9 HK9 ⊢
 clear hw9 HM HA HK
 have HM := HM9
 have HA := HA9
 have HK := HK9
 clear HM9 HA9 HK9
 refine hK.out _ _ ?_ (fun hHeld => ?_)
 · exact trivial
 clear cb fb
 clear hK K
 (try simp only [Act.put, List.setIfInBounds_toArray, List.set_cons_zero, List.set_cons_succ])
 refine wpAnyH_ready (rs := [7]) (by kernel_rfl) (by simp) ?_
 refine AllReadyH.cons (o := { dst := none, op := Op.store 28 (Operand.tmp 21) (Operand.tmp 17), type := 0, pos := "expression.go:38", after := #[{ on := 6, ground := Ground.data }, { on := 2, ground := Ground.data }, { on := 5, ground := Ground.chain }, { on := 0, ground := Ground.phase }, { on := 1, ground := Ground.phase }, { on := 2, ground := Ground.phase }, { on := 3, ground := Ground.phase }, { on := 4, ground := Ground.phase }, { on := 5, ground := Ground.phase }, { on := 8, ground := Ground.gcOnly Departure.appendInPlace }], guard := none }) rfl (fun K hK => ?_) AllReadyH.nil
 obtain ⟨hc9, hf9⟩ := own_cells HM.out.own
 have d0 := hc9 0 _ rfl
 have d1 := hc9 1 _ rfl
 have d2 := hc9 2 _ rfl
 have d3 := hc9 3 _ rfl
 have d4 := hc9 4 _ rfl
 have d5 := hc9 5 _ rfl
 have d6 := hc9 6 _ rfl
 have d7 := hc9 7 _ rfl
 have d8 := hc9 8 _ rfl
 have f0 := hf9 (L.length * 9 + 0)
 have f1 := hf9 (L.length * 9 + 1)
 have f2 := hf9 (L.length * 9 + 2)
 have f3 := hf9 (L.length * 9 + 3)
 have f4 := hf9 (L.length * 9 + 4)
 have f5 := hf9 (L.length * 9 + 5)
 have f6 := hf9 (L.length * 9 + 6)
 have f7 := hf9 (L.length * 9 + 7)
 have f8 := hf9 (L.length * 9 + 8)
 have d0' := d0
 rw [Nat.add_zero] at d0' f0
 clear hc9 hf9 d0
 go_simp
 rw [nest_q]
 have HM8 := Lib.hid (HM.out.fill (y := ⟨oy, [q0, q1, q2, q3, q4, q5], vy, Ay, cy, ky⟩) (ga := ga) (list9 oy q0 q1 q2 q3 q4 q5 vy Ay ky.len cy) rfl (HYO.out w9 HA.out) HGG.out HGE.out)
 have HA8 := Lib.hid (HA.out.same (sets_far (fun e => HGG.out e.symm) [.int .i64 oy, .int .i64 q0, .int .i64 q1, .int .i64 q2, .int .i64 q3, .int .i64 q4, .int .i64 q5, .int .i64 vy, .slice Ay ky.len cy] w9 (L.length * 9)))
 have HK8 := Lib.hid (HK.out.trans (Kpt2_grow (Bn := (fun k => k = w.heap.size + 1 ∨ k = w.heap.size + 2)) (b := w2.heap.size) (e := g0 + 1) (sets_grown (w := w9) (g := gg) [.int .i64 oy, .int .i64 q0, .int .i64 q1, .int .i64 q2, .int .i64 q3, .int .i64 q4, .int .i64 q5, .int .i64 vy, .slice Ay ky.len cy] (L.length * 9)) (fun r hr => by injection hr with hr; have := HM.out.rowge; omega) (by have := HM.out.le; intro k hk; omega) HM.out.ge))
 obtain ⟨w8, hw8⟩ : ∃ w8, w8 = sets w9 gg (L.length * 9) [.int .i64 oy, .int .i64 q0, .int .i64 q1, .int .i64 q2, .int .i64 q3, .int .i64 q4, .int .i64 q5, .int .i64 vy, .slice Ay ky.len cy] := ⟨_, rfl⟩
 rw [← hw8] at HM8 HA8 HK8 ⊢
 clear hw8 HM HA HK
 have HM := HM8
 have HA := HA8
 have HK := HK8
 clear HM8 HA8 HK8
 refine hK.out _ _ ?_ (fun hHeld => ?_)
 · exact trivial
 clear d0' d1 d2 d3 d4 d5 d6 d7 d8 f0 f1 f2 f3 f4 f5 f6 f7 f8
 clear hK K
 (try simp only [Act.put, List.setIfInBounds_toArray, List.set_cons_zero, List.set_cons_succ])
 refine wpAnyH_done (by kernel_rfl) ?_ _
 gi_wp2
 exact ⟨HK.out, _, _, HZS.out ▸ HM.out⟩
 }
 }
 }
  case done =>
    rintro e2 Z he2 heZ ⟨v, L, hm⟩ hD
    dsimp only
    have cb := hm.bx.cell
    have hT := Lib.hid hm
    have HD := Lib.hid hD
    clear hm hD
    go_wp2
    refine ⟨by simp, .inl ⟨_, _, rfl, run_takeDeferred HD.out, ?_⟩⟩
    refine ⟨_, grp_res _ v rfl, v, L, rfl, ?_, hT.out.eq, fun z hz => ?_, ?_⟩
    · obtain ⟨h1, h2⟩ := hT.out.own
      have hle := hT.out.le
      refine ⟨⟨h1.1, ?_⟩, h2⟩
      rcases h1.2 with q | ⟨g, cap, cur, q1, q2, q3, q4⟩
      · exact .inl q
      · exact .inr ⟨g, cap, cur, q1, by omega, by rw [World.putObj_heap_other (by omega)]; exact q3, q4⟩
    · refine (hT.out.ok z hz).keep (fun k hk _ => World.putObj_heap_other (by have := hk.1; omega)) (by simp) (fun k hk _ => by have := hk.1; have := hT.out.le; show w.heap.size ≤ k; omega)
    · refine hT.out.below.trans ⟨rfl, rfl, rfl, by simp, fun k hk => ?_⟩
      rw [World.putObj_heap_other (by omega)]
  case stop => exact fun _ _ _ _ _ _ _ h _ => h.elim
end Go.Proofs.Ytjjpfpgjpmedmaa
namespace Go.Proofs.Ytjjpfpgjpmedmaa
open Go.RowKit
attribute [local go_sem] Oper.semAt_some
theorem kids_of_row {w : World} {g n : Nat} {ys : List NT} (h : Arg w g n ys) (hf : n ≤ 9223372036854775807) {ok : Nat → Prop} (hg : ok g) (hy : ∀ y ∈ ys, y.Ok w ok) : Kids w ok (some ⟨g, 0, none⟩) n (FT.of ys) := by
  refine ⟨by rw [FT.of_len]; exact h.le, by rw [FT.of_len]; exact Nat.le_trans h.le hf, .inr ⟨_, rfl, lay_of ys _ fun i x hx => ?_⟩⟩
  obtain ⟨cur, h1, hs, ha⟩ := h.row
  refine ⟨by rw [addr_add]; exact hg, by rw [addr_add]; exact h.lt, hy x (List.mem_of_getElem? hx), fun j u hu => ?_⟩
  rw [addr_add, addr_add, cell_of_row w g _ _ _ _ h1]
  refine ha _ u ?_
  rw [Nat.zero_add, show i * 9 + j = i * ntE.sz + j from rfl, El.all_at h.fine hx (by rw [← ntE.len x (h.fine x (List.mem_of_getElem? hx))]; exact (List.getElem?_eq_some_iff.1 hu).1)]
  exact hu
theorem arg_of_own {w : World} {B g n cap : Nat} {L : List NT} (h : OwnL ntE 28 w B (.slice (some ⟨g, 0, none⟩) n cap) L) : Arg w g cap L ∧ n = L.length ∧ cap ≤ maxLen := by
  obtain ⟨h1, h2⟩ := h
  rcases h1.2 with ⟨e, _⟩ | ⟨g', cap', cur, e, hB, hh, hc, hm, hs, ht⟩
  · cases e
  · simp only [Value.slice.injEq, Option.some.injEq, Addr.mk.injEq, and_true] at e
    obtain ⟨rfl, hn, rfl⟩ := e
    refine ⟨⟨hc, h2, cur, hh, hs, fun j u hu => ?_⟩, hn, hm⟩
    have := (List.getElem?_eq_some_iff.1 hu).1
    rw [← ht, List.getElem?_take] at hu
    split at hu
    · simpa using hu
    · cases hu
/-- The expression of expressions that lie in a row of the call's own. -/
theorem either_own (X : World) (B : Nat) (v : Value) (L : List NT) (hown : OwnL ntE 28 X B v L) (h0 : 0 < L.length) (hok : ∀ z ∈ L, z.Ok X (fun k => B ≤ k)) :
    ∃ x : NT, Calls Try.prog 34 #[v] X (Gives x.val X) ∧ x.n = grN (L.map NT.n) ∧ x.Ok X (fun k => B ≤ k) := by
  rcases hown.1.2 with ⟨_, e⟩ | ⟨g, cap, cur, rfl, _⟩
  · omega
  · obtain ⟨ha, _, hcm⟩ := arg_of_own hown
    by_cases h1 : L.length = 1
    · obtain ⟨y, rfl⟩ := List.length_eq_one_iff.1 h1
      obtain ⟨cur', hc1, hc2, hc3⟩ := ha.row
      have h6 := ha.fine y (by simp)
      obtain ⟨o, b, v, A, c, k⟩ := y
      obtain ⟨x0, x1, x2, x3, x4, x5, rfl⟩ := six h6
      have hat : ∀ j u, (cellsE o [x0, x1, x2, x3, x4, x5] v A k.len c)[j]? = some u → X.cell? ⟨g, j, none⟩ = some u := fun j u hu => by
        rw [cell_of_row X g j _ _ _ hc1]
        exact hc3 j u (by rw [El.all_one]; exact hu)
      refine ⟨⟨o, [x0, x1, x2, x3, x4, x5], v, A, c, k⟩, ?_, rfl, hok _ (by simp)⟩
      rw [NT.val_lit]
      exact either_one ⟨g, 0, none⟩ cap X o x0 x1 x2 x3 x4 x5 v A k.len c ⟨ha.lt, hat 0 _ rfl, hat 1 _ rfl, hat 2 _ rfl, hat 3 _ rfl, hat 4 _ rfl, hat 5 _ rfl, hat 6 _ rfl, hat 7 _ rfl, hat 8 _ rfl⟩
    · refine ⟨⟨2, [0, 0, 0, 0, 0, 0], 0, some ⟨g, 0, none⟩, cap, FT.of L⟩, ?_, ?_, ?_⟩
      · have := either_more (some ⟨g, 0, none⟩) L.length cap h1 X
        rw [NT.val_lit, FT.of_len]
        exact this
      · unfold grN NT.n
        rw [if_neg (by rw [List.length_map]; exact h1)]
        dsimp only
        rw [of_n]; rfl
      · refine ⟨rfl, show In64 (2 : Int) from ⟨by decide, by decide⟩, show In64 (0 : Int) from ⟨by decide, by decide⟩, fun z hz => ?_, kids_of_row ha hcm (World.ownsRow.lt hown.1 g rfl).1 hok⟩
        have : z = 0 := by simpa using hz
        rw [this]; exact ⟨by decide, by decide⟩
/-- The node of a list. -/
def toN (ns : List ME.Nd) : ME.Nd := grN ((chL ns.length).map (gN ns))
def zeroN : ME.Nd := ntZ.n
/-- What ToExpr answers. -/
def toE (l : List MF.Of) : ME.Nd × Int := if l.length = 0 then (zeroN, 1) else if ME.checkE (toN (l.map fun p => (atX p).n)) ≠ 0 then (zeroN, ME.checkE (toN (l.map fun p => (atX p).n))) else (toN (l.map fun p => (atX p).n), 0)
def GivesXE (p : ME.Nd × Int) (w : World) (e : Ending) (w' : World) : Prop := ∃ x : NT, e = .returned (.tuple #[x.val, .int .i64 p.2]) ∧ x.n = p.1 ∧ x.Ok w' (fun k => w.heap.size ≤ k) ∧ Below w.heap.size w w'
theorem foldr_size (zs : List ME.Nd) : (zs.foldr (fun z k => ME.F.cons z.o z.b z.v z.k k) .nil).size = (zs.map ME.Nd.size).sum := by
  induction zs with
  | nil => rfl
  | cons z r ih =>
    rw [List.foldr_cons, ME.F.size, ih, List.map_cons, List.sum_cons]
    unfold ME.Nd.size
    omega
theorem grN_size (zs : List ME.Nd) (h0 : 0 < zs.length) : (grN zs).size ≤ 1 + (zs.map ME.Nd.size).sum := by
  unfold grN
  split
  · rename_i h
    obtain ⟨z, rfl⟩ := List.length_eq_one_iff.1 h
    simp
  · unfold ME.Nd.size
    rw [foldr_size]
    unfold ME.Nd.size
    omega
theorem sum_le {α : Type} {f : α → Nat} {b : Nat} : ∀ {l : List α}, (∀ x ∈ l, f x ≤ b) → (l.map f).sum ≤ l.length * b
  | [], _ => by simp
  | x :: r, h => by
    have h1 := h x List.mem_cons_self
    have h2 := sum_le (l := r) (f := f) (b := b) fun y hy => h y (List.mem_cons_of_mem _ hy)
    rw [List.map_cons, List.sum_cons, List.length_cons, Nat.succ_mul]
    omega
theorem chL_len (n : Nat) : (chL n).length = (n + 7) / 8 := by unfold chL chP; simp
theorem toN_size (l : List MF.Of) (h0 : 0 < l.length) : (toN (l.map fun p => (atX p).n)).size ≤ 1 + (l.length + 7) / 8 * 9 := by
  unfold toN
  rw [List.length_map]
  refine Nat.le_trans (grN_size _ (by rw [List.length_map, chL_len]; omega)) ?_
  rw [List.map_map]
  have := sum_le (l := chL l.length) (f := ME.Nd.size ∘ gN (l.map fun p => (atX p).n)) (b := 9) fun x hx => by
    have hx' := chL_mem hx
    have hx8 : x.2 ≤ 8 := by
      unfold chL chP at hx
      obtain ⟨j, _, rfl⟩ := List.mem_map.1 hx
      exact Nat.min_le_left _ _
    show (gN _ x).size ≤ 9
    unfold gN
    refine Nat.le_trans (grN_size _ (by rw [List.length_take, List.length_drop, List.length_map]; omega)) ?_
    have h2 := sum_le (l := ((l.map fun p => (atX p).n).drop x.1).take x.2) (f := ME.Nd.size) (b := 1) fun y hy => by
      obtain ⟨p, _, rfl⟩ := List.mem_map.1 (List.mem_of_mem_drop (List.mem_of_mem_take hy))
      exact Nat.le_refl _
    rw [List.length_take] at h2
    omega
  rw [chL_len] at this
  omega
theorem toexpr_res {w : World} {R1 : Nat} {z0 z1 z2 z3 z4 z5 z6 z7 z8 v : Value} (tmps : Array Value) (h4 : tmps.getD 2 undef = .pointer (some ⟨R1, 0, none⟩)) (h5 : tmps.getD 3 undef = v) (b1 : B9 w R1 z0 z1 z2 z3 z4 z5 z6 z7 z8) :
    (results Try.f10 tmps).run Try.prog w = .ok (.tuple #[.agg #[z0, z1, z2, z3, z4, z5, z6, z7, z8], v]) w := by
  have h4' : tmps[2]?.getD undef = .pointer (some ⟨R1, 0, none⟩) := by simpa using h4
  have h5' : tmps[3]?.getD undef = v := by simpa using h5
  obtain ⟨r0, r1, r2, r3, r4, r5, r6, r7, r8⟩ := b1.cells
  simp [results, Try.results10, h4', h5', go_sem, r0, r1, r2, r3, r4, r5, r6, r7, r8]
set_option maxRecDepth 100000 in
set_option maxHeartbeats 4000000 in
theorem ftoexpr_any (A : Option Addr) (n c : Nat) (l : List MF.Of) (hn : n ≤ 100000) (w : World) (hl : Lst ofE w A n c l) : Calls Try.prog 10 #[.slice A n c] w (GivesXE (toE l) w) := by
  have HB := Lib.hid (below_new w (.cells #[.int .i64 0, .int .i64 0, .int .i64 0, .int .i64 0, .int .i64 0, .int .i64 0, .int .i64 0, .int .i64 0, .slice none 0 0] 28))
  have E0 := Lib.hid (show B9 (w.alloc (.cells #[.int .i64 0, .int .i64 0, .int .i64 0, .int .i64 0, .int .i64 0, .int .i64 0, .int .i64 0, .int .i64 0, .slice none 0 0] 28)) w.heap.size (.int .i64 0) (.int .i64 0) (.int .i64 0) (.int .i64 0) (.int .i64 0) (.int .i64 0) (.int .i64 0) (.int .i64 0) (.slice none 0 0) from heap_new w _)
  have L0 := Lib.hid (hl.keep HB.out)
  have HLN := Lib.hid hl.len
  have HF := Lib.hid hl.fine
  clear hl
  obtain ⟨R, hR⟩ : ∃ R, R = toE l := ⟨_, rfl⟩
  rw [← hR]
  have HR := Lib.hid hR
  clear hR
  go_enter Try.func10, Try.ntmps10
  go_upto_region 1 with (fail)
  generalize w.alloc (.cells #[.int .i64 0, .int .i64 0, .int .i64 0, .int .i64 0, .int .i64 0, .int .i64 0, .int .i64 0, .int .i64 0, .slice none 0 0] 28) = w1 at *
  obtain ⟨e0, e1, e2, e3, e4, e5, e6, e7, e8⟩ := E0.out.cells
  obtain ⟨g0, g1, g2, g3, g4, g5, g6, g7, g8⟩ := E0.out.free
  by_cases h0 : n = 0
  · have HE := Lib.hid (show R = (zeroN, 1) from by rw [HR.out]; unfold toE; rw [if_pos (by rw [HLN.out, h0])])
    have d0 : ((n : Int) == 0) = true := beq_iff_eq.2 (by omega)
    clear h0
    go_wp2
    refine bodyPost_ret (toexpr_res _ rfl rfl (by rw [nest_0]; exact E0.out.put _ _ _ _ _ _ _ _ _)) rfl ?_
    rw [HE.out]
    refine ⟨ntZ, rfl, rfl, ntZ_ok _ _, ?_⟩
    rw [nest_0]
    exact HB.out.grown (sets_grown _ _) HB.out.size (fun k hk => by injection hk with hk; omega)
  · have h0' : 0 < n := by omega
    have d0 : ((n : Int) == 0) = false := beq_eq_false_iff_ne.2 (by omega)
    have HE := Lib.hid (show R = if ME.checkE (toN (l.map fun p => (atX p).n)) ≠ 0 then (zeroN, ME.checkE (toN (l.map fun p => (atX p).n))) else (toN (l.map fun p => (atX p).n), 0) from by rw [HR.out]; unfold toE; rw [if_neg (by rw [HLN.out]; exact h0)])
    have HSZ := Lib.hid (toN_size l (by rw [HLN.out]; exact h0'))
    obtain ⟨Nd, hNd⟩ : ∃ N, N = toN (l.map fun p => (atX p).n) := ⟨_, rfl⟩
    rw [← hNd] at HE HSZ
    have HND := Lib.hid (show (chL n).map (gN ((l.map atX).map NT.n)) = (chL (l.map fun p => (atX p).n).length).map (gN (l.map fun p => (atX p).n)) from by rw [List.length_map, HLN.out, List.map_map]; rfl)
    have HNN := Lib.hid (show grN ((chL (l.map fun p => (atX p).n).length).map (gN (l.map fun p => (atX p).n))) = Nd from by rw [hNd]; rfl)
    clear h0 HR hNd e0 e1 e2 e3 e4 e5 e6 e7 e8 g0 g1 g2 g3 g4 g5 g6 g7 g8
    go_wp2_with fail
    refine (fatoms_any A n c l (by omega) w1 L0.out).mono ?_
    rintro ev w2 ⟨v2, rfl, ho2, nb2⟩
    have B2 := Lib.hid (HB.out.trans (nb2.mono HB.out.size))
    have E2 := Lib.hid (E0.out.keep nb2)
    obtain ⟨g2, cap2, rfl, hl2⟩ : ∃ g cap, v2 = .slice (some ⟨g, 0, none⟩) n cap ∧ Lst ntE w2 (some ⟨g, 0, none⟩) n cap (l.map atX) := by
      rcases ho2.1.2 with ⟨_, e⟩ | ⟨g, cap, cur, rfl, _⟩
      · rw [List.length_map, HLN.out] at e; omega
      · obtain ⟨A', c', e, hl', _⟩ := ho2.form2 (by rw [List.length_map, HLN.out]; omega)
        injection e with e1 e2 e3
        subst e1 e3
        rw [List.length_map, HLN.out] at hl' ⊢
        exact ⟨g, cap, rfl, hl'⟩
    have L2 := Lib.hid hl2
    clear nb2 ho2 hl2 HB E0 L0
    go_wp2_with fail
    refine (fgroups_any ⟨g2, 0, none⟩ n cap2 l h0' (by omega) w2 L2.out HF.out).mono ?_
    rintro ev w3 ⟨v3, L, rfl, ho3, hn3, hk3, nb3⟩
    have B3 := Lib.hid (B2.out.trans (nb3.mono B2.out.size))
    have E3 := Lib.hid (E2.out.keep nb3)
    rw [HND.out] at hn3
    obtain ⟨x, hx1, hx2, hx3⟩ := either_own w3 _ v3 L ho3 (by have := congrArg List.length hn3; rw [List.length_map, List.length_map, chL_len, List.length_map, HLN.out] at this; omega) hk3
    rw [hn3, HNN.out] at hx2
    have HC := Lib.hid hx1
    have HXN := Lib.hid hx2
    have HXO := Lib.hid hx3
    have HXS := Lib.hid (show x.size ≤ 2000000 from by rw [← NT.size_n, hx2]; refine Nat.le_trans HSZ.out ?_; rw [HLN.out]; omega)
    have hw2 : w.heap.size < w2.heap.size := E2.out.lt
    clear nb3 ho3 hn3 hk3 hx1 hx2 hx3 B2 E2 L2
    have hsx := HXO.out.six
    obtain ⟨oy, byy, vy, Ay, cy, ky⟩ := x
    obtain ⟨q0, q1, q2, q3, q4, q5, rfl⟩ := six hsx
    rw [NT.val_lit] at HC
    clear hsx
    go_wp2_with fail
    refine HC.out.mono ?_
    rintro ev w4 ⟨rfl, nb4⟩
    have B4 := Lib.hid (B3.out.trans (nb4.mono B3.out.size))
    have E4 := Lib.hid (E3.out.keep nb4)
    have X4 := Lib.hid (HXO.out.below nb4)
    clear nb4 HC HXO B3 E3
    go_upto_region 4 with (fail)
    have nb5 := below_new w4 (.cells #[.int .i64 oy, .int .i64 q0, .int .i64 q1, .int .i64 q2, .int .i64 q3, .int .i64 q4, .int .i64 q5, .int .i64 vy, .slice Ay ky.len cy] 28)
    have Y5 := Lib.hid (show B9 (w4.alloc (.cells #[.int .i64 oy, .int .i64 q0, .int .i64 q1, .int .i64 q2, .int .i64 q3, .int .i64 q4, .int .i64 q5, .int .i64 vy, .slice Ay ky.len cy] 28)) w4.heap.size (.int .i64 oy) (.int .i64 q0) (.int .i64 q1) (.int .i64 q2) (.int .i64 q3) (.int .i64 q4) (.int .i64 q5) (.int .i64 vy) (.slice Ay ky.len cy) from heap_new w4 _)
    have B5 := Lib.hid (B4.out.trans (nb5.mono B4.out.size))
    have E5 := Lib.hid (E4.out.keep nb5)
    have X5 := Lib.hid (X4.out.below nb5)
    clear nb5 B4 E4 X4
    generalize w4.alloc (.cells #[.int .i64 oy, .int .i64 q0, .int .i64 q1, .int .i64 q2, .int .i64 q3, .int .i64 q4, .int .i64 q5, .int .i64 vy, .slice Ay ky.len cy] 28) = w5 at *
    generalize w4.heap.size = B at *
    obtain ⟨y0, y1, y2, y3, y4, y5, y6, y7, y8⟩ := Y5.out.cells
    have HK := Lib.hid (check_any ⟨oy, [q0, q1, q2, q3, q4, q5], vy, Ay, cy, ky⟩ HXS.out w5 _ X5.out)
    rw [NT.val_lit, HXN.out] at HK
    go_wp2_with fail
    refine HK.out.mono ?_
    rintro ev w6 ⟨rfl, nb6⟩
    have B6 := Lib.hid (B5.out.trans (nb6.mono B5.out.size))
    have E6 := Lib.hid (E5.out.keep nb6)
    have Y6 := Lib.hid (Y5.out.keep nb6)
    have X6 := Lib.hid (X5.out.below nb6)
    clear nb6 HK y0 y1 y2 y3 y4 y5 y6 y7 y8 B5 E5 Y5 X5
    generalize ME.checkE Nd = ck at *
    obtain ⟨e0, e1, e2, e3, e4, e5, e6, e7, e8⟩ := E6.out.cells
    obtain ⟨g0, g1, g2', g3, g4, g5, g6, g7, g8⟩ := E6.out.free
    by_cases hck : ck = 0
    · have dk : (ck == 0) = true := beq_iff_eq.2 hck
      have HE2 := Lib.hid (HE.out.trans (if_neg (by simpa using hck)))
      obtain ⟨y0, y1, y2, y3, y4, y5, y6, y7, y8⟩ := Y6.out.cells
      clear hck
      go_wp2
      refine bodyPost_ret (toexpr_res _ rfl rfl (by rw [nest_0]; exact E6.out.put _ _ _ _ _ _ _ _ _)) rfl ?_
      rw [HE2.out, nest_0]
      have hg := sets_grown (w := w6) (g := w.heap.size) [.int .i64 oy, .int .i64 q0, .int .i64 q1, .int .i64 q2, .int .i64 q3, .int .i64 q4, .int .i64 q5, .int .i64 vy, .slice Ay ky.len cy] 0
      refine ⟨⟨oy, [q0, q1, q2, q3, q4, q5], vy, Ay, cy, ky⟩, by rw [NT.val_lit]; rfl, HXN.out, X6.out.keep (fun k hk hk2 => hg.block k hk2 (fun q => by injection q with q; omega)) hg.size (fun k hk _ => by omega), ?_⟩
      exact B6.out.grown hg B6.out.size (fun k hk => by injection hk with hk; omega)
    · have dk : (ck == 0) = false := beq_eq_false_iff_ne.2 hck
      have HE2 := Lib.hid (HE.out.trans (if_pos hck))
      clear hck
      go_wp2
      refine bodyPost_ret (toexpr_res _ rfl rfl (by rw [nest_0]; exact E6.out.put _ _ _ _ _ _ _ _ _)) rfl ?_
      rw [HE2.out]
      refine ⟨ntZ, rfl, rfl, ntZ_ok _ _, ?_⟩
      rw [nest_0]
      exact B6.out.grown (sets_grown _ _) B6.out.size (fun k hk => by injection hk with hk; omega)
end Go.Proofs.Ytjjpfpgjpmedmaa

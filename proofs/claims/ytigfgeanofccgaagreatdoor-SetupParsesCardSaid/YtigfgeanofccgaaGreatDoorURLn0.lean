/- A setup's own rows, its variable lying anywhere: no claim of its own. -/
import Derived.Test.YtigfgeanofccgaaGreatDoorJPr
namespace Go.Proofs.YtigfgeanofccgaaGreatDoor
open Go.RowKit
open MU (Su Cp As)
/-- Four rows of the call's own. -/
structure OS (w : World) (B : Nat) (s : Su) (v1 v2 v3 v4 : Value) : Prop where
  p : OwnL prE 60 w B v1 s.ps
  b : OwnL bdE 64 w B v2 s.bs
  c : OwnL cpE 66 w B v3 s.cs
  a : OwnL asdE 68 w B v4 s.as_
theorem OS.nil (w : World) (B : Nat) : OS w B Su.none (.slice none 0 0) (.slice none 0 0) (.slice none 0 0) (.slice none 0 0) := ⟨OwnL.nil _ _ _, OwnL.nil _ _ _, OwnL.nil _ _ _, OwnL.nil _ _ _⟩
theorem OS.keep {w w' : World} {B : Nat} {s : Su} {v1 v2 v3 v4 : Value} (h : OS w B s v1 v2 v3 v4) (hb : Below w.heap.size w w') : OS w' B s v1 v2 v3 v4 := ⟨h.p.keep hb, h.b.keep hb, h.c.keep hb, h.a.keep hb⟩
/-- A variable of type Setup turns. -/
theorem OS.turn {w w' : World} {B g : Nat} {s : Su} {v1 v2 v3 v4 : Value} {cs : Array Value} {fz : Nat × Nat} (h : OS w B s v1 v2 v3 v4) (hg : w.grownBy w' (some g)) (ho : w.heap[g]? = some (.cells cs 27 fz)) : OS w' B s v1 v2 v3 v4 :=
  ⟨h.p.turn hg (h.p.ne ho (by decide)), h.b.turn hg (h.b.ne ho (by decide)), h.c.turn hg (h.c.ne ho (by decide)), h.a.turn hg (h.a.ne ho (by decide))⟩
theorem OwnL.low0 {α : Type} {E : El α} {e : TypeId} {w : World} {B : Nat} {v : Value} {l : List α} (h : OwnL E e w B v l) : OwnL E e w 0 v l := by
  refine ⟨⟨h.1.1, ?_⟩, h.2⟩
  rcases h.1.2 with h0 | ⟨g, cap, cur, hv, _, r⟩
  · exact .inl h0
  · exact .inr ⟨g, cap, cur, hv, Nat.zero_le _, r⟩
theorem far_own {α : Type} {E : El α} {e : TypeId} {w w1 : World} {B : Nat} {v : Value} {l : List α} (h : OwnL E e w B v l) (hg : w.grownBy w1 v.ownBlock) {k : Nat} {c : Array Value} {T : TypeId} {fz : Nat × Nat} (hk : w.heap[k]? = some (.cells c T fz)) (hT : T ≠ e) : w1.heap[k]? = some (.cells c T fz) := by
  refine (hg.block k (Array.getElem?_eq_some_iff.1 hk).1 ?_).trans hk
  rcases h.ne hk hT with e | e
  · rw [e]; simp
  · exact fun e' => e e'.symm
/-- What is below N and of no row's type stays. -/
def FarS (N : Nat) (w w' : World) : Prop := ∀ (k : Nat) (c : Array Value) (T : TypeId) (fz : Nat × Nat), k < N → w.heap[k]? = some (.cells c T fz) → T ≠ 60 → T ≠ 64 → T ≠ 66 → T ≠ 68 → w'.heap[k]? = some (.cells c T fz)
theorem FarS.refl (N : Nat) (w : World) : FarS N w w := fun _ _ _ _ _ h _ _ _ _ => h
theorem FarS.trans {N : Nat} {a b c : World} (h : FarS N a b) (k : FarS N b c) : FarS N a c := fun i o T fz hi ho h1 h2 h3 h4 => k i o T fz hi (h i o T fz hi ho h1 h2 h3 h4) h1 h2 h3 h4
theorem FarS.below {N : Nat} {a b : World} (h : Below N a b) : FarS N a b := fun k _ _ _ hk ho _ _ _ _ => (h.block k hk).trans ho
theorem FarS.set {N : Nat} {a : World} {g o : Nat} (hg : N ≤ g) (u : Value) : FarS N a (a.setCell ⟨g, o, none⟩ u) := fun k _ _ _ hk ho _ _ _ _ => (Below.heap_setCell a ⟨g, o, none⟩ u k (by show k ≠ g; omega)).trans ho
theorem FarS.own {α : Type} {E : El α} {e : TypeId} {N : Nat} {g : Nat} {v : Value} {l : List α} {a b : World} (hf : FarS N a b) (h : OwnL E e a g v l) (ha : ∀ k, v.ownBlock = some k → k < N) (h0 : e ≠ 60) (h1 : e ≠ 64) (h2 : e ≠ 66) (h3 : e ≠ 68) : OwnL E e b g v l := by
  refine ⟨⟨h.1.1, ?_⟩, h.2⟩
  rcases h.1.2 with ⟨rfl, h0⟩ | ⟨g', cap, cur, rfl, hb, hh, r⟩
  · exact .inl ⟨rfl, h0⟩
  · exact .inr ⟨g', cap, cur, rfl, hb, hf g' cur e _ (ha g' rfl) hh h0 h1 h2 h3, r⟩
/-- What the line's walk knows: the rows, the setup's box, the result's, the words. -/
structure LnS (w0 w : World) (B : Nat) (s : Su) (v1 v2 v3 v4 : Value) (vw : Value) (ws : List (List UInt8)) : Prop where
  os : OS w B s v1 v2 v3 v4
  bx : TB w w0.heap.size 27 v1 v2 v3 v4
  rs : TB w (w0.heap.size + 1) 27 (.slice none 0 0) (.slice none 0 0) (.slice none 0 0) (.slice none 0 0)
  wd : OwnL strE 9 w 0 vw ws
  far : FarS w0.heap.size w0 w
  low : Below B w0 w
theorem LnS.keep {w0 w w' : World} {B : Nat} {s : Su} {v1 v2 v3 v4 vw : Value} {ws : List (List UInt8)} (h : LnS w0 w B s v1 v2 v3 v4 vw ws) (hB : B ≤ w0.heap.size) (hb : Below w.heap.size w w') : LnS w0 w' B s v1 v2 v3 v4 vw ws :=
  ⟨h.os.keep hb, h.bx.keep hb, h.rs.keep hb, h.wd.keep hb, h.far.trans (FarS.below (hb.mono (Nat.le_of_lt h.bx.lt))), h.low.trans (hb.mono (Nat.le_trans hB (Nat.le_of_lt h.bx.lt)))⟩
theorem LnS.app0 {w0 w w1 : World} {B : Nat} {s : Su} {v1 v2 v3 v4 v' vw : Value} {ws : List (List UInt8)} {x : MC.Pr} (h : LnS w0 w B s v1 v2 v3 v4 vw ws) (hB : B ≤ w0.heap.size) (hx : prE.fine x) (hown : w1.ownsRow B 60 prE.sz v' (s.ps.length + 1) (prE.all s.ps ++ prE.cells x)) (hg : w.grownBy w1 v1.ownBlock) :
    LnS w0 (w1.setCell ⟨w0.heap.size, 0, none⟩ v') B { s with ps := s.ps ++ [x] } v' v2 v3 v4 vw ws := by
  have b1 : TB w1 w0.heap.size 27 v1 v2 v3 v4 := far_own h.os.p hg h.bx (by decide)
  have r1 : TB w1 (w0.heap.size + 1) 27 (.slice none 0 0) (.slice none 0 0) (.slice none 0 0) (.slice none 0 0) := far_own h.os.p hg h.rs (by decide)
  have o1 : OS w1 B { s with ps := s.ps ++ [x] } v' v2 v3 v4 := ⟨h.os.p.snoc hx hown, h.os.b.turn hg (h.os.b.apart h.os.p (by decide)), h.os.c.turn hg (h.os.c.apart h.os.p (by decide)), h.os.a.turn hg (h.os.a.apart h.os.p (by decide))⟩
  have d1 : OwnL strE 9 w1 0 vw ws := h.wd.turn hg (h.wd.apart h.os.p.low0 (by decide))
  have hs := g_set w1 w0.heap.size 0 v'
  refine ⟨o1.turn hs b1, ?_, (hs.block _ r1.lt (fun e => by injection e with e; omega)).trans r1, d1.turn hs (d1.ne b1 (by decide)), ?_, ?_⟩
  · have hb := b1
    unfold TB at hb ⊢
    rw [heap_setCell_same w1 w0.heap.size 0 _ _ _ hb]; rfl
  · exact (h.far.trans (fun _ _ _ _ _ ho h1 h2 h3 h4 => far_own h.os.p hg ho h1)).trans (FarS.set (Nat.le_refl _) v')
  · exact Below.setCell (p := ⟨w0.heap.size, 0, none⟩) (h.low.grown hg (Nat.le_trans hB (Nat.le_of_lt h.bx.lt)) (fun k hk => (World.ownsRow.lt h.os.p.1 k hk).1)) hB _
theorem LnS.stay0 {w0 w w1 : World} {B : Nat} {s : Su} {v1 v2 v3 v4 vw : Value} {ws : List (List UInt8)} (h : LnS w0 w B s v1 v2 v3 v4 vw ws) (hg : w.grownBy w1 v1.ownBlock) : TB w1 w0.heap.size 27 v1 v2 v3 v4 := far_own h.os.p hg h.bx (by decide)
theorem LnS.app1 {w0 w w1 : World} {B : Nat} {s : Su} {v1 v2 v3 v4 v' vw : Value} {ws : List (List UInt8)} {x : MR.Bd} (h : LnS w0 w B s v1 v2 v3 v4 vw ws) (hB : B ≤ w0.heap.size) (hx : bdE.fine x) (hown : w1.ownsRow B 64 bdE.sz v' (s.bs.length + 1) (bdE.all s.bs ++ bdE.cells x)) (hg : w.grownBy w1 v2.ownBlock) :
    LnS w0 (w1.setCell ⟨w0.heap.size, 1, none⟩ v') B { s with bs := s.bs ++ [x] } v1 v' v3 v4 vw ws := by
  have b1 : TB w1 w0.heap.size 27 v1 v2 v3 v4 := far_own h.os.b hg h.bx (by decide)
  have r1 : TB w1 (w0.heap.size + 1) 27 (.slice none 0 0) (.slice none 0 0) (.slice none 0 0) (.slice none 0 0) := far_own h.os.b hg h.rs (by decide)
  have o1 : OS w1 B { s with bs := s.bs ++ [x] } v1 v' v3 v4 := ⟨h.os.p.turn hg (h.os.p.apart h.os.b (by decide)), h.os.b.snoc hx hown, h.os.c.turn hg (h.os.c.apart h.os.b (by decide)), h.os.a.turn hg (h.os.a.apart h.os.b (by decide))⟩
  have d1 : OwnL strE 9 w1 0 vw ws := h.wd.turn hg (h.wd.apart h.os.b.low0 (by decide))
  have hs := g_set w1 w0.heap.size 1 v'
  refine ⟨o1.turn hs b1, ?_, (hs.block _ r1.lt (fun e => by injection e with e; omega)).trans r1, d1.turn hs (d1.ne b1 (by decide)), ?_, ?_⟩
  · have hb := b1
    unfold TB at hb ⊢
    rw [heap_setCell_same w1 w0.heap.size 1 _ _ _ hb]; rfl
  · exact (h.far.trans (fun _ _ _ _ _ ho h1 h2 h3 h4 => far_own h.os.b hg ho h2)).trans (FarS.set (Nat.le_refl _) v')
  · exact Below.setCell (p := ⟨w0.heap.size, 1, none⟩) (h.low.grown hg (Nat.le_trans hB (Nat.le_of_lt h.bx.lt)) (fun k hk => (World.ownsRow.lt h.os.b.1 k hk).1)) hB _
theorem LnS.stay1 {w0 w w1 : World} {B : Nat} {s : Su} {v1 v2 v3 v4 vw : Value} {ws : List (List UInt8)} (h : LnS w0 w B s v1 v2 v3 v4 vw ws) (hg : w.grownBy w1 v2.ownBlock) : TB w1 w0.heap.size 27 v1 v2 v3 v4 := far_own h.os.b hg h.bx (by decide)
theorem LnS.app2 {w0 w w1 : World} {B : Nat} {s : Su} {v1 v2 v3 v4 v' vw : Value} {ws : List (List UInt8)} {x : Cp} (h : LnS w0 w B s v1 v2 v3 v4 vw ws) (hB : B ≤ w0.heap.size) (hx : cpE.fine x) (hown : w1.ownsRow B 66 cpE.sz v' (s.cs.length + 1) (cpE.all s.cs ++ cpE.cells x)) (hg : w.grownBy w1 v3.ownBlock) :
    LnS w0 (w1.setCell ⟨w0.heap.size, 2, none⟩ v') B { s with cs := s.cs ++ [x] } v1 v2 v' v4 vw ws := by
  have b1 : TB w1 w0.heap.size 27 v1 v2 v3 v4 := far_own h.os.c hg h.bx (by decide)
  have r1 : TB w1 (w0.heap.size + 1) 27 (.slice none 0 0) (.slice none 0 0) (.slice none 0 0) (.slice none 0 0) := far_own h.os.c hg h.rs (by decide)
  have o1 : OS w1 B { s with cs := s.cs ++ [x] } v1 v2 v' v4 := ⟨h.os.p.turn hg (h.os.p.apart h.os.c (by decide)), h.os.b.turn hg (h.os.b.apart h.os.c (by decide)), h.os.c.snoc hx hown, h.os.a.turn hg (h.os.a.apart h.os.c (by decide))⟩
  have d1 : OwnL strE 9 w1 0 vw ws := h.wd.turn hg (h.wd.apart h.os.c.low0 (by decide))
  have hs := g_set w1 w0.heap.size 2 v'
  refine ⟨o1.turn hs b1, ?_, (hs.block _ r1.lt (fun e => by injection e with e; omega)).trans r1, d1.turn hs (d1.ne b1 (by decide)), ?_, ?_⟩
  · have hb := b1
    unfold TB at hb ⊢
    rw [heap_setCell_same w1 w0.heap.size 2 _ _ _ hb]; rfl
  · exact (h.far.trans (fun _ _ _ _ _ ho h1 h2 h3 h4 => far_own h.os.c hg ho h3)).trans (FarS.set (Nat.le_refl _) v')
  · exact Below.setCell (p := ⟨w0.heap.size, 2, none⟩) (h.low.grown hg (Nat.le_trans hB (Nat.le_of_lt h.bx.lt)) (fun k hk => (World.ownsRow.lt h.os.c.1 k hk).1)) hB _
theorem LnS.stay2 {w0 w w1 : World} {B : Nat} {s : Su} {v1 v2 v3 v4 vw : Value} {ws : List (List UInt8)} (h : LnS w0 w B s v1 v2 v3 v4 vw ws) (hg : w.grownBy w1 v3.ownBlock) : TB w1 w0.heap.size 27 v1 v2 v3 v4 := far_own h.os.c hg h.bx (by decide)
theorem LnS.app3 {w0 w w1 : World} {B : Nat} {s : Su} {v1 v2 v3 v4 v' vw : Value} {ws : List (List UInt8)} {x : As} (h : LnS w0 w B s v1 v2 v3 v4 vw ws) (hB : B ≤ w0.heap.size) (hx : asdE.fine x) (hown : w1.ownsRow B 68 asdE.sz v' (s.as_.length + 1) (asdE.all s.as_ ++ asdE.cells x)) (hg : w.grownBy w1 v4.ownBlock) :
    LnS w0 (w1.setCell ⟨w0.heap.size, 3, none⟩ v') B { s with as_ := s.as_ ++ [x] } v1 v2 v3 v' vw ws := by
  have b1 : TB w1 w0.heap.size 27 v1 v2 v3 v4 := far_own h.os.a hg h.bx (by decide)
  have r1 : TB w1 (w0.heap.size + 1) 27 (.slice none 0 0) (.slice none 0 0) (.slice none 0 0) (.slice none 0 0) := far_own h.os.a hg h.rs (by decide)
  have o1 : OS w1 B { s with as_ := s.as_ ++ [x] } v1 v2 v3 v' := ⟨h.os.p.turn hg (h.os.p.apart h.os.a (by decide)), h.os.b.turn hg (h.os.b.apart h.os.a (by decide)), h.os.c.turn hg (h.os.c.apart h.os.a (by decide)), h.os.a.snoc hx hown⟩
  have d1 : OwnL strE 9 w1 0 vw ws := h.wd.turn hg (h.wd.apart h.os.a.low0 (by decide))
  have hs := g_set w1 w0.heap.size 3 v'
  refine ⟨o1.turn hs b1, ?_, (hs.block _ r1.lt (fun e => by injection e with e; omega)).trans r1, d1.turn hs (d1.ne b1 (by decide)), ?_, ?_⟩
  · have hb := b1
    unfold TB at hb ⊢
    rw [heap_setCell_same w1 w0.heap.size 3 _ _ _ hb]; rfl
  · exact (h.far.trans (fun _ _ _ _ _ ho h1 h2 h3 h4 => far_own h.os.a hg ho h4)).trans (FarS.set (Nat.le_refl _) v')
  · exact Below.setCell (p := ⟨w0.heap.size, 3, none⟩) (h.low.grown hg (Nat.le_trans hB (Nat.le_of_lt h.bx.lt)) (fun k hk => (World.ownsRow.lt h.os.a.1 k hk).1)) hB _
theorem LnS.stay3 {w0 w w1 : World} {B : Nat} {s : Su} {v1 v2 v3 v4 vw : Value} {ws : List (List UInt8)} (h : LnS w0 w B s v1 v2 v3 v4 vw ws) (hg : w.grownBy w1 v4.ownBlock) : TB w1 w0.heap.size 27 v1 v2 v3 v4 := far_own h.os.a hg h.bx (by decide)
/-- What line gives. -/
def GivesLn (r : Su × Int) (B : Nat) (w0 : World) (ev : Ending) (w' : World) : Prop := ∃ u1 u2 u3 u4, ev = .returned (.tuple #[.agg #[u1, u2, u3, u4], .int .i64 r.2]) ∧ OS w' B r.1 u1 u2 u3 u4 ∧ FarS w0.heap.size w0 w' ∧ Below B w0 w'
theorem LnS.fin {w0 w : World} {B : Nat} {s : Su} {v1 v2 v3 v4 vw : Value} {ws : List (List UInt8)} {r : Su × Int} {e : Int} (h : LnS w0 w B s v1 v2 v3 v4 vw ws) (hB : B ≤ w0.heap.size) (hr : r = (s, e)) :
    GivesLn r B w0 (.returned (.tuple #[.agg #[v1, v2, v3, v4], .int .i64 e])) ((((w.setCell ⟨w0.heap.size + 1, 0, none⟩ v1).setCell ⟨w0.heap.size + 1, 1, none⟩ v2).setCell ⟨w0.heap.size + 1, 2, none⟩ v3).setCell ⟨w0.heap.size + 1, 3, none⟩ v4) := by
  subst hr
  have K : ∀ (w : World) (k : Nat) (u : Value) (a b c d : Value), OS w B s v1 v2 v3 v4 → TB w (w0.heap.size + 1) 27 a b c d → OS (w.setCell ⟨w0.heap.size + 1, k, none⟩ u) B s v1 v2 v3 v4 := fun w k u a b c d h hb => h.turn (g_set w _ k u) hb
  have t0 := h.rs
  have o1 := K _ 0 v1 _ _ _ _ h.os t0
  have t1 : TB (w.setCell ⟨w0.heap.size + 1, 0, none⟩ v1) (w0.heap.size + 1) 27 v1 (.slice none 0 0) (.slice none 0 0) (.slice none 0 0) := by unfold TB at t0 ⊢; rw [heap_setCell_same w _ 0 _ _ _ t0]; rfl
  have o2 := K _ 1 v2 _ _ _ _ o1 t1
  have t2 : TB ((w.setCell ⟨w0.heap.size + 1, 0, none⟩ v1).setCell ⟨w0.heap.size + 1, 1, none⟩ v2) (w0.heap.size + 1) 27 v1 v2 (.slice none 0 0) (.slice none 0 0) := by unfold TB at t1 ⊢; rw [heap_setCell_same _ _ 1 _ _ _ t1]; rfl
  have o3 := K _ 2 v3 _ _ _ _ o2 t2
  have t3 : TB (((w.setCell ⟨w0.heap.size + 1, 0, none⟩ v1).setCell ⟨w0.heap.size + 1, 1, none⟩ v2).setCell ⟨w0.heap.size + 1, 2, none⟩ v3) (w0.heap.size + 1) 27 v1 v2 v3 (.slice none 0 0) := by unfold TB at t2 ⊢; rw [heap_setCell_same _ _ 2 _ _ _ t2]; rfl
  have o4 := K _ 3 v4 _ _ _ _ o3 t3
  exact ⟨_, _, _, _, rfl, o4, h.far.trans (FarS.below (away4 (Nat.le_succ _) v1 v2 v3 v4)), h.low.trans (away4 (Nat.le_trans hB (Nat.le_succ _)) v1 v2 v3 v4)⟩
/-- The words' and numbers' cells. -/
theorem OwnL.str_open {w : World} {B : Nat} {v : Value} {x : List UInt8} {r : List (List UInt8)} (h : OwnL strE 9 w B v (x :: r)) : ∃ g c, v = .slice (some ⟨g, 0, none⟩) (r.length + 1) c ∧ r.length + 1 ≤ c ∧ g < w.heap.size ∧ x.length ≤ 9223372036854775807 := by
  rcases h.1.2 with ⟨_, h0⟩ | ⟨g, cap, cur, rfl, hb, hh, hc, _⟩
  · simp at h0
  · exact ⟨g, cap, rfl, hc, (Array.getElem?_eq_some_iff.1 hh).1, h.2 x (by simp)⟩
theorem OwnL.int_open {w : World} {B : Nat} {v : Value} {x : Int} {r : List Int} (h : OwnL intE 2 w B v (x :: r)) : ∃ g c, v = .slice (some ⟨g, 0, none⟩) (r.length + 1) c ∧ r.length + 1 ≤ c ∧ g < w.heap.size := by
  rcases h.1.2 with ⟨_, h0⟩ | ⟨g, cap, cur, rfl, hb, hh, hc, _⟩
  · simp at h0
  · exact ⟨g, cap, rfl, hc, (Array.getElem?_eq_some_iff.1 hh).1⟩
theorem OwnL.str_cell {w : World} {B g c : Nat} {l : List (List UInt8)} (h : OwnL strE 9 w B (.slice (some ⟨g, 0, none⟩) l.length c) l) (k : Nat) (x : List UInt8) (hk : l[k]? = some x) : w.cell? ⟨g, k, none⟩ = some (.string (str x)) := by
  have hl := (List.getElem?_eq_some_iff.1 hk).1
  rw [h.1.cellAt k (show k < l.length * strE.sz from by show k < l.length * 1; omega), all_str, List.getElem?_map, hk]; rfl
theorem all_int (l : List Int) : intE.all l = l.map fun x => .int .i64 x := by
  induction l with
  | nil => rfl
  | cons x r ih => show [Value.int .i64 x] ++ intE.all r = _; rw [ih]; rfl
theorem OwnL.int_cell {w : World} {B g c : Nat} {l : List Int} (h : OwnL intE 2 w B (.slice (some ⟨g, 0, none⟩) l.length c) l) (k : Nat) (x : Int) (hk : l[k]? = some x) : w.cell? ⟨g, k, none⟩ = some (.int .i64 x) := by
  have hl := (List.getElem?_eq_some_iff.1 hk).1
  rw [h.1.cellAt k (show k < l.length * intE.sz from by show k < l.length * 1; omega), all_int, List.getElem?_map, hk]; rfl
/-- Split and numbers: what they hand back is their own. -/
def GivesO {α : Type} (E : El α) (e : TypeId) (l : List α) (w : World) (ev : Ending) (w' : World) : Prop := ∃ v, ev = .returned v ∧ OwnL E e w' w.heap.size v l ∧ Below w.heap.size w w'
def GivesNo (r : List Int × Int) (w : World) (ev : Ending) (w' : World) : Prop := ∃ v, ev = .returned (.tuple #[v, .int .i64 r.2]) ∧ OwnL intE 2 w' w.heap.size v r.1 ∧ Below w.heap.size w w'
set_option maxRecDepth 100000 in
set_option maxHeartbeats 4000000 in
theorem rsplit_own (s : ByteArray) (c : UInt8) (hs : s.size ≤ 10000) (w : World) :
    Calls Tryz.prog 31 #[.string s, .int .u8 c.toNat] w (GivesO strE 9 (MU.splitB c s.data.toList) w) := by
  have hl := size_list s
  have S0 := Lib.hid (show Spl w c s.data.toList 0 (.slice (some ⟨w.heap.size, 0, none⟩) 1 1) (w.alloc (.cells #[.string ⟨#[]⟩] 9)) from
    ⟨⟨World.ownsRow_lit w #[.string ⟨#[]⟩] 1 (Nat.le_refl _) (by unfold maxLen; decide) rfl, fun x hx => by
      have : x ∈ [([] : List UInt8)] := hx
      rw [List.mem_singleton.1 this]; exact Nat.zero_le _⟩, below_new _ _⟩)
  have HL := Lib.hid hl
  clear hl
  obtain ⟨i0, hi, hz0, hz1, hz2⟩ := info_parts infoStr10
  go_enter Tryz.func31, Tryz.ntmps31
  go_wp2
  generalize w.alloc (.cells #[.string ⟨#[]⟩] 9) = W0 at *
  go_loopw [5, 6] (fun v i wr => ∃ k : Nat, k ≤ s.size ∧ i = .int .i64 k ∧ Hid (Spl w c s.data.toList k v wr)) (fun _ i _ => s.size - (intOf i).toNat)
  case atStart => exact ⟨0, Nat.zero_le _, rfl, S0⟩
  case round =>
    obtain ⟨k, hk, rfl, HS⟩ := hrel
    clear S0
    by_cases hlt : k < s.size
    · have HT := Lib.hid (show s.data.toList.take (k + 1) = s.data.toList.take k ++ [s[k]] by rw [List.take_succ_eq_append_getElem (by rw [HL.out]; exact hlt)]; rfl)
      have HLT := Lib.hid (show (s.data.toList.take k).length ≤ s.size by rw [List.length_take, HL.out]; omega)
      have hlen := Nat.le_trans (split_len c (s.data.toList.take k)) (Nat.succ_le_succ HLT.out)
      by_cases hy : s[k] = c
      · have hb : (((s[k]).toNat : Int) == ((c.toNat : Nat) : Int)) = true := by rw [hy]; exact beq_self_eq_true _
        have E := Lib.hid (show MU.splitB c (s.data.toList.take (k + 1)) = MU.splitB c (s.data.toList.take k) ++ [[]] by rw [HT.out, hy]; exact MU.split_snoc_sep c _)
        have O2 := Lib.hid (HS.out.own.keep (below_new _ (.cells #[.string ⟨#[]⟩] 9)))
        have B2 := Lib.hid (HS.out.below.alloc HS.out.below.size (.cells #[.string ⟨#[]⟩] 9))
        have HX := Lib.hid (lone1 (heap_new wr (.cells #[.string ⟨#[]⟩] 9)))
        have hsz := HS.out.below.size
        clear HS hy HT HLT
        generalize MU.splitB c (s.data.toList.take k) = ws at *
        go_wp2_with (at_builtin; refine wpList_append_own _ rfl _ _ 51 rfl w.heap.size 9 i0 (.string ⟨#[]⟩) 1 16 Tryz.underlying51 hi hz0 hz1 hz2 rfl (by decide) _ _ _ rfl O2.out.1 ⟨wr.heap.size, 0, none⟩ 1 1 [.string ⟨#[]⟩] rfl rfl ?c1 ?c2 ?c3 ?c4 ?c5 ?_)
        case c1 => exact HX.out
        case c2 => intro u hu; rw [List.mem_singleton.1 hu]; rfl
        case c3 => unfold maxLen; omega
        case c4 => omega
        case c5 => simp; omega
        intro v' w2 hown' hgrow _
        have R := OwnL.app (x := ([] : List UInt8)) O2.out (Nat.zero_le _) B2.out B2.out.size hown' hgrow
        rw [← E.out] at R
        have O3 := Lib.hid (show Spl w c s.data.toList (k + 1) v' w2 from ⟨R.1, R.2⟩)
        clear R hown' hgrow O2 B2 HX E
        go_wp2
        go_roundw
        case rel => exact ⟨k + 1, by omega, by go_num, O3⟩
        case measure => simp [intOf]; omega
      · have hb : (((s[k]).toNat : Int) == ((c.toNat : Nat) : Int)) = false := beq_eq_false_iff_ne.2 (fun e => hy (UInt8.toNat_inj.1 (by omega)))
        obtain ⟨init, last, g, cap, e, rfl, hg1, hg2, hc, hf, hcap⟩ := HS.out.open_
        have hw := split_word c (s.data.toList.take k) last (by rw [e]; simp)
        have hwl : (str last).size ≤ 10000 := by rw [str_size]; have := HLT.out; omega
        have hx : s.extract k (k + 1) = str [s[k]] := bytes_eq _ _ (by
          rw [str_data]
          have h1 : (s.extract k (k + 1)).data.toList = (s.data.toList.take (k + 1)).drop k := by
            rw [ByteArray.data_extract, Array.toList_extract, List.drop_take]
            try rfl
          rw [h1, HT.out, List.drop_left' (by rw [List.length_take, HL.out]; omega)])
        have E : Hid (MU.splitB c (s.data.toList.take (k + 1)) = init ++ [last ++ [s[k]]]) := Lib.hid (by
          obtain ⟨ws, w', e1, e2⟩ := MU.split_snoc hy (s.data.toList.take k)
          rw [HT.out, e2]
          rw [e] at e1
          obtain ⟨rfl, e3⟩ := List.append_inj' e1 rfl
          injection e3 with e3
          rw [e3])
        have HX := Lib.hid (show str last ++ str [s[k]] = str (last ++ [s[k]]) from str_append _ _)
        have hw1 : (str [s[k]]).size = 1 := by rw [str_size]; rfl
        have hil : init.length < 20000 := by
          have := split_len c (s.data.toList.take k)
          rw [e, List.length_append, List.length_singleton] at this
          have := HLT.out; omega
        have OW : Hid (wr.ownsRow w.heap.size 9 1 (.slice (some ⟨g, 0, none⟩) (init.length + 1) cap) (init.length + 1) (strE.all (init ++ [last]))) := Lib.hid (by
          have := HS.out.own.1
          rw [e, List.length_append, List.length_singleton] at this
          exact this)
        have ST := Lib.hid (OW.out.stored init.length (.string (str (last ++ [s[k]]))))
        have EA := Lib.hid (show (strE.all (init ++ [last])).set init.length (.string (str (last ++ [s[k]]))) = strE.all (init ++ [last ++ [s[k]]]) by
          rw [all_str, all_str, List.map_append, List.map_append, List.set_append_right _ _ (by simp)]; simp)
        have FI := Lib.hid (show strE.Fine (init ++ [last ++ [s[k]]]) from fun x hx => by
          rcases List.mem_append.1 hx with h | h
          · exact HS.out.own.2 x (by rw [e]; exact List.mem_append_left _ h)
          · rw [List.mem_singleton.1 h]
            show (last ++ [s[k]]).length ≤ _
            rw [List.length_append, List.length_singleton]; have := HLT.out; omega)
        have NX := Lib.hid (show Spl w c s.data.toList (k + 1) (.slice (some ⟨g, 0, none⟩) (init.length + 1) cap) (wr.setCell ⟨g, init.length, none⟩ (.string (str (last ++ [s[k]])))).drew from by
          refine ⟨?_, ?_⟩
          · rw [E.out]
            refine OwnL.keep ⟨?_, FI.out⟩ (below_drawn _)
            rw [← EA.out, List.length_append, List.length_singleton]
            exact ST.out.1
          · exact (HS.out.below.setCell (p := ⟨g, init.length, none⟩) hg1 _).drew)
        clear HS hy e OW ST EA FI E
        rw [← HX.out] at NX
        generalize hq : str [s[k]] = sy at *
        generalize str last = sl at *
        generalize init.length = m at *
        clear hq HX
        have hm1 : IntKind.i64.wrap (m : Int) = (m : Int) := IntWalk.i64_in _ (by omega)
        have hm2 : (0 : Int) ≤ (m : Int) := by omega
        have hk1 : IntKind.i64.wrap ((k : Int) + 1) = (k : Int) + 1 := IntWalk.i64_in _ (by omega)
        have hk2 : (k : Int) + 1 ≤ (s.size : Int) := by omega
        have hk3 : (0 : Int) ≤ (k : Int) := by omega
        have hk4 : (k : Int) ≤ (k : Int) + 1 := by omega
        have hk5 : ((k : Int) + 1).toNat = k + 1 := by omega
        have hm3 : (m : Int) < (m : Int) + 1 := by omega
        have hz9 : ¬ 9223372036854775807 < sl.size + 1 := by omega
        have hz : (sl ++ sy).size ≤ 20000 := by rw [ByteArray.size_append]; omega
        go_wp2
        go_still_tail 17, (by kernel_rfl)
        change wpList _ _ _ _ _ wr.drew
        go_wp2
        go_roundw
        case rel => exact ⟨k + 1, by omega, by go_num, NX⟩
        case measure => simp [intOf]; omega
    · obtain rfl : k = s.size := by omega
      have hlen := split_len c s.data.toList
      rw [HL.out] at hlen
      have OW := HS.out.own
      rw [List.take_of_length_le (by rw [HL.out]; exact Nat.le_refl _)] at OW
      have HL2 := Lib.hid OW
      have BW := Lib.hid HS.out.below
      clear HS OW
      go_wp2
      go_ret
      exact ⟨_, rfl, HL2.out, BW.out⟩
set_option maxRecDepth 100000 in
set_option maxHeartbeats 2000000 in
theorem rnums_own (A : Option Addr) (n c a : Nat) (ws : List (List UInt8)) (w : World) (h : Lst strE w A n c ws) (ha : a ≤ n) (hn : n ≤ 10000) :
    Calls Tryz.prog 60 #[.slice A n c, .int .i64 a] w (GivesNo (MU.numsE (ws.drop a)) w) := by
  have hc := h.cap
  have HL := Lib.hid h.len
  have H := Lib.hid h
  clear h
  obtain ⟨i0, hi, hz0, hz1, hz2⟩ := info_parts infoI64
  go_enter Tryz.func60, Tryz.ntmps60
  go_wp2
  go_loopw [6, 7] (fun v i wr => ∃ (k : Nat) (vs : List Int), (a ≤ k ∧ k ≤ n ∧ vs.length ≤ k) ∧ i = .int .i64 k ∧ Hid (OwnL intE 2 wr w.heap.size v vs) ∧ Hid (MU.numsE (ws.drop a) = joinN vs (MU.numsE (ws.drop k))) ∧ Hid (Below w.heap.size w wr)) (fun _ i _ => n - (intOf i).toNat)
  case atStart => exact ⟨a, [], ⟨Nat.le_refl _, ha, Nat.zero_le _⟩, rfl, Lib.hid (OwnL.nil _ _ _), Lib.hid (joinN_nil _).symm, Lib.hid (Below.refl _ _)⟩
  case round =>
    obtain ⟨k, vs, ⟨hak, hk, hvs⟩, rfl, HO, HJ, HB⟩ := hrel
    by_cases hlt : k < n
    · obtain ⟨ad, x, rfl, q1, hx, hbk, x0⟩ := str_at (H.out.keep HB.out) hlt
      have D := Lib.hid (fun w' => rdig_any (str x) (by rw [str_size]; exact hx) w')
      rw [str_data] at D
      have HD : Hid (ws.drop k = x :: ws.drop (k + 1)) := Lib.hid (MU.drop_at' q1)
      have HR := Lib.hid (digE_rng x)
      rw [HD.out] at HJ
      clear q1 hx hbk HD
      obtain ⟨v, hv⟩ : ∃ v, (MU.digE x).1 = v := ⟨_, rfl⟩
      obtain ⟨er, her⟩ : ∃ er, (MU.digE x).2 = er := ⟨_, rfl⟩
      have HV := Lib.hid hv
      have HE := Lib.hid her
      unfold digV at D
      rw [hv, her] at D
      clear hv her
      generalize str x = s at *
      go_wp2_with fail
      refine (D.out _).mono ?_
      rintro ev w1 ⟨rfl, hb⟩
      have B1 := Lib.hid (HB.out.trans (hb.mono HB.out.size))
      have O1 := Lib.hid (HO.out.keep hb)
      clear hb HO HB D x0
      by_cases he : er = 0
      · subst he
        have J2 := Lib.hid (HJ.out.trans (joinN_step HE.out))
        rw [HV.out] at J2 HR
        have O2 := Lib.hid (O1.out.keep (below_new w1 (.cells #[.int .i64 v] 2)))
        have B2 := Lib.hid (B1.out.alloc B1.out.size (.cells #[.int .i64 v] 2))
        have HX := Lib.hid (lone1 (heap_new w1 (.cells #[.int .i64 v] 2)))
        have hsz := B1.out.size
        clear B1 O1 HJ
        go_wp2_with (at_builtin; refine wpList_append_own _ rfl _ _ 100 rfl w.heap.size 2 i0 (.int .i64 0) 1 8 Tryz.underlying100 hi hz0 hz1 hz2 rfl (by decide) _ _ _ rfl O2.out.1 ⟨w1.heap.size, 0, none⟩ 1 1 [.int .i64 v] rfl rfl ?c1 ?c2 ?c3 ?c4 ?c5 ?_)
        case c1 => exact HX.out
        case c2 => intro u hu; rw [List.mem_singleton.1 hu]; rfl
        case c3 => unfold maxLen; omega
        case c4 => omega
        case c5 => simp; omega
        intro v' w2 hown' hgrow _
        have R := OwnL.app (x := v) O2.out (by have := HR.out; show _ ∧ _; constructor <;> omega) B2.out B2.out.size hown' hgrow
        have O3 := Lib.hid R.1
        have B3 := Lib.hid R.2
        clear R hown' hgrow O2 B2 HX
        go_wp2
        go_roundw
        case rel => exact ⟨k + 1, vs ++ [v], ⟨by omega, by omega, by rw [List.length_append, List.length_singleton]; omega⟩, by go_num, O3, J2, B3⟩
        case measure => simp [intOf]; omega
      · have hb : (er != 0) = true := bne_iff_ne.2 he
        have J2 := Lib.hid (HJ.out.trans (joinN_bad (by rw [HE.out]; exact he)))
        rw [HE.out] at J2
        clear HJ O1
        go_wp2
        exact bodyPost_ret (v := .tuple #[.slice none 0 0, .int .i64 er]) (by simp [results, Tryz.results60, go_sem]) rfl (by rw [J2.out]; exact ⟨_, rfl, OwnL.nil _ _ _, B1.out⟩)
    · obtain rfl : k = n := by omega
      have J2 := Lib.hid (HJ.out.trans (show joinN vs (MU.numsE (ws.drop k)) = (vs, 0) by rw [List.drop_of_length_le (by rw [HL.out]; exact Nat.le_refl _)]; exact joinN_end vs))
      have HL2 := Lib.hid HO.out
      clear HO HJ
      go_wp2
      exact bodyPost_ret (v := .tuple #[u6, .int .i64 0]) (by simp [results, Tryz.results60, go_sem]) rfl (by rw [J2.out]; exact ⟨_, rfl, HL2.out, HB.out⟩)
end Go.Proofs.YtigfgeanofccgaaGreatDoor

/- EVis, EPre, ECount, EApply0, joined: no claim of its own. -/
import Derived.Test.YtjjpfpgjpmedmaaJJ
import Derived.Shelf.Abstract
import Derived.Lib.AppendIntMem
import Derived.Deep.AppendLies
import Derived.Deep.DeepCutAuto
namespace Go.Proofs.Ytjjpfpgjpmedmaa
open Go.RowKit
open ME (F Nd)
def NT.val (x : NT) : Value := .agg (cellsE x.o x.b x.v x.A x.k.len x.c).toArray
theorem NT.val_lit (o x0 x1 x2 x3 x4 x5 v : Int) (A : Option Addr) (c : Nat) (k : FT) : NT.val ⟨o, [x0, x1, x2, x3, x4, x5], v, A, c, k⟩ = .agg #[.int .i64 o, .int .i64 x0, .int .i64 x1, .int .i64 x2, .int .i64 x3, .int .i64 x4, .int .i64 x5, .int .i64 v, .slice A k.len c] := rfl
/-- What a step leaves: all but the blocks that are its own. -/
structure Kx (D : Nat → Prop) (w w' : World) : Prop where
  os : w'.os = w.os
  tape : w'.tape = w.tape
  output : w'.output = w.output
  size : w.heap.size ≤ w'.heap.size
  block : ∀ k, k < w.heap.size → ¬ D k → w'.heap[k]? = w.heap[k]?
theorem Kx.refl (D : Nat → Prop) (w : World) : Kx D w w := ⟨rfl, rfl, rfl, Nat.le_refl _, fun _ _ _ => rfl⟩
theorem Kx.of_below {D : Nat → Prop} {w w' : World} (h : Below w.heap.size w w') : Kx D w w' := ⟨h.os, h.tape, h.output, h.size, fun k hk _ => h.block k hk⟩
/-- A state that goes along. -/
structure VI {σ : Type} (I : σ → (Nat → Prop) → World → Prop) (D : Nat → Prop) (w : World) (s : σ) (D' : Nat → Prop) (w' : World) : Prop where
  inv : I s D' w'
  kx : Kx D w w'
  sub : ∀ k, D' k → D k ∨ w.heap.size ≤ k
section
variable {σ : Type} {I : σ → (Nat → Prop) → World → Prop} {D D1 D2 : Nat → Prop} {w w1 w2 : World} {s s1 s2 : σ}
theorem VI.refl (h : I s D w) : VI I D w s D w := ⟨h, Kx.refl _ _, fun _ h => .inl h⟩
theorem VI.trans (h : VI I D w s1 D1 w1) (k : VI I D1 w1 s2 D2 w2) : VI I D w s2 D2 w2 :=
  ⟨k.inv, ⟨k.kx.os.trans h.kx.os, k.kx.tape.trans h.kx.tape, k.kx.output.trans h.kx.output, Nat.le_trans h.kx.size k.kx.size, fun j hj hd =>
    (k.kx.block j (Nat.lt_of_lt_of_le hj h.kx.size) (fun g => (h.sub j g).elim hd (fun q => by omega))).trans (h.kx.block j hj hd)⟩,
   fun j hj => (k.sub j hj).elim (h.sub j) (fun g => .inr (Nat.le_trans h.kx.size g))⟩
end
/-- The state behind the nodes, and whether it went on to the end. -/
def visL {σ : Type} (st : σ → Nd → σ × Bool) : σ → List Nd → σ × Bool
  | s, [] => (s, true)
  | s, n :: r => if (st s n).2 = true then visL st (st s n).1 r else ((st s n).1, false)
theorem visL_cons {σ : Type} (st : σ → Nd → σ × Bool) (s : σ) (n : Nd) (r : List Nd) : visL st s (n :: r) = if (st s n).2 = true then visL st (st s n).1 r else ((st s n).1, false) := rfl
theorem visL_append {σ : Type} (st : σ → Nd → σ × Bool) : ∀ (a : List Nd) (s : σ) (b : List Nd), visL st s (a ++ b) = if (visL st s a).2 = true then visL st (visL st s a).1 b else visL st s a
  | [], s, b => rfl
  | n :: r, s, b => by
    rw [List.cons_append, visL_cons, visL_cons]
    by_cases h : (st s n).2 = true
    · rw [if_pos h, if_pos h]; exact visL_append st r _ b
    · rw [if_neg h, if_neg h]; rfl
/-- The nodes of an expression's arguments, one after another. -/
theorem visL_on {σ : Type} {st : σ → Nd → σ × Bool} {s : σ} {R : σ × Bool} {x : NT} {r : FT} (h : R = visL st s (FT.cons x.o x.b x.v x.A x.c x.k r).f.pre) (hb : (visL st s x.n.pre).2 = true) : R = visL st (visL st s x.n.pre).1 r.f.pre := by
  rw [h]
  show visL st s (x.n.pre ++ r.f.pre) = _
  rw [visL_append, if_pos hb]
theorem visL_off {σ : Type} {st : σ → Nd → σ × Bool} {s : σ} {R : σ × Bool} {x : NT} {r : FT} (h : R = visL st s (FT.cons x.o x.b x.v x.A x.c x.k r).f.pre) (hb : (visL st s x.n.pre).2 = false) : R = visL st s x.n.pre := by
  rw [h]
  show visL st s (x.n.pre ++ r.f.pre) = _
  rw [visL_append, if_neg (by rw [hb]; decide)]
/-- What a call that steps hands back. -/
def Vis {σ : Type} (I : σ → (Nat → Prop) → World → Prop) (D : Nat → Prop) (w : World) (r : σ × Bool) (e : Ending) (w' : World) : Prop := e = .returned (.bool r.2) ∧ ∃ D', VI I D w r.1 D' w'
/-- A function value that steps. -/
structure Steps {σ : Type} (F : FuncId) (lb : Array Value) (I : σ → (Nat → Prop) → World → Prop) (st : σ → Nd → σ × Bool) (can : Nat → σ → Prop) : Prop where
  less : ∀ m s, can (m + 1) s → can m s
  next : ∀ m s n, can (m + 1) s → can m (st s n).1
  enters : ∀ args w, (callFunc F args).run Try.prog w = .ok (.enter F args) w
  lt : ∀ s D w, I s D w → ∀ k, D k → k < w.heap.size
  keep : ∀ s D w w', I s D w → Below w.heap.size w w' → I s D w'
  call : ∀ s D w (x : NT), can 1 s → x.size ≤ 2000000 → I s D w → x.Ok w (fun k => ¬ D k) → Calls Try.prog F (#[x.val] ++ lb) w (Vis I D w (st s x.n))
theorem Steps.less_to {σ : Type} {F : FuncId} {lb : Array Value} {I : σ → (Nat → Prop) → World → Prop} {st : σ → Nd → σ × Bool} {can : Nat → σ → Prop} (h : Steps F lb I st can) (a : Nat) : ∀ (b : Nat) (s : σ), can (a + b) s → can a s
  | 0, _, q => q
  | b + 1, s, q => h.less_to a b s (h.less _ _ q)
theorem Steps.after {σ : Type} {F : FuncId} {lb : Array Value} {I : σ → (Nat → Prop) → World → Prop} {st : σ → Nd → σ × Bool} {can : Nat → σ → Prop} (h : Steps F lb I st can) (m : Nat) : ∀ (l : List Nd) (s : σ), can (m + l.length) s → can m (visL st s l).1
  | [], _, q => q
  | n :: r, s, q => by
    rw [visL_cons]
    have q1 := h.next (m + r.length) s n q
    split
    · exact h.after m r _ q1
    · exact h.less_to m r.length _ q1
set_option maxRecDepth 100000 in
set_option maxHeartbeats 4000000 in
theorem eachNode_any {σ : Type} {F : FuncId} {lb : Array Value} {I : σ → (Nat → Prop) → World → Prop} {st : σ → Nd → σ × Bool} {can : Nat → σ → Prop} (hS : Steps F lb I st can) : ∀ (N : Nat), N ≤ 2000000 → ∀ (x : NT), x.size ≤ N → ∀ (s : σ) (D : Nat → Prop) (w : World), can x.size s → I s D w → x.Ok w (fun k => ¬ D k) →
    Calls Try.prog 43 #[x.val, .func (.func F) #[] lb] w (Vis I D w (visL st s x.n.pre)) := by
  intro N
  induction N with
  | zero => intro _ x hx; unfold NT.size at hx; omega
  | succ N ih =>
    intro hN x hx s D w hcn hi hok
    have IH := Lib.hid (ih (by omega))
    have hxs : x.size ≤ 2000000 := by omega
    have hsz : x.k.size ≤ N := by unfold NT.size at hx; omega
    clear ih hx
    obtain ⟨o, b, v, A, c, k⟩ := x
    obtain ⟨x0, x1, x2, x3, x4, x5, rfl⟩ := six hok.six
    have H1 := Lib.hid ((VI.refl hi).trans ⟨hS.keep _ _ _ _ hi (below_new w (.cells #[.int .i64 o, .int .i64 x0, .int .i64 x1, .int .i64 x2, .int .i64 x3, .int .i64 x4, .int .i64 x5, .int .i64 v, .slice A k.len c] 28)), Kx.of_below (below_new _ _), fun _ h => .inl h⟩)
    have HO1 := Lib.hid (hok.below (below_new w (.cells #[.int .i64 o, .int .i64 x0, .int .i64 x1, .int .i64 x2, .int .i64 x3, .int .i64 x4, .int .i64 x5, .int .i64 v, .slice A k.len c] 28)))
    have HO := Lib.hid hok
    have CL := Lib.hid hS.call
    have HSS := Lib.hid hS
    have C1 : Hid (can 1 s) := Lib.hid (hS.less_to 1 k.size s (by rw [Nat.add_comm]; exact hcn))
    have C2 : Hid (∀ q, can k.size (st s q).1) := Lib.hid (fun q => hS.next k.size s q hcn)
    have KP := Lib.hid hS.keep
    have eg := hS.enters
    have hn := hok.kids.few
    have hc := hok.kids.cap
    have HD : ¬ D w.heap.size := fun g => by have := hS.lt _ _ _ hi _ g; omega
    have HNEW := Lib.hid (heap_new w (.cells #[.int .i64 o, .int .i64 x0, .int .i64 x1, .int .i64 x2, .int .i64 x3, .int .i64 x4, .int .i64 x5, .int .i64 v, .slice A k.len c] 28))
    rw [NT.val_lit]
    obtain ⟨R, hR⟩ : ∃ R, visL st s (NT.n ⟨o, [x0, x1, x2, x3, x4, x5], v, A, c, k⟩).pre = R := ⟨_, rfl⟩
    rw [hR]
    have HR : Hid (R = if (st s (NT.n ⟨o, [x0, x1, x2, x3, x4, x5], v, A, c, k⟩)).2 = true then visL st (st s (NT.n ⟨o, [x0, x1, x2, x3, x4, x5], v, A, c, k⟩)).1 k.f.pre else ((st s (NT.n ⟨o, [x0, x1, x2, x3, x4, x5], v, A, c, k⟩)).1, false)) := Lib.hid (by rw [← hR]; rfl)
    clear hR
    clear hi hok hcn
    go_enter Try.func43, Try.ntmps43
    go_wp2_with fail
    refine (CL.out s D _ ⟨o, [x0, x1, x2, x3, x4, x5], v, A, c, k⟩ C1.out hxs H1.out.inv HO1.out).mono ?_
    rintro ev w1 ⟨rfl, D1, h1⟩
    have V1 := Lib.hid (H1.out.trans h1)
    have HBX := Lib.hid ((h1.kx.block w.heap.size (by simp) HD).trans HNEW.out)
    have CK := Lib.hid (C2.out (NT.n ⟨o, [x0, x1, x2, x3, x4, x5], v, A, c, k⟩))
    clear h1 H1 HO1 HNEW C2
    generalize st s (NT.n ⟨o, [x0, x1, x2, x3, x4, x5], v, A, c, k⟩) = r1 at *
    obtain ⟨s1, b1⟩ := r1
    dsimp only at V1 HR CK
    cases b1 with
    | false =>
      have E : Hid (Vis I D w R (.returned (.bool false)) w1) := Lib.hid (by rw [HR.out]; exact ⟨rfl, D1, V1.out⟩)
      clear HR V1 IH CL HO
      go_wp2
      go_ret
      exact E.out
    | true =>
      have HK : Hid (Rest w1 (fun j => ¬ D j ∧ j < w.heap.size) A 0 k k.len) := Lib.hid (HO.out.kids.rest.keep (fun j hd hj => V1.out.kx.block j hj hd) V1.out.kx.size (fun j hd hj => ⟨hd, hj⟩))
      have HR1 : Hid (R = visL st s1 k.f.pre) := Lib.hid (by rw [HR.out, if_pos rfl])
      have hbc : w1.cell? ⟨w.heap.size, 8, none⟩ = some (.slice A k.len c) := by rw [cell_of_row _ _ _ _ _ _ HBX.out]; rfl
      clear HR HO
      go_wp2_with fail
      go_loopw [14] (fun i wr => ∃ (q : Nat) (rs : FT) (s2 : σ) (D2 : Nat → Prop), q ≤ k.len ∧ rs.size ≤ N ∧ i = .int .i64 q ∧ Hid (Rest wr (fun j => ¬ D j ∧ j < w.heap.size) A q rs k.len) ∧ Hid (VI I D w s2 D2 wr) ∧ Hid (can rs.size s2) ∧ Hid (R = visL st s2 rs.f.pre)) (fun i _ => k.len - (intOf i).toNat)
      case atStart => exact ⟨0, k, s1, D1, Nat.zero_le _, hsz, rfl, HK, V1, CK, HR1⟩
      case round =>
        clear HK V1 CK HR1 hbc
        obtain ⟨q, rs, s2, D2, hq, hrs, rfl, HK, V2, CK, HR2⟩ := hrel
        by_cases hlt : q < k.len
        · obtain ⟨ad, o', y0, y1, y2, y3, y4, y5, v', A', c', k', r', rfl, rfl, hok', hnx, hbk, _, z0, z1, z2, z3, z4, z5, z6, z7, z8⟩ := HK.out.open_ hlt
          have hok2 := Lib.hid hok'
          have HN := Lib.hid hnx
          have hs2 : NT.size ⟨o', [y0, y1, y2, y3, y4, y5], v', A', c', k'⟩ ≤ N := by unfold FT.size at hrs; unfold NT.size; show k'.size + 1 ≤ N; omega
          have hr2 : r'.size ≤ N := by unfold FT.size at hrs; omega
          have HB := Lib.hid (below_new wr (.cells #[.int .i64 o', .int .i64 y0, .int .i64 y1, .int .i64 y2, .int .i64 y3, .int .i64 y4, .int .i64 y5, .int .i64 v', .slice A' k'.len c'] 28))
          have V3 := Lib.hid (V2.out.trans ⟨KP.out _ _ _ _ V2.out.inv HB.out, Kx.of_below HB.out, fun _ h => .inl h⟩)
          have CKA : Hid (can r'.size (visL st s2 (NT.n ⟨o', [y0, y1, y2, y3, y4, y5], v', A', c', k'⟩).pre).1) := Lib.hid (HSS.out.after r'.size _ s2 (by
            rw [ME.Nd.pre_length, NT.size_n, show r'.size + NT.size ⟨o', [y0, y1, y2, y3, y4, y5], v', A', c', k'⟩ = FT.size (.cons o' [y0, y1, y2, y3, y4, y5] v' A' c' k' r') by show r'.size + (k'.size + 1) = 1 + k'.size + r'.size; omega]
            exact CK.out))
          have CKB : can (NT.size ⟨o', [y0, y1, y2, y3, y4, y5], v', A', c', k'⟩) s2 := HSS.out.less_to _ r'.size s2 (by
            rw [show NT.size ⟨o', [y0, y1, y2, y3, y4, y5], v', A', c', k'⟩ + r'.size = FT.size (.cons o' [y0, y1, y2, y3, y4, y5] v' A' c' k' r') by show (k'.size + 1) + r'.size = 1 + k'.size + r'.size; omega]
            exact CK.out)
          have CE := Lib.hid (IH.out ⟨o', [y0, y1, y2, y3, y4, y5], v', A', c', k'⟩ hs2 s2 D2 _ CKB V3.out.inv (hok2.out.keep (fun j _ hj => HB.out.block j hj) HB.out.size (fun j hj _ hd => (V2.out.sub j hd).elim hj.1 (fun g => by have := hj.2; omega))))
          rw [NT.val_lit] at CE
          clear hok' hnx hok2 HK CK CKB
          have hlt' : (q : Int) < (k.len : Int) := by omega
          go_wp2_with fail
          refine CE.out.mono ?_
          rintro ev w3 ⟨rfl, D3, h3⟩
          have V4 := Lib.hid (V3.out.trans h3)
          have HRS : Hid (Rest w3 (fun j => ¬ D j ∧ j < w.heap.size) (some ad) (q + 1) r' k.len) := Lib.hid (HN.out.keep (fun j hd hj => by
            have a := V2.out.kx.block j hd.2 hd.1
            have b := V4.out.kx.block j hd.2 hd.1
            exact b.trans a.symm) (Nat.le_trans HB.out.size h3.kx.size) (fun _ h _ => h))
          have ON := Lib.hid (visL_on (x := ⟨o', [y0, y1, y2, y3, y4, y5], v', A', c', k'⟩) HR2.out)
          have OFF := Lib.hid (visL_off (x := ⟨o', [y0, y1, y2, y3, y4, y5], v', A', c', k'⟩) HR2.out)
          clear h3 V3 HB CE HN HR2 V2 z0 z1 z2 z3 z4 z5 z6 z7 z8
          generalize visL st s2 (NT.n ⟨o', [y0, y1, y2, y3, y4, y5], v', A', c', k'⟩).pre = r3 at *
          obtain ⟨s3, b3⟩ := r3
          dsimp only at V4 ON OFF CKA
          cases b3 with
          | false =>
            have E : Hid (Vis I D w R (.returned (.bool false)) w3) := Lib.hid (by rw [OFF.out rfl]; exact ⟨rfl, D3, V4.out⟩)
            clear ON OFF V4 HRS
            go_wp2
            go_ret
            exact E.out
          | true =>
            have HR3 := Lib.hid (ON.out rfl)
            clear ON OFF
            go_wp2
            go_roundw
            case rel => exact ⟨q + 1, r', s3, D3, by omega, hr2, by go_num, HRS, V4, CKA, HR3⟩
            case measure => simp [intOf]; omega
        · obtain ⟨rfl, _⟩ := HK.out.end_ hlt
          have E : Hid (Vis I D w R (.returned (.bool true)) wr) := Lib.hid (by rw [HR2.out]; exact ⟨rfl, D2, V2.out⟩)
          have hlt' : ¬ (q : Int) < (k.len : Int) := by omega
          clear HR2 V2 HK
          go_wp2
          go_ret
          exact E.out
end Go.Proofs.Ytjjpfpgjpmedmaa
namespace Go.Proofs.Ytjjpfpgjpmedmaa
open Go.RowKit
open ME (F Nd)
/-- A node as an element. -/
def ntE : El NT where
  cells x := cellsE x.o x.b x.v x.A x.k.len x.c
  sz := 9
  fine x := x.b.length = 6
  len x h := by simp only [cellsE, List.length_cons, List.length_append, List.length_map, List.length_nil]; rw [h]
  one a u hu := by
    simp only [cellsE, List.mem_cons, List.mem_append, List.mem_map, List.not_mem_nil, or_false] at hu
    rcases hu with rfl | ⟨x, _, rfl⟩ | rfl | rfl <;> rfl
  pos := by decide
def FT.pre : FT → List NT
  | .nil => []
  | .cons o b v A c k r => ⟨o, b, v, A, c, k⟩ :: (k.pre ++ r.pre)
def NT.pre (x : NT) : List NT := x :: x.k.pre
theorem FT.pre_f : ∀ t : FT, t.pre.map NT.n = t.f.pre
  | .nil => rfl
  | .cons o b v A c k r => by simp [FT.pre, FT.f, ME.F.pre, FT.pre_f k, FT.pre_f r, NT.n]
theorem NT.pre_n (x : NT) : x.pre.map NT.n = x.n.pre := by simp [NT.pre, ME.Nd.pre, FT.pre_f, NT.n]
theorem FT.pre_length (t : FT) : t.pre.length = t.size := by rw [← List.length_map (f := NT.n), FT.pre_f, ME.F.pre_length, FT.size_f]
theorem NT.pre_length (x : NT) : x.pre.length = x.size := by simp [NT.pre, NT.size, FT.pre_length]
theorem FT.pre_ok {w : World} {ok : Nat → Prop} : ∀ (t : FT) {a : Addr}, Lay w ok a t → ∀ y ∈ t.pre, y.Ok w ok
  | .nil, _, _, y, hy => by cases hy
  | .cons o b v A c k r, a, ⟨⟨_, _, h3, _⟩, ⟨h5, h6, h7⟩, ⟨h8, h9⟩, h10, h11⟩, y, hy => by
    simp only [FT.pre, List.mem_cons, List.mem_append] at hy
    rcases hy with rfl | g | g
    · exact ⟨h3, h5, h6, h7, h8, h9, h10⟩
    · rcases h10 with rfl | ⟨ad, _, hl⟩
      · cases g
      · exact FT.pre_ok k hl y g
    · exact FT.pre_ok r h11 y g
theorem NT.pre_ok {w : World} {ok : Nat → Prop} {x : NT} (h : x.Ok w ok) : ∀ y ∈ x.pre, y.Ok w ok := fun y hy => by
  rcases List.mem_cons.1 hy with rfl | g
  · exact h
  · rcases h.kids.lay with e | ⟨ad, _, hl⟩
    · rw [e] at g; cases g
    · exact FT.pre_ok _ hl y g
theorem OwnL.apps {α : Type} {E : El α} {e : TypeId} {w wr w1 : World} {B : Nat} {v v' : Value} {l ys : List α} (h : OwnL E e wr B v l) (hy : E.Fine ys) (hB : Below B w wr) (hs : B ≤ wr.heap.size)
    (hown : w1.ownsRow B e E.sz v' (l.length + ys.length) (E.all l ++ E.all ys)) (hg : wr.grownBy w1 v.ownBlock) : OwnL E e w1 B v' (l ++ ys) ∧ Below B w w1 := by
  refine ⟨⟨?_, fun z hz => ?_⟩, hB.grown hg hs (fun k hk => (World.ownsRow.lt h.1 k hk).1)⟩
  · rw [El.all_append, List.length_append]
    exact hown
  · rcases List.mem_append.1 hz with g | g
    · exact h.2 z g
    · exact hy z g
/-- A slice's cells, wherever they lie. -/
theorem Lst.news {α : Type} {E : El α} {w : World} {A : Option Addr} {n c : Nat} {l : List α} (h : Lst E w A n c l) (hn : 0 < n) : ∃ ad, A = some ad ∧ (E.all l).length = n * E.sz ∧ ∀ j u, (E.all l)[j]? = some u → w.cell? (ad.add j) = some u := by
  obtain ⟨ad, e, _, hc⟩ := h.reads.2 hn
  exact ⟨ad, e, by rw [El.all_length h.fine, h.len], hc⟩
theorem one_all {α : Type} {E : El α} (l : List α) : ∀ u ∈ E.all l, u.oneCell' = true := fun u hu => by
  obtain ⟨x, _, hx⟩ := List.mem_flatMap.1 hu
  exact E.one x u hx
theorem infoExpr : (Try.prog.info? 28).map (fun i => (i.zero, i.size, i.bytes)) = some (some (.agg #[.int .i64 0, .int .i64 0, .int .i64 0, .int .i64 0, .int .i64 0, .int .i64 0, .int .i64 0, .int .i64 0, .slice none 0 0]), 9, 88) := by kernel_rfl
set_option maxRecDepth 100000 in
set_option maxHeartbeats 4000000 in
theorem rpre_any : ∀ (N : Nat), N ≤ 2000000 → ∀ (x : NT), x.size ≤ N → ∀ (w : World) (ok : Nat → Prop), x.Ok w ok → Calls Try.prog 65 #[x.val] w (GivesL ntE x.pre w) := by
  intro N
  induction N with
  | zero => intro _ x hx; unfold NT.size at hx; omega
  | succ N ih =>
    intro hN x hx w ok hok
    have IH := Lib.hid (ih (by omega))
    have hsz : x.k.size ≤ N := by unfold NT.size at hx; omega
    clear ih hx
    obtain ⟨o, b, vv, A, c, k⟩ := x
    obtain ⟨x0, x1, x2, x3, x4, x5, rfl⟩ := six hok.six
    have HP := Lib.hid (NT.pre_length ⟨o, [x0, x1, x2, x3, x4, x5], vv, A, c, k⟩)
    have HO := Lib.hid hok
    have hn := hok.kids.few
    have hc := hok.kids.cap
    obtain ⟨i0, hi, hz0, hz1, hz2⟩ := info_parts infoExpr
    have B0 := Lib.hid (below_new w (.cells #[.int .i64 o, .int .i64 x0, .int .i64 x1, .int .i64 x2, .int .i64 x3, .int .i64 x4, .int .i64 x5, .int .i64 vv, .slice A k.len c] 28))
    have N0 := Lib.hid (heap_new w (.cells #[.int .i64 o, .int .i64 x0, .int .i64 x1, .int .i64 x2, .int .i64 x3, .int .i64 x4, .int .i64 x5, .int .i64 vv, .slice A k.len c] 28))
    rw [NT.val_lit]
    clear hok
    go_enter Try.func65, Try.ntmps65
    obtain ⟨W0, hW0⟩ : ∃ W0, W0 = w.alloc (.cells #[.int .i64 o, .int .i64 x0, .int .i64 x1, .int .i64 x2, .int .i64 x3, .int .i64 x4, .int .i64 x5, .int .i64 vv, .slice A k.len c] 28) := ⟨_, rfl⟩
    go_upto_region 1 with (fail)
    rw [← hW0] at N0 B0 ⊢
    have hs0 : W0.heap.size = w.heap.size + 1 := by rw [hW0]; simp
    clear hW0
    have x8 : W0.cell? ⟨w.heap.size, 0, none⟩ = some (.int .i64 o) ∧ W0.cell? ⟨w.heap.size, 1, none⟩ = some (.int .i64 x0) ∧ W0.cell? ⟨w.heap.size, 2, none⟩ = some (.int .i64 x1) ∧ W0.cell? ⟨w.heap.size, 3, none⟩ = some (.int .i64 x2) ∧ W0.cell? ⟨w.heap.size, 4, none⟩ = some (.int .i64 x3) ∧ W0.cell? ⟨w.heap.size, 5, none⟩ = some (.int .i64 x4) ∧ W0.cell? ⟨w.heap.size, 6, none⟩ = some (.int .i64 x5) ∧ W0.cell? ⟨w.heap.size, 7, none⟩ = some (.int .i64 vv) ∧ W0.cell? ⟨w.heap.size, 8, none⟩ = some (.slice A k.len c) := by
      refine ⟨?_, ?_, ?_, ?_, ?_, ?_, ?_, ?_, ?_⟩ <;> (rw [cell_of_row _ _ _ _ _ _ N0.out]; rfl)
    obtain ⟨b0, b1, b2, b3, b4, b5, b6, b7, b8⟩ := x8
    have O1 : Hid (OwnL ntE 28 (W0.alloc (.cells #[.int .i64 o, .int .i64 x0, .int .i64 x1, .int .i64 x2, .int .i64 x3, .int .i64 x4, .int .i64 x5, .int .i64 vv, .slice A k.len c] 28)) (w.heap.size + 1) (.slice (some ⟨W0.heap.size, 0, none⟩) 1 1) [⟨o, [x0, x1, x2, x3, x4, x5], vv, A, c, k⟩]) :=
      Lib.hid ⟨⟨rfl, .inr ⟨W0.heap.size, 1, _, rfl, by omega, heap_new _ _, Nat.le_refl _, by unfold maxLen; omega, rfl, rfl⟩⟩, fun y hy => by rw [List.mem_singleton.1 hy]; rfl⟩
    have HR0 : Hid (Rest (W0.alloc (.cells #[.int .i64 o, .int .i64 x0, .int .i64 x1, .int .i64 x2, .int .i64 x3, .int .i64 x4, .int .i64 x5, .int .i64 vv, .slice A k.len c] 28)) (fun j => ok j ∧ j < w.heap.size) A 0 k k.len) :=
      Lib.hid (HO.out.kids.rest.keep (fun j _ hj => (Below.heap_alloc W0 _ j (by omega)).trans (B0.out.block j hj)) (by rw [World.size_alloc]; omega) (fun j hj hk => ⟨hj, hk⟩))
    have BB0 : Hid (Below (w.heap.size + 1) W0 (W0.alloc (.cells #[.int .i64 o, .int .i64 x0, .int .i64 x1, .int .i64 x2, .int .i64 x3, .int .i64 x4, .int .i64 x5, .int .i64 vv, .slice A k.len c] 28))) := Lib.hid ((Below.refl _ _).alloc (by omega) _)
    have NB : Hid (∀ w', Below (w.heap.size + 1) W0 w' → w'.cell? ⟨w.heap.size, 8, none⟩ = some (.slice A k.len c)) := Lib.hid (fun w' hb => by rw [cell_of_row _ _ _ _ _ _ ((hb.block w.heap.size (by omega)).trans N0.out)]; rfl)
    have BW : Hid (∀ w', Below (w.heap.size + 1) W0 w' → Below w.heap.size w w') := Lib.hid (fun w' hb => B0.out.trans (hb.mono (by omega)))
    clear N0 B0 HO
    go_wp2
    have HS1 : w.heap.size < W0.heap.size := by omega
    rw [← hs0] at *
    clear b0 b1 b2 b3 b4 b5 b6 b7 b8
    go_loopw [3, 4] (fun v i wr => ∃ (q : Nat) (rs : FT) (L : List NT), q ≤ k.len ∧ rs.size ≤ N ∧ i = .int .i64 q ∧ Hid (OwnL ntE 28 wr W0.heap.size v L) ∧ Hid (Rest wr (fun j => ok j ∧ j < w.heap.size) A q rs k.len) ∧ Hid (Below W0.heap.size W0 wr) ∧ Hid (L ++ rs.pre = NT.pre ⟨o, [x0, x1, x2, x3, x4, x5], vv, A, c, k⟩)) (fun _ i _ => k.len - (intOf i).toNat)
    case atStart => exact ⟨0, k, _, Nat.zero_le _, hsz, rfl, O1, HR0, BB0, Lib.hid rfl⟩
    case round =>
      clear O1 HR0 BB0
      obtain ⟨q, rs, L, hq, hrs, rfl, HOL, HK, HB, HL⟩ := hrel
      have hLL : L.length + rs.size ≤ 2000000 := by have := congrArg List.length HL.out; rw [List.length_append, FT.pre_length, NT.pre_length] at this; unfold NT.size at this; have : (NT.k ⟨o, [x0, x1, x2, x3, x4, x5], vv, A, c, k⟩).size = k.size := rfl; omega
      have b8 := NB.out wr HB.out
      by_cases hlt : q < k.len
      · obtain ⟨ad, o', y0, y1, y2, y3, y4, y5, v', A', c', k', r', rfl, rfl, hok', hnx, hbk, _, z0, z1, z2, z3, z4, z5, z6, z7, z8⟩ := HK.out.open_ hlt
        have HN := Lib.hid hnx
        have hs2 : NT.size ⟨o', [y0, y1, y2, y3, y4, y5], v', A', c', k'⟩ ≤ N := by unfold FT.size at hrs; unfold NT.size; show k'.size + 1 ≤ N; omega
        have hr2 : r'.size ≤ N := by unfold FT.size at hrs; omega
        have CE := Lib.hid (IH.out _ hs2 wr _ hok')
        have HLY := Lib.hid (NT.pre_length ⟨o', [y0, y1, y2, y3, y4, y5], v', A', c', k'⟩)
        have hL1 : L.length + NT.size ⟨o', [y0, y1, y2, y3, y4, y5], v', A', c', k'⟩ ≤ 2000000 := by unfold FT.size at hLL; unfold NT.size; show L.length + (k'.size + 1) ≤ 2000000; omega
        have HL2 : Hid ((L ++ NT.pre ⟨o', [y0, y1, y2, y3, y4, y5], v', A', c', k'⟩) ++ r'.pre = NT.pre ⟨o, [x0, x1, x2, x3, x4, x5], vv, some ad, c, k⟩) := Lib.hid (by rw [← HL.out]; simp [FT.pre, NT.pre])
        have hsy : 0 < NT.size ⟨o', [y0, y1, y2, y3, y4, y5], v', A', c', k'⟩ := Nat.succ_pos _
        rw [NT.val_lit] at CE
        clear hok' hnx HK HL hLL
        generalize NT.pre ⟨o', [y0, y1, y2, y3, y4, y5], v', A', c', k'⟩ = Y at *
        generalize NT.size ⟨o', [y0, y1, y2, y3, y4, y5], v', A', c', k'⟩ = ny at *
        have hlt' : (q : Int) < (k.len : Int) := by omega
        go_wp2_with fail
        refine CE.out.mono ?_
        rintro ev w3 ⟨A3, n3, c3, rfl, hl3, hb3⟩
        have hn3 : n3 = ny := hl3.len.symm.trans HLY.out
        subst hn3
        obtain ⟨ad3, rfl, hd1, hd2⟩ := hl3.news hsy
        have HD1 := Lib.hid hd1
        have HD2 := Lib.hid hd2
        have HF3 := Lib.hid hl3.fine
        have O2 := Lib.hid (HOL.out.keep hb3)
        have B3 := Lib.hid (HB.out.trans (hb3.mono HB.out.size))
        have HN3 := Lib.hid (HN.out.below hb3)
        clear hl3 hb3 hd1 hd2 HOL HB CE HN z0 z1 z2 z3 z4 z5 z6 z7 z8 b8
        go_wp2_with (at_builtin; refine wpList_append_own _ rfl _ _ 26 rfl W0.heap.size 28 i0 (.agg #[.int .i64 0, .int .i64 0, .int .i64 0, .int .i64 0, .int .i64 0, .int .i64 0, .int .i64 0, .int .i64 0, .slice none 0 0]) 9 88 Try.underlying26 hi hz0 hz1 hz2 rfl (by decide) _ _ _ rfl O2.out.1 ad3 n3 c3 (ntE.all Y) rfl ?c0 ?c1 ?c2 ?c3 ?c4 ?c5 ?_)
        case c0 => exact HD1.out
        case c1 => exact HD2.out
        case c2 => exact one_all _
        case c3 => unfold maxLen; omega
        case c4 => omega
        case c5 => exact B3.out.size
        intro v'' w4 hown' hgrow _
        rw [← HLY.out] at hown'
        have R := OwnL.apps O2.out HF3.out B3.out B3.out.size hown' hgrow
        have O3 := Lib.hid R.1
        have B4 := Lib.hid R.2
        have HN4 := Lib.hid (HN3.out.keep (w' := w4) (ok' := fun j => ok j ∧ j < w.heap.size) (fun j hj _ => (B4.out.block j (by have := hj.2; omega)).trans (B3.out.block j (by have := hj.2; omega)).symm) hgrow.size (fun _ h _ => h))
        clear R hown' hgrow O2 B3 HN3 HD1 HD2 HF3
        go_wp2
        go_roundw
        case rel => exact ⟨q + 1, r', L ++ Y, by omega, hr2, by go_num, O3, HN4, B4, HL2⟩
        case measure => simp [intOf]; omega
      · obtain ⟨rfl, _⟩ := HK.out.end_ hlt
        have hlt' : ¬ (q : Int) < (k.len : Int) := by omega
        have hLx := HL.out
        rw [show FT.pre .nil = [] from rfl, List.append_nil] at hLx
        obtain ⟨Ar, cr, rfl, hl⟩ := HOL.out.form (by omega)
        have HRES : Hid (GivesL ntE (NT.pre ⟨o, [x0, x1, x2, x3, x4, x5], vv, A, c, k⟩) w (.returned (.slice Ar L.length cr)) wr) := Lib.hid (by rw [← hLx]; exact ⟨_, _, _, rfl, hl, BW.out _ HB.out⟩)
        clear hLx hl HOL HL HK HB
        go_wp2
        go_ret
        exact HRES.out
end Go.Proofs.Ytjjpfpgjpmedmaa
namespace Go.Proofs.Ytjjpfpgjpmedmaa
open Go.RowKit
open ME (F Nd)
/-- A variable in a cell of its own. -/
def V1 (w : World) (g : Nat) (T : TypeId) (v : Value) : Prop := w.heap[g]? = some (.cells #[v] T (0, 0))
section
variable {w w' : World} {g : Nat} {T : TypeId} {v : Value}
theorem V1.lt (h : V1 w g T v) : g < w.heap.size := (Array.getElem?_eq_some_iff.1 h).1
theorem V1.keep (h : V1 w g T v) (hb : Below w.heap.size w w') : V1 w' g T v := (hb.block g h.lt).trans h
theorem V1.cell (h : V1 w g T v) : w.cell? ⟨g, 0, none⟩ = some v := by rw [cell_of_row w g _ _ _ _ h]; rfl
theorem V1.free (h : V1 w g T v) : w.frozen? ⟨g, 0, none⟩ = false := frozen_of_row w g 0 _ T h
theorem V1.set (h : V1 w g T v) (u : Value) : V1 (w.setCell ⟨g, 0, none⟩ u) g T u := by
  have := heap_setCell_same w g 0 _ T u h
  exact this
theorem V1.new (w : World) (T : TypeId) (v : Value) : V1 (w.alloc (.cells #[v] T)) w.heap.size T v := heap_new _ _
theorem kx_set {w1 : World} (h : Below w.heap.size w w1) (g : Nat) (u : Value) : Kx (fun k => k = g) w (w1.setCell ⟨g, 0, none⟩ u) :=
  ⟨h.os, h.tape, h.output, by simpa [World.setCell] using h.size, fun k hk hd => (Below.heap_setCell w1 ⟨g, 0, none⟩ u k hd).trans (h.block k hk)⟩
end
/-- The state lies in one variable's cell. -/
def InV {σ : Type} (g : Nat) (T : TypeId) (enc : σ → Value) (s : σ) (D : Nat → Prop) (w : World) : Prop := D = (fun k => k = g) ∧ V1 w g T (enc s)
theorem InV.start {σ : Type} {T : TypeId} {enc : σ → Value} (w : World) (s : σ) : InV w.heap.size T enc s (fun k => k = w.heap.size) (w.alloc (.cells #[enc s] T)) := ⟨rfl, V1.new _ _ _⟩
theorem steps_var {σ : Type} {F : FuncId} {g : Nat} {T : TypeId} {enc : σ → Value} {st : σ → Nd → σ × Bool} (eg : ∀ args w, (callFunc F args).run Try.prog w = .ok (.enter F args) w)
    (hc : ∀ (s : σ) (w : World) (x : NT), V1 w g T (enc s) → x.Ok w (fun k => k ≠ g) → Calls Try.prog F (#[x.val] ++ #[.pointer (some ⟨g, 0, none⟩)]) w fun e w' => e = .returned (.bool (st s x.n).2) ∧ ∃ w1, Below w.heap.size w w1 ∧ w' = w1.setCell ⟨g, 0, none⟩ (enc (st s x.n).1)) :
    Steps F #[.pointer (some ⟨g, 0, none⟩)] (InV g T enc) st (fun _ _ => True) where
  less _ _ _ := trivial
  next _ _ _ _ := trivial
  enters := eg
  lt s D w h k hk := by rw [h.1] at hk; rw [show k = g from hk]; exact h.2.lt
  keep s D w w' h hb := ⟨h.1, h.2.keep hb⟩
  call s D w x _ _ h hok := by
    obtain ⟨rfl, hv⟩ := h
    refine (hc s w x hv hok).mono ?_
    rintro e w' ⟨he, w1, hb, rfl⟩
    exact ⟨he, _, ⟨⟨rfl, (hv.keep hb).set _⟩, kx_set hb g _, fun k hk => .inl hk⟩⟩
end Go.Proofs.Ytjjpfpgjpmedmaa
namespace Go.Proofs.Ytjjpfpgjpmedmaa
open Go.RowKit
open ME (F Nd)
/-- A block that holds one expression. -/
def B9 (w : World) (g : Nat) (v0 v1 v2 v3 v4 v5 v6 v7 v8 : Value) : Prop := w.heap[g]? = some (.cells #[v0, v1, v2, v3, v4, v5, v6, v7, v8] 28 (0, 0))
section
variable {w w' : World} {g : Nat} {v0 v1 v2 v3 v4 v5 v6 v7 v8 : Value}
theorem B9.lt (h : B9 w g v0 v1 v2 v3 v4 v5 v6 v7 v8) : g < w.heap.size := (Array.getElem?_eq_some_iff.1 h).1
theorem B9.keep (h : B9 w g v0 v1 v2 v3 v4 v5 v6 v7 v8) (hb : Below w.heap.size w w') : B9 w' g v0 v1 v2 v3 v4 v5 v6 v7 v8 := (hb.block g h.lt).trans h
theorem B9.same (h : B9 w g v0 v1 v2 v3 v4 v5 v6 v7 v8) (hb : w'.heap[g]? = w.heap[g]?) : B9 w' g v0 v1 v2 v3 v4 v5 v6 v7 v8 := hb.trans h
theorem B9.cells (h : B9 w g v0 v1 v2 v3 v4 v5 v6 v7 v8) : w.cell? ⟨g, 0, none⟩ = some v0 ∧ w.cell? ⟨g, 1, none⟩ = some v1 ∧ w.cell? ⟨g, 2, none⟩ = some v2 ∧ w.cell? ⟨g, 3, none⟩ = some v3 ∧ w.cell? ⟨g, 4, none⟩ = some v4 ∧ w.cell? ⟨g, 5, none⟩ = some v5 ∧ w.cell? ⟨g, 6, none⟩ = some v6 ∧ w.cell? ⟨g, 7, none⟩ = some v7 ∧ w.cell? ⟨g, 8, none⟩ = some v8 := by
  have h' : w.heap[g]? = some (.cells #[v0, v1, v2, v3, v4, v5, v6, v7, v8] 28 (0, 0)) := h
  refine ⟨?_, ?_, ?_, ?_, ?_, ?_, ?_, ?_, ?_⟩ <;> (rw [cell_of_row w g _ _ _ _ h']; rfl)
theorem B9.free (h : B9 w g v0 v1 v2 v3 v4 v5 v6 v7 v8) : w.frozen? ⟨g, 0, none⟩ = false ∧ w.frozen? ⟨g, 1, none⟩ = false ∧ w.frozen? ⟨g, 2, none⟩ = false ∧ w.frozen? ⟨g, 3, none⟩ = false ∧ w.frozen? ⟨g, 4, none⟩ = false ∧ w.frozen? ⟨g, 5, none⟩ = false ∧ w.frozen? ⟨g, 6, none⟩ = false ∧ w.frozen? ⟨g, 7, none⟩ = false ∧ w.frozen? ⟨g, 8, none⟩ = false := by
  have h' : w.heap[g]? = some (.cells #[v0, v1, v2, v3, v4, v5, v6, v7, v8] 28 (0, 0)) := h
  exact ⟨frozen_of_row w g 0 _ _ h', frozen_of_row w g 1 _ _ h', frozen_of_row w g 2 _ _ h', frozen_of_row w g 3 _ _ h', frozen_of_row w g 4 _ _ h', frozen_of_row w g 5 _ _ h', frozen_of_row w g 6 _ _ h', frozen_of_row w g 7 _ _ h', frozen_of_row w g 8 _ _ h'⟩
theorem B9.set8 (h : B9 w g v0 v1 v2 v3 v4 v5 v6 v7 v8) (u : Value) : B9 (w.setCell ⟨g, 8, none⟩ u) g v0 v1 v2 v3 v4 v5 v6 v7 u := heap_setCell_same w g 8 _ _ u h
end
/-- Cells written one after another. -/
def putL (cur : Array Value) (o : Nat) : List Value → Array Value
  | [] => cur
  | v :: r => putL (cur.setIfInBounds o v) (o + 1) r
theorem putL_size : ∀ (vs : List Value) (cur : Array Value) (o : Nat), (putL cur o vs).size = cur.size
  | [], _, _ => rfl
  | v :: r, cur, o => by rw [putL, putL_size r]; simp
theorem putL_low : ∀ (vs : List Value) (cur : Array Value) (o j : Nat), j < o → (putL cur o vs)[j]? = cur[j]?
  | [], _, _, _, _ => rfl
  | v :: r, cur, o, j, h => by rw [putL, putL_low r _ _ _ (by omega), Array.getElem?_setIfInBounds, if_neg (by omega)]
theorem putL_at : ∀ (vs : List Value) (cur : Array Value) (o i : Nat), i < vs.length → o + vs.length ≤ cur.size → (putL cur o vs)[o + i]? = vs[i]?
  | [], _, _, _, h, _ => by simp at h
  | v :: r, cur, o, i, h, hs => by
    rw [putL]
    rw [List.length_cons] at h hs
    cases i with
    | zero =>
      rw [putL_low r _ _ _ (by omega), Nat.add_zero, Array.getElem?_setIfInBounds_self, if_pos (by omega)]; rfl
    | succ i =>
      rw [show o + (i + 1) = (o + 1) + i by omega, putL_at r _ _ _ (by omega) (by rw [Array.size_setIfInBounds]; omega)]; rfl
/-- A block's cells, written one after another. -/
def sets (w : World) (g : Nat) : Nat → List Value → World
  | _, [] => w
  | o, v :: r => sets (w.setCell ⟨g, o, none⟩ v) g (o + 1) r
theorem sets_row {T : TypeId} {g : Nat} : ∀ (vs : List Value) (w : World) (o : Nat) (cur : Array Value), w.heap[g]? = some (.cells cur T (0, 0)) → (sets w g o vs).heap[g]? = some (.cells (putL cur o vs) T (0, 0))
  | [], _, _, _, h => h
  | v :: r, w, o, _, h => sets_row r _ _ _ (heap_setCell_same w g o _ T v h)
theorem sets_far {g k : Nat} (hk : k ≠ g) : ∀ (vs : List Value) (w : World) (o : Nat), (sets w g o vs).heap[k]? = w.heap[k]?
  | [], _, _ => rfl
  | v :: r, w, o => (sets_far hk r _ _).trans (Below.heap_setCell w ⟨g, o, none⟩ v k hk)
theorem sets_same {g : Nat} : ∀ (vs : List Value) (w : World) (o : Nat), (sets w g o vs).os = w.os ∧ (sets w g o vs).tape = w.tape ∧ (sets w g o vs).output = w.output ∧ (sets w g o vs).heap.size = w.heap.size
  | [], _, _ => ⟨rfl, rfl, rfl, rfl⟩
  | v :: r, w, o => by
    obtain ⟨h1, h2, h3, h4⟩ := sets_same (g := g) r (w.setCell ⟨g, o, none⟩ v) (o + 1)
    exact ⟨h1, h2, h3, h4.trans (World.size_setCell _ _ _)⟩
theorem nest_q (w : World) (g o : Nat) (u0 u1 u2 u3 u4 u5 u6 u7 u8 : Value) : (((((((((w.setCell ⟨g, o, none⟩ u0).setCell ⟨g, o + 1, none⟩ u1).setCell ⟨g, o + 2, none⟩ u2).setCell ⟨g, o + 3, none⟩ u3).setCell ⟨g, o + 4, none⟩ u4).setCell ⟨g, o + 5, none⟩ u5).setCell ⟨g, o + 6, none⟩ u6).setCell ⟨g, o + 7, none⟩ u7).setCell ⟨g, o + 8, none⟩ u8) = sets w g o [u0, u1, u2, u3, u4, u5, u6, u7, u8] := rfl
theorem nest_0 (w : World) (g : Nat) (u0 u1 u2 u3 u4 u5 u6 u7 u8 : Value) : (((((((((w.setCell ⟨g, 0, none⟩ u0).setCell ⟨g, 1, none⟩ u1).setCell ⟨g, 2, none⟩ u2).setCell ⟨g, 3, none⟩ u3).setCell ⟨g, 4, none⟩ u4).setCell ⟨g, 5, none⟩ u5).setCell ⟨g, 6, none⟩ u6).setCell ⟨g, 7, none⟩ u7).setCell ⟨g, 8, none⟩ u8) = sets w g 0 [u0, u1, u2, u3, u4, u5, u6, u7, u8] := by simp only [sets, Nat.zero_add, Nat.reduceAdd]
theorem B9.put {w : World} {g : Nat} {v0 v1 v2 v3 v4 v5 v6 v7 v8 : Value} (h : B9 w g v0 v1 v2 v3 v4 v5 v6 v7 v8) (u0 u1 u2 u3 u4 u5 u6 u7 u8 : Value) : B9 (sets w g 0 [u0, u1, u2, u3, u4, u5, u6, u7, u8]) g u0 u1 u2 u3 u4 u5 u6 u7 u8 := by
  have e := sets_row [u0, u1, u2, u3, u4, u5, u6, u7, u8] w 0 _ h
  rw [show putL #[v0, v1, v2, v3, v4, v5, v6, v7, v8] 0 [u0, u1, u2, u3, u4, u5, u6, u7, u8] = #[u0, u1, u2, u3, u4, u5, u6, u7, u8] from by simp only [putL, List.setIfInBounds_toArray, List.set_cons_zero, List.set_cons_succ, Nat.zero_add, Nat.reduceAdd]] at e
  exact e
/-- A row of results: the first of them are there. -/
structure Arg (w : World) (g n : Nat) (ys : List NT) : Prop where
  le : ys.length ≤ n
  fine : ntE.Fine ys
  row : ∃ (cur : Array Value), w.heap[g]? = some (.cells cur 28 (0, 0)) ∧ cur.size = n * 9 ∧ ∀ (j : Nat) (u : Value), (ntE.all ys)[j]? = some u → cur[j]? = some u
section
variable {w w' : World} {g n : Nat} {ys : List NT}
theorem Arg.lt (h : Arg w g n ys) : g < w.heap.size := by obtain ⟨cur, h1, _⟩ := h.row; exact (Array.getElem?_eq_some_iff.1 h1).1
theorem Arg.same (h : Arg w g n ys) (hb : w'.heap[g]? = w.heap[g]?) : Arg w' g n ys := by
  obtain ⟨cur, h1, h2⟩ := h.row
  exact ⟨h.le, h.fine, cur, hb.trans h1, h2⟩
theorem Arg.there (h : Arg w g n ys) {j : Nat} (hj : j < n * 9) : ∃ v, w.cell? ⟨g, j, none⟩ = some v := by
  obtain ⟨cur, h1, h2, _⟩ := h.row
  exact ⟨cur[j], by rw [cell_of_row w g j _ _ _ h1]; exact Array.getElem?_eq_getElem (by omega)⟩
theorem Arg.free (h : Arg w g n ys) (j : Nat) : w.frozen? ⟨g, j, none⟩ = false := by
  obtain ⟨cur, h1, _⟩ := h.row
  exact frozen_of_row w g j _ _ h1
theorem Arg.put (h : Arg w g n ys) {q : Nat} (hq : ys.length = q) (hn : q < n) {y : NT} {u0 u1 u2 u3 u4 u5 u6 u7 u8 : Value} (hy : cellsE y.o y.b y.v y.A y.k.len y.c = [u0, u1, u2, u3, u4, u5, u6, u7, u8]) (h6 : y.b.length = 6) : Arg (sets w g (q * 9) [u0, u1, u2, u3, u4, u5, u6, u7, u8]) g n (ys ++ [y]) := by
  obtain ⟨cur, h0, hs, ha⟩ := h.row
  refine ⟨by rw [List.length_append, List.length_singleton]; omega, h.fine.snoc h6, putL cur (q * 9) [u0, u1, u2, u3, u4, u5, u6, u7, u8], sets_row _ w (q * 9) cur h0, by rw [putL_size]; exact hs, fun j u hu => ?_⟩
  have hl : (ntE.all ys).length = q * 9 := by rw [El.all_length h.fine, hq]; rfl
  rw [El.all_append, El.all_one, show ntE.cells y = [u0, u1, u2, u3, u4, u5, u6, u7, u8] from hy] at hu
  by_cases hj : j < q * 9
  · rw [putL_low _ _ _ _ hj]
    rw [List.getElem?_append_left (by omega)] at hu
    exact ha j u hu
  · rw [List.getElem?_append_right (by omega), hl] at hu
    have hj9 := (List.getElem?_eq_some_iff.1 hu).1
    have e : j = q * 9 + (j - q * 9) := by omega
    rw [e, putL_at _ _ _ _ hj9 (by rw [hs]; simp only [List.length_cons, List.length_nil]; omega)]
    exact hu
end
/-- Where arguments lie: at whole elements of their blocks. -/
def FT.al : Addr → FT → Prop
  | _, .nil => True
  | a, .cons _ _ _ A _ k r => a.off % 9 = 0 ∧ (k = .nil ∨ ∃ ad, A = some ad ∧ FT.al ad k) ∧ FT.al (a.add 9) r
def NT.Al (x : NT) : Prop := x.k = .nil ∨ ∃ ad, x.A = some ad ∧ x.k.al ad
theorem al_of : ∀ (l : List NT) (g o : Nat), o % 9 = 0 → (∀ y ∈ l, NT.Al y) → FT.al ⟨g, o, none⟩ (FT.of l)
  | [], _, _, _, _ => trivial
  | y :: r, g, o, ho, h => ⟨ho, h y List.mem_cons_self, by rw [addr_add]; exact al_of r g (o + 9) (by omega) fun z hz => h z (List.mem_cons_of_mem _ hz)⟩
/-- A row of results as arguments. -/
theorem Arg.kids {w : World} {g n : Nat} {ys : List NT} (h : Arg w g n ys) (hn : ys.length = n) (hf : n ≤ 9223372036854775807) {ok : Nat → Prop} (hg : ok g) (hy : ∀ y ∈ ys, y.Ok w ok) : Kids w ok (some ⟨g, 0, none⟩) n (FT.of ys) := by
  refine ⟨by rw [FT.of_len, hn]; exact Nat.le_refl _, by rw [FT.of_len, hn]; exact hf, .inr ⟨_, rfl, lay_of ys _ fun i x hx => ?_⟩⟩
  obtain ⟨cur, h1, hs, ha⟩ := h.row
  refine ⟨by rw [addr_add]; exact hg, by rw [addr_add]; exact h.lt, hy x (List.mem_of_getElem? hx), fun j u hu => ?_⟩
  rw [addr_add, addr_add, cell_of_row w g _ _ _ _ h1]
  refine ha _ u ?_
  rw [Nat.zero_add, show i * 9 + j = i * ntE.sz + j from rfl, El.all_at h.fine hx (by rw [← ntE.len x (h.fine x (List.mem_of_getElem? hx))]; exact (List.getElem?_eq_some_iff.1 hu).1)]
  exact hu
/-- How often the state goes on. -/
def itr {σ : Type} (nx : σ → σ) : Nat → σ → σ
  | 0, s => s
  | n + 1, s => itr nx n (nx s)
theorem itr_add {σ : Type} (nx : σ → σ) : ∀ (a b : Nat) (s : σ), itr nx (a + b) s = itr nx b (itr nx a s)
  | 0, b, s => by rw [Nat.zero_add]; rfl
  | a + 1, b, s => by rw [show a + 1 + b = (a + b) + 1 by omega]; exact itr_add nx a b (nx s)
theorem itr_one {σ : Type} (nx : σ → σ) (a : Nat) (s : σ) : itr nx (a + 1) s = nx (itr nx a s) := itr_add nx a 1 s
/-- A function value that makes nodes of nodes. -/
structure Acts {σ : Type} (F : FuncId) (lb : Array Value) (I : σ → (Nat → Prop) → World → Prop) (g : Nd → Nd) (nx : σ → σ) : Prop where
  enters : ∀ args w, (callFunc F args).run Try.prog w = .ok (.enter F args) w
  lt : ∀ s D w, I s D w → ∀ k, D k → k < w.heap.size
  keep : ∀ s D (w w' : World), I s D w → (∀ k, D k → w'.heap[k]? = w.heap[k]?) → w.heap.size ≤ w'.heap.size → I s D w'
  call : ∀ s D w (x : NT) (ok : Nat → Prop), I s D w → (∀ k, ok k → ¬ D k) → x.Ok w ok → Calls Try.prog F (#[x.val] ++ lb) w fun e w' => ∃ (y : NT) (D' : Nat → Prop), e = .returned y.val ∧ y.n = g x.n ∧ y.Ok w' ok ∧ (x.Al → y.Al) ∧ VI I D w (nx s) D' w'
/-- A block that is a row of cells, none of them frozen. -/
def RowAt (w : World) (j : Nat) : Prop := ∃ cs T, w.heap[j]? = some (.cells cs T (0, 0))
theorem RowAt.same {w w' : World} {j : Nat} (h : RowAt w j) (e : w'.heap[j]? = w.heap[j]?) : RowAt w' j := by
  obtain ⟨cs, T, h⟩ := h
  exact ⟨cs, T, e.trans h⟩
/-- An expression in blocks of a kind, all of them rows. -/
def NT.Rk (x : NT) (w : World) (ok : Nat → Prop) : Prop := x.Ok w (fun k => ok k ∧ RowAt w k)
section
variable {w w' : World} {ok ok' : Nat → Prop} {x : NT}
theorem NT.Rk.keep (q : x.Rk w ok) (h : ∀ k, ok k → k < w.heap.size → w'.heap[k]? = w.heap[k]?) (hs : w.heap.size ≤ w'.heap.size) (hk : ∀ k, ok k → k < w.heap.size → ok' k) : x.Rk w' ok' :=
  NT.Ok.keep q (fun k p l => h k p.1 l) hs (fun k p l => ⟨hk k p.1 l, p.2.same (h k p.1 l)⟩)
theorem NT.Rk.six (q : x.Rk w ok) : x.b.length = 6 := NT.Ok.six q
theorem NT.Rk.below (q : x.Rk w ok) (hb : Below w.heap.size w w') : x.Rk w' ok := q.keep (fun k _ hk => hb.block k hk) hb.size fun _ h _ => h
end
/-- What apply hands back. -/
def App {σ : Type} (I : σ → (Nat → Prop) → World → Prop) (D : Nat → Prop) (w : World) (z : Nd) (s : σ) (e : Ending) (w' : World) : Prop :=
  ∃ (y : NT) (D' : Nat → Prop), e = .returned y.val ∧ y.n = z ∧ y.Rk w' (fun k => w.heap.size ≤ k ∧ ¬ D' k) ∧ y.Al ∧ VI I D w s D' w'
end Go.Proofs.Ytjjpfpgjpmedmaa

/- A step at every node: no claim of its own. -/
import Derived.Test.YtpemamkhaiiaaaaEBase
import Derived.Shelf.Abstract
namespace Go.Proofs.Ytpemamkhaiiaaaa
open Go.RowKit
open ME (F Nd)
def NT.val (x : NT) : Value := .agg (cellsE x.o x.b x.v x.A x.k.len x.c).toArray
theorem NT.val_lit (o x0 x1 x2 x3 x4 x5 v : Int) (A : Option Addr) (c : Nat) (k : FT) : NT.val ⟨o, [x0, x1, x2, x3, x4, x5], v, A, c, k⟩ = .agg #[.int .i64 o, .int .i64 x0, .int .i64 x1, .int .i64 x2, .int .i64 x3, .int .i64 x4, .int .i64 x5, .int .i64 v, .slice A k.len c] := rfl
/-- What a step leaves: all but the blocks that are its own. -/
structure Kx (D : Nat → Prop) (w w' : World) : Prop where
  os : w'.os = w.os
  tape : w'.tape = w.tape
  output : w'.output = w.output
  size : w.heap.size ≤ w'.heap.size
  block : ∀ k, k < w.heap.size → ¬ D k → w'.heap[k]? = w.heap[k]?
theorem Kx.refl (D : Nat → Prop) (w : World) : Kx D w w := ⟨rfl, rfl, rfl, Nat.le_refl _, fun _ _ _ => rfl⟩
theorem Kx.of_below {D : Nat → Prop} {w w' : World} (h : Below w.heap.size w w') : Kx D w w' := ⟨h.os, h.tape, h.output, h.size, fun k hk _ => h.block k hk⟩
/-- A state that goes along. -/
structure VI {σ : Type} (I : σ → (Nat → Prop) → World → Prop) (D : Nat → Prop) (w : World) (s : σ) (D' : Nat → Prop) (w' : World) : Prop where
  inv : I s D' w'
  kx : Kx D w w'
  sub : ∀ k, D' k → D k ∨ w.heap.size ≤ k
section
variable {σ : Type} {I : σ → (Nat → Prop) → World → Prop} {D D1 D2 : Nat → Prop} {w w1 w2 : World} {s s1 s2 : σ}
theorem VI.refl (h : I s D w) : VI I D w s D w := ⟨h, Kx.refl _ _, fun _ h => .inl h⟩
theorem VI.trans (h : VI I D w s1 D1 w1) (k : VI I D1 w1 s2 D2 w2) : VI I D w s2 D2 w2 :=
  ⟨k.inv, ⟨k.kx.os.trans h.kx.os, k.kx.tape.trans h.kx.tape, k.kx.output.trans h.kx.output, Nat.le_trans h.kx.size k.kx.size, fun j hj hd =>
    (k.kx.block j (Nat.lt_of_lt_of_le hj h.kx.size) (fun g => (h.sub j g).elim hd (fun q => by omega))).trans (h.kx.block j hj hd)⟩,
   fun j hj => (k.sub j hj).elim (h.sub j) (fun g => .inr (Nat.le_trans h.kx.size g))⟩
end
/-- The state behind the nodes, and whether it went on to the end. -/
def visL {σ : Type} (st : σ → Nd → σ × Bool) : σ → List Nd → σ × Bool
  | s, [] => (s, true)
  | s, n :: r => if (st s n).2 = true then visL st (st s n).1 r else ((st s n).1, false)
theorem visL_cons {σ : Type} (st : σ → Nd → σ × Bool) (s : σ) (n : Nd) (r : List Nd) : visL st s (n :: r) = if (st s n).2 = true then visL st (st s n).1 r else ((st s n).1, false) := rfl
theorem visL_append {σ : Type} (st : σ → Nd → σ × Bool) : ∀ (a : List Nd) (s : σ) (b : List Nd), visL st s (a ++ b) = if (visL st s a).2 = true then visL st (visL st s a).1 b else visL st s a
  | [], s, b => rfl
  | n :: r, s, b => by
    rw [List.cons_append, visL_cons, visL_cons]
    by_cases h : (st s n).2 = true
    · rw [if_pos h, if_pos h]; exact visL_append st r _ b
    · rw [if_neg h, if_neg h]; rfl
/-- The nodes of an expression's arguments, one after another. -/
theorem visL_on {σ : Type} {st : σ → Nd → σ × Bool} {s : σ} {R : σ × Bool} {x : NT} {r : FT} (h : R = visL st s (FT.cons x.o x.b x.v x.A x.c x.k r).f.pre) (hb : (visL st s x.n.pre).2 = true) : R = visL st (visL st s x.n.pre).1 r.f.pre := by
  rw [h]
  show visL st s (x.n.pre ++ r.f.pre) = _
  rw [visL_append, if_pos hb]
theorem visL_off {σ : Type} {st : σ → Nd → σ × Bool} {s : σ} {R : σ × Bool} {x : NT} {r : FT} (h : R = visL st s (FT.cons x.o x.b x.v x.A x.c x.k r).f.pre) (hb : (visL st s x.n.pre).2 = false) : R = visL st s x.n.pre := by
  rw [h]
  show visL st s (x.n.pre ++ r.f.pre) = _
  rw [visL_append, if_neg (by rw [hb]; decide)]
/-- What a call that steps hands back. -/
def Vis {σ : Type} (I : σ → (Nat → Prop) → World → Prop) (D : Nat → Prop) (w : World) (r : σ × Bool) (e : Ending) (w' : World) : Prop := e = .returned (.bool r.2) ∧ ∃ D', VI I D w r.1 D' w'
/-- A function value that steps. -/
structure Steps {σ : Type} (F : FuncId) (lb : Array Value) (I : σ → (Nat → Prop) → World → Prop) (st : σ → Nd → σ × Bool) (can : Nat → σ → Prop) : Prop where
  less : ∀ m s, can (m + 1) s → can m s
  next : ∀ m s n, can (m + 1) s → can m (st s n).1
  enters : ∀ args w, (callFunc F args).run Try.prog w = .ok (.enter F args) w
  lt : ∀ s D w, I s D w → ∀ k, D k → k < w.heap.size
  keep : ∀ s D w w', I s D w → Below w.heap.size w w' → I s D w'
  call : ∀ s D w (x : NT), can 1 s → x.size ≤ 2000000 → I s D w → x.Ok w (fun k => ¬ D k) → Calls Try.prog F (#[x.val] ++ lb) w (Vis I D w (st s x.n))
theorem Steps.less_to {σ : Type} {F : FuncId} {lb : Array Value} {I : σ → (Nat → Prop) → World → Prop} {st : σ → Nd → σ × Bool} {can : Nat → σ → Prop} (h : Steps F lb I st can) (a : Nat) : ∀ (b : Nat) (s : σ), can (a + b) s → can a s
  | 0, _, q => q
  | b + 1, s, q => h.less_to a b s (h.less _ _ q)
theorem Steps.after {σ : Type} {F : FuncId} {lb : Array Value} {I : σ → (Nat → Prop) → World → Prop} {st : σ → Nd → σ × Bool} {can : Nat → σ → Prop} (h : Steps F lb I st can) (m : Nat) : ∀ (l : List Nd) (s : σ), can (m + l.length) s → can m (visL st s l).1
  | [], _, q => q
  | n :: r, s, q => by
    rw [visL_cons]
    have q1 := h.next (m + r.length) s n q
    split
    · exact h.after m r _ q1
    · exact h.less_to m r.length _ q1
set_option maxRecDepth 100000 in
set_option maxHeartbeats 4000000 in
theorem eachNode_any {σ : Type} {F : FuncId} {lb : Array Value} {I : σ → (Nat → Prop) → World → Prop} {st : σ → Nd → σ × Bool} {can : Nat → σ → Prop} (hS : Steps F lb I st can) : ∀ (N : Nat), N ≤ 2000000 → ∀ (x : NT), x.size ≤ N → ∀ (s : σ) (D : Nat → Prop) (w : World), can x.size s → I s D w → x.Ok w (fun k => ¬ D k) →
    Calls Try.prog 20 #[x.val, .func (.func F) #[] lb] w (Vis I D w (visL st s x.n.pre)) := by
  intro N
  induction N with
  | zero => intro _ x hx; unfold NT.size at hx; omega
  | succ N ih =>
    intro hN x hx s D w hcn hi hok
    have IH := Lib.hid (ih (by omega))
    have hxs : x.size ≤ 2000000 := by omega
    have hsz : x.k.size ≤ N := by unfold NT.size at hx; omega
    clear ih hx
    obtain ⟨o, b, v, A, c, k⟩ := x
    obtain ⟨x0, x1, x2, x3, x4, x5, rfl⟩ := six hok.six
    have H1 := Lib.hid ((VI.refl hi).trans ⟨hS.keep _ _ _ _ hi (below_new w (.cells #[.int .i64 o, .int .i64 x0, .int .i64 x1, .int .i64 x2, .int .i64 x3, .int .i64 x4, .int .i64 x5, .int .i64 v, .slice A k.len c] 26)), Kx.of_below (below_new _ _), fun _ h => .inl h⟩)
    have HO1 := Lib.hid (hok.below (below_new w (.cells #[.int .i64 o, .int .i64 x0, .int .i64 x1, .int .i64 x2, .int .i64 x3, .int .i64 x4, .int .i64 x5, .int .i64 v, .slice A k.len c] 26)))
    have HO := Lib.hid hok
    have CL := Lib.hid hS.call
    have HSS := Lib.hid hS
    have C1 : Hid (can 1 s) := Lib.hid (hS.less_to 1 k.size s (by rw [Nat.add_comm]; exact hcn))
    have C2 : Hid (∀ q, can k.size (st s q).1) := Lib.hid (fun q => hS.next k.size s q hcn)
    have KP := Lib.hid hS.keep
    have eg := hS.enters
    have hn := hok.kids.few
    have hc := hok.kids.cap
    have HD : ¬ D w.heap.size := fun g => by have := hS.lt _ _ _ hi _ g; omega
    have HNEW := Lib.hid (heap_new w (.cells #[.int .i64 o, .int .i64 x0, .int .i64 x1, .int .i64 x2, .int .i64 x3, .int .i64 x4, .int .i64 x5, .int .i64 v, .slice A k.len c] 26))
    rw [NT.val_lit]
    obtain ⟨R, hR⟩ : ∃ R, visL st s (NT.n ⟨o, [x0, x1, x2, x3, x4, x5], v, A, c, k⟩).pre = R := ⟨_, rfl⟩
    rw [hR]
    have HR : Hid (R = if (st s (NT.n ⟨o, [x0, x1, x2, x3, x4, x5], v, A, c, k⟩)).2 = true then visL st (st s (NT.n ⟨o, [x0, x1, x2, x3, x4, x5], v, A, c, k⟩)).1 k.f.pre else ((st s (NT.n ⟨o, [x0, x1, x2, x3, x4, x5], v, A, c, k⟩)).1, false)) := Lib.hid (by rw [← hR]; rfl)
    clear hR
    clear hi hok hcn
    go_enter Try.func20, Try.ntmps20
    go_wp2_with fail
    refine (CL.out s D _ ⟨o, [x0, x1, x2, x3, x4, x5], v, A, c, k⟩ C1.out hxs H1.out.inv HO1.out).mono ?_
    rintro ev w1 ⟨rfl, D1, h1⟩
    have V1 := Lib.hid (H1.out.trans h1)
    have HBX := Lib.hid ((h1.kx.block w.heap.size (by simp) HD).trans HNEW.out)
    have CK := Lib.hid (C2.out (NT.n ⟨o, [x0, x1, x2, x3, x4, x5], v, A, c, k⟩))
    clear h1 H1 HO1 HNEW C2
    generalize st s (NT.n ⟨o, [x0, x1, x2, x3, x4, x5], v, A, c, k⟩) = r1 at *
    obtain ⟨s1, b1⟩ := r1
    dsimp only at V1 HR CK
    cases b1 with
    | false =>
      have E : Hid (Vis I D w R (.returned (.bool false)) w1) := Lib.hid (by rw [HR.out]; exact ⟨rfl, D1, V1.out⟩)
      clear HR V1 IH CL HO
      go_wp2
      go_ret
      exact E.out
    | true =>
      have HK : Hid (Rest w1 (fun j => ¬ D j ∧ j < w.heap.size) A 0 k k.len) := Lib.hid (HO.out.kids.rest.keep (fun j hd hj => V1.out.kx.block j hj hd) V1.out.kx.size (fun j hd hj => ⟨hd, hj⟩))
      have HR1 : Hid (R = visL st s1 k.f.pre) := Lib.hid (by rw [HR.out, if_pos rfl])
      have hbc : w1.cell? ⟨w.heap.size, 8, none⟩ = some (.slice A k.len c) := by rw [cell_of_row _ _ _ _ _ _ HBX.out]; rfl
      clear HR HO
      go_wp2_with fail
      go_loopw [14] (fun i wr => ∃ (q : Nat) (rs : FT) (s2 : σ) (D2 : Nat → Prop), q ≤ k.len ∧ rs.size ≤ N ∧ i = .int .i64 q ∧ Hid (Rest wr (fun j => ¬ D j ∧ j < w.heap.size) A q rs k.len) ∧ Hid (VI I D w s2 D2 wr) ∧ Hid (can rs.size s2) ∧ Hid (R = visL st s2 rs.f.pre)) (fun i _ => k.len - (intOf i).toNat)
      case atStart => exact ⟨0, k, s1, D1, Nat.zero_le _, hsz, rfl, HK, V1, CK, HR1⟩
      case round =>
        clear HK V1 CK HR1 hbc
        obtain ⟨q, rs, s2, D2, hq, hrs, rfl, HK, V2, CK, HR2⟩ := hrel
        by_cases hlt : q < k.len
        · obtain ⟨ad, o', y0, y1, y2, y3, y4, y5, v', A', c', k', r', rfl, rfl, hok', hnx, hbk, _, z0, z1, z2, z3, z4, z5, z6, z7, z8⟩ := HK.out.open_ hlt
          have hok2 := Lib.hid hok'
          have HN := Lib.hid hnx
          have hs2 : NT.size ⟨o', [y0, y1, y2, y3, y4, y5], v', A', c', k'⟩ ≤ N := by unfold FT.size at hrs; unfold NT.size; show k'.size + 1 ≤ N; omega
          have hr2 : r'.size ≤ N := by unfold FT.size at hrs; omega
          have HB := Lib.hid (below_new wr (.cells #[.int .i64 o', .int .i64 y0, .int .i64 y1, .int .i64 y2, .int .i64 y3, .int .i64 y4, .int .i64 y5, .int .i64 v', .slice A' k'.len c'] 26))
          have V3 := Lib.hid (V2.out.trans ⟨KP.out _ _ _ _ V2.out.inv HB.out, Kx.of_below HB.out, fun _ h => .inl h⟩)
          have CKA : Hid (can r'.size (visL st s2 (NT.n ⟨o', [y0, y1, y2, y3, y4, y5], v', A', c', k'⟩).pre).1) := Lib.hid (HSS.out.after r'.size _ s2 (by
            rw [ME.Nd.pre_length, NT.size_n, show r'.size + NT.size ⟨o', [y0, y1, y2, y3, y4, y5], v', A', c', k'⟩ = FT.size (.cons o' [y0, y1, y2, y3, y4, y5] v' A' c' k' r') by show r'.size + (k'.size + 1) = 1 + k'.size + r'.size; omega]
            exact CK.out))
          have CKB : can (NT.size ⟨o', [y0, y1, y2, y3, y4, y5], v', A', c', k'⟩) s2 := HSS.out.less_to _ r'.size s2 (by
            rw [show NT.size ⟨o', [y0, y1, y2, y3, y4, y5], v', A', c', k'⟩ + r'.size = FT.size (.cons o' [y0, y1, y2, y3, y4, y5] v' A' c' k' r') by show (k'.size + 1) + r'.size = 1 + k'.size + r'.size; omega]
            exact CK.out)
          have CE := Lib.hid (IH.out ⟨o', [y0, y1, y2, y3, y4, y5], v', A', c', k'⟩ hs2 s2 D2 _ CKB V3.out.inv (hok2.out.keep (fun j _ hj => HB.out.block j hj) HB.out.size (fun j hj _ hd => (V2.out.sub j hd).elim hj.1 (fun g => by have := hj.2; omega))))
          rw [NT.val_lit] at CE
          clear hok' hnx hok2 HK CK CKB
          have hlt' : (q : Int) < (k.len : Int) := by omega
          go_wp2_with fail
          refine CE.out.mono ?_
          rintro ev w3 ⟨rfl, D3, h3⟩
          have V4 := Lib.hid (V3.out.trans h3)
          have HRS : Hid (Rest w3 (fun j => ¬ D j ∧ j < w.heap.size) (some ad) (q + 1) r' k.len) := Lib.hid (HN.out.keep (fun j hd hj => by
            have a := V2.out.kx.block j hd.2 hd.1
            have b := V4.out.kx.block j hd.2 hd.1
            exact b.trans a.symm) (Nat.le_trans HB.out.size h3.kx.size) (fun _ h _ => h))
          have ON := Lib.hid (visL_on (x := ⟨o', [y0, y1, y2, y3, y4, y5], v', A', c', k'⟩) HR2.out)
          have OFF := Lib.hid (visL_off (x := ⟨o', [y0, y1, y2, y3, y4, y5], v', A', c', k'⟩) HR2.out)
          clear h3 V3 HB CE HN HR2 V2 z0 z1 z2 z3 z4 z5 z6 z7 z8
          generalize visL st s2 (NT.n ⟨o', [y0, y1, y2, y3, y4, y5], v', A', c', k'⟩).pre = r3 at *
          obtain ⟨s3, b3⟩ := r3
          dsimp only at V4 ON OFF CKA
          cases b3 with
          | false =>
            have E : Hid (Vis I D w R (.returned (.bool false)) w3) := Lib.hid (by rw [OFF.out rfl]; exact ⟨rfl, D3, V4.out⟩)
            clear ON OFF V4 HRS
            go_wp2
            go_ret
            exact E.out
          | true =>
            have HR3 := Lib.hid (ON.out rfl)
            clear ON OFF
            go_wp2
            go_roundw
            case rel => exact ⟨q + 1, r', s3, D3, by omega, hr2, by go_num, HRS, V4, CKA, HR3⟩
            case measure => simp [intOf]; omega
        · obtain ⟨rfl, _⟩ := HK.out.end_ hlt
          have E : Hid (Vis I D w R (.returned (.bool true)) wr) := Lib.hid (by rw [HR2.out]; exact ⟨rfl, D2, V2.out⟩)
          have hlt' : ¬ (q : Int) < (k.len : Int) := by omega
          clear HR2 V2 HK
          go_wp2
          go_ret
          exact E.out
end Go.Proofs.Ytpemamkhaiiaaaa

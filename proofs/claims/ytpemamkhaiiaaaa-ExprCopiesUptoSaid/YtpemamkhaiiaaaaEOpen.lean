/- Expressions that came in: no claim of its own. -/
import Derived.Test.YtpemamkhaiiaaaaEBase
import Derived.Lib.SmallJoins
namespace Go.Proofs.Ytpemamkhaiiaaaa
open Go.RowKit
def FT.of : List NT → FT
  | [] => .nil
  | x :: r => .cons x.o x.b x.v x.A x.c x.k (FT.of r)
theorem FT.of_len : ∀ l : List NT, (FT.of l).len = l.length
  | [] => rfl
  | _ :: r => by simp [FT.of, FT.len, FT.of_len r]
/-- One expression's cells at an address. -/
structure NodeAt (w : World) (ok : Nat → Prop) (a : Addr) (x : NT) : Prop where
  in_ : ok a.block
  lt : a.block < w.heap.size
  good : x.Ok w ok
  cells : ∀ i u, (cellsE x.o x.b x.v x.A x.k.len x.c)[i]? = some u → w.cell? (a.add i) = some u
theorem lay_of {w : World} {ok : Nat → Prop} : ∀ (l : List NT) (a : Addr), (∀ i x, l[i]? = some x → NodeAt w ok (a.add (i * 9)) x) → Lay w ok a (FT.of l)
  | [], _, _ => trivial
  | x :: r, a, h => by
    have h0 := h 0 x rfl
    rw [show a.add (0 * 9) = a by unfold Addr.add; simp] at h0
    refine ⟨⟨h0.in_, h0.lt, h0.good.six, h0.cells⟩, ⟨h0.good.o64, h0.good.v64, h0.good.b64⟩, ⟨h0.good.kids.cap, h0.good.kids.few⟩, h0.good.kids.lay, lay_of r _ fun i y hy => ?_⟩
    rw [add_of_add, show 9 + i * 9 = (i + 1) * 9 by omega]
    exact h (i + 1) y hy
theorem cells_expr : Try.prog.cellsOf 26 = 9 := by kernel_rfl
theorem cells_bun : Try.prog.cellsOf 23 = 6 := by kernel_rfl
theorem cells_one : Try.prog.cellsOf 3 = 1 := by kernel_rfl
set_option maxRecDepth 100000 in
theorem bun_of {H : Type} {enc : TypeId × Value → H} {W : World} {held : Bool} {n : Nat} {cs : List Value} {y : DataW H × List MemPlace} (h : DataW.trod enc Try.prog W 0 (fun _ => true) held n 23 cs = some y) :
    ∃ b : List Int, b.length = 6 ∧ (∀ z ∈ b, In64 z) ∧ cs = b.map (Value.int .i64) := by
  obtain ⟨xs, m, _, _, hcs, hl, hi⟩ := DataW.trod_array Try.underlying23 h
  have hsz : cs.length = 6 := by
    rw [cells_bun] at hcs
    exact hcs
  obtain ⟨c0, c1, c2, c3, c4, c5, rfl⟩ : ∃ c0 c1 c2 c3 c4 c5, cs = [c0, c1, c2, c3, c4, c5] := by
    match cs, hsz with
    | [c0, c1, c2, c3, c4, c5], _ => exact ⟨c0, c1, c2, c3, c4, c5, rfl⟩
  have one : ∀ (i : Nat) (c : Value), i < 6 → DataW.trod enc Try.prog W 0 (fun _ => true) held m 3 [c] = xs[i]? → ∃ x, c = .int .i64 x ∧ In64 x := by
    intro i c hi6 hc
    rw [List.getElem?_eq_getElem (by omega)] at hc
    obtain ⟨x, e0, _, e1⟩ := DataW.trod_int Try.underlying3 hc
    exact ⟨x, by simpa using e0, bounds_i64 e1⟩
  have hce := cells_one
  obtain ⟨x0, rfl, k0⟩ := one 0 c0 (by decide) (by have := hi 0 (by decide); rw [hce] at this; exact this)
  obtain ⟨x1, rfl, k1⟩ := one 1 c1 (by decide) (by have := hi 1 (by decide); rw [hce] at this; exact this)
  obtain ⟨x2, rfl, k2⟩ := one 2 c2 (by decide) (by have := hi 2 (by decide); rw [hce] at this; exact this)
  obtain ⟨x3, rfl, k3⟩ := one 3 c3 (by decide) (by have := hi 3 (by decide); rw [hce] at this; exact this)
  obtain ⟨x4, rfl, k4⟩ := one 4 c4 (by decide) (by have := hi 4 (by decide); rw [hce] at this; exact this)
  obtain ⟨x5, rfl, k5⟩ := one 5 c5 (by decide) (by have := hi 5 (by decide); rw [hce] at this; exact this)
  refine ⟨[x0, x1, x2, x3, x4, x5], rfl, fun z hz => ?_, rfl⟩
  simp only [List.mem_cons, List.not_mem_nil, or_false] at hz
  rcases hz with rfl | rfl | rfl | rfl | rfl | rfl <;> assumption
set_option maxRecDepth 100000 in
/-- What is read of an expression's cells, its arguments being so read. -/
theorem node_of {H : Type} {enc : TypeId × Value → H} {W : World} {held : Bool} {n : Nat} {cs : List Value} {y : DataW H × List MemPlace}
    (ih : ∀ m, m < n → ∀ v y, DataW.trod enc Try.prog W 0 (fun _ => true) held m 24 [v] = some y → ∃ (A : Option Addr) (c : Nat) (k : FT), v = .slice A k.len c ∧ Kids W (fun _ => True) A c k)
    (h : DataW.trod enc Try.prog W 0 (fun _ => true) held n 26 cs = some y) : ∃ x : NT, x.Ok W (fun _ => True) ∧ cs = cellsE x.o x.b x.v x.A x.k.len x.c := by
  obtain ⟨xs, m, hm, _, hl, hlen, hf⟩ := DataW.trod_struct Try.underlying26 h
  rw [cells_expr] at hl
  have hx : xs.length = 4 := hlen
  obtain ⟨y0, y1, y2, y3, rfl⟩ : ∃ y0 y1 y2 y3, xs = [y0, y1, y2, y3] := by
    match xs, hx with
    | [y0, y1, y2, y3], _ => exact ⟨y0, y1, y2, y3, rfl⟩
  obtain ⟨c0, c1, c2, c3, c4, c5, c6, c7, c8, rfl⟩ : ∃ c0 c1 c2 c3 c4 c5 c6 c7 c8, cs = [c0, c1, c2, c3, c4, c5, c6, c7, c8] := by
    match cs, hl with
    | [c0, c1, c2, c3, c4, c5, c6, c7, c8], _ => exact ⟨c0, c1, c2, c3, c4, c5, c6, c7, c8, rfl⟩
  have u0 : DataW.trod enc Try.prog W 0 (fun _ => true) held m 3 [c0] = some y0 := hf 0 _ rfl
  have u1 : DataW.trod enc Try.prog W 0 (fun _ => true) held m 23 [c1, c2, c3, c4, c5, c6] = some y1 := hf 1 _ rfl
  have u2 : DataW.trod enc Try.prog W 0 (fun _ => true) held m 2 [c7] = some y2 := hf 2 _ rfl
  have u3 : DataW.trod enc Try.prog W 0 (fun _ => true) held m 24 [c8] = some y3 := hf 3 _ rfl
  obtain ⟨o, ho, _, bo⟩ := DataW.trod_int Try.underlying3 u0
  obtain ⟨b, hb, bb, hcs⟩ := bun_of u1
  obtain ⟨v, hv, _, bv⟩ := DataW.trod_int Try.underlying2 u2
  obtain ⟨A, c, k, hk, kk⟩ := ih m (by omega) _ _ u3
  injection ho with ho _
  injection hv with hv _
  subst ho hv hk
  refine ⟨⟨o, b, v, A, c, k⟩, ⟨hb, bounds_i64 bo, bounds_i64 bv, bb, kk⟩, ?_⟩
  show [Value.int .i64 o, c1, c2, c3, c4, c5, c6, .int .i64 v, .slice A k.len c] = .int .i64 o :: (b.map (Value.int .i64) ++ [.int .i64 v, .slice A k.len c])
  rw [← hcs]; rfl
theorem open_kids {H : Type} {enc : TypeId × Value → H} {W : World} {held : Bool} : ∀ (f : Nat) (v : Value) (y : DataW H × List MemPlace), DataW.trod enc Try.prog W 0 (fun _ => true) held f 24 [v] = some y →
    ∃ (A : Option Addr) (c : Nat) (k : FT), v = .slice A k.len c ∧ Kids W (fun _ => True) A c k := by
  intro f
  induction f using Nat.strongRecOn with
  | ind f ih =>
    intro v y h
    rcases DataW.trod_slice Try.underlying24 h with ⟨hcs, _⟩ | ⟨a, len, cap, elems, rest, n, hn, hcs, hy, _, hl, hm, hlen, hel, _, _⟩
    · simp at hcs
      exact ⟨none, 0, .nil, hcs, Kids.nil _ _ _ _⟩
    · simp at hcs
      have EE : ∀ k, k < len → ∃ x : NT, NodeAt W (fun _ => True) (a.add (k * 9)) x := fun k hk => by
        have hE := hel k hk
        rw [cells_expr] at hE
        have hlk : k < elems.length := by omega
        rw [List.getElem?_eq_getElem hlk, Option.bind_eq_some_iff] at hE
        obtain ⟨cs, h1, h2⟩ := hE
        obtain ⟨_, h3, h4⟩ := World.cells?_some h1
        obtain ⟨x, hx, rfl⟩ := node_of (fun m hm v y => ih m (by omega) v y) h2
        have hc : ∀ i u, (cellsE x.o x.b x.v x.A x.k.len x.c)[i]? = some u → W.cell? ((a.add (k * 9)).add i) = some u := fun i u hu => by
          rw [h4 i (by rw [← h3]; exact (List.getElem?_eq_some_iff.1 hu).1), hu]
        refine ⟨x, trivial, ?_, hx, hc⟩
        have := World.block_lt_of_cell? W _ (hc 0 _ rfl)
        rwa [block_of_add] at this
      obtain ⟨ts, hts, hat⟩ : ∃ ts : List NT, ts.length = len ∧ ∀ k t, ts[k]? = some t → NodeAt W (fun _ => True) (a.add (k * 9)) t := by
        refine ⟨List.ofFn (fun i : Fin len => Classical.choose (EE i.val i.isLt)), by simp, fun k t hk => ?_⟩
        obtain ⟨hk', e⟩ := List.getElem?_eq_some_iff.1 hk
        rw [List.getElem_ofFn] at e
        subst e
        exact Classical.choose_spec (EE k (by simpa using hk'))
      have e : (FT.of ts).len = len := by rw [FT.of_len, hts]
      refine ⟨some a, cap, FT.of ts, by rw [e]; exact hcs, by rw [e]; exact hl, by rw [e]; exact Nat.le_trans hl hm, .inr ⟨a, rfl, lay_of ts a hat⟩⟩
/-- An expression that came in. -/
theorem open_expr {H : Type} {enc : TypeId × Value → H} {W : World} {held : Bool} {f : Nat} {cs : List Value} {y : DataW H × List MemPlace} (h : DataW.trod enc Try.prog W 0 (fun _ => true) held f 26 cs = some y) :
    ∃ x : NT, x.Ok W (fun _ => True) ∧ cs = cellsE x.o x.b x.v x.A x.k.len x.c := node_of (fun m _ v y => open_kids m v y) h
end Go.Proofs.Ytpemamkhaiiaaaa

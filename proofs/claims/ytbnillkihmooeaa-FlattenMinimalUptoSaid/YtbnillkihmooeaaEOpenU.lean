/- Expressions that came in, and how much is read of them: no claim of its own. -/
import Derived.Test.YtbnillkihmooeaaJJ
import Derived.Test.YtbnillkihmooeaaRows
namespace Go.Proofs.Ytbnillkihmooeaa
open Go.RowKit
theorem bulk_pos {H : Type} (d : DataW H) : 1 ≤ Rows.uptoBulk d := by
  cases d with
  | lit l => cases l <;> simp [Rows.uptoBulk]
  | _ => simp [Rows.uptoBulk]
theorem size_all {H : Type} : ∀ (ts : List NT) (es : List (DataW H)), ts.length = es.length → (∀ (i : Nat) (x : NT) (e : DataW H), ts[i]? = some x → es[i]? = some e → 2 * x.size ≤ Rows.uptoBulk e) → 2 * (FT.of ts).size ≤ Rows.uptoBulkAll es
  | [], _, _, _ => Nat.zero_le _
  | x :: r, [], h, _ => by cases h
  | x :: r, e :: es, h, hx => by
    have h0 := hx 0 x e rfl rfl
    have h1 := size_all r es (by simpa using h) fun i y f hy hf => hx (i + 1) y f hy hf
    have e1 : (FT.of (x :: r)).size = x.size + (FT.of r).size := by show 1 + x.k.size + (FT.of r).size = _; unfold NT.size; omega
    rw [e1]
    simp only [Rows.uptoBulkAll]
    omega
set_option maxRecDepth 100000 in
theorem node_ofU {H : Type} {enc : TypeId × Value → H} {W : World} {held : Bool} {n : Nat} {cs : List Value} {y : DataW H × List MemPlace}
    (ih : ∀ m, m < n → ∀ v y, DataW.trod enc Try.prog W 0 (fun _ => true) held m 24 [v] = some y → ∃ (A : Option Addr) (c : Nat) (k : FT), v = .slice A k.len c ∧ Kids W (fun _ => True) A c k ∧ 2 * k.size ≤ Rows.uptoBulk y.1)
    (h : DataW.trod enc Try.prog W 0 (fun _ => true) held n 26 cs = some y) : ∃ x : NT, x.Ok W (fun _ => True) ∧ cs = cellsE x.o x.b x.v x.A x.k.len x.c ∧ 2 * x.size ≤ Rows.uptoBulk y.1 := by
  obtain ⟨xs, m, hm, hy, hl, hlen, hf⟩ := DataW.trod_struct Try.underlying26 h
  rw [cells_expr] at hl
  have hx : xs.length = 4 := hlen
  obtain ⟨y0, y1, y2, y3, rfl⟩ : ∃ y0 y1 y2 y3, xs = [y0, y1, y2, y3] := by
    match xs, hx with
    | [y0, y1, y2, y3], _ => exact ⟨y0, y1, y2, y3, rfl⟩
  obtain ⟨c0, c1, c2, c3, c4, c5, c6, c7, c8, rfl⟩ : ∃ c0 c1 c2 c3 c4 c5 c6 c7 c8, cs = [c0, c1, c2, c3, c4, c5, c6, c7, c8] := by
    match cs, hl with
    | [c0, c1, c2, c3, c4, c5, c6, c7, c8], _ => exact ⟨c0, c1, c2, c3, c4, c5, c6, c7, c8, rfl⟩
  have u0 : DataW.trod enc Try.prog W 0 (fun _ => true) held m 3 [c0] = some y0 := hf 0 _ rfl
  have u1 : DataW.trod enc Try.prog W 0 (fun _ => true) held m 23 [c1, c2, c3, c4, c5, c6] = some y1 := hf 1 _ rfl
  have u2 : DataW.trod enc Try.prog W 0 (fun _ => true) held m 2 [c7] = some y2 := hf 2 _ rfl
  have u3 : DataW.trod enc Try.prog W 0 (fun _ => true) held m 24 [c8] = some y3 := hf 3 _ rfl
  obtain ⟨o, ho, _, bo⟩ := DataW.trod_int Try.underlying3 u0
  obtain ⟨b, hb, bb, hcs⟩ := bun_of u1
  obtain ⟨v, hv, _, bv⟩ := DataW.trod_int Try.underlying2 u2
  obtain ⟨A, c, k, hk, kk, hkb⟩ := ih m (by omega) _ _ u3
  injection ho with ho _
  injection hv with hv _
  subst ho hv hk
  refine ⟨⟨o, b, v, A, c, k⟩, ⟨hb, bounds_i64 bo, bounds_i64 bv, bb, kk⟩, ?_, ?_⟩
  · show [Value.int .i64 o, c1, c2, c3, c4, c5, c6, .int .i64 v, .slice A k.len c] = .int .i64 o :: (b.map (Value.int .i64) ++ [.int .i64 v, .slice A k.len c])
    rw [← hcs]; rfl
  · rw [hy]
    have e : Rows.uptoBulk (DataW.agg ([y0, y1, y2, y3].map (·.1))) = Rows.uptoBulk y0.1 + (Rows.uptoBulk y1.1 + (Rows.uptoBulk y2.1 + (Rows.uptoBulk y3.1 + 0))) + 1 := by simp only [List.map_cons, List.map_nil, Rows.uptoBulk, Rows.uptoBulkAll]
    show 2 * (k.size + 1) ≤ Rows.uptoBulk (DataW.agg ([y0, y1, y2, y3].map (·.1)))
    rw [e]
    have := bulk_pos y0.1
    have := bulk_pos y1.1
    omega
theorem open_kidsU {H : Type} {enc : TypeId × Value → H} {W : World} {held : Bool} : ∀ (f : Nat) (v : Value) (y : DataW H × List MemPlace), DataW.trod enc Try.prog W 0 (fun _ => true) held f 24 [v] = some y →
    ∃ (A : Option Addr) (c : Nat) (k : FT), v = .slice A k.len c ∧ Kids W (fun _ => True) A c k ∧ 2 * k.size ≤ Rows.uptoBulk y.1 := by
  intro f
  induction f using Nat.strongRecOn with
  | ind f ih =>
    intro v y h
    rcases DataW.trod_slice Try.underlying24 h with ⟨hcs, _⟩ | ⟨a, len, cap, elems, rest, n, hn, hcs, hy, _, hl, hm, hlen, hel, _, _⟩
    · simp at hcs
      exact ⟨none, 0, .nil, hcs, Kids.nil _ _ _ _, Nat.zero_le _⟩
    · simp at hcs
      have EE : ∀ k, k < len → ∃ x : NT, NodeAt W (fun _ => True) (a.add (k * 9)) x ∧ ∀ e, elems[k]? = some e → 2 * x.size ≤ Rows.uptoBulk e.1 := fun k hk => by
        have hE := hel k hk
        rw [cells_expr] at hE
        have hlk : k < elems.length := by omega
        rw [List.getElem?_eq_getElem hlk, Option.bind_eq_some_iff] at hE
        obtain ⟨cs, h1, h2⟩ := hE
        obtain ⟨_, h3, h4⟩ := World.cells?_some h1
        obtain ⟨x, hx, rfl, hxb⟩ := node_ofU (fun m hm v y => ih m (by omega) v y) h2
        have hc : ∀ i u, (cellsE x.o x.b x.v x.A x.k.len x.c)[i]? = some u → W.cell? ((a.add (k * 9)).add i) = some u := fun i u hu => by
          rw [h4 i (by rw [← h3]; exact (List.getElem?_eq_some_iff.1 hu).1), hu]
        refine ⟨x, ⟨trivial, ?_, hx, hc⟩, fun e he => ?_⟩
        · have := World.block_lt_of_cell? W _ (hc 0 _ rfl)
          rwa [block_of_add] at this
        · rw [List.getElem?_eq_getElem hlk] at he
          injection he with he
          rw [← he]; exact hxb
      obtain ⟨ts, hts, hat⟩ : ∃ ts : List NT, ts.length = len ∧ ∀ k t, ts[k]? = some t → NodeAt W (fun _ => True) (a.add (k * 9)) t ∧ ∀ e, elems[k]? = some e → 2 * t.size ≤ Rows.uptoBulk e.1 := by
        refine ⟨List.ofFn (fun i : Fin len => Classical.choose (EE i.val i.isLt)), by simp, fun k t hk => ?_⟩
        obtain ⟨hk', e⟩ := List.getElem?_eq_some_iff.1 hk
        rw [List.getElem_ofFn] at e
        subst e
        exact Classical.choose_spec (EE k (by simpa using hk'))
      have e : (FT.of ts).len = len := by rw [FT.of_len, hts]
      refine ⟨some a, cap, FT.of ts, by rw [e]; exact hcs, ⟨by rw [e]; exact hl, by rw [e]; exact Nat.le_trans hl hm, .inr ⟨a, rfl, lay_of ts a fun i x hx => (hat i x hx).1⟩⟩, ?_⟩
      rw [hy]
      have sa := size_all ts (elems.map (·.1)) (by rw [List.length_map, hts, hlen]) fun i x e hx he => by
        rw [List.getElem?_map, Option.map_eq_some_iff] at he
        obtain ⟨e', he', rfl⟩ := he
        exact (hat i x hx).2 e' he'
      show 2 * (FT.of ts).size ≤ Rows.uptoBulk (DataW.slice (elems.map (·.1)) (rest.map (·.1)))
      simp only [Rows.uptoBulk]
      omega
/-- An expression that came in. -/
theorem open_exprU {H : Type} {enc : TypeId × Value → H} {W : World} {held : Bool} {f : Nat} {cs : List Value} {y : DataW H × List MemPlace} (h : DataW.trod enc Try.prog W 0 (fun _ => true) held f 26 cs = some y) :
    ∃ x : NT, x.Ok W (fun _ => True) ∧ cs = cellsE x.o x.b x.v x.A x.k.len x.c ∧ 2 * x.size ≤ Rows.uptoBulk y.1 := node_ofU (fun m _ v y => open_kidsU m v y) h
end Go.Proofs.Ytbnillkihmooeaa

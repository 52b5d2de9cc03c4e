/- FAtoms, FDel, FClean, joined: no claim of its own. -/
import Derived.Test.YtjjpfpgjpmedmaaJFC
import Derived.Test.YtjjpfpgjpmedmaaJK
import Derived.Test.YtjjpfpgjpmedmaaJFA
import Derived.Test.YtjjpfpgjpmedmaaJFM
namespace Go.Proofs.Ytjjpfpgjpmedmaa
open Go.RowKit
attribute [local go_sem] Oper.semAt_some
/-- An offer as an Atom. -/
def atX (p : MF.Of) : NT := ⟨1, p.want, p.value, none, 0, .nil⟩
theorem atX_fine (l : List MF.Of) : ntE.Fine (l.map atX) := fun y hy => by obtain ⟨p, _, rfl⟩ := List.mem_map.1 hy; rfl
set_option maxRecDepth 100000 in
set_option maxHeartbeats 4000000 in
theorem fatoms_any (A : Option Addr) (n c : Nat) (l : List MF.Of) (hn : n ≤ 1000000) (w : World) (hl : Lst ofE w A n c l) : Calls Try.prog 36 #[.slice A n c] w (fun e w' => ∃ v, e = .returned v ∧ OwnL ntE 28 w' w.heap.size v (l.map atX) ∧ Below w.heap.size w w') := by
  have HL := Lib.hid hl
  have HLN := Lib.hid hl.len
  clear hl
  obtain ⟨i0, hi, hz0, hz1, hz2⟩ := info_parts infoExpr
  go_enter Try.func36, Try.ntmps36
  go_wp2_with (at_make; refine wpList_make_own _ rfl _ _ 26 rfl w.heap.size 28 i0 (.agg #[.int .i64 0, .int .i64 0, .int .i64 0, .int .i64 0, .int .i64 0, .int .i64 0, .int .i64 0, .int .i64 0, .slice none 0 0]) 9 Try.underlying26 hi hz0 hz1 .i64 .i64 _ n rfl rfl rfl ?b2 ?b3 (Nat.le_refl _) ?_)
  case b2 => rw [hz2]; omega
  case b3 => unfold maxLen; omega
  intro w1 hrow hg1
  have B1 := Lib.hid ((Below.refl w.heap.size w).grown hg1 (Nat.le_refl _) (by simp))
  have O1 := Lib.hid (show OwnL ntE 28 w1 w.heap.size (.slice (some ⟨w.heap.size, 0, none⟩) 0 n) [] from ⟨hrow, El.Fine.nil _⟩)
  clear hrow hg1
  go_wp2_with fail
  go_loopw [3, 11] (fun a i wr => ∃ k : Nat, k ≤ n ∧ i = .int .i64 k ∧ a = .slice (some ⟨w.heap.size, 0, none⟩) k n ∧ OwnL ntE 28 wr w.heap.size (.slice (some ⟨w.heap.size, 0, none⟩) k n) ((l.take k).map atX) ∧ Below w.heap.size w wr) (fun _ i _ => n - (intOf i).toNat)
  case atStart => exact ⟨0, Nat.zero_le _, rfl, rfl, O1.out, B1.out⟩
  case round =>
    obtain ⟨k, hk, rfl, rfl, hown, hbw⟩ := hrel
    have K := Lib.hid hown
    have HB := Lib.hid hbw
    clear hown hbw O1 B1
    by_cases hlt : k < n
    · obtain ⟨ad, ⟨bi, x0, x1, x2, x3, x4, x5, v⟩, rfl, hrow, _, hadl, e0, e1, e2, e3, e4, e5, e6, e7⟩ := of_at (HL.out.keep HB.out) hlt
      dsimp only at e0 e1 e2 e3 e4 e5 e6 e7
      have HT := Lib.hid (show (l.take (k + 1)).map atX = (l.take k).map atX ++ [atX ⟨bi, x0, x1, x2, x3, x4, x5, v⟩] from by
        obtain ⟨hq, e⟩ := List.getElem?_eq_some_iff.1 hrow
        rw [List.take_succ_eq_append_getElem hq, List.map_append, e]; rfl)
      have HKL := Lib.hid (show ((l.take k).map atX).length = k from by rw [List.length_map, List.length_take, HLN.out]; omega)
      clear hrow
      go_upto_region 5 with (fail)
      have hh := heap_new wr (.cells #[.int .i64 bi, .int .i64 x0, .int .i64 x1, .int .i64 x2, .int .i64 x3, .int .i64 x4, .int .i64 x5, .int .i64 v] 60)
      have q1 := (cell_of_row _ _ 1 _ _ _ hh).trans rfl
      have q2 := (cell_of_row _ _ 2 _ _ _ hh).trans rfl
      have q3 := (cell_of_row _ _ 3 _ _ _ hh).trans rfl
      have q4 := (cell_of_row _ _ 4 _ _ _ hh).trans rfl
      have q5 := (cell_of_row _ _ 5 _ _ _ hh).trans rfl
      have q6 := (cell_of_row _ _ 6 _ _ _ hh).trans rfl
      have q7 := (cell_of_row _ _ 7 _ _ _ hh).trans rfl
      have nb := below_new wr (.cells #[.int .i64 bi, .int .i64 x0, .int .i64 x1, .int .i64 x2, .int .i64 x3, .int .i64 x4, .int .i64 x5, .int .i64 v] 60)
      have K1 := Lib.hid (K.out.keep nb)
      have HB1 := Lib.hid (HB.out.trans (nb.mono HB.out.size))
      have hB1 : wr.heap.size < (wr.alloc (.cells #[.int .i64 bi, .int .i64 x0, .int .i64 x1, .int .i64 x2, .int .i64 x3, .int .i64 x4, .int .i64 x5, .int .i64 v] 60)).heap.size := by simp
      generalize wr.alloc (.cells #[.int .i64 bi, .int .i64 x0, .int .i64 x1, .int .i64 x2, .int .i64 x3, .int .i64 x4, .int .i64 x5, .int .i64 v] 60) = w2 at *
      generalize wr.heap.size = B2 at *
      clear hh nb e0 e1 e2 e3 e4 e5 e6 e7 hadl K HB
      have hX := heap_new w2 (.cells #[.int .i64 1, .int .i64 x0, .int .i64 x1, .int .i64 x2, .int .i64 x3, .int .i64 x4, .int .i64 x5, .int .i64 v, .slice none 0 0] 28)
      have K3 := Lib.hid (K1.out.keep (below_new w2 (.cells #[.int .i64 1, .int .i64 x0, .int .i64 x1, .int .i64 x2, .int .i64 x3, .int .i64 x4, .int .i64 x5, .int .i64 v, .slice none 0 0] 28)))
      have HB3 := Lib.hid (HB1.out.trans ((below_new w2 (.cells #[.int .i64 1, .int .i64 x0, .int .i64 x1, .int .i64 x2, .int .i64 x3, .int .i64 x4, .int .i64 x5, .int .i64 v, .slice none 0 0] 28)).mono HB1.out.size))
      have hs3 : w.heap.size ≤ (w2.alloc (.cells #[.int .i64 1, .int .i64 x0, .int .i64 x1, .int .i64 x2, .int .i64 x3, .int .i64 x4, .int .i64 x5, .int .i64 v, .slice none 0 0] 28)).heap.size := HB3.out.size
      have OR := K3.out.1
      rw [HKL.out] at OR
      go_wp2_with (at_builtin; refine wpList_append_fits _ rfl _ _ 26 rfl w.heap.size 28 i0 9 Try.underlying26 hi hz1 w.heap.size k n (ntE.all ((l.take k).map atX)) rfl OR ⟨w2.heap.size, 0, none⟩ 1 1 [.int .i64 1, .int .i64 x0, .int .i64 x1, .int .i64 x2, .int .i64 x3, .int .i64 x4, .int .i64 x5, .int .i64 v, .slice none 0 0] rfl rfl ?c1 ?c2 ?c3 ?_)
      case c1 => exact World.news_of_block hX
      case c2 => exact ntE.one (atX ⟨bi, x0, x1, x2, x3, x4, x5, v⟩)
      case c3 => omega
      intro w4 hown hg4
      have K4 := Lib.hid (show OwnL ntE 28 w4 w.heap.size (.slice (some ⟨w.heap.size, 0, none⟩) (k + 1) n) ((l.take (k + 1)).map atX) from by
        rw [HT.out]
        refine ⟨?_, (atX_fine _).snoc rfl⟩
        rw [El.all_append, El.all_one, List.length_append, HKL.out, List.map_take]
        exact hown)
      have HB4 := Lib.hid (HB3.out.grown hg4 hs3 (fun j hj => by injection hj with hj; omega))
      clear hown hg4 OR K3 HB3 K1 HB1 hX q1 q2 q3 q4 q5 q6 q7
      go_wp2
      go_roundw
      case rel => exact ⟨k + 1, by omega, by go_num, rfl, K4.out, HB4.out⟩
      case measure => simp [intOf]; omega
    · have hkn : k = n := by omega
      have HE := Lib.hid (show l.take k = l from by rw [hkn, ← HLN.out, List.take_length])
      go_wp2
      go_ret
      exact ⟨_, rfl, by rw [← HE.out]; exact K.out, HB.out⟩
end Go.Proofs.Ytjjpfpgjpmedmaa
namespace Go.Proofs.Ytjjpfpgjpmedmaa
open Go.RowKit
attribute [local go_sem] Oper.semAt_some
def setL : List Value → Nat → List Value → List Value
  | xs, _, [] => xs
  | xs, o, v :: r => setL (xs.set o v) (o + 1) r
theorem setL_mid : ∀ (vs a b c : List Value), b.length = vs.length → setL (a ++ b ++ c) a.length vs = a ++ vs ++ c
  | [], a, b, c, h => by obtain rfl : b = [] := List.eq_nil_of_length_eq_zero h; rfl
  | v :: r, a, b, c, h => by
    obtain ⟨y, b', rfl⟩ : ∃ y b', b = y :: b' := by cases b with
      | nil => cases h
      | cons y b' => exact ⟨y, b', rfl⟩
    have e : (a ++ (y :: b') ++ c).set a.length v = (a ++ [v]) ++ b' ++ c := by simp
    rw [setL, e]
    have := setL_mid r (a ++ [v]) b' c (by simpa using h)
    rw [List.length_append, List.length_singleton] at this
    rw [this]; simp
theorem own_sets {base : Nat} {e : TypeId} {size g n cap : Nat} : ∀ (vs : List Value) (o : Nat) (xs : List Value) {w : World}, w.ownsRow base e size (.slice (some ⟨g, 0, none⟩) n cap) n xs → (sets w g o vs).ownsRow base e size (.slice (some ⟨g, 0, none⟩) n cap) n (setL xs o vs)
  | [], _, _, _, h => h
  | v :: r, o, xs, _w, h => own_sets r (o + 1) (xs.set o v) (h.stored o v).1
theorem all_set {R : List MF.Of} (hf : ofE.Fine R) {i : Nat} (hi : i < R.length) (x : MF.Of) : setL (ofE.all R) (i * 8) (cells_of x) = ofE.all (R.set i x) := by
  have e1 : R = R.take i ++ [R[i]] ++ R.drop (i + 1) := by
    rw [List.append_assoc, List.singleton_append, ← List.drop_eq_getElem_cons hi, List.take_append_drop]
  have e2 : R.set i x = R.take i ++ [x] ++ R.drop (i + 1) := by
    rw [List.set_eq_take_append_cons_drop, if_pos hi]; simp
  have hl : (ofE.all (R.take i)).length = i * 8 := by rw [El.all_length (hf.take i), List.length_take, Nat.min_eq_left (Nat.le_of_lt hi)]; rfl
  rw [e2, El.all_append, El.all_append, El.all_one]
  conv => lhs; rw [e1, El.all_append, El.all_append, El.all_one, ← hl]
  exact setL_mid _ _ _ _ (by rfl)
theorem own_put {w : World} {B g n cap i : Nat} {R : List MF.Of} (h : OwnL ofE 60 w B (.slice (some ⟨g, 0, none⟩) n cap) R) (hn : R.length = n) (hi : i < n) {x : MF.Of} (hx : ofE.fine x) : OwnL ofE 60 (sets w g (i * 8) (cells_of x)) B (.slice (some ⟨g, 0, none⟩) n cap) (R.set i x) := by
  have h1 := h.1
  rw [hn] at h1
  refine ⟨?_, fun y hy => ?_⟩
  · rw [List.length_set, hn, ← all_set h.2 (by omega)]
    exact own_sets _ _ _ h1
  · rcases List.mem_or_eq_of_mem_set hy with g | rfl
    · exact h.2 y g
    · exact hx
/-- The row's end is cleared: what stands before it stays. -/
theorem own_clear {w w' : World} {B g n cap i : Nat} {R : List MF.Of} (h : OwnL ofE 60 w B (.slice (some ⟨g, 0, none⟩) n cap) R) (hn : R.length = n) (hi : i ≤ n) {cs : List Value} {cur : Array Value} (hg : w.heap[g]? = some (.cells cur 60 (0, 0))) (hc : cs.length = (n - i) * 8) (hw : w' = w.setRow g (cur.toList.take (i * 8) ++ cs ++ cur.toList.drop (i * 8 + (n - i) * 8)).toArray) : OwnL ofE 60 w' B (.slice (some ⟨g, 0, none⟩) i cap) (R.take i) := by
  refine ⟨?_, h.2.take i⟩
  have hl : (R.take i).length = i := by rw [List.length_take]; omega
  rw [hl]
  obtain ⟨h1, h2⟩ := h.1
  rw [hn] at h1
  refine ⟨by rw [El.all_length (h.2.take i), hl], .inr ?_⟩
  rcases h2 with ⟨e, _⟩ | ⟨g', cap', cur', e, hB, hh, hc1, hm, hs, ht⟩
  · cases e
  · simp only [Value.slice.injEq, Option.some.injEq, Addr.mk.injEq, and_true] at e
    obtain ⟨rfl, _, rfl⟩ := e
    rw [hg] at hh
    injection hh with hh
    injection hh with hh
    subst hh
    have hcs : (i * 8) ≤ cur.toList.length := by
      rw [Array.length_toList, hs]
      show i * 8 ≤ cap * 8
      omega
    refine ⟨g, cap, _, rfl, hB, by rw [hw]; exact setRow_heap w g cur _ _ _ hg, by omega, hm, ?_, ?_⟩
    · have hsz : cur.toList.length = cap * 8 := by rw [Array.length_toList, hs]; rfl
      simp only [List.size_toArray, List.length_append, List.length_take, List.length_drop, hc, hsz]
      show _ = cap * 8
      omega
    · show List.take (i * 8) (cur.toList.take (i * 8) ++ cs ++ cur.toList.drop (i * 8 + (n - i) * 8)) = _
      have e8 := El.all_take h.2 i
      have ht' : cur.toList.take (n * 8) = ofE.all R := by rw [hn] at ht; exact ht
      rw [List.append_assoc, List.take_left' (by rw [List.length_take]; omega), ← e8, ← ht', List.take_take]
      congr 1
      show i * 8 = Nat.min (i * 8) (n * 8)
      exact (Nat.min_eq_left (by omega)).symm
theorem wpList_clear_own {P : Program} {w : World} {ops : Array Oper} {rest : List Oper} {o : Oper} {a : Act} {Q : Exit → Act → World → Prop} (hgd : o.guard = none) (d : Operand) (T : TypeId)
    (ho : o.op = .call { callee := .builtin .clear, args := #[d], argTypes := #[T] }) (elem : TypeId) (hu : P.underlying T = some (.slice elem)) (z : Value) (hv : ∀ w, (zeroValue elem).run P w = .ok z w) (h1 : ∀ v ∈ (Builtin.zeroCells z.cells 1).toList, v.oneCell' = true) (size : Nat) (hz : z.cells.size = size) (hsz : 0 < size)
    (g off n c : Nat) (hd : a.eval d = .slice (some ⟨g, off, none⟩) n c) (cur : Array Value) (t : TypeId) (hg : w.heap[g]? = some (.cells cur t (0, 0))) (hfit : off + n * size ≤ cur.size) (hn : 0 < n)
    (h : ∀ w' cs, Hid (w' = w.setRow g (cur.toList.take off ++ cs ++ cur.toList.drop (off + n * size)).toArray) → cs.length = n * size → wpList P ops Q rest (a.put o.dst (.tuple #[])) w') : wpList P ops Q (o :: rest) a w := by
  refine wpList_plain hgd fun K hK => ?_
  rcases run_clear_row (P := P) w T elem o.type z hu hv h1 size hz hsz g off n c cur t hg hfit with ⟨_, h0⟩ | hrun
  · omega
  · unfold Oper.wp
    simp [execOp, ho, resolve, invoke, builtin, hd, hrun, Result.andThen]
    have hl := zeroCells_len z.cells n
    rw [hz] at hl
    have := hK _ _ (h _ (Builtin.zeroCells z.cells n).toList (show _ = _ from rfl) hl)
    rw [List.append_assoc] at this
    exact this
/-- What DeleteFunc leaves of the first j. -/
structure Dl (p : MF.Of → Bool) (l R : List MF.Of) (i j n : Nat) : Prop where
  len : R.length = n
  lt : i < j
  le : j ≤ n
  low : R.take i = (l.take j).filter fun e => !p e
  high : R.drop j = l.drop j
theorem Dl.yes {p : MF.Of → Bool} {l R : List MF.Of} {i j n : Nat} (h : Dl p l R i j n) {x : MF.Of} (hx : l[j]? = some x) (hp : p x = false) (hl : l.length = n) : Dl p l (R.set i x) (i + 1) (j + 1) n := by
  have hj := (List.getElem?_eq_some_iff.1 hx).1
  have h1 := h.lt
  have h2 := h.len
  refine ⟨by rw [List.length_set, h.len], by omega, by omega, ?_, ?_⟩
  · rw [List.take_succ_eq_append_getElem (by rw [List.length_set]; omega), List.take_succ_eq_append_getElem hj, List.filter_append, ← h.low, List.getElem_set_self, List.take_set_of_le (Nat.le_refl _)]
    have : l[j] = x := (List.getElem?_eq_some_iff.1 hx).2
    rw [this]
    simp [hp]
  · rw [List.drop_set_of_lt (by omega)]
    have := congrArg (List.drop 1) h.high
    rwa [List.drop_drop, List.drop_drop] at this
theorem Dl.no {p : MF.Of → Bool} {l R : List MF.Of} {i j n : Nat} (h : Dl p l R i j n) {x : MF.Of} (hx : l[j]? = some x) (hp : p x = true) (hl : l.length = n) : Dl p l R i (j + 1) n := by
  have hj := (List.getElem?_eq_some_iff.1 hx).1
  refine ⟨h.len, by have := h.lt; omega, by omega, ?_, ?_⟩
  · rw [List.take_succ_eq_append_getElem hj, List.filter_append, ← h.low]
    have : l[j] = x := (List.getElem?_eq_some_iff.1 hx).2
    rw [this]
    simp [hp]
  · have := congrArg (List.drop 1) h.high
    rwa [List.drop_drop, List.drop_drop] at this
theorem Dl.start {p : MF.Of → Bool} {l : List MF.Of} {k : Nat} {x : MF.Of} (h1 : l[k]? = some x) (h2 : p x = true) (h3 : ∀ j y, j < k → l[j]? = some y → p y = false) : Dl p l l k (k + 1) l.length := by
  have hk := (List.getElem?_eq_some_iff.1 h1).1
  refine ⟨rfl, by omega, by omega, ?_, rfl⟩
  rw [List.take_succ_eq_append_getElem hk, List.filter_append]
  have e1 : l[k] = x := (List.getElem?_eq_some_iff.1 h1).2
  have e2 : (l.take k).filter (fun e => !p e) = l.take k := by
    rw [List.filter_eq_self]
    intro y hy
    obtain ⟨j, hj, e⟩ := List.mem_iff_getElem.1 hy
    rw [List.length_take] at hj
    rw [h3 j y (by omega) (by rw [← e, List.getElem_take, List.getElem?_eq_getElem (by omega)])]; rfl
  rw [e1, e2]
  simp [h2]
theorem Dl.at_ {p : MF.Of → Bool} {l R : List MF.Of} {i j n : Nat} (h : Dl p l R i j n) {x : MF.Of} (hx : R[j]? = some x) : l[j]? = some x := by
  have := congrArg (fun q => q[0]?) h.high
  simpa [hx] using this.symm
theorem zero_one (q : Nat) (_hq : q < 8) : (Value.cells (.agg #[.int .i64 0, .int .i64 0, .int .i64 0, .int .i64 0, .int .i64 0, .int .i64 0, .int .i64 0, .int .i64 0]))[q % 8]!.oneCell' = true := by
  have : q % 8 = 0 ∨ q % 8 = 1 ∨ q % 8 = 2 ∨ q % 8 = 3 ∨ q % 8 = 4 ∨ q % 8 = 5 ∨ q % 8 = 6 ∨ q % 8 = 7 := by omega
  rcases this with e | e | e | e | e | e | e | e <;> rw [e] <;> rfl
theorem zeroOf (w : World) : (zeroValue 60).run Try.prog w = .ok (.agg #[.int .i64 0, .int .i64 0, .int .i64 0, .int .i64 0, .int .i64 0, .int .i64 0, .int .i64 0, .int .i64 0]) w := by
  obtain ⟨i, hi, hz0, _, _⟩ := info_parts infoOff
  simp [zeroValue, typeInfo, hi, hz0]
/-- An element's cells in a row of the call's own. -/
theorem own8 {w : World} {B g n cap k : Nat} {R : List MF.Of} {x : MF.Of} (h : OwnL ofE 60 w B (.slice (some ⟨g, 0, none⟩) n cap) R) (hn : R.length = n) (hk : R[k]? = some x) : (w.cell? ⟨g, k * 8, none⟩ = some (.int .i64 x.bidder) ∧ w.cell? ⟨g, k * 8 + 1, none⟩ = some (.int .i64 x.b0) ∧ w.cell? ⟨g, k * 8 + 2, none⟩ = some (.int .i64 x.b1) ∧ w.cell? ⟨g, k * 8 + 3, none⟩ = some (.int .i64 x.b2) ∧ w.cell? ⟨g, k * 8 + 4, none⟩ = some (.int .i64 x.b3) ∧ w.cell? ⟨g, k * 8 + 5, none⟩ = some (.int .i64 x.b4) ∧ w.cell? ⟨g, k * 8 + 6, none⟩ = some (.int .i64 x.b5) ∧ w.cell? ⟨g, k * 8 + 7, none⟩ = some (.int .i64 x.value)) ∧ (∀ j, w.frozen? ⟨g, j, none⟩ = false) ∧ ofE.fine x := by
  have hkl := (List.getElem?_eq_some_iff.1 hk).1
  have h1 := h.1
  rw [hn] at h1
  have c : ∀ i, i < 8 → w.cell? ⟨g, k * 8 + i, none⟩ = (cells_of x)[i]? := fun i hi => by
    rw [World.ownsRow.cellAt h1 (k * 8 + i) (by show _ < n * 8; omega)]
    exact El.all_at h.2 hk hi
  exact ⟨⟨c 0 (by decide), c 1 (by decide), c 2 (by decide), c 3 (by decide), c 4 (by decide), c 5 (by decide), c 6 (by decide), c 7 (by decide)⟩, fun j => World.ownsRow.frozenAt h1 j, h.2 x (List.mem_of_getElem? hk)⟩
theorem own_cap {w : World} {B g n cap : Nat} {R : List MF.Of} (h : OwnL ofE 60 w B (.slice (some ⟨g, 0, none⟩) n cap) R) (hn : R.length = n) : n ≤ cap ∧ g < w.heap.size ∧ ∃ cur, w.heap[g]? = some (.cells cur 60 (0, 0)) ∧ cur.size = cap * 8 := by
  rcases h.1.2 with ⟨e, _⟩ | ⟨g', cap', cur', e, hB, hh, hc1, hm, hs, ht⟩
  · cases e
  · simp only [Value.slice.injEq, Option.some.injEq, Addr.mk.injEq, and_true] at e
    obtain ⟨rfl, _, rfl⟩ := e
    exact ⟨by omega, (Array.getElem?_eq_some_iff.1 hh).1, cur', hh, hs⟩
theorem own_lst {w : World} {B g n cap : Nat} {R : List MF.Of} (h : OwnL ofE 60 w B (.slice (some ⟨g, 0, none⟩) n cap) R) (hn : R.length = n) (hf : n ≤ 9223372036854775807) : Lst ofE w (some ⟨g, 0, none⟩) n cap R := by
  have h1 := h.1
  rw [hn] at h1
  exact ⟨Reads.of_own (A := some ⟨g, 0, none⟩) (c := cap) h1, hn, (own_cap h hn).1, hf, h.2⟩
theorem gb_below {w X Y : World} {r : Option Nat} (h : w.grownBy X r) (hb : Below X.heap.size X Y) : w.grownBy Y r := ⟨hb.os.trans h.os, hb.tape.trans h.tape, hb.output.trans h.output, Nat.le_trans h.size hb.size, fun k hk hn => (hb.block k (Nat.lt_of_lt_of_le hk h.size)).trans (h.block k hk hn)⟩
theorem gb_grown {w X Y : World} {r : Option Nat} (h : w.grownBy X r) (hb : X.grownBy Y r) : w.grownBy Y r := ⟨hb.os.trans h.os, hb.tape.trans h.tape, hb.output.trans h.output, Nat.le_trans h.size hb.size, fun k hk hn => (hb.block k (Nat.lt_of_lt_of_le hk h.size) hn).trans (h.block k hk hn)⟩
theorem sets_grown {w : World} {g : Nat} (vs : List Value) (o : Nat) : w.grownBy (sets w g o vs) (some g) := by
  obtain ⟨e1, e2, e3, e4⟩ := sets_same (g := g) vs w o
  exact ⟨e1, e2, e3, by rw [e4]; exact Nat.le_refl _, fun k _ hk => sets_far (fun e => hk (by rw [e])) vs w o⟩
def GivesD (p : MF.Of → Bool) (l : List MF.Of) (base : Nat) (v : Value) (w : World) (e : Ending) (w' : World) : Prop := ∃ v', e = .returned v' ∧ OwnL ofE 60 w' base v' (l.filter fun x => !p x) ∧ v'.ownBlock = v.ownBlock ∧ w.grownBy w' v.ownBlock
set_option maxRecDepth 100000 in
set_option maxHeartbeats 4000000 in
theorem fdel_nil {F B : Nat} {o : MF.Of} {p : MF.Of → Bool} (hF : Tells F B o p) (eg : ∀ args w, (callFunc F args).run Try.prog w = .ok (.enter F args) w) (base : Nat) (w : World) (hB : OB w B o) : Calls Try.prog 62 #[.slice none 0 0, .func (.func F) #[] #[.pointer (some ⟨B, 0, none⟩)]] w (GivesD p [] base (.slice none 0 0) w) := by
  have HC := Lib.hid (findex_any hF eg none 0 0 [] w (Lst.nil _) hB)
  clear hF eg hB
  go_enter Try.func62, Try.ntmps62
  go_wp2_with fail
  refine HC.out.mono ?_
  rintro ev w2 ⟨r, rfl, hr, nb⟩
  have hr1 : r = -1 := by
    rcases hr with ⟨e, _⟩ | ⟨k, x, _, e, _⟩
    · exact e
    · simp at e
  subst hr1
  have B2 := Lib.hid nb
  clear nb hr HC
  go_wp2
  go_ret
  exact ⟨_, rfl, OwnL.nil _ _ _, rfl, ⟨B2.out.os, B2.out.tape, B2.out.output, B2.out.size, fun k hk _ => B2.out.block k hk⟩⟩
set_option maxRecDepth 100000 in
set_option maxHeartbeats 4000000 in
theorem fdel_some {F B : Nat} {o : MF.Of} {p : MF.Of → Bool} (hF : Tells F B o p) (eg : ∀ args w, (callFunc F args).run Try.prog w = .ok (.enter F args) w) (base g n cap : Nat) (l : List MF.Of) (w : World) (hown : OwnL ofE 60 w base (.slice (some ⟨g, 0, none⟩) n cap) l) (hn : l.length = n) (hfew : n ≤ 100000) (hB : OB w B o) (hne : B ≠ g) : Calls Try.prog 62 #[.slice (some ⟨g, 0, none⟩) n cap, .func (.func F) #[] #[.pointer (some ⟨B, 0, none⟩)]] w (GivesD p l base (.slice (some ⟨g, 0, none⟩) n cap) w) := by
  have HC := Lib.hid (findex_any hF eg (some ⟨g, 0, none⟩) n cap l w (own_lst hown hn (by omega)) hB)
  have HF := Lib.hid hF
  have HO := Lib.hid hown
  have HB := Lib.hid hB
  have HLN := Lib.hid hn
  have hcap := (own_cap hown hn).1
  have hgw := (own_cap hown hn).2.1
  clear hF hown hB hn
  go_enter Try.func62, Try.ntmps62
  go_wp2_with fail
  refine HC.out.mono ?_
  rintro ev w2 ⟨r, rfl, hr, nb⟩
  have B2 := Lib.hid nb
  have O2 := Lib.hid (HO.out.keep nb)
  have H2 := Lib.hid (HB.out.keep nb)
  have G2 := Lib.hid (show w.grownBy w2 (some g) from ⟨nb.os, nb.tape, nb.output, nb.size, fun k hk _ => nb.block k hk⟩)
  clear nb HC
  rcases hr with ⟨rfl, hall⟩ | ⟨k, x, rfl, h1, h2, h3⟩
  · have HE := Lib.hid (show l.filter (fun x => !p x) = l from by rw [List.filter_eq_self]; intro y hy; rw [hall y hy]; rfl)
    clear hall
    go_wp2
    go_ret
    exact ⟨_, rfl, by rw [HE.out]; exact O2.out, rfl, G2.out⟩
  · have DS := Lib.hid (HLN.out ▸ Dl.start h1 h2 h3 : Dl p l l k (k + 1) n)
    have hkn : k < n := by have := (List.getElem?_eq_some_iff.1 h1).1; have := HLN.out; omega
    have dk : ((k : Int) == -1) = false := beq_eq_false_iff_ne.2 (by omega)
    clear h1 h2 h3 x
    go_wp2_with fail
    go_loopw [5, 6] (fun i j wr => ∃ (i0 j0 : Nat) (R : List MF.Of), i = .int .i64 i0 ∧ j = .int .i64 j0 ∧ Dl p l R i0 j0 n ∧ OwnL ofE 60 wr base (.slice (some ⟨g, 0, none⟩) n cap) R ∧ OB wr B o ∧ w.grownBy wr (some g)) (fun _ j _ => n - (intOf j).toNat)
    case atStart => exact ⟨k, k + 1, l, rfl, by go_num, DS.out, O2.out, H2.out, G2.out⟩
    case round =>
      obtain ⟨i, j, R, rfl, rfl, hd, ho, hb, hg⟩ := hrel
      have hij := hd.lt
      have hjn := hd.le
      have HD := Lib.hid hd
      have O3 := Lib.hid ho
      have H3 := Lib.hid hb
      have G3 := Lib.hid hg
      clear hd ho hb hg O2 H2 G2 B2 DS
      by_cases hlt : j < n
      · obtain ⟨x, hx⟩ : ∃ x, R[j]? = some x := ⟨R[j]'(by rw [HD.out.len]; exact hlt), List.getElem?_eq_getElem _⟩
        have HLX := Lib.hid (HD.out.at_ hx)
        obtain ⟨⟨e0, e1, e2, e3, e4, e5, e6, e7⟩, _, hfx⟩ := own8 O3.out HD.out.len hx
        have HFX := Lib.hid hfx
        obtain ⟨xi, x0, x1, x2, x3, x4, x5, xv⟩ := x
        dsimp only at e0 e1 e2 e3 e4 e5 e6 e7
        clear hx hfx
        go_upto_region 8 with (fail)
        have nb := below_new wr (.cells #[.int .i64 xi, .int .i64 x0, .int .i64 x1, .int .i64 x2, .int .i64 x3, .int .i64 x4, .int .i64 x5, .int .i64 xv] 60)
        have hh := heap_new wr (.cells #[.int .i64 xi, .int .i64 x0, .int .i64 x1, .int .i64 x2, .int .i64 x3, .int .i64 x4, .int .i64 x5, .int .i64 xv] 60)
        have q0 := (cell_of_row _ _ 0 _ _ _ hh).trans rfl
        have q1 := (cell_of_row _ _ 1 _ _ _ hh).trans rfl
        have q2 := (cell_of_row _ _ 2 _ _ _ hh).trans rfl
        have q3 := (cell_of_row _ _ 3 _ _ _ hh).trans rfl
        have q4 := (cell_of_row _ _ 4 _ _ _ hh).trans rfl
        have q5 := (cell_of_row _ _ 5 _ _ _ hh).trans rfl
        have q6 := (cell_of_row _ _ 6 _ _ _ hh).trans rfl
        have q7 := (cell_of_row _ _ 7 _ _ _ hh).trans rfl
        have O4 := Lib.hid (O3.out.keep nb)
        have H4 := Lib.hid (H3.out.keep nb)
        have G4 := Lib.hid (gb_below G3.out nb)
        have HX4 := Lib.hid hh
        have hB4 : wr.heap.size < (wr.alloc (.cells #[.int .i64 xi, .int .i64 x0, .int .i64 x1, .int .i64 x2, .int .i64 x3, .int .i64 x4, .int .i64 x5, .int .i64 xv] 60)).heap.size := by simp
        clear nb hh e0 e1 e2 e3 e4 e5 e6 e7 O3 H3 G3
        generalize wr.alloc (.cells #[.int .i64 xi, .int .i64 x0, .int .i64 x1, .int .i64 x2, .int .i64 x3, .int .i64 x4, .int .i64 x5, .int .i64 xv] 60) = w4 at *
        generalize wr.heap.size = B4 at *
        have HC := Lib.hid (HF.out ⟨xi, x0, x1, x2, x3, x4, x5, xv⟩ w4 H4.out)
        unfold agg_of at HC
        dsimp only at HC
        go_wp2_with fail
        refine HC.out.mono ?_
        rintro ev w5 ⟨rfl, nb⟩
        have O5 := Lib.hid (O4.out.keep nb)
        have H5 := Lib.hid (H4.out.keep nb)
        have G5 := Lib.hid (gb_below G4.out nb)
        have HX5 := Lib.hid (show w5.heap[B4]? = some (.cells #[.int .i64 xi, .int .i64 x0, .int .i64 x1, .int .i64 x2, .int .i64 x3, .int .i64 x4, .int .i64 x5, .int .i64 xv] 60 (0, 0)) from (nb.block B4 hB4).trans HX4.out)
        clear nb q0 q1 q2 q3 q4 q5 q6 q7 HC O4 H4 G4 HX4
        cases hp : p ⟨xi, x0, x1, x2, x3, x4, x5, xv⟩ with
        | true =>
          have HD2 := Lib.hid (HD.out.no HLX.out hp HLN.out)
          clear hp
          go_wp2
          go_roundw
          case rel => exact ⟨i, j + 1, R, rfl, by go_num, HD2.out, O5.out, H5.out, G5.out⟩
          case measure => simp [intOf]; omega
        | false =>
          have HD2 := Lib.hid (HD.out.yes HLX.out hp HLN.out)
          clear hp
          have q0 := (cell_of_row _ _ 0 _ _ _ HX5.out).trans rfl
          have q1 := (cell_of_row _ _ 1 _ _ _ HX5.out).trans rfl
          have q2 := (cell_of_row _ _ 2 _ _ _ HX5.out).trans rfl
          have q3 := (cell_of_row _ _ 3 _ _ _ HX5.out).trans rfl
          have q4 := (cell_of_row _ _ 4 _ _ _ HX5.out).trans rfl
          have q5 := (cell_of_row _ _ 5 _ _ _ HX5.out).trans rfl
          have q6 := (cell_of_row _ _ 6 _ _ _ HX5.out).trans rfl
          have q7 := (cell_of_row _ _ 7 _ _ _ HX5.out).trans rfl
          obtain ⟨y, hy⟩ : ∃ y, R[i]? = some y := ⟨R[i]'(by rw [HD.out.len]; omega), List.getElem?_eq_getElem _⟩
          obtain ⟨⟨a0, a1, a2, a3, a4, a5, a6, a7⟩, hfz, _⟩ := own8 O5.out HD.out.len hy
          have f0 := hfz (i * 8)
          have f1 := hfz (i * 8 + 1)
          have f2 := hfz (i * 8 + 2)
          have f3 := hfz (i * 8 + 3)
          have f4 := hfz (i * 8 + 4)
          have f5 := hfz (i * 8 + 5)
          have f6 := hfz (i * 8 + 6)
          have f7 := hfz (i * 8 + 7)
          have O6 := Lib.hid (own_put O5.out HD.out.len (i := i) (by omega) HFX.out)
          have H6 := Lib.hid (H5.out.same ((sets_grown (w := w5) (g := g) (cells_of ⟨xi, x0, x1, x2, x3, x4, x5, xv⟩) (i * 8)).block B H5.out.lt (fun e => hne (by injection e))))
          have G6 := Lib.hid (gb_grown G5.out (sets_grown (w := w5) (g := g) (cells_of ⟨xi, x0, x1, x2, x3, x4, x5, xv⟩) (i * 8)))
          clear hfz hy
          go_wp2
          go_roundw
          case rel => exact ⟨i + 1, j + 1, _, by go_num, by go_num, HD2.out, O6.out, H6.out, G6.out⟩
          case measure => simp [intOf]; omega
      · have hjn2 : j = n := by omega
        obtain ⟨hc1, hc2, cur, hcur, hcs⟩ := own_cap O3.out HD.out.len
        have HCUR := Lib.hid hcur
        have hic : i < cap := by omega
        have hin : i < n := by omega
        clear hcur
        have HFI := Lib.hid (show l.filter (fun x => !p x) = R.take i from by rw [HD.out.low, hjn2, ← HLN.out, List.take_length])
        go_wp2_with (with_reducible refine wpList_clear_own rfl _ _ rfl 60 Try.underlying22 (.agg #[.int .i64 0, .int .i64 0, .int .i64 0, .int .i64 0, .int .i64 0, .int .i64 0, .int .i64 0, .int .i64 0]) zeroOf ?z1 8 rfl (by decide) g (i * 8) (n - i) (cap - i) rfl cur _ HCUR.out ?z2 ?z3 ?_)
        case z1 => intro v hv; simp [Builtin.zeroCells] at hv; obtain ⟨q, hq, rfl⟩ := hv; try exact zero_one q hq
        case z2 => rw [hcs]; omega
        case z3 => omega
        intro w6 cs hw hcl
        have O6 := Lib.hid (show OwnL ofE 60 w6 base (.slice (some ⟨g, 0, none⟩) i cap) (R.take i) from own_clear O3.out HD.out.len (by omega) HCUR.out hcl (by rw [List.append_assoc]; exact hw.out))
        have G6 := Lib.hid (gb_grown G3.out (show wr.grownBy w6 (some g) from by rw [hw.out]; exact setRow_grown _ _ _))
        clear hw hcl O3 G3 H3
        go_wp2
        go_ret
        exact ⟨_, rfl, by rw [HFI.out]; exact O6.out, rfl, G6.out⟩

end Go.Proofs.Ytjjpfpgjpmedmaa
namespace Go.Proofs.Ytjjpfpgjpmedmaa
open Go.RowKit
attribute [local go_sem] Oper.semAt_some
theorem fdel_any {F B : Nat} {o : MF.Of} {p : MF.Of → Bool} (hF : Tells F B o p) (eg : ∀ args w, (callFunc F args).run Try.prog w = .ok (.enter F args) w) (base : Nat) (v : Value) (l : List MF.Of) (w : World) (hown : OwnL ofE 60 w base v l) (hfew : l.length ≤ 100000) (hB : OB w B o) (hne : ∀ r, v.ownBlock = some r → B ≠ r) : Calls Try.prog 62 #[v, .func (.func F) #[] #[.pointer (some ⟨B, 0, none⟩)]] w (GivesD p l base v w) := by
  rcases hown.1.2 with ⟨rfl, h0⟩ | ⟨g, cap, cur, rfl, _⟩
  · have : l = [] := List.eq_nil_of_length_eq_zero h0
    subst this
    exact fdel_nil hF eg base w hB
  · exact fdel_some hF eg base g l.length cap l w hown rfl hfew hB (hne g rfl)
theorem stepC_len (kept : List MF.Of) (o : MF.Of) : (MF.stepC kept o).length ≤ kept.length + 1 := by
  unfold MF.stepC
  split
  · omega
  · rw [List.length_append, List.length_singleton]
    have := List.length_filter_le (fun e => !MF.good o e) kept
    omega
theorem cleanL_snoc (l : List MF.Of) (o : MF.Of) : MF.cleanL (l ++ [o]) = MF.stepC (MF.cleanL l) o := by unfold MF.cleanL; rw [List.foldl_append]; rfl
theorem cleanL_take {l : List MF.Of} {k : Nat} {o : MF.Of} (h : l[k]? = some o) : MF.cleanL (l.take (k + 1)) = MF.stepC (MF.cleanL (l.take k)) o := by
  obtain ⟨hq, e⟩ := List.getElem?_eq_some_iff.1 h
  rw [List.take_succ_eq_append_getElem hq, cleanL_snoc, e]
theorem cleanL_le (l : List MF.Of) : ∀ k, (MF.cleanL (l.take k)).length ≤ k
  | 0 => by rw [List.take_zero]; exact Nat.le_refl _
  | k + 1 => by
    have h1 := cleanL_le l k
    by_cases h : k < l.length
    · rw [cleanL_take (List.getElem?_eq_getElem h)]
      have := stepC_len (MF.cleanL (l.take k)) l[k]
      omega
    · rw [List.take_of_length_le (by omega)]
      rw [List.take_of_length_le (by omega)] at h1
      omega
set_option maxRecDepth 100000 in
set_option maxHeartbeats 4000000 in
theorem fclean_any (A : Option Addr) (n c : Nat) (l : List MF.Of) (hn : n ≤ 100000) (w : World) (hl : Lst ofE w A n c l) : Calls Try.prog 33 #[.slice A n c] w (GivesL ofE (MF.cleanL l) w) := by
  have HL := Lib.hid hl
  have HLN := Lib.hid hl.len
  clear hl
  obtain ⟨i1, hi1, hy0, hy1, hy2⟩ := info_parts infoOff
  have hmf : ∀ (fn : Fn) (first cap : Array Value) (w : World), (Instr.makeFunc fn first cap).run Try.prog w = .ok (.func fn first cap) w := fun _ _ _ _ => rfl
  have hmo : Try.prog.follows .mixedOrders = true := by kernel_rfl
  go_enter Try.func33, Try.ntmps33
  go_wp2_with fail
  go_loopw [3, 10] (fun v i wr => ∃ k : Nat, k ≤ n ∧ i = .int .i64 k ∧ OwnL ofE 60 wr w.heap.size v (MF.cleanL (l.take k)) ∧ Below w.heap.size w wr) (fun _ i _ => n - (intOf i).toNat)
  case atStart => exact ⟨0, Nat.zero_le _, rfl, OwnL.nil _ _ _, Below.refl _ _⟩
  case round =>
    obtain ⟨k, hk, rfl, hown, hbw⟩ := hrel
    have hlen := cleanL_le l k
    obtain ⟨A', c', hv, hlk, hA⟩ := hown.form2 (by omega)
    rw [hv] at hown
    have O0 := Lib.hid hown
    have L0 := Lib.hid hlk
    have HB0 := Lib.hid hbw
    have HR2 := Lib.hid (fun r hr => (World.ownsRow.lt hown.1 r hr).2)
    clear hown hbw hlk hA
    generalize hn' : (MF.cleanL (l.take k)).length = n' at *
    subst hv
    by_cases hlt : k < n
    · obtain ⟨ad, x, rfl, hrow, hfx, hadl, e0, e1, e2, e3, e4, e5, e6, e7⟩ := of_at (HL.out.keep HB0.out) hlt
      have HST := Lib.hid (cleanL_take hrow)
      have HFX := Lib.hid hfx
      obtain ⟨xi, x0, x1, x2, x3, x4, x5, xv⟩ := x
      dsimp only at e0 e1 e2 e3 e4 e5 e6 e7
      clear hrow hfx
      go_upto_region 7 with (fail)
      have nb := below_new wr (.cells #[.int .i64 xi, .int .i64 x0, .int .i64 x1, .int .i64 x2, .int .i64 x3, .int .i64 x4, .int .i64 x5, .int .i64 xv] 60)
      have hh := heap_new wr (.cells #[.int .i64 xi, .int .i64 x0, .int .i64 x1, .int .i64 x2, .int .i64 x3, .int .i64 x4, .int .i64 x5, .int .i64 xv] 60)
      have q7 := (cell_of_row _ _ 7 _ _ _ hh).trans rfl
      have X1 := Lib.hid (show OB (wr.alloc (.cells #[.int .i64 xi, .int .i64 x0, .int .i64 x1, .int .i64 x2, .int .i64 x3, .int .i64 x4, .int .i64 x5, .int .i64 xv] 60)) wr.heap.size ⟨xi, x0, x1, x2, x3, x4, x5, xv⟩ from hh)
      have O1 := Lib.hid (O0.out.keep nb)
      have L1 := Lib.hid (L0.out.keep nb)
      have HB1 := Lib.hid (HB0.out.trans (nb.mono HB0.out.size))
      have hB1 : wr.heap.size < (wr.alloc (.cells #[.int .i64 xi, .int .i64 x0, .int .i64 x1, .int .i64 x2, .int .i64 x3, .int .i64 x4, .int .i64 x5, .int .i64 xv] 60)).heap.size := by simp
      clear nb hh e0 e1 e2 e3 e4 e5 e6 e7 hadl O0 L0 HB0
      generalize wr.alloc (.cells #[.int .i64 xi, .int .i64 x0, .int .i64 x1, .int .i64 x2, .int .i64 x3, .int .i64 x4, .int .i64 x5, .int .i64 xv] 60) = w1 at *
      generalize wr.heap.size = Bx at *
      have HNE := Lib.hid (show ∀ r, Value.ownBlock (.slice A' n' c') = some r → Bx ≠ r from fun r hr => by have := HR2.out r hr; omega)
      by_cases hv1 : xv < 1
      · have d1 : decide (xv < 1) = true := decide_eq_true hv1
        have HEQ := Lib.hid (show MF.cleanL (l.take k) = MF.cleanL (l.take (k + 1)) from by rw [HST.out]; unfold MF.stepC; rw [if_pos (by rw [show decide (MF.Of.value ⟨xi, x0, x1, x2, x3, x4, x5, xv⟩ < 1) = true from d1]; rfl)])
        clear hv1
        go_wp2
        go_roundw
        case rel => exact ⟨k + 1, by omega, by go_num, by rw [← HEQ.out]; exact O1.out, HB1.out⟩
        case measure => simp [intOf]; omega
      · have d1 : decide (xv < 1) = false := decide_eq_false hv1
        have HC := Lib.hid (fcontains_any (p := fun y => MF.good y ⟨xi, x0, x1, x2, x3, x4, x5, xv⟩) (fun y w' h => better_any y ⟨xi, x0, x1, x2, x3, x4, x5, xv⟩ Bx w' h) (enters_of Try.func58 (by kernel_rfl) rfl) A' n' c' _ w1 L1.out X1.out)
        obtain ⟨Lk, hLk⟩ : ∃ Lk, Lk = MF.cleanL (l.take k) := ⟨_, rfl⟩
        rw [← hLk] at HC HST O1 L1 hn'
        have HLK := Lib.hid (show Lk.length ≤ 100000 from by omega)
        go_wp2_with fail
        refine HC.out.mono ?_
        rintro ev w2 ⟨rfl, nb⟩
        have O2 := Lib.hid (O1.out.keep nb)
        have X2 := Lib.hid (X1.out.keep nb)
        have HB2 := Lib.hid (HB1.out.trans (nb.mono HB1.out.size))
        clear nb q7 O1 L1 X1 HB1 HC
        cases hany : Lk.any (fun y => MF.good y ⟨xi, x0, x1, x2, x3, x4, x5, xv⟩) with
        | true =>
          have HEQ := Lib.hid (show Lk = MF.cleanL (l.take (k + 1)) from by rw [HST.out]; unfold MF.stepC; rw [if_pos (by rw [hany, Bool.or_true])])
          clear hany hLk
          go_wp2
          go_roundw
          case rel => exact ⟨k + 1, by omega, by go_num, by rw [← HEQ.out]; exact O2.out, HB2.out⟩
          case measure => simp [intOf]; omega
        | false =>
          have HEQ := Lib.hid (show (Lk.filter fun y => !MF.good ⟨xi, x0, x1, x2, x3, x4, x5, xv⟩ y) ++ [⟨xi, x0, x1, x2, x3, x4, x5, xv⟩] = MF.cleanL (l.take (k + 1)) from by rw [HST.out]; unfold MF.stepC; rw [if_neg (by rw [hany, show decide (MF.Of.value ⟨xi, x0, x1, x2, x3, x4, x5, xv⟩ < 1) = false from d1]; decide)])
          have HFL := Lib.hid (show (Lk.filter fun y => !MF.good ⟨xi, x0, x1, x2, x3, x4, x5, xv⟩ y).length ≤ 100000 from Nat.le_trans (List.length_filter_le _ _) HLK.out)
          clear hany hLk hlen hv1
          go_wp2_with fail
          have HO := Lib.hid (O2.out.keep (below_drawn w2))
          have HX := Lib.hid (X2.out.keep (below_drawn w2))
          have HB := Lib.hid (HB2.out.trans ((below_drawn w2).mono HB2.out.size))
          clear O2 X2 HB2
          refine wp_region_held_drew (S := fun w' => w'.heap[Bx]? = some (.cells #[.int .i64 xi, .int .i64 x0, .int .i64 x1, .int .i64 x2, .int .i64 x3, .int .i64 x4, .int .i64 x5, .int .i64 xv] 60 (0, 0))) hmo HX.out (fun hHeld => ?_)
          generalize w2.drew = Y at *
          refine wpAnyH_take (i := 0) (oi := { dst := some 24, op := Op.move (Operand.tmp 3), type := 22, pos := "flatten.go:42", after := #[], guard := none }) (v := ?_) rfl (by kernel_rfl) (by kernel_rfl) (by kernel_rfl) (fun _ _ _ h => h) (Or.inl ⟨by rfl, ?_⟩) (by assumption) ?_
          rotate_left
          · intro w hSw; (try dsimp only at hSw); have q0 := (cell_of_row _ _ 0 _ _ _ hSw).trans rfl; have q1 := (cell_of_row _ _ 1 _ _ _ hSw).trans rfl; have q2 := (cell_of_row _ _ 2 _ _ _ hSw).trans rfl; have q3 := (cell_of_row _ _ 3 _ _ _ hSw).trans rfl; have q4 := (cell_of_row _ _ 4 _ _ _ hSw).trans rfl; have q5 := (cell_of_row _ _ 5 _ _ _ hSw).trans rfl; have q6 := (cell_of_row _ _ 6 _ _ _ hSw).trans rfl; have q7 := (cell_of_row _ _ 7 _ _ _ hSw).trans rfl; go_simp; try with_reducible rfl
          (try simp only [Act.put, List.setIfInBounds_toArray, List.set_cons_zero, List.set_cons_succ])
          refine wpAnyH_take (i := 1) (oi := { dst := some 25, op := Op.move (Operand.tmp 7), type := 87, pos := "flatten.go:42", after := #[], guard := none }) (v := ?_) rfl (by kernel_rfl) (by kernel_rfl) (by kernel_rfl) (fun _ _ _ h => h) (Or.inl ⟨by rfl, ?_⟩) (by assumption) ?_
          rotate_left
          · intro w hSw; (try dsimp only at hSw); have q0 := (cell_of_row _ _ 0 _ _ _ hSw).trans rfl; have q1 := (cell_of_row _ _ 1 _ _ _ hSw).trans rfl; have q2 := (cell_of_row _ _ 2 _ _ _ hSw).trans rfl; have q3 := (cell_of_row _ _ 3 _ _ _ hSw).trans rfl; have q4 := (cell_of_row _ _ 4 _ _ _ hSw).trans rfl; have q5 := (cell_of_row _ _ 5 _ _ _ hSw).trans rfl; have q6 := (cell_of_row _ _ 6 _ _ _ hSw).trans rfl; have q7 := (cell_of_row _ _ 7 _ _ _ hSw).trans rfl; go_simp; try with_reducible rfl
          (try simp only [Act.put, List.setIfInBounds_toArray, List.set_cons_zero, List.set_cons_succ])
          refine wpAnyH_take (i := 3) (oi := { dst := some 27, op := Op.load 60 (Operand.tmp 5), type := 60, pos := "flatten.go:42", after := #[], guard := none }) (v := ?_) rfl (by kernel_rfl) (by kernel_rfl) (by kernel_rfl) (fun _ _ _ h => h) (Or.inl ⟨by rfl, ?_⟩) (by assumption) ?_
          rotate_left
          · intro w hSw; (try dsimp only at hSw); have q0 := (cell_of_row _ _ 0 _ _ _ hSw).trans rfl; have q1 := (cell_of_row _ _ 1 _ _ _ hSw).trans rfl; have q2 := (cell_of_row _ _ 2 _ _ _ hSw).trans rfl; have q3 := (cell_of_row _ _ 3 _ _ _ hSw).trans rfl; have q4 := (cell_of_row _ _ 4 _ _ _ hSw).trans rfl; have q5 := (cell_of_row _ _ 5 _ _ _ hSw).trans rfl; have q6 := (cell_of_row _ _ 6 _ _ _ hSw).trans rfl; have q7 := (cell_of_row _ _ 7 _ _ _ hSw).trans rfl; go_simp; try with_reducible rfl
          (try simp only [Act.put, List.setIfInBounds_toArray, List.set_cons_zero, List.set_cons_succ])
          refine wpAnyH_ready (rs := [2, 4]) (by kernel_rfl) (by simp) ?_
          refine AllReadyH.cons (o := { dst := some 26, op := Op.call { callee := Callee.value (Operand.func 62), args := #[Operand.tmp 24, Operand.tmp 25], argTypes := #[22, 87] }, type := 22, pos := "flatten.go:42", after := #[{ on := 0, ground := Ground.data }, { on := 1, ground := Ground.data }], guard := none }) rfl (fun K hK => ?_) (AllReadyH.cons (o := { dst := some 28, op := Op.buildSlice 22 1 #[(0, Operand.tmp 27)], type := 22, pos := "flatten.go:42", after := #[{ on := 3, ground := Ground.data }], guard := none }) rfl (fun K hK => ?_) AllReadyH.nil)
          {
 go_simp
 refine (fdel_any (p := fun y => MF.good ⟨xi, x0, x1, x2, x3, x4, x5, xv⟩ y) (fun y w' h => worse_any y ⟨xi, x0, x1, x2, x3, x4, x5, xv⟩ Bx w' h) (enters_of Try.func60 (by kernel_rfl) rfl) w.heap.size _ Lk Y HO.out HLK.out HX.out HNE.out).mono ?_
 rintro ev w5 ⟨v', rfl, ho5, hvb, hg5⟩
 have HO5 := Lib.hid ho5
 have HX5 := Lib.hid (HX.out.same (hg5.block Bx HX.out.lt (fun e => HNE.out Bx e.symm rfl)))
 have HNX := Lib.hid (fun r (hr : v'.ownBlock = some r) => HNE.out r (hvb.symm.trans hr))
 have HB5 := Lib.hid (HB.out.grown hg5 HB.out.size (fun r hr => (World.ownsRow.lt HO.out.1 r hr).1))
 clear HO HX HB hg5 ho5 hvb
 have HO := HO5
 have HX := HX5
 have HB := HB5
 clear HO5 HX5 HB5
 refine hK.out _ _ ?_ (fun hHeld => ?_)
 · exact HX.out
 clear hK K
 (try simp only [Act.put, List.setIfInBounds_toArray, List.set_cons_zero, List.set_cons_succ])
 refine wpAnyH_ready (rs := [4]) (by kernel_rfl) (by simp) ?_
 refine AllReadyH.cons (o := { dst := some 28, op := Op.buildSlice 22 1 #[(0, Operand.tmp 27)], type := 22, pos := "flatten.go:42", after := #[{ on := 3, ground := Ground.data }], guard := none }) rfl (fun K hK => ?_) AllReadyH.nil
 go_simp
 have nb := below_new w5 (.cells #[.int .i64 xi, .int .i64 x0, .int .i64 x1, .int .i64 x2, .int .i64 x3, .int .i64 x4, .int .i64 x5, .int .i64 xv] 60)
 have HZ := Lib.hid (heap_new w5 (.cells #[.int .i64 xi, .int .i64 x0, .int .i64 x1, .int .i64 x2, .int .i64 x3, .int .i64 x4, .int .i64 x5, .int .i64 xv] 60))
 have HO8 := Lib.hid (HO.out.keep nb)
 have HX8 := Lib.hid (HX.out.keep nb)
 have HB8 := Lib.hid (HB.out.trans (nb.mono HB.out.size))
 clear nb HO HX HB
 have HO := HO8
 have HX := HX8
 have HB := HB8
 clear HO8 HX8 HB8
 obtain ⟨w8, hw8⟩ : ∃ w8, w8 = w5.alloc (.cells #[.int .i64 xi, .int .i64 x0, .int .i64 x1, .int .i64 x2, .int .i64 x3, .int .i64 x4, .int .i64 x5, .int .i64 xv] 60) := ⟨_, rfl⟩
 rw [← hw8] at HZ HO HX HB ⊢
 clear hw8
 obtain ⟨Bz, hBz⟩ : ∃ Bz, Bz = w5.heap.size := ⟨_, rfl⟩
 rw [← hBz] at HZ ⊢
 clear hBz
 refine hK.out _ _ ?_ (fun hHeld => ?_)
 · exact HX.out
 clear hK K
 (try simp only [Act.put, List.setIfInBounds_toArray, List.set_cons_zero, List.set_cons_succ])
 refine wpAnyH_ready (rs := [5]) (by kernel_rfl) (by simp) ?_
 refine AllReadyH.cons (o := { dst := some 29, op := Op.call { callee := Callee.builtin Builtin.append, args := #[Operand.tmp 26, Operand.tmp 28], argTypes := #[22, 22] }, type := 22, pos := "flatten.go:42", after := #[{ on := 2, ground := Ground.data }, { on := 4, ground := Ground.data }, { on := 2, ground := Ground.chain }], guard := none }) rfl (fun K hK => ?_) AllReadyH.nil
 refine step_append_lies _ (by rfl) _ _ _ (by rfl) w.heap.size 60 i1 (.agg #[.int .i64 0, .int .i64 0, .int .i64 0, .int .i64 0, .int .i64 0, .int .i64 0, .int .i64 0, .int .i64 0]) 8 64 Try.underlying22 hi1 hy0 hy1 hy2 rfl (by decide) _ _ _ (by rfl) HO.out.1 ⟨Bz, 0, none⟩ 1 1 [.int .i64 xi, .int .i64 x0, .int .i64 x1, .int .i64 x2, .int .i64 x3, .int .i64 x4, .int .i64 x5, .int .i64 xv] (by rfl) rfl ?c1 ?c2 (by decide) ?c4 ?c5 ?c6 _ rfl ?_
 case c1 => exact World.news_of_block HZ.out
 case c2 => exact ofE.one ⟨xi, x0, x1, x2, x3, x4, x5, xv⟩
 case c4 => exact Nat.le_trans (Nat.succ_le_succ HFL.out) (by unfold maxLen; decide)
 case c5 => exact Nat.le_trans (Nat.mul_le_mul_right 64 (Nat.succ_le_succ HFL.out)) (by decide)
 case c6 => exact HB.out.size
 intro gg cp w9 hown hgrow hat hlt9
 have RR := HO.out.app (x := ⟨xi, x0, x1, x2, x3, x4, x5, xv⟩) HFX.out HB.out HB.out.size (by exact hown) hgrow
 have HO9 := Lib.hid RR.1
 have HB9 := Lib.hid RR.2
 clear RR hown hat
 refine hK.out _ _ ?_ (fun hHeld => ?_)
 · exact HX.out.same (hgrow.block Bx HX.out.lt (fun e => HNX.out Bx e.symm rfl))
 clear hgrow HX HB HO HZ
 clear hK K
 (try simp only [Act.put, List.setIfInBounds_toArray, List.set_cons_zero, List.set_cons_succ])
 refine wpAnyH_take (i := 6) (oi := { dst := some 3, op := Op.assign (Operand.tmp 29), type := 22, pos := "flatten.go:42", after := #[{ on := 5, ground := Ground.data }, { on := 5, ground := Ground.chain }, { on := 0, ground := Ground.phase }, { on := 1, ground := Ground.phase }, { on := 2, ground := Ground.phase }, { on := 3, ground := Ground.phase }, { on := 4, ground := Ground.phase }, { on := 5, ground := Ground.phase }], guard := none }) (v := ?_) rfl (by kernel_rfl) (by kernel_rfl) (by kernel_rfl) (fun _ _ _ h => h) (Or.inl ⟨by rfl, ?_⟩) (by assumption) ?_
 rotate_left
 · intro w hSw; (try dsimp only at hSw); have q0 := (cell_of_row _ _ 0 _ _ _ hSw).trans rfl; have q1 := (cell_of_row _ _ 1 _ _ _ hSw).trans rfl; have q2 := (cell_of_row _ _ 2 _ _ _ hSw).trans rfl; have q3 := (cell_of_row _ _ 3 _ _ _ hSw).trans rfl; have q4 := (cell_of_row _ _ 4 _ _ _ hSw).trans rfl; have q5 := (cell_of_row _ _ 5 _ _ _ hSw).trans rfl; have q6 := (cell_of_row _ _ 6 _ _ _ hSw).trans rfl; have q7 := (cell_of_row _ _ 7 _ _ _ hSw).trans rfl; go_simp; try with_reducible rfl
 (try simp only [Act.put, List.setIfInBounds_toArray, List.set_cons_zero, List.set_cons_succ])
 refine wpAnyH_done (by kernel_rfl) ?_ _
 clear hHeld
 rw [HEQ.out] at HO9
 go_wp2
 go_roundw
 case rel => exact ⟨k + 1, by omega, by go_num, HO9.out, HB9.out⟩
 case measure => simp [intOf]; omega
 }
          {
 go_simp
 have nb := below_new Y (.cells #[.int .i64 xi, .int .i64 x0, .int .i64 x1, .int .i64 x2, .int .i64 x3, .int .i64 x4, .int .i64 x5, .int .i64 xv] 60)
 have HZ := Lib.hid (heap_new Y (.cells #[.int .i64 xi, .int .i64 x0, .int .i64 x1, .int .i64 x2, .int .i64 x3, .int .i64 x4, .int .i64 x5, .int .i64 xv] 60))
 have HO8 := Lib.hid (HO.out.keep nb)
 have HX8 := Lib.hid (HX.out.keep nb)
 have HB8 := Lib.hid (HB.out.trans (nb.mono HB.out.size))
 have HNZ := Lib.hid (fun r (hr : Value.ownBlock (.slice A' n' c') = some r) => (World.ownsRow.lt HO.out.1 r hr).2)
 clear nb HO HX HB
 have HO := HO8
 have HX := HX8
 have HB := HB8
 clear HO8 HX8 HB8
 obtain ⟨w8, hw8⟩ : ∃ w8, w8 = Y.alloc (.cells #[.int .i64 xi, .int .i64 x0, .int .i64 x1, .int .i64 x2, .int .i64 x3, .int .i64 x4, .int .i64 x5, .int .i64 xv] 60) := ⟨_, rfl⟩
 rw [← hw8] at HZ HO HX HB ⊢
 clear hw8
 obtain ⟨Bz, hBz⟩ : ∃ Bz, Bz = Y.heap.size := ⟨_, rfl⟩
 rw [← hBz] at HZ HNZ ⊢
 clear hBz
 refine hK.out _ _ ?_ (fun hHeld => ?_)
 · exact HX.out
 clear hK K
 (try simp only [Act.put, List.setIfInBounds_toArray, List.set_cons_zero, List.set_cons_succ])
 refine wpAnyH_ready (rs := [2]) (by kernel_rfl) (by simp) ?_
 refine AllReadyH.cons (o := { dst := some 26, op := Op.call { callee := Callee.value (Operand.func 62), args := #[Operand.tmp 24, Operand.tmp 25], argTypes := #[22, 87] }, type := 22, pos := "flatten.go:42", after := #[{ on := 0, ground := Ground.data }, { on := 1, ground := Ground.data }], guard := none }) rfl (fun K hK => ?_) AllReadyH.nil
 go_simp
 refine (fdel_any (p := fun y => MF.good ⟨xi, x0, x1, x2, x3, x4, x5, xv⟩ y) (fun y w' h => worse_any y ⟨xi, x0, x1, x2, x3, x4, x5, xv⟩ Bx w' h) (enters_of Try.func60 (by kernel_rfl) rfl) w.heap.size _ Lk w8 HO.out HLK.out HX.out HNE.out).mono ?_
 rintro ev w5 ⟨v', rfl, ho5, hvb, hg5⟩
 have HO5 := Lib.hid ho5
 have HX5 := Lib.hid (HX.out.same (hg5.block Bx HX.out.lt (fun e => HNE.out Bx e.symm rfl)))
 have HNX := Lib.hid (fun r (hr : v'.ownBlock = some r) => HNE.out r (hvb.symm.trans hr))
 have HB5 := Lib.hid (HB.out.grown hg5 HB.out.size (fun r hr => (World.ownsRow.lt HO.out.1 r hr).1))
 have HZ5 := Lib.hid ((hg5.block Bz (Array.getElem?_eq_some_iff.1 HZ.out).1 (fun e => by have := HNZ.out _ e.symm; omega)).trans HZ.out)
 clear HO HX HB hg5 ho5 hvb HZ
 have HO := HO5
 have HX := HX5
 have HB := HB5
 have HZ := HZ5
 clear HO5 HX5 HB5 HZ5
 refine hK.out _ _ ?_ (fun hHeld => ?_)
 · exact HX.out
 clear hK K
 (try simp only [Act.put, List.setIfInBounds_toArray, List.set_cons_zero, List.set_cons_succ])
 refine wpAnyH_ready (rs := [5]) (by kernel_rfl) (by simp) ?_
 refine AllReadyH.cons (o := { dst := some 29, op := Op.call { callee := Callee.builtin Builtin.append, args := #[Operand.tmp 26, Operand.tmp 28], argTypes := #[22, 22] }, type := 22, pos := "flatten.go:42", after := #[{ on := 2, ground := Ground.data }, { on := 4, ground := Ground.data }, { on := 2, ground := Ground.chain }], guard := none }) rfl (fun K hK => ?_) AllReadyH.nil
 refine step_append_lies _ (by rfl) _ _ _ (by rfl) w.heap.size 60 i1 (.agg #[.int .i64 0, .int .i64 0, .int .i64 0, .int .i64 0, .int .i64 0, .int .i64 0, .int .i64 0, .int .i64 0]) 8 64 Try.underlying22 hi1 hy0 hy1 hy2 rfl (by decide) _ _ _ (by rfl) HO.out.1 ⟨Bz, 0, none⟩ 1 1 [.int .i64 xi, .int .i64 x0, .int .i64 x1, .int .i64 x2, .int .i64 x3, .int .i64 x4, .int .i64 x5, .int .i64 xv] (by rfl) rfl ?c1 ?c2 (by decide) ?c4 ?c5 ?c6 _ rfl ?_
 case c1 => exact World.news_of_block HZ.out
 case c2 => exact ofE.one ⟨xi, x0, x1, x2, x3, x4, x5, xv⟩
 case c4 => exact Nat.le_trans (Nat.succ_le_succ HFL.out) (by unfold maxLen; decide)
 case c5 => exact Nat.le_trans (Nat.mul_le_mul_right 64 (Nat.succ_le_succ HFL.out)) (by decide)
 case c6 => exact HB.out.size
 intro gg cp w9 hown hgrow hat hlt9
 have RR := HO.out.app (x := ⟨xi, x0, x1, x2, x3, x4, x5, xv⟩) HFX.out HB.out HB.out.size (by exact hown) hgrow
 have HO9 := Lib.hid RR.1
 have HB9 := Lib.hid RR.2
 clear RR hown hat
 refine hK.out _ _ ?_ (fun hHeld => ?_)
 · exact HX.out.same (hgrow.block Bx HX.out.lt (fun e => HNX.out Bx e.symm rfl))
 clear hgrow HX HB HO HZ
 clear hK K
 (try simp only [Act.put, List.setIfInBounds_toArray, List.set_cons_zero, List.set_cons_succ])
 refine wpAnyH_take (i := 6) (oi := { dst := some 3, op := Op.assign (Operand.tmp 29), type := 22, pos := "flatten.go:42", after := #[{ on := 5, ground := Ground.data }, { on := 5, ground := Ground.chain }, { on := 0, ground := Ground.phase }, { on := 1, ground := Ground.phase }, { on := 2, ground := Ground.phase }, { on := 3, ground := Ground.phase }, { on := 4, ground := Ground.phase }, { on := 5, ground := Ground.phase }], guard := none }) (v := ?_) rfl (by kernel_rfl) (by kernel_rfl) (by kernel_rfl) (fun _ _ _ h => h) (Or.inl ⟨by rfl, ?_⟩) (by assumption) ?_
 rotate_left
 · intro w hSw; (try dsimp only at hSw); have q0 := (cell_of_row _ _ 0 _ _ _ hSw).trans rfl; have q1 := (cell_of_row _ _ 1 _ _ _ hSw).trans rfl; have q2 := (cell_of_row _ _ 2 _ _ _ hSw).trans rfl; have q3 := (cell_of_row _ _ 3 _ _ _ hSw).trans rfl; have q4 := (cell_of_row _ _ 4 _ _ _ hSw).trans rfl; have q5 := (cell_of_row _ _ 5 _ _ _ hSw).trans rfl; have q6 := (cell_of_row _ _ 6 _ _ _ hSw).trans rfl; have q7 := (cell_of_row _ _ 7 _ _ _ hSw).trans rfl; go_simp; try with_reducible rfl
 (try simp only [Act.put, List.setIfInBounds_toArray, List.set_cons_zero, List.set_cons_succ])
 refine wpAnyH_done (by kernel_rfl) ?_ _
 clear hHeld
 rw [HEQ.out] at HO9
 go_wp2
 go_roundw
 case rel => exact ⟨k + 1, by omega, by go_num, HO9.out, HB9.out⟩
 case measure => simp [intOf]; omega
 }
    · have HE := Lib.hid (show l.take k = l from by rw [show k = n by omega, ← HLN.out, List.take_length])
      rw [HE.out] at L0
      go_wp2
      go_ret
      exact ⟨A', n', c', rfl, L0.out, HB0.out⟩
end Go.Proofs.Ytjjpfpgjpmedmaa

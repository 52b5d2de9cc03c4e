/- FMin, FIV, FFrom, FOfIn, joined: no claim of its own. -/
import Derived.Test.YtjjpfpgjpmedmaaJFB
import Derived.Laws.CopyOwn
import Derived.Test.YtjjpfpgjpmedmaaVTable
import Derived.Test.YtjjpfpgjpmedmaaJFA
import Derived.Test.YtjjpfpgjpmedmaaJJ
namespace Go.Proofs.Ytjjpfpgjpmedmaa
open Go.RowKit
attribute [local go_sem] Oper.semAt_some
theorem infoOff : (Try.prog.info? 60).map (fun i => (i.zero, i.size, i.bytes)) = some (some (.agg #[.int .i64 0, .int .i64 0, .int .i64 0, .int .i64 0, .int .i64 0, .int .i64 0, .int .i64 0, .int .i64 0]), 8, 64) := by kernel_rfl
theorem cell_below {X Y : World} {p : Addr} {v : Value} (hb : Below X.heap.size X Y) (h : X.cell? p = some v) : Y.cell? p = some v := (hb.cell (World.block_lt_of_cell? X p h)).trans h
theorem cell_grown {X Y : World} {p : Addr} {k : Nat} {v : Value} {row : Option Nat} (hg : X.grownBy Y row) (h : X.cell? (p.add k) = some v) {N : Nat} (hp : p.block < N) (hr : ∀ r, row = some r → N ≤ r) : Y.cell? (p.add k) = some v := by
  have h1 := World.block_lt_of_cell? X _ h
  rw [← h]
  refine cell_same (hg.block _ h1 fun e => ?_)
  have := hr _ e.symm
  rw [block_of_add] at this
  omega
theorem BB.far {X Y : World} {b : Nat} {t : TypeId} {xs : List Int} {row : Option Nat} (h : BB X b t xs) (hg : X.grownBy Y row) (hr : ∀ r, row = some r → r ≠ b) : BB Y b t xs := ⟨(hg.block b h.lt (fun e => hr b e.symm rfl)).trans h.1, h.2⟩
theorem Kpt_grow {Bn b e : Nat} {X Y : World} {row : Option Nat} (h : X.grownBy Y row) (hr : ∀ r, row = some r → e ≤ r) (h1 : Bn < e) (h2 : e ≤ X.heap.size) : Kpt Bn b e X Y :=
  ⟨h.size, h.block Bn (by omega) (fun q => by have := hr _ q.symm; omega), fun k _ hk => h.block k (by omega) (fun q => by have := hr _ q.symm; omega)⟩
theorem fall_get {b c : List Int} {i : Nat} (h : (VV.all b)[i]? = some c) : i < VV.cnt b ∧ c = VV.at6 b i := by
  have hl := (List.getElem?_eq_some_iff.1 h).1
  have e : (VV.all b).length = VV.cnt b := by unfold VV.all; exact MB.row_length _ _ _
  rw [e] at hl
  refine ⟨hl, ?_⟩
  unfold VV.all at h
  rw [MB.row_at hl] at h
  exact (Option.some.inj h).symm
theorem fset_grown (X : World) (g k : Nat) (v : Value) : X.grownBy (X.setCell ⟨g, k, none⟩ v) (some g) :=
  ⟨rfl, rfl, rfl, by rw [World.size_setCell]; exact Nat.le_refl _, fun j _ hj => Below.heap_setCell X ⟨g, k, none⟩ v j (fun e => hj (by rw [e]))⟩
/-- What minimal has laid: the table's, the supply's, the other table's, the list's and the rank's variables; the other table behind m bundles; the list (v in its variable, u its value). -/
structure Mn (w : World) (s L : List Int) (A : Option Addr) (n c M e k m : Nat) (v u : Value) (Os : List MF.Of) (X : World) : Prop where
  below : Below w.heap.size w X
  tb : Boxed X w.heap.size 64 (.slice A n c)
  sb : BB X (w.heap.size + 1) 24 s
  mb : Boxed X (M) 64 (.slice (some ⟨w.heap.size + 2, 0, none⟩) n n)
  blk : Blk X (w.heap.size + 2) (F (gM L s m) n) 2
  lb : Boxed X (M + 1) 22 v
  own : OwnL ofE 60 X e u Os
  rk : Boxed X (M + 2) 3 (.int .i64 k)
  ge : e ≤ X.heap.size
  le : M + 3 ≤ e
  hM : w.heap.size + 3 ≤ M
  few : Os.length ≤ 1024
section
variable {w X Y Z : World} {s L : List Int} {A : Option Addr} {n c M e k m b : Nat} {v u u' : Value} {Os : List MF.Of} {o : MF.Of}
theorem Mn.row (h : Mn w s L A n c M e k m v u Os X) (r : Nat) (hr : u.ownBlock = some r) : e ≤ r := (World.ownsRow.lt h.own.1 r hr).1
theorem Mn.keep (h : Mn w s L A n c M e k m v u Os X) (hb : Below X.heap.size X Y) : Mn w s L A n c M e k m v u Os Y :=
  ⟨h.below.trans (hb.mono (by have := h.ge; have := h.le; have := h.hM; omega)), (hb.block _ h.tb.lt).trans h.tb, h.sb.keep hb h.sb.lt, (hb.block _ h.mb.lt).trans h.mb, h.blk.keep hb, (hb.block _ h.lb.lt).trans h.lb, h.own.keep hb, (hb.block _ h.rk.lt).trans h.rk, Nat.le_trans h.ge hb.size, h.le, h.hM, h.few⟩
/-- Some block from e on, or of the iterator's, is turned or grown. -/
theorem Mn.far {row : Option Nat} (h : Mn w s L A n c M e k m v u Os X) (hg : X.grownBy Y row) (hr : ∀ r, row = some r → (M + 3) ≤ r) (ho : u.ownBlock = none ∨ u.ownBlock ≠ row) : Mn w s L A n c M e k m v u Os Y := by
  have hl := h.le
  have hMM := h.hM
  have hge := h.ge
  have far : ∀ k, k < (M + 3) → Y.heap[k]? = X.heap[k]? := fun k hk => hg.block k (by omega) (fun q => by have := hr _ q.symm; omega)
  exact ⟨h.below.grown hg (by omega) (fun k q => by have := hr k q; omega), (far _ (by omega)).trans h.tb, ⟨(far _ (by omega)).trans h.sb.1, h.sb.2⟩, (far _ (by omega)).trans h.mb, h.blk.same (far _ (by omega)), (far _ (by omega)).trans h.lb, ⟨World.ownsRow.kept (row := row) h.own.1 hg ho, h.own.2⟩, (far _ (by omega)).trans h.rk, Nat.le_trans hge hg.size, hl, h.hM, h.few⟩
theorem Mn.step (h : Mn w s L A n c M e k m v u Os X) (hs : Stp b e X Y) (hb : (M + 3) ≤ b) : Mn w s L A n c M e k m v u Os Y := by
  obtain ⟨row, hg, hr⟩ := hs
  refine h.far hg (fun r hr' => by have := hr r hr'; omega) ?_
  cases hu : u.ownBlock with
  | none => exact .inl rfl
  | some j => exact .inr fun q => by have h1 := hr j q.symm; have := h.row j hu; omega
theorem Mn.app {gg cp : Nat} (h : Mn w s L A n c M e k m v u Os X) (hf : ofE.fine o ∧ Os.length + 1 ≤ 1024) (hown : Y.ownsRow e 60 8 (.slice (some ⟨gg, 0, none⟩) (Os.length + 1) cp) (Os.length + 1) (ofE.all Os ++ ofE.cells o)) (hg : X.grownBy Y u.ownBlock) : Mn w s L A n c M e k m v (.slice (some ⟨gg, 0, none⟩) (Os.length + 1) cp) (Os ++ [o]) Y := by
  have hl := h.le
  have hMM := h.hM
  have hge := h.ge
  have far : ∀ k, k < (M + 3) → Y.heap[k]? = X.heap[k]? := fun k hk => hg.block k (by omega) (fun q => by have := h.row _ q.symm; omega)
  exact ⟨h.below.grown hg (by omega) (fun k q => by have := h.row k q; omega), (far _ (by omega)).trans h.tb, ⟨(far _ (by omega)).trans h.sb.1, h.sb.2⟩, (far _ (by omega)).trans h.mb, h.blk.same (far _ (by omega)), (far _ (by omega)).trans h.lb, ⟨by rw [El.all_append, El.all_one, List.length_append]; exact hown, h.own.2.snoc hf.1⟩, (far _ (by omega)).trans h.rk, Nat.le_trans hge hg.size, hl, h.hM, by rw [List.length_append]; exact hf.2⟩
theorem Mn.sets {g i : Nat} {x : Value} (h : Mn w s L A n c M e k m v u Os X) (hg : w.heap.size ≤ g ∧ g < M + 3) : Below w.heap.size w (X.setCell ⟨g, i, none⟩ x) ∧ OwnL ofE 60 (X.setCell ⟨g, i, none⟩ x) e u Os ∧ e ≤ (X.setCell ⟨g, i, none⟩ x).heap.size := by
  refine ⟨h.below.setCell (p := ⟨g, i, none⟩) hg.1 _, ⟨World.ownsRow.kept (row := some g) h.own.1 (fset_grown X g i x) ?_, h.own.2⟩, by rw [World.size_setCell]; exact h.ge⟩
  cases hu : u.ownBlock with
  | none => exact .inl rfl
  | some j => exact .inr fun q => by injection q with q; have := h.row j hu; have := h.le; omega
theorem boxed_other {X : World} {b g i : Nat} {t : TypeId} {y x : Value} (h : Boxed X b t y) (hne : b ≠ g) : Boxed (X.setCell ⟨g, i, none⟩ x) b t y := (Below.heap_setCell X ⟨g, i, none⟩ x b hne).trans h
theorem Mn.box (h : Mn w s L A n c M e k m v u Os X) : Mn w s L A n c M e k m u u Os (X.setCell ⟨M + 1, 0, none⟩ u) := by
  obtain ⟨h1, h2, h3⟩ := h.sets (g := (M + 1)) (i := 0) (x := u) ⟨by have := h.hM; omega, by have := h.hM; omega⟩
  have hMM := h.hM
  exact ⟨h1, boxed_other h.tb (by omega), h.sb.other _ (by omega), boxed_other h.mb (by omega), h.blk.other (by omega) _ _, h.lb.set _, h2, boxed_other h.rk (by omega), h3, h.le, h.hM, h.few⟩
theorem Mn.put {p : Nat} {y : Int} (h : Mn w s L A n c M e k m v u Os X) (_hp : p < n) (hst : ∀ i, i < n → gM L s (m + 1) i = if i = p then y else gM L s m i) : Mn w s L A n c M e k (m + 1) v u Os (X.setCell ⟨w.heap.size + 2, p, none⟩ (.int .i64 y)) := by
  obtain ⟨h1, h2, h3⟩ := h.sets (g := w.heap.size + 2) (i := p) (x := .int .i64 y) ⟨by have := h.hM; omega, by have := h.hM; omega⟩
  have hMM := h.hM
  have hb := h.blk.set p (.int .i64 y)
  rw [F_set (gM L s m) (gM L s (m + 1)) y hst] at hb
  exact ⟨h1, boxed_other h.tb (by omega), h.sb.other _ (by omega), boxed_other h.mb (by omega), hb, boxed_other h.lb (by omega), h2, boxed_other h.rk (by omega), h3, h.le, h.hM, h.few⟩
theorem Mn.rank {k' m' : Nat} {y : Int} {Os' : List MF.Of} (h : Mn w s L A n c M e k m v u Os X) (hk : y = k' ∧ m = m') (hO : Os = Os') : Mn w s L A n c M e k' m' v u Os' (X.setCell ⟨M + 2, 0, none⟩ (.int .i64 y)) := by
  obtain ⟨rfl, rfl⟩ := hk
  subst hO
  obtain ⟨h1, h2, h3⟩ := h.sets (g := (M + 2)) (i := 0) (x := .int .i64 k') ⟨by have := h.hM; omega, by have := h.hM; omega⟩
  have hMM := h.hM
  exact ⟨h1, boxed_other h.tb (by omega), h.sb.other _ (by omega), boxed_other h.mb (by omega), h.blk.other (by omega) _ _, boxed_other h.lb (by omega), h2, h.rk.set _, h3, h.le, h.hM, h.few⟩
end
theorem Mn.rebase {w X : World} {s L : List Int} {A : Option Addr} {n c M e e' k m : Nat} (h : Mn w s L A n c M e k m (.slice none 0 0) (.slice none 0 0) [] X) (h1 : M + 3 ≤ e') (h2 : e' ≤ X.heap.size) : Mn w s L A n c M e' k m (.slice none 0 0) (.slice none 0 0) [] X :=
  ⟨h.below, h.tb, h.sb, h.mb, h.blk, h.lb, OwnL.nil _ _ _, h.rk, h2, h1, h.hM, h.few⟩
theorem int_cell {w : World} {ad : Addr} {n c : Nat} {L : List Int} (h : Lst intE w (some ad) n c L) {k : Nat} (hk : k < n) : (-9223372036854775808 ≤ L.getD k 0 ∧ L.getD k 0 ≤ 9223372036854775807) ∧ w.cell? (ad.add k) = some (.int .i64 (L.getD k 0)) := by
  obtain ⟨ad2, e, hr, _, hc⟩ := int_getD h hk
  injection e with e
  subst e
  exact ⟨hr, hc⟩
theorem sizeI64 : (Try.prog.info? 2).map (·.size) = some 1 := by kernel_rfl
theorem wpList_copy_all {P : Program} {w : World} {ops : Array Oper} {rest : List Oper} {o : Oper} {a : Act} {Q : Exit → Act → World → Prop} (hgd : o.guard = none) (d s : Operand) (dT sT : TypeId)
    (ho : o.op = .call { callee := .builtin .copy, args := #[d, s], argTypes := #[dT, sT] }) (elem : TypeId) (hu : P.underlying dT = some (.slice elem)) (hsz : (P.info? elem).map (·.size) = some 1)
    (g dLen dCap : Nat) (ad : Addr) (sLen sCap : Nat) (hd : a.eval d = .slice (some ⟨g, 0, none⟩) dLen dCap) (hs : a.eval s = .slice (some ad) sLen sCap)
    (cur : List Value) (t : TypeId) (hg : w.heap[g]? = some (.cells cur.toArray t (0, 0))) (cs : List Value) (hn : cs.length = Nat.min sLen dLen)
    (hsrc : ∀ j v, cs[j]? = some v → w.cell? (ad.add j) = some v) (hfit : cs.length = cur.length) (h1 : ∀ v ∈ cs, v.oneCell' = true)
    (h : ∀ w', Hid (w'.heap[g]? = some (.cells cs.toArray t (0, 0))) → w.grownBy w' (some g) → w'.heap.size = w.heap.size → wpList P ops Q rest (a.put o.dst (goInt cs.length)) w') : wpList P ops Q (o :: rest) a w := by
  refine wpList_copy_own hgd d s dT sT ho elem hu hsz g 0 dLen dCap ad sLen sCap hd hs cur.toArray t hg cs hn hsrc (by simp [hfit]) h1 (h _ ?_ ⟨rfl, rfl, rfl, by simp [World.setRow], fun k _ hk => setRow_other w g k _ (fun e => hk (by rw [e]))⟩ (by simp [World.setRow]))
  show _ = _
  rw [setRow_heap w g cur.toArray _ t _ hg]
  simp [hfit]
theorem gM_zero {L s : List Int} {n : Nat} (h : L.length = n) : intE.all L = F (gM L s 0) n := by
  rw [F_int]
  congr 1
  apply List.ext_getElem
  · simp [h]
  · intro i h1 h2
    simp [gM, List.getD_eq_getElem?_getD, List.getElem?_eq_getElem h1]
theorem min_res {w : World} (tmps : Array Value) (v : Value) (h4 : tmps.getD 4 undef = v) : (results Try.f57 tmps).run Try.prog w = .ok v w := by
  have h4' : tmps[4]?.getD undef = v := by simpa using h4
  simp [results, Try.results57, h4', go_sem]
theorem min_yes {tmps : Array Value} {w0 w : World} {D1 n c : Nat} {A : Option Addr} {l : List MF.Of} (h4 : tmps.getD 4 undef = .slice A n c) (h10 : w0.heap.size ≤ D1)
    (d1 : w.heap[D1]? = some (.deferred (some []))) (hl : Lst ofE w A n c l) (hA : ∀ ad, A = some ad → ad.block ≠ D1) (hb : Below w0.heap.size w0 w) :
    bodyPostM Fence.wide 5 Try.prog Try.f57 (GivesL ofE l w0) .ret { tmps, defers := [{ target := .collected D1, args := #[] }] } w := by
  refine ⟨by simp, .inl ⟨_, _, rfl, run_takeDeferred d1, ?_⟩⟩
  refine ⟨_, min_res tmps _ h4, A, n, c, rfl, ⟨⟨hl.reads.1, fun hn => ?_⟩, hl.len, hl.cap, hl.few, hl.fine⟩, ?_⟩
  · obtain ⟨ad, e, h1, h2⟩ := hl.reads.2 hn
    refine ⟨ad, e, by simpa using h1, fun j u hu => ?_⟩
    rw [← h2 j u hu]
    exact cell_same (by rw [block_of_add]; exact World.putObj_heap_other (hA ad e))
  · refine hb.trans ⟨rfl, rfl, rfl, by simp, fun k hk => ?_⟩
    rw [World.putObj_heap_other (by omega)]
set_option maxRecDepth 100000 in
set_option maxHeartbeats 8000000 in
theorem fmin_any (A : Option Addr) (n c : Nat) (L : List Int) (q0 q1 q2 q3 q4 q5 : Int) (w : World) (hL : Lst intE w A n c L) (hok : MB.okB [q0, q1, q2, q3, q4, q5] = true) (hp : MB.P [q0, q1, q2, q3, q4, q5] 6 ≤ 1024) (hn : n = VV.cnt [q0, q1, q2, q3, q4, q5]) (ht : tabOk L = true) :
    Calls Try.prog 57 #[.slice A n c, .agg #[.int .i64 q0, .int .i64 q1, .int .i64 q2, .int .i64 q3, .int .i64 q4, .int .i64 q5]] w (GivesL ofE (offs (fT L [q0, q1, q2, q3, q4, q5]) (VV.all [q0, q1, q2, q3, q4, q5])) w) := by
  have HL := Lib.hid hL
  have HBU := Lib.hid (VV.bu_of_ok (b := [q0, q1, q2, q3, q4, q5]) rfl hok)
  have HT := Lib.hid ht
  have HOKB := Lib.hid hok
  have HN := Lib.hid hn
  have hn0 : 0 < n := by rw [hn]; exact VV.cnt_pos _
  obtain ⟨ad, rfl, _, hadl, _⟩ := int_getD hL hn0
  have hnP : n ≤ 1024 := by rw [hn]; exact hp
  have HMB := Lib.hid (fun X x0 x1 x2 x3 x4 x5 pn (hl : Lst intE X (some ⟨w.heap.size + 2, 0, none⟩) n n ((List.range n).map (gM L [q0, q1, q2, q3, q4, q5] pn))) hbu hle => fmost_any (some ⟨w.heap.size + 2, 0, none⟩) n n ((List.range n).map (gM L [q0, q1, q2, q3, q4, q5] pn)) q0 q1 q2 q3 q4 q5 x0 x1 x2 x3 x4 x5 X hl hok hp hn hbu hle)
  have HIt := Lib.hid (fun Bn w h => all_iter q0 q1 q2 q3 q4 q5 Bn w h)
  have hml : listB [q0, q1, q2, q3, q4, q5] = MB.row [q0, q1, q2, q3, q4, q5] 6 n := by rw [hn]; exact list_yes' ⟨hok, hp⟩
  have HRow : Hid ((listB [q0, q1, q2, q3, q4, q5]).length = n ∧ VV.all [q0, q1, q2, q3, q4, q5] = listB [q0, q1, q2, q3, q4, q5] ∧ (∀ x ∈ listB [q0, q1, q2, q3, q4, q5], VV.Bu x ∧ VV.Le x [q0, q1, q2, q3, q4, q5]) ∧ ∀ pre x, pre ++ [x] <+: listB [q0, q1, q2, q3, q4, q5] → VV.rank [q0, q1, q2, q3, q4, q5] x = pre.length ∧ pre.length < n) := Lib.hid (by
    have e : VV.all [q0, q1, q2, q3, q4, q5] = listB [q0, q1, q2, q3, q4, q5] := by unfold VV.all; rw [hml, hn]
    have hlen : (listB [q0, q1, q2, q3, q4, q5]).length = n := by rw [hml]; exact MB.row_length _ _ _
    refine ⟨hlen, e, fun x hx => (VV.all_mem (VV.bu_of_ok (b := [q0, q1, q2, q3, q4, q5]) rfl hok)).1 (e ▸ hx), fun pre x hpre => ?_⟩
    have h1 := hpre.length_le
    rw [hlen, List.length_append, List.length_singleton] at h1
    have h2 : (listB [q0, q1, q2, q3, q4, q5])[pre.length]? = some x := by
      obtain ⟨r, hr⟩ := hpre
      rw [← hr]; simp
    rw [← e] at h2
    obtain ⟨h3, h4⟩ := fall_get h2
    exact ⟨by rw [h4]; exact VV.rank_at h3, by omega⟩)
  have hf0 := hL.few
  obtain ⟨i0, hi0, hz0, hz1, hz2⟩ := info_parts infoI64
  obtain ⟨i1, hi1, hy0, hy1, hy2⟩ := info_parts infoOff
  have B0 := Lib.hid (below_two w (.cells #[.slice (some ad) n c] 64) (.cells #[.int .i64 q0, .int .i64 q1, .int .i64 q2, .int .i64 q3, .int .i64 q4, .int .i64 q5] 24))
  have T0 := Lib.hid (show Boxed ((w.alloc (.cells #[.slice (some ad) n c] 64)).alloc (.cells #[.int .i64 q0, .int .i64 q1, .int .i64 q2, .int .i64 q3, .int .i64 q4, .int .i64 q5] 24)) w.heap.size 64 (.slice (some ad) n c) from ((below_new (w.alloc (.cells #[.slice (some ad) n c] 64)) (.cells #[.int .i64 q0, .int .i64 q1, .int .i64 q2, .int .i64 q3, .int .i64 q4, .int .i64 q5] 24)).block w.heap.size (by simp)).trans (heap_new w _))
  have S0 := Lib.hid (show BB ((w.alloc (.cells #[.slice (some ad) n c] 64)).alloc (.cells #[.int .i64 q0, .int .i64 q1, .int .i64 q2, .int .i64 q3, .int .i64 q4, .int .i64 q5] 24)) (w.heap.size + 1) 24 [q0, q1, q2, q3, q4, q5] from by
    have := BB.new (w.alloc (.cells #[.slice (some ad) n c] 64)) 24 q0 q1 q2 q3 q4 q5
    rwa [World.size_alloc] at this)
  have hs0 : ((w.alloc (.cells #[.slice (some ad) n c] 64)).alloc (.cells #[.int .i64 q0, .int .i64 q1, .int .i64 q2, .int .i64 q3, .int .i64 q4, .int .i64 q5] 24)).heap.size = w.heap.size + 2 := by simp
  clear hL hok hp hn ht hml
  refine (callsIn_wide (n := 5)).1 ?_
  refine callsIn_of_wp_marks Try.func57 rfl trivial ?_ rfl
  simp only [Try.ntmps57, List.size_toArray, List.length_cons, List.length_nil, Nat.reduceAdd, Nat.reduceSub, Array.replicate_succ, Array.replicate_zero, List.push_toArray, List.append_toArray, List.nil_append, List.cons_append]
  refine wpIn_wide.2 ?_
  go_upto_region 1 with (fail)
  generalize (w.alloc (.cells #[.slice (some ad) n c] 64)).alloc (.cells #[.int .i64 q0, .int .i64 q1, .int .i64 q2, .int .i64 q3, .int .i64 q4, .int .i64 q5] 24) = w1 at *
  obtain ⟨w2, hmk, hown, hg2⟩ := run_makeSlice_full (P := Try.prog) w1 w1.heap.size 64 2 i0 (.int .i64 0) 1 Try.underlying64 hi0 hz0 hz1 .i64 .i64 n (by omega) (by rw [hz2]; omega) (by unfold maxLen; omega) (Nat.le_refl _)
  have AR := Blk.of_own hown
  rw [zeros, hs0] at AR
  have n2 : Below w1.heap.size w1 w2 := (Below.refl _ _).grown hg2 (Nat.le_refl _) (fun k e => by cases e)
  have O2 := Lib.hid AR
  have hs2 : w.heap.size + 3 ≤ w2.heap.size := by have := AR.lt; omega
  rw [hs0] at hmk
  have B2 := Lib.hid (B0.out.trans (n2.mono B0.out.size))
  have T2 := Lib.hid (show Boxed w2 w.heap.size 64 (.slice (some ad) n c) from (n2.block _ T0.out.lt).trans T0.out)
  have S2 := Lib.hid (S0.out.keep n2 S0.out.lt)
  have d0 := T0.out.cell
  clear hown hg2 AR n2 B0 S0
  go_upto_region 2 with (fail)
  clear hmk d0
  have nb3 := below_new w2 (.cells #[.slice (some ⟨w.heap.size + 2, 0, none⟩) n n] 64)
  have B3 := Lib.hid (B2.out.trans (nb3.mono B2.out.size))
  have T3 := Lib.hid (show Boxed _ w.heap.size 64 (.slice (some ad) n c) from (nb3.block _ T2.out.lt).trans T2.out)
  have S3 := Lib.hid (S2.out.keep nb3 S2.out.lt)
  have O3 := Lib.hid (O2.out.keep nb3)
  have M3 := Lib.hid (Boxed.new w2 64 (.slice (some ⟨w.heap.size + 2, 0, none⟩) n n))
  have hs3 : (w2.alloc (.cells #[.slice (some ⟨w.heap.size + 2, 0, none⟩) n n] 64)).heap.size = w2.heap.size + 1 := by simp
  generalize w2.alloc (.cells #[.slice (some ⟨w.heap.size + 2, 0, none⟩) n n] 64) = w3 at *
  generalize w2.heap.size = M at *
  clear nb3 B2 T2 S2 O2 T0
  have d0 := T3.out.cell
  have d1 := M3.out.cell
  have HL3 := Lib.hid (HL.out.keep B3.out)
  have HO3 := Lib.hid (show w3.heap[w.heap.size + 2]? = some (.cells (F (fun _ => 0) n).toArray 2 (0, 0)) from O3.out)
  go_wp2_with (with_reducible refine wpList_copy_all rfl _ _ _ _ rfl 2 Try.underlying64 sizeI64 (w.heap.size + 2) n n ad n c rfl rfl _ _ HO3.out (intE.all L) ?c1 ?c2 ?c3 ?c4 ?_)
  case c1 => rw [El.all_length HL.out.fine, HL.out.len]; show n * 1 = Nat.min n n; simp
  case c2 =>
    obtain ⟨ad2, e, _, hc⟩ := HL3.out.reads.2 hn0
    injection e with e
    subst e
    exact hc
  case c3 => rw [El.all_length HL.out.fine, HL.out.len, F_len]; exact Nat.mul_one n
  case c4 => intro v hv; obtain ⟨x, _, hx⟩ := List.mem_flatMap.1 hv; exact intE.one x v hx
  intro w4 hblk hg4 hz4
  have O4 := Lib.hid (show Blk w4 (w.heap.size + 2) (F (gM L [q0, q1, q2, q3, q4, q5] 0) n) 2 from by rw [← gM_zero HL.out.len]; exact hblk.out)
  have B4 := Lib.hid (B3.out.grown hg4 B3.out.size (fun k e => by injection e with e; omega))
  have T4 := Lib.hid (show Boxed w4 w.heap.size 64 (.slice (some ad) n c) from (hg4.block _ T3.out.lt (fun e => by injection e with e; omega)).trans T3.out)
  have S4 := Lib.hid (S3.out.far hg4 (fun r e => by injection e with e; omega))
  have M4 := Lib.hid (show Boxed w4 M 64 (.slice (some ⟨w.heap.size + 2, 0, none⟩) n n) from (hg4.block _ M3.out.lt (fun e => by injection e with e; omega)).trans M3.out)
  have hs4 : w4.heap.size = M + 1 := by omega
  clear hblk hg4 hz4 B3 T3 S3 O3 M3 d0 d1 hs3
  have tt := T4.out.cell
  obtain ⟨r0, r1, r2, r3, r4, r5⟩ := cells6 S4.out
  clear tt r0 r1 r2 r3 r4 r5
  go_upto_region 5 with (fail)
  have nb5 := below_two w4 (.cells #[.slice none 0 0] 22) (.cells #[.int .i64 0] 3)
  have P5 := heap_new w4 (.cells #[.slice none 0 0] 22)
  have P5' := (below_new (w4.alloc (.cells #[.slice none 0 0] 22)) (.cells #[.int .i64 0] 3)).block w4.heap.size (by simp)
  have P6 := heap_new (w4.alloc (.cells #[.slice none 0 0] 22)) (.cells #[.int .i64 0] 3)
  rw [World.size_alloc] at P6
  have hs5 : ((w4.alloc (.cells #[.slice none 0 0] 22)).alloc (.cells #[.int .i64 0] 3)).heap.size = M + 3 := by simp; omega
  rw [hs4] at P5 P5' P6
  have M5 := Lib.hid (show Mn w [q0, q1, q2, q3, q4, q5] L (some ad) n c M (M + 3) 0 0 (.slice none 0 0) (.slice none 0 0) [] ((w4.alloc (.cells #[.slice none 0 0] 22)).alloc (.cells #[.int .i64 0] 3)) from
    ⟨B4.out.trans (nb5.mono B4.out.size), (nb5.block _ T4.out.lt).trans T4.out, S4.out.keep nb5 S4.out.lt, (nb5.block _ M4.out.lt).trans M4.out, O4.out.keep nb5, P5'.trans P5, OwnL.nil _ _ _, P6, Nat.le_of_eq hs5.symm, Nat.le_refl _, hs2, Nat.zero_le _⟩)
  clear nb5 P5 P5' P6 B4 T4 S4 M4 O4 HL3 HO3
  generalize ((w4.alloc (.cells #[.slice none 0 0] 22)).alloc (.cells #[.int .i64 0] 3)) = w9 at *
  clear hs4
  obtain ⟨r0, r1, r2, r3, r4, r5⟩ := cells6 M5.out.sb
  go_wp2_with fail
  refine (all_any q0 q1 q2 q3 q4 q5 w9).mono ?_
  rintro ev w10 ⟨rfl, hw10⟩
  have nb := below_new w9 (.cells #[.int .i64 q0, .int .i64 q1, .int .i64 q2, .int .i64 q3, .int .i64 q4, .int .i64 q5] 24)
  have B10 := Lib.hid (BB.new w9 24 q0 q1 q2 q3 q4 q5)
  have hs10 : w10.heap.size = w9.heap.size + 1 := by rw [hw10]; simp
  rw [← hw10] at nb B10
  rw [hs5] at B10
  have M10 := Lib.hid (M5.out.keep nb)
  have hle10 : M + 4 ≤ w10.heap.size := by omega
  clear r0 r1 r2 r3 r4 r5 nb hw10 M5
  go_wp2_with fail
  generalize hrs : listB [q0, q1, q2, q3, q4, q5] = rs at *
  refine (wpIn_wide (n := 5)).1 (range_one 18 8 (gf := 95) (lb := #[.pointer (some ⟨M + 3, 0, none⟩)]) (encs := fun x => #[aggB x]) (xs := rs) (Bn := M + 3) rfl (enters_of Try.func95 (by kernel_rfl) rfl)
    (HIt.out (M + 3) w10 B10.out) (by omega) (fun _ => rfl)
    (fun e pre X => ∃ v, Mn w [q0, q1, q2, q3, q4, q5] L (some ad) n c M e pre.length pre.length v v (offs (fT L [q0, q1, q2, q3, q4, q5]) pre) X)
    (fun _ _ _ _ => False)
    ?hI ?hIx ?h0 ?assign ?body ?done ?stop)
  case hI =>
    rintro e pre X Y he heX ⟨v, hm⟩ hs
    exact ⟨v, hm.step hs (by omega)⟩
  case hIx => exact fun _ _ _ _ _ _ _ h _ => h
  case h0 =>
    intro e X he heX hb
    exact ⟨_, (M10.out.keep hb).rebase (by omega) heX⟩
  case assign =>
    rintro l e pre x X he heX ⟨v, hm⟩ hpre
    have hx6 : x.length = 6 := (HRow.out.2.2.1 x (hpre.subset (by simp))).1.len
    obtain ⟨x0, x1, x2, x3, x4, x5, rfl⟩ := six hx6
    clear hpre hx6
    simp only [aggB_lit, List.setIfInBounds_toArray, List.set_cons_zero, List.set_cons_succ]
    have hT := Lib.hid hm
    clear hm
    gi_wp2
    exact ⟨Kpt.alloc X _ (by omega) heX, ⟨v, hT.out.keep (below_new X _)⟩, X.heap.size, heX, BB.new X _ _ _ _ _ _ _, rfl⟩
  case body =>
    rintro l e pre x Bx X he heX ⟨vl, hm⟩ hpre hBx hbx
    have hxin := HRow.out.2.2.1 x (hpre.subset (by simp))
    obtain ⟨hrk, hkn⟩ := HRow.out.2.2.2 pre x hpre
    have hof := offs_len (fT L [q0, q1, q2, q3, q4, q5]) pre
    obtain ⟨x0, x1, x2, x3, x4, x5, rfl⟩ := six hxin.1.len
    have HMR := Lib.hid (mb_round (L := L) HBU.out HN.out hxin.1 hxin.2 hrk)
    have HSV := Lib.hid (subT_in (s := [q0, q1, q2, q3, q4, q5]) HT.out hxin.1)
    have HST0 := Lib.hid (fun i (_ : i < n) => gM_step (L := L) HBU.out hxin.1 hxin.2 hrk i)
    have HFX : Hid (fT L [q0, q1, q2, q3, q4, q5] [x0, x1, x2, x3, x4, x5] = L.getD pre.length 0) := Lib.hid (by unfold fT; rw [hrk])
    have HX6 := Lib.hid (VV.bu_of_ok (b := [x0, x1, x2, x3, x4, x5]) rfl)
    have HLN : Hid (((pre.length : Int) + 1 = ((pre ++ [[x0, x1, x2, x3, x4, x5]]).length : Nat)) ∧ pre.length + 1 = (pre ++ [[x0, x1, x2, x3, x4, x5]]).length) := Lib.hid ⟨by simp, by simp⟩
    have HO1 := Lib.hid (fun h => (offs_yes (f := fT L [q0, q1, q2, q3, q4, q5]) (bs := pre) (x := [x0, x1, x2, x3, x4, x5]) h).symm)
    have HO2 := Lib.hid (fun h => (offs_no (f := fT L [q0, q1, q2, q3, q4, q5]) (bs := pre) (x := [x0, x1, x2, x3, x4, x5]) h).symm)
    have HIN := Lib.hid (fun j (hj : j < 6) => (show 0 ≤ MB.at_ [x0, x1, x2, x3, x4, x5] j ∧ MB.at_ [x0, x1, x2, x3, x4, x5] j ≤ 4 from by
      have h1 := hxin.1.pos j hj; have h2 := hxin.2 j hj; have h3 := okB_at HOKB.out (k := j) (by simpa using hj); omega))
    have HC := Lib.hid (fun w' => HMB.out w' x0 x1 x2 x3 x4 x5 pre.length)
    have hbu := hxin.1
    have hle := hxin.2
    simp only [aggB_lit, List.setIfInBounds_toArray, List.set_cons_zero, List.set_cons_succ]
    obtain ⟨c0, c1', c2, c3, c4, c5⟩ := cells6 hbx
    obtain ⟨r0, r1, r2, r3, r4, r5⟩ := cells6 hm.sb
    have cb := hm.mb.cell
    have M0 := Lib.hid hm
    have X0 := Lib.hid hbx
    have HBL := Lib.hid (And.intro hbu hle)
    clear hm hbx hxin hpre hrk hbu hle
    have hmo : Try.prog.follows .mixedOrders = true := by kernel_rfl
    gi_wp2_with fail
    refine ⟨trivial, (callsIn_wide.2 (HC.out X (M0.out.blk.lst (Nat.le_refl _) (by omega) (fun i _ => gM_in HT.out HBU.out _ _)) HBL.out.1 HBL.out.2)).mono ?_⟩
    rintro ev w7 ⟨rfl, nb⟩
    rw [HMR.out]
    have M7 := Lib.hid (M0.out.keep nb)
    have X7 := Lib.hid (X0.out.keep nb X0.out.lt)
    have K7 := Lib.hid (Kpt.below (Bn := M + 3) (b := w10.heap.size) (e := e) nb (by omega) heX)
    clear nb M0 X0 c0 c1' c2 c3 c4 c5 r0 r1 r2 r3 r4 r5 cb HC HMR
    obtain ⟨htr, htc⟩ := int_cell (HL.out.keep M7.out.below) hkn
    have HTV : Hid (gM L [q0, q1, q2, q3, q4, q5] pre.length pre.length = L.getD pre.length 0) := Lib.hid (by unfold gM; rw [if_neg (Nat.lt_irrefl _)])
    rw [HFX.out] at HO1 HO2
    generalize VV.subT (fT L [q0, q1, q2, q3, q4, q5]) [x0, x1, x2, x3, x4, x5] = sv at *
    generalize L.getD pre.length 0 = tv at *
    have HST := Lib.hid (show ∀ i, i < n → gM L [q0, q1, q2, q3, q4, q5] (pre.length + 1) i = if i = pre.length then (if tv < sv then sv else tv) else gM L [q0, q1, q2, q3, q4, q5] pre.length i from fun i hi => by rw [HST0.out i hi, show max tv sv = if tv < sv then sv else tv from by split <;> omega])
    have HOF := Lib.hid (show ofE.fine ⟨0, x0, x1, x2, x3, x4, x5, tv⟩ ∧ (offs (fT L [q0, q1, q2, q3, q4, q5]) pre).length + 1 ≤ 1024 from by
      have g0 : 0 ≤ x0 ∧ x0 ≤ 4 := HIN.out 0 (by decide)
      have g1 : 0 ≤ x1 ∧ x1 ≤ 4 := HIN.out 1 (by decide)
      have g2 : 0 ≤ x2 ∧ x2 ≤ 4 := HIN.out 2 (by decide)
      have g3 : 0 ≤ x3 ∧ x3 ≤ 4 := HIN.out 3 (by decide)
      have g4 : 0 ≤ x4 ∧ x4 ≤ 4 := HIN.out 4 (by decide)
      have g5 : 0 ≤ x5 ∧ x5 ≤ 4 := HIN.out 5 (by decide)
      refine ⟨?_, by omega⟩
      dsimp only [ofE]
      omega)
    clear HST0 HIN HX6
    have HO1' := Lib.hid (show sv < tv → offs (fT L [q0, q1, q2, q3, q4, q5]) pre ++ [(⟨0, x0, x1, x2, x3, x4, x5, tv⟩ : MF.Of)] = offs (fT L [q0, q1, q2, q3, q4, q5]) (pre ++ [[x0, x1, x2, x3, x4, x5]]) from fun h => HO1.out h)
    have HO2' := Lib.hid (show ¬ sv < tv → offs (fT L [q0, q1, q2, q3, q4, q5]) pre = offs (fT L [q0, q1, q2, q3, q4, q5]) (pre ++ [[x0, x1, x2, x3, x4, x5]]) from fun h => HO2.out (Int.not_lt.1 h))
    clear HO1 HO2 hof
    generalize offs (fT L [q0, q1, q2, q3, q4, q5]) pre = Os at *
    have d0 := M7.out.tb.cell
    have d1 := M7.out.rk.cell
    by_cases htv : sv < tv
    · have hd : decide (sv < tv) = true := decide_eq_true htv
      have HYES := Lib.hid (HO1'.out htv)
      gi_wp2_with fail
      clear d0 d1 hd htv HO1' HO2'
      have MY := Lib.hid (M7.out.keep (below_drawn w7))
      have XY := Lib.hid (X7.out.keep (below_drawn w7) X7.out.lt)
      have KY := Lib.hid (K7.out.trans (Kpt.below (Bn := M + 3) (b := w10.heap.size) (e := e) (below_drawn w7) (by have := M7.out.ge; omega) (by have := M7.out.ge; omega)))
      have CY := Lib.hid (cell_below (below_drawn w7) htc)
      have hxe : w.heap.size + 3 ≤ M := M7.out.hM
      have heY : e ≤ w7.drew.heap.size := MY.out.ge
      clear M7 X7 K7 htc
      refine region_held_L_in (S := fun w' => Boxed w' (M + 1) 22 vl ∧ BB w' Bx 24 [x0, x1, x2, x3, x4, x5] ∧ Boxed w' w.heap.size 64 (.slice (some ad) n c) ∧ Boxed w' (M + 2) 3 (.int .i64 pre.length) ∧ w'.cell? (ad.add pre.length) = some (.int .i64 tv)) 9 hmo (by kernel_rfl) ?_ ⟨MY.out.lb, XY.out, MY.out.tb, MY.out.rk, CY.out⟩ (fun hHeld => ?_)
      · rintro ⟨_, _, h⟩; exact h
      generalize w7.drew = Y at *
      refine wpAnyL_take (i := 0) (oi := { dst := some 29, op := Op.load 22 (Operand.tmp 6), type := 22, pos := "table.go:52", after := #[], guard := none }) (v := ?_) rfl (by kernel_rfl) (by kernel_rfl) (by kernel_rfl) (fun _ _ _ h => h) (Or.inl ⟨by rfl, ?_⟩) (by assumption) ?_
      rotate_left
      · intro w hSw; (try dsimp only at hSw); obtain ⟨hl, hB, ht, hr, hv⟩ := hSw; have d0 := hl.cell; have d1 := ht.cell; have d2 := hr.cell; obtain ⟨r0, r1, r2, r3, r4, r5⟩ := cells6 hB; go_simp; try with_reducible rfl
      (try simp only [Act.put, List.setIfInBounds_toArray, List.set_cons_zero, List.set_cons_succ])
      refine wpAnyL_take (i := 1) (oi := { dst := some 30, op := Op.load 24 (Operand.tmp 8), type := 24, pos := "table.go:52", after := #[], guard := none }) (v := ?_) rfl (by kernel_rfl) (by kernel_rfl) (by kernel_rfl) (fun _ _ _ h => h) (Or.inl ⟨by rfl, ?_⟩) (by assumption) ?_
      rotate_left
      · intro w hSw; (try dsimp only at hSw); obtain ⟨hl, hB, ht, hr, hv⟩ := hSw; have d0 := hl.cell; have d1 := ht.cell; have d2 := hr.cell; obtain ⟨r0, r1, r2, r3, r4, r5⟩ := cells6 hB; go_simp; try with_reducible rfl
      (try simp only [Act.put, List.setIfInBounds_toArray, List.set_cons_zero, List.set_cons_succ])
      refine wpAnyL_take (i := 2) (oi := { dst := some 31, op := Op.load 64 (Operand.tmp 2), type := 64, pos := "table.go:52", after := #[], guard := none }) (v := ?_) rfl (by kernel_rfl) (by kernel_rfl) (by kernel_rfl) (fun _ _ _ h => h) (Or.inl ⟨by rfl, ?_⟩) (by assumption) ?_
      rotate_left
      · intro w hSw; (try dsimp only at hSw); obtain ⟨hl, hB, ht, hr, hv⟩ := hSw; have d0 := hl.cell; have d1 := ht.cell; have d2 := hr.cell; obtain ⟨r0, r1, r2, r3, r4, r5⟩ := cells6 hB; go_simp; try with_reducible rfl
      (try simp only [Act.put, List.setIfInBounds_toArray, List.set_cons_zero, List.set_cons_succ])
      refine wpAnyL_take (i := 3) (oi := { dst := some 32, op := Op.load 3 (Operand.tmp 7), type := 3, pos := "table.go:52", after := #[], guard := none }) (v := ?_) rfl (by kernel_rfl) (by kernel_rfl) (by kernel_rfl) (fun _ _ _ h => h) (Or.inl ⟨by rfl, ?_⟩) (by assumption) ?_
      rotate_left
      · intro w hSw; (try dsimp only at hSw); obtain ⟨hl, hB, ht, hr, hv⟩ := hSw; have d0 := hl.cell; have d1 := ht.cell; have d2 := hr.cell; obtain ⟨r0, r1, r2, r3, r4, r5⟩ := cells6 hB; go_simp; try with_reducible rfl
      (try simp only [Act.put, List.setIfInBounds_toArray, List.set_cons_zero, List.set_cons_succ])
      refine wpAnyL_take (i := 4) (oi := { dst := some 33, op := Op.indexAddr 64 (Operand.tmp 31) (Operand.tmp 32), type := 0, pos := "table.go:52", after := #[{ on := 2, ground := Ground.data }, { on := 3, ground := Ground.data }], guard := none }) (v := ?_) rfl (by kernel_rfl) (by kernel_rfl) (by kernel_rfl) (fun _ _ _ h => h) (Or.inl ⟨by rfl, ?_⟩) (by assumption) ?_
      rotate_left
      · intro w hSw; (try dsimp only at hSw); obtain ⟨hl, hB, ht, hr, hv⟩ := hSw; have d0 := hl.cell; have d1 := ht.cell; have d2 := hr.cell; obtain ⟨r0, r1, r2, r3, r4, r5⟩ := cells6 hB; go_simp; try with_reducible rfl
      (try simp only [Act.put, List.setIfInBounds_toArray, List.set_cons_zero, List.set_cons_succ])
      refine wpAnyL_take (i := 5) (oi := { dst := some 34, op := Op.load 2 (Operand.tmp 33), type := 2, pos := "table.go:52", after := #[{ on := 4, ground := Ground.data }], guard := none }) (v := ?_) rfl (by kernel_rfl) (by kernel_rfl) (by kernel_rfl) (fun _ _ _ h => h) (Or.inl ⟨by rfl, ?_⟩) (by assumption) ?_
      rotate_left
      · intro w hSw; (try dsimp only at hSw); obtain ⟨hl, hB, ht, hr, hv⟩ := hSw; have d0 := hl.cell; have d1 := ht.cell; have d2 := hr.cell; obtain ⟨r0, r1, r2, r3, r4, r5⟩ := cells6 hB; go_simp; try with_reducible rfl
      (try simp only [Act.put, List.setIfInBounds_toArray, List.set_cons_zero, List.set_cons_succ])
      refine wpAnyL_take (i := 6) (oi := { dst := some 35, op := Op.build 60 #[(1, Operand.tmp 30), (2, Operand.tmp 34)], type := 60, pos := "table.go:52", after := #[{ on := 1, ground := Ground.data }, { on := 5, ground := Ground.data }], guard := none }) (v := ?_) rfl (by kernel_rfl) (by kernel_rfl) (by kernel_rfl) (fun _ _ _ h => h) (Or.inl ⟨by rfl, ?_⟩) (by assumption) ?_
      rotate_left
      · intro w hSw; (try dsimp only at hSw); obtain ⟨hl, hB, ht, hr, hv⟩ := hSw; have d0 := hl.cell; have d1 := ht.cell; have d2 := hr.cell; obtain ⟨r0, r1, r2, r3, r4, r5⟩ := cells6 hB; go_simp; try with_reducible rfl
      (try simp only [Act.put, List.setIfInBounds_toArray, List.set_cons_zero, List.set_cons_succ])
      refine wpAnyL_ready (rs := [7]) (by kernel_rfl) (by simp) ?_
      refine AllReadyL.cons (o := { dst := some 36, op := Op.buildSlice 22 1 #[(0, Operand.tmp 35)], type := 22, pos := "table.go:52", after := #[{ on := 6, ground := Ground.data }], guard := none }) rfl (fun K hK => ?_) AllReadyL.nil
      go_simp
      have nb := below_new Y (.cells #[.int .i64 0, .int .i64 x0, .int .i64 x1, .int .i64 x2, .int .i64 x3, .int .i64 x4, .int .i64 x5, .int .i64 tv] 60)
      have N6 := Lib.hid (heap_new Y (.cells #[.int .i64 0, .int .i64 x0, .int .i64 x1, .int .i64 x2, .int .i64 x3, .int .i64 x4, .int .i64 x5, .int .i64 tv] 60))
      have M6 := Lib.hid (MY.out.keep nb)
      have X6 := Lib.hid (XY.out.keep nb XY.out.lt)
      have K6 := Lib.hid (KY.out.trans (Kpt.below nb (by omega) (by omega)))
      have C6 := Lib.hid (cell_below nb CY.out)
      have hz6 : Y.heap.size < (Y.alloc (.cells #[.int .i64 0, .int .i64 x0, .int .i64 x1, .int .i64 x2, .int .i64 x3, .int .i64 x4, .int .i64 x5, .int .i64 tv] 60)).heap.size := by simp
      clear nb MY XY KY CY
      refine hK.out _ _ ?_ (fun hHeld => ?_)
      · exact ⟨M6.out.lb, X6.out, M6.out.tb, M6.out.rk, C6.out⟩
      generalize hw6 : Y.alloc (.cells #[.int .i64 0, .int .i64 x0, .int .i64 x1, .int .i64 x2, .int .i64 x3, .int .i64 x4, .int .i64 x5, .int .i64 tv] 60) = w6 at *
      clear hw6
      clear hK K
      (try simp only [Act.put, List.setIfInBounds_toArray, List.set_cons_zero, List.set_cons_succ])
      refine wpAnyL_ready (rs := [8]) (by kernel_rfl) (by simp) ?_
      refine AllReadyL.cons (o := { dst := some 37, op := Op.call { callee := Callee.builtin Builtin.append, args := #[Operand.tmp 29, Operand.tmp 36], argTypes := #[22, 22] }, type := 22, pos := "table.go:52", after := #[{ on := 0, ground := Ground.data }, { on := 7, ground := Ground.data }], guard := none }) rfl (fun K hK => ?_) AllReadyL.nil
      have hfew := M6.out.few
      refine step_append_lies _ (by rfl) _ _ _ (by rfl) e 60 i1 (.agg #[.int .i64 0, .int .i64 0, .int .i64 0, .int .i64 0, .int .i64 0, .int .i64 0, .int .i64 0, .int .i64 0]) 8 64 Try.underlying22 hi1 hy0 hy1 hy2 rfl (by decide) _ _ _ (by rfl) M6.out.own.1 ⟨Y.heap.size, 0, none⟩ 1 1 [.int .i64 0, .int .i64 x0, .int .i64 x1, .int .i64 x2, .int .i64 x3, .int .i64 x4, .int .i64 x5, .int .i64 tv] (by rfl) rfl ?c1 ?c2 (by decide) ?c4 ?c5 ?c6 _ rfl ?_
      case c1 => exact World.news_of_block N6.out
      case c2 => exact ofE.one ⟨0, x0, x1, x2, x3, x4, x5, tv⟩
      case c4 => unfold maxLen; omega
      case c5 => omega
      case c6 => have := M6.out.ge; omega
      intro gg cp w7 hown hgrow hat hlt7
      have M7 := Lib.hid (M6.out.app (o := ⟨0, x0, x1, x2, x3, x4, x5, tv⟩) HOF.out hown hgrow)
      have K7 := Lib.hid (K6.out.trans (Kpt_grow hgrow (fun r hr => M6.out.row r hr) (by omega) (by have := M6.out.ge; omega)))
      have X7 := Lib.hid (X6.out.far hgrow (fun r hr q => by subst q; rcases M6.out.own.ne X6.out.1 (by decide) with g | g; (rw [hr] at g; cases g); exact g hr))
      have C7 := Lib.hid (cell_grown hgrow C6.out hadl (fun r hr => by have := M6.out.row r hr; omega))
      clear hown hgrow hat hlt7 M6 X6 K6 C6 N6
      refine hK.out _ _ ?_ (fun hHeld => ?_)
      · exact ⟨M7.out.lb, X7.out, M7.out.tb, M7.out.rk, C7.out⟩
      clear hK K
      (try simp only [Act.put, List.setIfInBounds_toArray, List.set_cons_zero, List.set_cons_succ])
      refine wpAnyL_ready (rs := [9]) (by kernel_rfl) (by simp) ?_
      refine AllReadyL.last (o := { dst := none, op := Op.store 22 (Operand.tmp 6) (Operand.tmp 37), type := 0, pos := "table.go:52", after := #[{ on := 8, ground := Ground.data }, { on := 8, ground := Ground.chain }, { on := 0, ground := Ground.phase }, { on := 1, ground := Ground.phase }, { on := 2, ground := Ground.phase }, { on := 3, ground := Ground.phase }, { on := 4, ground := Ground.phase }, { on := 5, ground := Ground.phase }, { on := 6, ground := Ground.phase }, { on := 7, ground := Ground.phase }, { on := 8, ground := Ground.phase }], guard := none }) rfl (fun K hK => ?_)
      have cb := M7.out.lb.cell
      have fb := M7.out.lb.frozen
      go_simp
      have M8 := Lib.hid M7.out.box
      have K8 := Lib.hid (K7.out.trans (Kpt.setCell _ 0 (.slice (some ⟨gg, 0, none⟩) (Os.length + 1) cp) (by omega) (.inl (by omega) : (M + 1) < w10.heap.size ∨ e ≤ (M + 1))))
      generalize hw8 : w7.setCell ⟨M + 1, 0, none⟩ (.slice (some ⟨gg, 0, none⟩) (Os.length + 1) cp) = w8 at *
      clear M7 K7 X7 C7 cb fb hw8
      refine hK.out _ _ trivial (fun _ => ?_)
      clear hK K
      (try simp only [Act.put, List.setIfInBounds_toArray, List.set_cons_zero, List.set_cons_succ])
      refine wpAnyL_done (by kernel_rfl) ?_ _
      have M8a := Lib.hid (M8.out.keep (below_drawn w8))
      have K8a := Lib.hid (K8.out.trans (Kpt.below (Bn := M + 3) (b := w10.heap.size) (e := e) (below_drawn w8) (by have := M8.out.ge; omega) (by have := M8.out.ge; omega)))
      gi_wp2_with fail
      refine region_held_L_in (S := fun w' => Boxed w' (M) 64 (.slice (some ⟨w.heap.size + 2, 0, none⟩) n n) ∧ Boxed w' (M + 2) 3 (.int .i64 pre.length) ∧ w'.cell? ⟨w.heap.size + 2, pre.length, none⟩ = some (.int .i64 tv)) 9 hmo (by kernel_rfl) ?_ ⟨M8a.out.mb, M8a.out.rk, M8a.out.blk.cell ((F_at _ hkn).trans (by rw [HTV.out]))⟩ (fun hHeld => ?_)
      · rintro ⟨_, _, h⟩; exact h
      generalize w8.drew = w8a at *
      clear M8 K8
      refine wpAnyL_take (i := 0) (oi := { dst := some 38, op := Op.load 64 (Operand.tmp 5), type := 64, pos := "table.go:54", after := #[], guard := none }) (v := ?_) rfl (by kernel_rfl) (by kernel_rfl) (by kernel_rfl) (fun _ _ _ h => h) (Or.inl ⟨by rfl, ?_⟩) (by assumption) ?_
      rotate_left
      · intro w hSw; (try dsimp only at hSw); obtain ⟨hm, hr, hv⟩ := hSw; have d0 := hm.cell; have d1 := hr.cell; go_simp; try with_reducible rfl
      (try simp only [Act.put, List.setIfInBounds_toArray, List.set_cons_zero, List.set_cons_succ])
      refine wpAnyL_take (i := 1) (oi := { dst := some 39, op := Op.load 3 (Operand.tmp 7), type := 3, pos := "table.go:54", after := #[], guard := none }) (v := ?_) rfl (by kernel_rfl) (by kernel_rfl) (by kernel_rfl) (fun _ _ _ h => h) (Or.inl ⟨by rfl, ?_⟩) (by assumption) ?_
      rotate_left
      · intro w hSw; (try dsimp only at hSw); obtain ⟨hm, hr, hv⟩ := hSw; have d0 := hm.cell; have d1 := hr.cell; go_simp; try with_reducible rfl
      (try simp only [Act.put, List.setIfInBounds_toArray, List.set_cons_zero, List.set_cons_succ])
      refine wpAnyL_take (i := 2) (oi := { dst := some 40, op := Op.load 64 (Operand.tmp 5), type := 64, pos := "table.go:54", after := #[], guard := none }) (v := ?_) rfl (by kernel_rfl) (by kernel_rfl) (by kernel_rfl) (fun _ _ _ h => h) (Or.inl ⟨by rfl, ?_⟩) (by assumption) ?_
      rotate_left
      · intro w hSw; (try dsimp only at hSw); obtain ⟨hm, hr, hv⟩ := hSw; have d0 := hm.cell; have d1 := hr.cell; go_simp; try with_reducible rfl
      (try simp only [Act.put, List.setIfInBounds_toArray, List.set_cons_zero, List.set_cons_succ])
      refine wpAnyL_take (i := 3) (oi := { dst := some 41, op := Op.load 3 (Operand.tmp 7), type := 3, pos := "table.go:54", after := #[], guard := none }) (v := ?_) rfl (by kernel_rfl) (by kernel_rfl) (by kernel_rfl) (fun _ _ _ h => h) (Or.inl ⟨by rfl, ?_⟩) (by assumption) ?_
      rotate_left
      · intro w hSw; (try dsimp only at hSw); obtain ⟨hm, hr, hv⟩ := hSw; have d0 := hm.cell; have d1 := hr.cell; go_simp; try with_reducible rfl
      (try simp only [Act.put, List.setIfInBounds_toArray, List.set_cons_zero, List.set_cons_succ])
      refine wpAnyL_take (i := 4) (oi := { dst := some 42, op := Op.indexAddr 64 (Operand.tmp 40) (Operand.tmp 41), type := 0, pos := "table.go:54", after := #[{ on := 2, ground := Ground.data }, { on := 3, ground := Ground.data }], guard := none }) (v := ?_) rfl (by kernel_rfl) (by kernel_rfl) (by kernel_rfl) (fun _ _ _ h => h) (Or.inl ⟨by rfl, ?_⟩) (by assumption) ?_
      rotate_left
      · intro w hSw; (try dsimp only at hSw); obtain ⟨hm, hr, hv⟩ := hSw; have d0 := hm.cell; have d1 := hr.cell; go_simp; try with_reducible rfl
      (try simp only [Act.put, List.setIfInBounds_toArray, List.set_cons_zero, List.set_cons_succ])
      refine wpAnyL_take (i := 5) (oi := { dst := some 43, op := Op.load 2 (Operand.tmp 42), type := 2, pos := "table.go:54", after := #[{ on := 4, ground := Ground.data }], guard := none }) (v := ?_) rfl (by kernel_rfl) (by kernel_rfl) (by kernel_rfl) (fun _ _ _ h => h) (Or.inl ⟨by rfl, ?_⟩) (by assumption) ?_
      rotate_left
      · intro w hSw; (try dsimp only at hSw); obtain ⟨hm, hr, hv⟩ := hSw; have d0 := hm.cell; have d1 := hr.cell; go_simp; try with_reducible rfl
      (try simp only [Act.put, List.setIfInBounds_toArray, List.set_cons_zero, List.set_cons_succ])
      refine wpAnyL_take (i := 6) (oi := { dst := some 44, op := Op.move (Operand.tmp 9), type := 2, pos := "table.go:54", after := #[], guard := none }) (v := ?_) rfl (by kernel_rfl) (by kernel_rfl) (by kernel_rfl) (fun _ _ _ h => h) (Or.inl ⟨by rfl, ?_⟩) (by assumption) ?_
      rotate_left
      · intro w hSw; (try dsimp only at hSw); obtain ⟨hm, hr, hv⟩ := hSw; have d0 := hm.cell; have d1 := hr.cell; go_simp; try with_reducible rfl
      (try simp only [Act.put, List.setIfInBounds_toArray, List.set_cons_zero, List.set_cons_succ])
      refine wpAnyL_take (i := 7) (oi := { dst := some 45, op := Op.call { callee := Callee.builtin Builtin.max, args := #[Operand.tmp 43, Operand.tmp 44], argTypes := #[2, 2] }, type := 2, pos := "table.go:54", after := #[{ on := 5, ground := Ground.data }, { on := 6, ground := Ground.data }], guard := none }) (v := ?_) rfl (by kernel_rfl) (by kernel_rfl) (by kernel_rfl) (fun _ _ _ h => h) (Or.inl ⟨by rfl, ?_⟩) (by assumption) ?_
      rotate_left
      · intro w hSw; (try dsimp only at hSw); obtain ⟨hm, hr, hv⟩ := hSw; have d0 := hm.cell; have d1 := hr.cell; go_simp; try with_reducible rfl
      (try simp only [Act.put, List.setIfInBounds_toArray, List.set_cons_zero, List.set_cons_succ])
      refine wpAnyL_take (i := 8) (oi := { dst := some 46, op := Op.indexAddr 64 (Operand.tmp 38) (Operand.tmp 39), type := 0, pos := "table.go:54", after := #[{ on := 0, ground := Ground.data }, { on := 1, ground := Ground.data }, { on := 0, ground := Ground.phase }, { on := 1, ground := Ground.phase }, { on := 2, ground := Ground.phase }, { on := 3, ground := Ground.phase }, { on := 4, ground := Ground.phase }, { on := 5, ground := Ground.phase }, { on := 6, ground := Ground.phase }, { on := 7, ground := Ground.phase }], guard := none }) (v := ?_) rfl (by kernel_rfl) (by kernel_rfl) (by kernel_rfl) (fun _ _ _ h => h) (Or.inl ⟨by rfl, ?_⟩) (by assumption) ?_
      rotate_left
      · intro w hSw; (try dsimp only at hSw); obtain ⟨hm, hr, hv⟩ := hSw; have d0 := hm.cell; have d1 := hr.cell; go_simp; try with_reducible rfl
      (try simp only [Act.put, List.setIfInBounds_toArray, List.set_cons_zero, List.set_cons_succ])
      refine wpAnyL_ready (rs := [9]) (by kernel_rfl) (by simp) ?_
      refine AllReadyL.last (o := { dst := none, op := Op.store 2 (Operand.tmp 46) (Operand.tmp 45), type := 0, pos := "table.go:54", after := #[{ on := 8, ground := Ground.data }, { on := 7, ground := Ground.data }, { on := 0, ground := Ground.phase }, { on := 1, ground := Ground.phase }, { on := 2, ground := Ground.phase }, { on := 3, ground := Ground.phase }, { on := 4, ground := Ground.phase }, { on := 5, ground := Ground.phase }, { on := 6, ground := Ground.phase }, { on := 7, ground := Ground.phase }], guard := none }) rfl (fun K hK => ?_)
      have cb := hHeld.2.2
      have fb := M8a.out.blk.frozen pre.length
      go_simp
      have M8b := Lib.hid (M8a.out.put (by assumption) HST.out)
      have K8b := Lib.hid (K8a.out.trans (Kpt.setCell _ pre.length (.int .i64 (if tv < sv then sv else tv)) (by omega) (.inl (by omega) : w.heap.size + 2 < w10.heap.size ∨ e ≤ w.heap.size + 2)))
      generalize hwb : w8a.setCell ⟨w.heap.size + 2, pre.length, none⟩ (.int .i64 (if tv < sv then sv else tv)) = wb at *
      clear M8a K8a cb fb hwb hHeld
      refine hK.out _ _ trivial (fun _ => ?_)
      clear hK K
      (try simp only [Act.put, List.setIfInBounds_toArray, List.set_cons_zero, List.set_cons_succ])
      refine wpAnyL_done (by kernel_rfl) ?_ _
      generalize (if tv < sv then sv else tv) = mv at *
      have d1 := M8b.out.rk.cell
      have f1 := M8b.out.rk.frozen
      gi_wp2
      exact ⟨K8b.out.trans (Kpt.setCell (g := M + 1 + 1) wb 0 _ (by omega) (.inl (by omega))), _, (M8b.out.rank (y := (pre.length : Int) + 1) HLN.out HYES.out :)⟩
    · have hd : decide (sv < tv) = false := decide_eq_false htv
      have HNO := Lib.hid (HO2'.out htv)
      gi_wp2_with fail
      clear d0 d1 hd htv HO1' HO2' X7 htc
      have hxe : w.heap.size + 3 ≤ M := M7.out.hM
      have M7a := Lib.hid (M7.out.keep (below_drawn w7))
      have K7a := Lib.hid (K7.out.trans (Kpt.below (Bn := M + 3) (b := w10.heap.size) (e := e) (below_drawn w7) (by have := M7.out.ge; omega) (by have := M7.out.ge; omega)))
      gi_wp2_with fail
      refine region_held_L_in (S := fun w' => Boxed w' (M) 64 (.slice (some ⟨w.heap.size + 2, 0, none⟩) n n) ∧ Boxed w' (M + 2) 3 (.int .i64 pre.length) ∧ w'.cell? ⟨w.heap.size + 2, pre.length, none⟩ = some (.int .i64 tv)) 9 hmo (by kernel_rfl) ?_ ⟨M7a.out.mb, M7a.out.rk, M7a.out.blk.cell ((F_at _ hkn).trans (by rw [HTV.out]))⟩ (fun hHeld => ?_)
      · rintro ⟨_, _, h⟩; exact h
      generalize w7.drew = w7a at *
      clear M7 K7
      refine wpAnyL_take (i := 0) (oi := { dst := some 38, op := Op.load 64 (Operand.tmp 5), type := 64, pos := "table.go:54", after := #[], guard := none }) (v := ?_) rfl (by kernel_rfl) (by kernel_rfl) (by kernel_rfl) (fun _ _ _ h => h) (Or.inl ⟨by rfl, ?_⟩) (by assumption) ?_
      rotate_left
      · intro w hSw; (try dsimp only at hSw); obtain ⟨hm, hr, hv⟩ := hSw; have d0 := hm.cell; have d1 := hr.cell; go_simp; try with_reducible rfl
      (try simp only [Act.put, List.setIfInBounds_toArray, List.set_cons_zero, List.set_cons_succ])
      refine wpAnyL_take (i := 1) (oi := { dst := some 39, op := Op.load 3 (Operand.tmp 7), type := 3, pos := "table.go:54", after := #[], guard := none }) (v := ?_) rfl (by kernel_rfl) (by kernel_rfl) (by kernel_rfl) (fun _ _ _ h => h) (Or.inl ⟨by rfl, ?_⟩) (by assumption) ?_
      rotate_left
      · intro w hSw; (try dsimp only at hSw); obtain ⟨hm, hr, hv⟩ := hSw; have d0 := hm.cell; have d1 := hr.cell; go_simp; try with_reducible rfl
      (try simp only [Act.put, List.setIfInBounds_toArray, List.set_cons_zero, List.set_cons_succ])
      refine wpAnyL_take (i := 2) (oi := { dst := some 40, op := Op.load 64 (Operand.tmp 5), type := 64, pos := "table.go:54", after := #[], guard := none }) (v := ?_) rfl (by kernel_rfl) (by kernel_rfl) (by kernel_rfl) (fun _ _ _ h => h) (Or.inl ⟨by rfl, ?_⟩) (by assumption) ?_
      rotate_left
      · intro w hSw; (try dsimp only at hSw); obtain ⟨hm, hr, hv⟩ := hSw; have d0 := hm.cell; have d1 := hr.cell; go_simp; try with_reducible rfl
      (try simp only [Act.put, List.setIfInBounds_toArray, List.set_cons_zero, List.set_cons_succ])
      refine wpAnyL_take (i := 3) (oi := { dst := some 41, op := Op.load 3 (Operand.tmp 7), type := 3, pos := "table.go:54", after := #[], guard := none }) (v := ?_) rfl (by kernel_rfl) (by kernel_rfl) (by kernel_rfl) (fun _ _ _ h => h) (Or.inl ⟨by rfl, ?_⟩) (by assumption) ?_
      rotate_left
      · intro w hSw; (try dsimp only at hSw); obtain ⟨hm, hr, hv⟩ := hSw; have d0 := hm.cell; have d1 := hr.cell; go_simp; try with_reducible rfl
      (try simp only [Act.put, List.setIfInBounds_toArray, List.set_cons_zero, List.set_cons_succ])
      refine wpAnyL_take (i := 4) (oi := { dst := some 42, op := Op.indexAddr 64 (Operand.tmp 40) (Operand.tmp 41), type := 0, pos := "table.go:54", after := #[{ on := 2, ground := Ground.data }, { on := 3, ground := Ground.data }], guard := none }) (v := ?_) rfl (by kernel_rfl) (by kernel_rfl) (by kernel_rfl) (fun _ _ _ h => h) (Or.inl ⟨by rfl, ?_⟩) (by assumption) ?_
      rotate_left
      · intro w hSw; (try dsimp only at hSw); obtain ⟨hm, hr, hv⟩ := hSw; have d0 := hm.cell; have d1 := hr.cell; go_simp; try with_reducible rfl
      (try simp only [Act.put, List.setIfInBounds_toArray, List.set_cons_zero, List.set_cons_succ])
      refine wpAnyL_take (i := 5) (oi := { dst := some 43, op := Op.load 2 (Operand.tmp 42), type := 2, pos := "table.go:54", after := #[{ on := 4, ground := Ground.data }], guard := none }) (v := ?_) rfl (by kernel_rfl) (by kernel_rfl) (by kernel_rfl) (fun _ _ _ h => h) (Or.inl ⟨by rfl, ?_⟩) (by assumption) ?_
      rotate_left
      · intro w hSw; (try dsimp only at hSw); obtain ⟨hm, hr, hv⟩ := hSw; have d0 := hm.cell; have d1 := hr.cell; go_simp; try with_reducible rfl
      (try simp only [Act.put, List.setIfInBounds_toArray, List.set_cons_zero, List.set_cons_succ])
      refine wpAnyL_take (i := 6) (oi := { dst := some 44, op := Op.move (Operand.tmp 9), type := 2, pos := "table.go:54", after := #[], guard := none }) (v := ?_) rfl (by kernel_rfl) (by kernel_rfl) (by kernel_rfl) (fun _ _ _ h => h) (Or.inl ⟨by rfl, ?_⟩) (by assumption) ?_
      rotate_left
      · intro w hSw; (try dsimp only at hSw); obtain ⟨hm, hr, hv⟩ := hSw; have d0 := hm.cell; have d1 := hr.cell; go_simp; try with_reducible rfl
      (try simp only [Act.put, List.setIfInBounds_toArray, List.set_cons_zero, List.set_cons_succ])
      refine wpAnyL_take (i := 7) (oi := { dst := some 45, op := Op.call { callee := Callee.builtin Builtin.max, args := #[Operand.tmp 43, Operand.tmp 44], argTypes := #[2, 2] }, type := 2, pos := "table.go:54", after := #[{ on := 5, ground := Ground.data }, { on := 6, ground := Ground.data }], guard := none }) (v := ?_) rfl (by kernel_rfl) (by kernel_rfl) (by kernel_rfl) (fun _ _ _ h => h) (Or.inl ⟨by rfl, ?_⟩) (by assumption) ?_
      rotate_left
      · intro w hSw; (try dsimp only at hSw); obtain ⟨hm, hr, hv⟩ := hSw; have d0 := hm.cell; have d1 := hr.cell; go_simp; try with_reducible rfl
      (try simp only [Act.put, List.setIfInBounds_toArray, List.set_cons_zero, List.set_cons_succ])
      refine wpAnyL_take (i := 8) (oi := { dst := some 46, op := Op.indexAddr 64 (Operand.tmp 38) (Operand.tmp 39), type := 0, pos := "table.go:54", after := #[{ on := 0, ground := Ground.data }, { on := 1, ground := Ground.data }, { on := 0, ground := Ground.phase }, { on := 1, ground := Ground.phase }, { on := 2, ground := Ground.phase }, { on := 3, ground := Ground.phase }, { on := 4, ground := Ground.phase }, { on := 5, ground := Ground.phase }, { on := 6, ground := Ground.phase }, { on := 7, ground := Ground.phase }], guard := none }) (v := ?_) rfl (by kernel_rfl) (by kernel_rfl) (by kernel_rfl) (fun _ _ _ h => h) (Or.inl ⟨by rfl, ?_⟩) (by assumption) ?_
      rotate_left
      · intro w hSw; (try dsimp only at hSw); obtain ⟨hm, hr, hv⟩ := hSw; have d0 := hm.cell; have d1 := hr.cell; go_simp; try with_reducible rfl
      (try simp only [Act.put, List.setIfInBounds_toArray, List.set_cons_zero, List.set_cons_succ])
      refine wpAnyL_ready (rs := [9]) (by kernel_rfl) (by simp) ?_
      refine AllReadyL.last (o := { dst := none, op := Op.store 2 (Operand.tmp 46) (Operand.tmp 45), type := 0, pos := "table.go:54", after := #[{ on := 8, ground := Ground.data }, { on := 7, ground := Ground.data }, { on := 0, ground := Ground.phase }, { on := 1, ground := Ground.phase }, { on := 2, ground := Ground.phase }, { on := 3, ground := Ground.phase }, { on := 4, ground := Ground.phase }, { on := 5, ground := Ground.phase }, { on := 6, ground := Ground.phase }, { on := 7, ground := Ground.phase }], guard := none }) rfl (fun K hK => ?_)
      have cb := hHeld.2.2
      have fb := M7a.out.blk.frozen pre.length
      go_simp
      have M7b := Lib.hid (M7a.out.put (by assumption) HST.out)
      have K7b := Lib.hid (K7a.out.trans (Kpt.setCell _ pre.length (.int .i64 (if tv < sv then sv else tv)) (by omega) (.inl (by omega) : w.heap.size + 2 < w10.heap.size ∨ e ≤ w.heap.size + 2)))
      generalize hwb : w7a.setCell ⟨w.heap.size + 2, pre.length, none⟩ (.int .i64 (if tv < sv then sv else tv)) = wb at *
      clear M7a K7a cb fb hwb hHeld
      refine hK.out _ _ trivial (fun _ => ?_)
      clear hK K
      (try simp only [Act.put, List.setIfInBounds_toArray, List.set_cons_zero, List.set_cons_succ])
      refine wpAnyL_done (by kernel_rfl) ?_ _
      generalize (if tv < sv then sv else tv) = mv at *
      have d1 := M7b.out.rk.cell
      have f1 := M7b.out.rk.frozen
      gi_wp2
      exact ⟨K7b.out.trans (Kpt.setCell (g := M + 1 + 1) wb 0 _ (by omega) (.inl (by omega))), _, (M7b.out.rank (y := (pre.length : Int) + 1) HLN.out HNO.out :)⟩
  case done =>
    rintro e2 Z he2 heZ ⟨v, hm⟩ hD
    dsimp only
    obtain ⟨A', c', rfl, hl, hA⟩ := hm.own.form2 (by have := hm.few; omega)
    have cb := hm.lb.cell
    have hT := Lib.hid hm
    have HD := Lib.hid hD
    have HLL := Lib.hid hl
    have HA := Lib.hid hA
    clear hm hD hl hA
    go_wp2
    rw [HRow.out.2.1]
    exact min_yes (D1 := w10.heap.size) rfl (by omega) HD.out HLL.out (fun ad had => by have := HA.out ad had; omega) hT.out.below
  case stop => exact fun _ _ _ _ _ _ _ h _ => h.elim
end Go.Proofs.Ytjjpfpgjpmedmaa
namespace Go.Proofs.Ytjjpfpgjpmedmaa
open Go.RowKit
/-- The law's variables: an expression and a bundle. -/
structure IV14 (w : World) (u0 u1 u2 u3 u4 u5 u6 u7 u8 : Value) (s : List Int) (X : World) : Prop where
  below : Below w.heap.size w X
  e : B9 X w.heap.size u0 u1 u2 u3 u4 u5 u6 u7 u8
  q : BB X (w.heap.size + 1) 24 s
theorem IV14.keep {w X Y : World} {u0 u1 u2 u3 u4 u5 u6 u7 u8 : Value} {s : List Int} (h : IV14 w u0 u1 u2 u3 u4 u5 u6 u7 u8 s X) (hb : Below X.heap.size X Y) : IV14 w u0 u1 u2 u3 u4 u5 u6 u7 u8 s Y :=
  ⟨h.below.trans (hb.mono h.below.size), h.e.keep hb, h.q.keep hb h.q.lt⟩
theorem IV14.start (w : World) (u0 u1 u2 u3 u4 u5 u6 u7 u8 : Value) (q0 q1 q2 q3 q4 q5 : Int) : IV14 w u0 u1 u2 u3 u4 u5 u6 u7 u8 [q0, q1, q2, q3, q4, q5] ((w.alloc (.cells #[u0, u1, u2, u3, u4, u5, u6, u7, u8] 28)).alloc (.cells #[.int .i64 q0, .int .i64 q1, .int .i64 q2, .int .i64 q3, .int .i64 q4, .int .i64 q5] 24)) := by
  refine ⟨below_two w _ _, ((below_new (w.alloc (.cells #[u0, u1, u2, u3, u4, u5, u6, u7, u8] 28)) _).block w.heap.size (by simp)).trans (heap_new w _), ?_⟩
  have := BB.new (w.alloc (.cells #[u0, u1, u2, u3, u4, u5, u6, u7, u8] 28)) 24 q0 q1 q2 q3 q4 q5
  rwa [World.size_alloc] at this
end Go.Proofs.Ytjjpfpgjpmedmaa
namespace Go.Proofs.Ytjjpfpgjpmedmaa
open Go.RowKit
attribute [local go_sem] Oper.semAt_some
theorem fromE1 {L s : List Int} (h : ckT L s ≠ 0) : fromE L s = ([], ckT L s) := if_pos h
theorem fromE2 {L s : List Int} (h : ckT L s = 0) (h2 : 40 < (offs (fT L s) (VV.all s)).length) : fromE L s = ([], 3) := (if_neg (by simpa using h)).trans (if_pos h2)
theorem fromE3 {L s : List Int} (h : ckT L s = 0) (h2 : ¬ 40 < (offs (fT L s) (VV.all s)).length) : fromE L s = (offs (fT L s) (VV.all s), 0) := (if_neg (by simpa using h)).trans (if_neg h2)
set_option maxRecDepth 100000 in
set_option maxHeartbeats 4000000 in
theorem ffrom_any (A : Option Addr) (n c : Nat) (L : List Int) (q0 q1 q2 q3 q4 q5 : Int) (w : World) (hL : Lst intE w A n c L) : Calls Try.prog 31 #[.slice A n c, .agg #[.int .i64 q0, .int .i64 q1, .int .i64 q2, .int .i64 q3, .int .i64 q4, .int .i64 q5]] w (GivesO (fromE L [q0, q1, q2, q3, q4, q5]) w) := by
  have CK := Lib.hid (fun w' (h : Lst intE w' A n c L) => fcheck_any A n c L q0 q1 q2 q3 q4 q5 w' h)
  have CM := Lib.hid (fun (hz : ckT L [q0, q1, q2, q3, q4, q5] = 0) w' (h : Lst intE w' A n c L) => (by
    obtain ⟨h1, h2, _, h4⟩ := ckT_ok rfl hz
    obtain ⟨⟨h5, h6⟩, h7⟩ := cnt_yes' h1
    exact fmin_any A n c L q0 q1 q2 q3 q4 q5 w' h h5 h6 (by have := h.len; unfold VV.cnt; omega) h4 : Calls Try.prog 57 #[.slice A n c, .agg #[.int .i64 q0, .int .i64 q1, .int .i64 q2, .int .i64 q3, .int .i64 q4, .int .i64 q5]] w' (GivesL ofE (offs (fT L [q0, q1, q2, q3, q4, q5]) (VV.all [q0, q1, q2, q3, q4, q5])) w')))
  have E1 := Lib.hid (fromE1 (L := L) (s := [q0, q1, q2, q3, q4, q5]))
  have E2 := Lib.hid (fromE2 (L := L) (s := [q0, q1, q2, q3, q4, q5]))
  have E3 := Lib.hid (fromE3 (L := L) (s := [q0, q1, q2, q3, q4, q5]))
  obtain ⟨R, hR⟩ : ∃ R, R = fromE L [q0, q1, q2, q3, q4, q5] := ⟨_, rfl⟩
  rw [← hR] at E1 E2 E3 ⊢
  clear hR
  have HB := Lib.hid (below_new w (.cells #[.int .i64 q0, .int .i64 q1, .int .i64 q2, .int .i64 q3, .int .i64 q4, .int .i64 q5] 24))
  have S0 := Lib.hid (BB.new w 24 q0 q1 q2 q3 q4 q5)
  have L0 := Lib.hid (hL.keep HB.out)
  clear hL
  generalize offs (fT L [q0, q1, q2, q3, q4, q5]) (VV.all [q0, q1, q2, q3, q4, q5]) = Os at *
  generalize ckT L [q0, q1, q2, q3, q4, q5] = ck at *
  go_enter Try.func31, Try.ntmps31
  go_upto_region 1 with (fail)
  generalize w.alloc (.cells #[.int .i64 q0, .int .i64 q1, .int .i64 q2, .int .i64 q3, .int .i64 q4, .int .i64 q5] 24) = w1 at *
  obtain ⟨r0, r1, r2, r3, r4, r5⟩ := cells6 S0.out
  go_wp2_with fail
  refine (CK.out _ L0.out).mono ?_
  rintro ev w2 ⟨rfl, nb⟩
  have B2 := Lib.hid (HB.out.trans (nb.mono HB.out.size))
  have S2 := Lib.hid (S0.out.keep nb S0.out.lt)
  have L2 := Lib.hid (L0.out.keep nb)
  clear nb r0 r1 r2 r3 r4 r5 HB S0 L0 CK
  by_cases h0 : ck = 0
  · have d0 : (ck == 0) = true := beq_iff_eq.2 h0
    obtain ⟨r0, r1, r2, r3, r4, r5⟩ := cells6 S2.out
    go_wp2_with fail
    refine (CM.out h0 _ L2.out).mono ?_
    rintro ev w3 ⟨A3, n3, c3, rfl, hl3, nb⟩
    have B3 := Lib.hid (B2.out.trans (nb.mono B2.out.size))
    have L3 := Lib.hid hl3
    have hlen := hl3.len
    have hfew := hl3.few
    clear nb r0 r1 r2 r3 r4 r5 B2 S2 L2 CM hl3
    by_cases h1 : 40 < n3
    · have HE := Lib.hid (E2.out h0 (by omega))
      have d1 : decide ((40 : Int) < n3) = true := decide_eq_true (by omega)
      clear hlen
      go_wp2
      go_ret2
      rw [HE.out]
      exact ⟨none, 0, 0, rfl, Lst.nil _, B3.out⟩
    · have HE := Lib.hid (E3.out h0 (by omega))
      have d1 : decide ((40 : Int) < n3) = false := decide_eq_false (by omega)
      clear hlen
      go_wp2
      go_ret2
      rw [HE.out]
      exact ⟨A3, n3, c3, rfl, L3.out, B3.out⟩
  · have d0 : (ck == 0) = false := beq_eq_false_iff_ne.2 h0
    have HE := Lib.hid (E1.out h0)
    clear CM E1 E2 E3
    go_wp2
    go_ret2
    rw [HE.out]
    exact ⟨none, 0, 0, rfl, Lst.nil _, B2.out⟩
theorem offersE1 {n : ME.Nd} {s : List Int} (h : (tabE n s).2 ≠ 0) : offersE n s = ([], (tabE n s).2) := if_pos h
theorem offersE2 {n : ME.Nd} {s : List Int} (h : (tabE n s).2 = 0) : offersE n s = fromE (tabE n s).1 s := if_neg (by simpa using h)
set_option maxRecDepth 100000 in
set_option maxHeartbeats 4000000 in
theorem foffers_any (x : NT) (hx : x.size ≤ 2000000) (q0 q1 q2 q3 q4 q5 : Int) (w : World) (ok : Nat → Prop) (hok : x.Ok w ok) : Calls Try.prog 30 #[x.val, .agg #[.int .i64 q0, .int .i64 q1, .int .i64 q2, .int .i64 q3, .int .i64 q4, .int .i64 q5]] w (GivesO (offersE x.n [q0, q1, q2, q3, q4, q5]) w) := by
  have CT := Lib.hid (fun w' (hb : Below w.heap.size w w') => table_any x hx q0 q1 q2 q3 q4 q5 w' ok (hok.below hb))
  have CF := Lib.hid (fun A n c L w' h => ffrom_any A n c L q0 q1 q2 q3 q4 q5 w' h)
  have E1 := Lib.hid (offersE1 (n := x.n) (s := [q0, q1, q2, q3, q4, q5]))
  have E2 := Lib.hid (offersE2 (n := x.n) (s := [q0, q1, q2, q3, q4, q5]))
  obtain ⟨R, hR⟩ : ∃ R, R = offersE x.n [q0, q1, q2, q3, q4, q5] := ⟨_, rfl⟩
  rw [← hR] at E1 E2 ⊢
  clear hR
  generalize tabE x.n [q0, q1, q2, q3, q4, q5] = T at *
  obtain ⟨TL, te⟩ := T
  dsimp only at E1 E2
  obtain ⟨o, bb, v, A, cc, k⟩ := x
  obtain ⟨x0, x1, x2, x3, x4, x5, rfl⟩ := six hok.six
  rw [NT.val_lit] at CT ⊢
  clear hok hx
  have I0 := Lib.hid (IV14.start w (.int .i64 o) (.int .i64 x0) (.int .i64 x1) (.int .i64 x2) (.int .i64 x3) (.int .i64 x4) (.int .i64 x5) (.int .i64 v) (.slice A k.len cc) q0 q1 q2 q3 q4 q5)
  go_enter Try.func30, Try.ntmps30
  go_upto_region 1 with (fail)
  generalize (w.alloc (.cells #[.int .i64 o, .int .i64 x0, .int .i64 x1, .int .i64 x2, .int .i64 x3, .int .i64 x4, .int .i64 x5, .int .i64 v, .slice A k.len cc] 28)).alloc (.cells #[.int .i64 q0, .int .i64 q1, .int .i64 q2, .int .i64 q3, .int .i64 q4, .int .i64 q5] 24) = w1 at *
  obtain ⟨e0, e1, e2, e3, e4, e5, e6, e7, e8⟩ := I0.out.e.cells
  obtain ⟨r0, r1, r2, r3, r4, r5⟩ := cells6 I0.out.q
  go_wp2_with fail
  refine (CT.out _ I0.out.below).mono ?_
  rintro ev w2 ⟨A2, n2, c2, rfl, hl2, nb⟩
  have I2 := Lib.hid (I0.out.keep nb)
  have L2 := Lib.hid hl2
  clear nb I0 CT e0 e1 e2 e3 e4 e5 e6 e7 e8 r0 r1 r2 r3 r4 r5 hl2
  dsimp only at L2 ⊢
  by_cases h0 : te = 0
  · have d0 : (te == 0) = true := beq_iff_eq.2 h0
    have HE := Lib.hid (E2.out h0)
    subst h0
    obtain ⟨r0, r1, r2, r3, r4, r5⟩ := cells6 I2.out.q
    go_wp2_with fail
    refine (CF.out A2 n2 c2 TL _ L2.out).mono ?_
    rintro ev w3 ⟨A3, n3, c3, rfl, hl3, nb⟩
    have I3 := Lib.hid (I2.out.keep nb)
    have L3 := Lib.hid hl3
    clear nb r0 r1 r2 r3 r4 r5 I2 L2 CF hl3
    go_wp2
    go_ret2
    rw [HE.out]
    exact ⟨A3, n3, c3, rfl, L3.out, I3.out.below⟩
  · have d0 : (te == 0) = false := beq_eq_false_iff_ne.2 h0
    have HE := Lib.hid (E1.out h0)
    go_wp2
    go_ret2
    rw [HE.out]
    exact ⟨none, 0, 0, rfl, Lst.nil _, I2.out.below⟩
end Go.Proofs.Ytjjpfpgjpmedmaa
namespace Go.Proofs.Ytjjpfpgjpmedmaa
open Go.RowKit
theorem cells_off : Try.prog.cellsOf 60 = 8 := by kernel_rfl
set_option maxRecDepth 100000 in
theorem opens_of : Opens ofE Try.prog 60 := fun H enc W held n cs y h => by
  obtain ⟨xs, m, hm, _, hl, hlen, hf⟩ := DataW.trod_struct Try.underlying60 h
  rw [cells_off] at hl
  have hx : xs.length = 3 := hlen
  obtain ⟨y0, y1, y2, rfl⟩ : ∃ y0 y1 y2, xs = [y0, y1, y2] := by
    match xs, hx with
    | [y0, y1, y2], _ => exact ⟨y0, y1, y2, rfl⟩
  obtain ⟨c0, c1, c2, c3, c4, c5, c6, c7, rfl⟩ : ∃ c0 c1 c2 c3 c4 c5 c6 c7, cs = [c0, c1, c2, c3, c4, c5, c6, c7] := by
    match cs, hl with
    | [c0, c1, c2, c3, c4, c5, c6, c7], _ => exact ⟨c0, c1, c2, c3, c4, c5, c6, c7, rfl⟩
  have u0 : DataW.trod enc Try.prog W 0 (fun _ => true) held m 3 [c0] = some y0 := hf 0 _ rfl
  have u1 : DataW.trod enc Try.prog W 0 (fun _ => true) held m 24 [c1, c2, c3, c4, c5, c6] = some y1 := hf 1 _ rfl
  have u2 : DataW.trod enc Try.prog W 0 (fun _ => true) held m 2 [c7] = some y2 := hf 2 _ rfl
  obtain ⟨o, ho, _, bo⟩ := DataW.trod_int Try.underlying3 u0
  obtain ⟨b, hb, bb, hcs⟩ := bun_of u1
  obtain ⟨v, hv, _, bv⟩ := DataW.trod_int Try.underlying2 u2
  injection ho with ho _
  injection hv with hv _
  obtain ⟨x0, x1, x2, x3, x4, x5, rfl⟩ := six hb
  injection hcs with e0 hcs
  injection hcs with e1 hcs
  injection hcs with e2 hcs
  injection hcs with e3 hcs
  injection hcs with e4 hcs
  injection hcs with e5 _
  subst ho hv e0 e1 e2 e3 e4 e5
  exact ⟨⟨o, x0, x1, x2, x3, x4, x5, v⟩, rfl, bounds_i64 bo, bb x0 (by simp), bb x1 (by simp), bb x2 (by simp), bb x3 (by simp), bb x4 (by simp), bb x5 (by simp), bounds_i64 bv⟩
theorem open_of {H : Type} {enc : TypeId × Value → H} {W : World} {held : Bool} {f : Nat} {v : Value} {y : DataW H × List MemPlace} (h : DataW.trod enc Try.prog W 0 (fun _ => true) held f 22 [v] = some y) :
    ∃ (A : Option Addr) (len cap : Nat) (l : List MF.Of), v = .slice A len cap ∧ LstIn ofE W A len cap l :=
  open_lst Try.underlying22 (by kernel_rfl) opens_of h
end Go.Proofs.Ytjjpfpgjpmedmaa

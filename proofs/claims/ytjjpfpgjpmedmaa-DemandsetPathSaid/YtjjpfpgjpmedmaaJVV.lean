/- VMap, VRaise, VList, VSize, joined: no claim of its own. -/
import Derived.Test.YtjjpfpgjpmedmaaVSteps
import Derived.Test.YtjjpfpgjpmedmaaJB
import Derived.Maps.RangeWalk
import Derived.Maps.OwnOps
import Derived.DeepKeys4
import Derived.WideKeyPair
import Derived.Test.YtjjpfpgjpmedmaaBUnr
import Derived.StillTailTactics
namespace Go.Proofs.Ytjjpfpgjpmedmaa
open Go.RowKit Go.WideMaps
set_option maxRecDepth 100000 in
theorem bLaid : laidOutB Try.prog = true := by kernel_rfl
set_option maxRecDepth 100000 in
theorem bRow : (24 : TypeId) < Try.prog.types.size := of_decide_eq_true (by kernel_rfl)
set_option maxRecDepth 100000 in
theorem bWide : (match Try.prog.underlying 24 with | some (.array _ _) | some (.struct _) => true | _ => false) = true := by kernel_rfl
set_option maxRecDepth 100000 in
theorem bArr : ArrKey Try.prog 24 3 6 := ⟨by kernel_rfl, by kernel_rfl, by kernel_rfl, by kernel_rfl⟩
set_option maxRecDepth 100000 in
theorem bLaw : Maps.Keyed Try.prog 24 := Maps.Keyed.of_law (deep_law_laid bLaid (m := 2) (by omega) bRow (by kernel_rfl) bWide)
set_option maxRecDepth 100000 in
theorem bTypes : ∃ m, Try.prog.types.size = m + 1 := ⟨Try.prog.types.size - 1, (Nat.succ_pred_eq_of_pos (Nat.lt_of_le_of_lt (Nat.zero_le _) bRow)).symm⟩
/-- A bundle as a map's key. -/
def kb (b : List Int) : Lit := .string (keyBytes (b.map (Lit.int .i64)))
structure K4 (b : List Int) : Prop where
  len : b.length = 6
  ok : MB.okB b = true
theorem K4.bu {b : List Int} (h : K4 b) : VV.Bu b := ⟨h.len, fun j hj => (okB_at h.ok (by rw [h.len]; exact hj)).1⟩
theorem wf_small {x : Int} (h : 0 ≤ x) (h' : x ≤ 1000000) : (Lit.int .i64 x).wf = true := WalkArith.wf_i64 (n := x) ⟨by omega, by omega⟩
set_option maxRecDepth 100000 in
theorem keyOf_bun {b : List Int} (h : K4 b) : keyOf Try.prog 24 (aggB b) = some (kb b) := by
  obtain ⟨x0, x1, x2, x3, x4, x5, rfl⟩ := six h.len
  have wa : ∀ k, k < 6 → (Lit.int .i64 (MB.at_ [x0, x1, x2, x3, x4, x5] k)).wf = true := fun k hk => by
    have := okB_at h.ok (k := k) (by simpa using hk)
    exact wf_small this.1 (by omega)
  have w0 := wa 0 (by decide)
  have w1 := wa 1 (by decide)
  have w2 := wa 2 (by decide)
  have w3 := wa 3 (by decide)
  have w4 := wa 4 (by decide)
  have w5 := wa 5 (by decide)
  simp only [MB.at_, List.getD_cons_zero, List.getD_cons_succ] at w0 w1 w2 w3 w4 w5
  have hkt := bArr.keyType bTypes
  obtain ⟨m, hm⟩ := bTypes
  rw [aggB_lit]
  unfold keyOf kb
  simp only [bArr.hu]
  rw [if_pos (by simp [hkt, Value.formed, bArr.hu, bArr.size]), hm]
  unfold Program.keyLits
  simp only [bArr.hu, Value.cells]
  rw [if_pos (by rw [bArr.size]; rfl), show List.range 6 = [0, 1, 2, 3, 4, 5] from rfl, List.mapM_cons, List.mapM_cons, List.mapM_cons, List.mapM_cons, List.mapM_cons, List.mapM_cons, List.mapM_nil]
  simp [bArr.one, Program.keyLits, w0, w1, w2, w3, w4, w5]
theorem kb_inj {b c : List Int} (hb : K4 b) (hc : K4 c) (h : kb b = kb c) : b = c := by
  have e := bLaw.inj (keyOf_bun hb) (h ▸ keyOf_bun hc)
  obtain ⟨x0, x1, x2, x3, x4, x5, rfl⟩ := six hb.len
  obtain ⟨y0, y1, y2, y3, y4, y5, rfl⟩ := six hc.len
  rw [aggB_lit, aggB_lit] at e
  simpa using e
theorem kb_key (b : List Int) : WideAt.IsKeyLit (kb b) := trivial
abbrev DV := DataW Unit
/-- What a map that reads as M looks up. -/
def pick (o : Option Int) (zd : DV) : DV := match o with | some v => .lit (.int .i64 v) | none => zd
structure ReadsM (D : DV) (M : VV.Vm) : Prop where
  isMap : Maps.IsMap D
  supp : ∀ b v, M b = some v → K4 b ∧ 0 ≤ v ∧ v ≤ 1000000
  keys : ∀ kl, Maps.has D kl = true → ∃ b, K4 b ∧ kl = kb b
  at_ : ∀ b, K4 b → ∀ zd, D.atKey (kb b) zd = pick (M b) zd
/-- Block g of w is a map that reads as M. -/
def OwnV (w : World) (g n : Nat) (M : VV.Vm) : Prop := ∃ D : DV, w.ownsMap Try.prog 24 (plainElem Try.prog 2) g n D ∧ ReadsM D M
theorem ReadsM.nil : ReadsM (.map []) (fun _ => none) where
  isMap := Maps.isMap_empty
  supp _ _ h := by simp at h
  keys _ h := by simp [Maps.has] at h
  at_ _ _ _ := rfl
theorem ReadsM.put {D : DV} {M : VV.Vm} (h : ReadsM D M) {b : List Int} (hb : K4 b) {v : Int} (h0 : 0 ≤ v) (h1 : v ≤ 1000000) : ReadsM (D.put (kb b) (.lit (.int .i64 v))) (fun c => if c = b then some v else M c) where
  isMap := h.isMap.put _ _
  supp c x hx := by
    by_cases e : c = b
    · simp only [e, if_true, Option.some.injEq] at hx ⊢
      subst hx
      exact ⟨hb, h0, h1⟩
    · simp only [e, if_false] at hx
      exact h.supp c x hx
  keys kl hk := by
    by_cases e : kl = kb b
    · exact ⟨b, hb, e⟩
    · rw [Maps.has_put_other e] at hk
      exact h.keys kl hk
  at_ c hc zd := by
    by_cases e : c = b
    · subst e
      simp only [if_true]
      rw [Maps.atKey_put_same h.isMap (kb_key c)]
      rfl
    · simp only [e, if_false]
      rw [Maps.atKey_put_other (fun k => e (kb_inj hc hb k))]
      exact h.at_ c hc zd
theorem ReadsM.get {D : DV} {M : VV.Vm} (h : ReadsM D M) {b : List Int} (hb : K4 b) {c : Int} (hc : D.atKey (kb b) (.lit (.int .i64 0)) = .lit (.int .i64 c)) : c = (M b).getD 0 := by
  rw [h.at_ b hb] at hc
  unfold pick at hc
  cases hm : M b with
  | none => rw [hm] at hc; simp at hc; exact hc.symm
  | some v => rw [hm] at hc; simp at hc; exact hc.symm
theorem OwnV.kept {w w' : World} {row : Option Nat} {g n : Nat} {M : VV.Vm} (h : OwnV w g n M) (hg : w.grownBy w' row) (hne : some g ≠ row) : OwnV w' g n M :=
  let ⟨D, a, b⟩ := h
  ⟨D, a.kept hg hne, b⟩
theorem OwnV.lt {w : World} {g n : Nat} {M : VV.Vm} (h : OwnV w g n M) : g < w.heap.size := let ⟨_, a, _⟩ := h; a.lt
end Go.Proofs.Ytjjpfpgjpmedmaa
namespace Go.Proofs.Ytjjpfpgjpmedmaa
open Go.RowKit
theorem grown_of {w w' : World} (hb : Below w.heap.size w w') : w.grownBy w' none := ⟨hb.os, hb.tape, hb.output, hb.size, fun k hk _ => hb.block k hk⟩
end Go.Proofs.Ytjjpfpgjpmedmaa
namespace Go.Proofs.Ytjjpfpgjpmedmaa
open Go.RowKit
/-- What has been listed when left is still to come. -/
structure ListInv (M : VV.Vm) (D : DV) (left : Lit → Bool) (S : VV.St) : Prop where
  mem : ∀ b x, (b, x) ∈ S ↔ M b = some x ∧ left (kb b) = false
  has : ∀ kl, left kl = true → Maps.has D kl = true
  len : S.length + 0 ≤ S.length
theorem ListInv.start {M : VV.Vm} {D : DV} (h : ReadsM D M) : ListInv M D (Maps.has D) [] where
  mem b x := by
    refine ⟨fun e => by simp at e, fun ⟨e, g⟩ => ?_⟩
    have hk := (h.supp b x e).1
    have : Maps.has D (kb b) = true := Maps.has_true_of_atKey fun zd => by rw [h.at_ b hk, e]; rfl
    rw [this] at g
    cases g
  has _ h := h
  len := Nat.le_refl _
theorem ListInv.step {M : VV.Vm} {D : DV} (hR : ReadsM D M) {left : Lit → Bool} {S : VV.St} (h : ListInv M D left S) {b : List Int} (hb : K4 b) {c : Int} (hl : left (kb b) = true) (hc : M b = some c) : ListInv M D (fun z => left z && !z.sameKey (kb b)) (S ++ [(b, c)]) where
  mem b' x := by
    rw [List.mem_append, List.mem_singleton, h.mem]
    constructor
    · rintro (⟨e, g⟩ | e)
      · exact ⟨e, by simp [g]⟩
      · simp only [Prod.mk.injEq] at e
        obtain ⟨rfl, rfl⟩ := e
        exact ⟨hc, by simp [WideAt.sameKey_self (kb_key b')]⟩
    · rintro ⟨e, g⟩
      by_cases hs : b' = b
      · subst hs
        rw [hc] at e
        injection e with e
        exact .inr (by rw [e])
      · refine .inl ⟨e, ?_⟩
        have hne : (kb b').sameKey (kb b) = false := Maps.sameKey_ne fun k => hs (kb_inj (hR.supp b' x e).1 hb k)
        simpa [hne] using g
  has kl hk := h.has kl (by simp at hk; exact hk.1)
  len := Nat.le_refl _
theorem ListInv.done {M : VV.Vm} {D : DV} {left : Lit → Bool} {S : VV.St} (h : ListInv M D left S) (hl : ∀ kl, left kl = false) : VV.Entries M S := fun b x => by rw [h.mem, hl]; exact ⟨fun e => e.1, fun e => ⟨e, rfl⟩⟩
end Go.Proofs.Ytjjpfpgjpmedmaa
namespace Go.Proofs.Ytjjpfpgjpmedmaa
open Go.RowKit
theorem strike_len (N : Nat) : ∀ l : List Nat, l.Pairwise (fun a b => a ≠ b) → l.length ≤ (l.filter fun x => decide (x ≠ N)).length + 1
  | [], _ => by simp
  | a :: r, h => by
    obtain ⟨h1, h2⟩ := List.pairwise_cons.1 h
    by_cases e : a = N
    · subst e
      have : r.filter (fun x => decide (x ≠ a)) = r := List.filter_eq_self.2 fun x hx => by simp [(h1 x hx).symm]
      rw [List.filter_cons_of_neg (by simp), this]
      simp
    · rw [List.filter_cons_of_pos (by simp [e])]
      have := strike_len N r h2
      simp only [List.length_cons]
      omega
theorem few_below : ∀ (N : Nat) (l : List Nat), l.Pairwise (fun a b => a ≠ b) → (∀ x ∈ l, x < N) → l.length ≤ N
  | 0, l, _, h => by
    cases l with
    | nil => simp
    | cons a r => exact absurd (h a List.mem_cons_self) (Nat.not_lt_zero _)
  | N + 1, l, hp, h => by
    have h1 := strike_len N l hp
    have h2 := few_below N (l.filter fun x => decide (x ≠ N)) (hp.filter _) fun x hx => by
      obtain ⟨a, b⟩ := List.mem_filter.1 hx
      have := h x a
      simp at b
      omega
    omega
open Classical in
noncomputable def unkb (kl : Lit) : List Int := if h : ∃ b, K4 b ∧ kl = kb b then h.choose else VV.Z
theorem unkb_eq {b : List Int} (hb : K4 b) : unkb (kb b) = b := by
  have h : ∃ c, K4 c ∧ kb b = kb c := ⟨b, hb, rfl⟩
  unfold unkb
  rw [dif_pos h]
  exact (kb_inj hb h.choose_spec.1 h.choose_spec.2).symm
theorem ReadsM.small {D : DV} {M : VV.Vm} (h : ReadsM D M) (ht : ∃ es, D = .map es ∧ es.Pairwise (fun p q => p.1 ≠ q.1) ∧ ∀ p ∈ es, WideAt.IsKeyLit p.1) {s : List Int} (hs : K4 s) (hM : ∀ b v, M b = some v → VV.Le b s) : Maps.size D ≤ 15625 := by
  obtain ⟨es, rfl, hp, hik⟩ := ht
  have key : ∀ p ∈ es, ∃ b, K4 b ∧ p.1 = kb b ∧ VV.Le b s := fun p hpm => by
    have hh : ∀ b, K4 b → p.1 = kb b → Maps.has (.map es : DV) (kb b) = true := fun b _ e => by
      rw [Maps.has_eq]
      exact List.any_eq_true.2 ⟨p, hpm, by rw [e]; exact WideAt.sameKey_self (kb_key b)⟩
    have hk : Maps.has (.map es : DV) p.1 = true := by
      rw [Maps.has_eq]
      exact List.any_eq_true.2 ⟨p, hpm, WideAt.sameKey_self (hik p hpm)⟩
    obtain ⟨b, hb, e⟩ := h.keys _ hk
    refine ⟨b, hb, e, ?_⟩
    cases hm : M b with
    | none =>
      have := Maps.has_false_of_atKey (D := (.map es : DV)) (k := kb b) fun z => by rw [h.at_ b hb, hm]; rfl
      rw [hh b hb e] at this
      cases this
    | some v => exact hM b v hm
  have hl : (es.map fun p => VV.rank s (unkb p.1)).length ≤ VV.cnt s := by
    refine few_below _ _ (List.pairwise_map.2 (hp.imp_of_mem fun {p q} hpm hqm hne e => ?_)) fun x hx => ?_
    · obtain ⟨b, hb, e1, l1⟩ := key p hpm
      obtain ⟨c, hc, e2, l2⟩ := key q hqm
      rw [e1, e2, unkb_eq hb, unkb_eq hc] at e
      apply hne
      rw [e1, e2, ← VV.at_rank hs.bu hb.bu l1, ← VV.at_rank hs.bu hc.bu l2, e]
    · obtain ⟨p, hpm, rfl⟩ := List.mem_map.1 hx
      obtain ⟨b, hb, e1, l1⟩ := key p hpm
      rw [e1, unkb_eq hb]
      exact VV.rank_lt hs.bu hb.bu l1
  rw [List.length_map] at hl
  rw [Maps.size_eq]
  exact Nat.le_trans hl (P_small hs.ok hs.len (Nat.le_refl 6))
theorem OwnV.small {w : World} {g n : Nat} {M : VV.Vm} (h : OwnV w g n M) {s : List Int} (hs : K4 s) (hM : ∀ b v, M b = some v → VV.Le b s) : OwnV w g 15625 M := by
  obtain ⟨D, hown, hrd⟩ := h
  have hsm := hrd.small (hown.entries bLaw) hs hM
  refine ⟨D, ?_, hrd⟩
  obtain ⟨es, clock, hb, F, _, rfl⟩ := hown
  refine ⟨es, clock, hb, F, ?_, rfl⟩
  have e : Maps.size (DataW.map ((es.toList.map (WideElems.rg Try.prog 24 (plainElem Try.prog 2))).foldr DataW.insert []) : DV) = es.size := by simp [Maps.size, length_sorted]
  rw [e] at hsm
  exact hsm
/-- The call's own things: the supply's box gs, the map g, the cell gm that points to it. -/
structure Fr (w : World) (base gs g gm : Nat) (s : List Int) (M : VV.Vm) (wr : World) : Prop where
  sup : BB wr gs 24 s
  cell : wr.cell? ⟨gm, 0, none⟩ = some (.map (some g))
  cellLt : gm < wr.heap.size
  own : OwnV wr g 15625 M
  low : base ≤ g
  nes : gs ≠ g
  nem : gm ≠ g
  below : Below base w wr
theorem Fr.keep {w wr w' : World} {base gs g gm : Nat} {s : List Int} {M : VV.Vm} (h : Fr w base gs g gm s M wr) (hb : Below wr.heap.size wr w') : Fr w base gs g gm s M w' where
  sup := h.sup.keep hb h.sup.lt
  cell := (hb.cell (p := ⟨gm, 0, none⟩) h.cellLt).trans h.cell
  cellLt := Nat.lt_of_lt_of_le h.cellLt hb.size
  own := h.own.kept (grown_of hb) (by simp)
  low := h.low
  nes := h.nes
  nem := h.nem
  below := h.below.trans (hb.mono (Nat.le_of_lt (Nat.lt_of_le_of_lt h.low h.own.lt)))
theorem Fr.raise {w wr w' : World} {base gs g gm : Nat} {s : List Int} {M M' : VV.Vm} {n : Nat} (h : Fr w base gs g gm s M wr) (hs : K4 s) (hM : ∀ b v, M' b = some v → VV.Le b s) (hO : OwnV w' g n M') (hg : wr.grownBy w' (some g)) : Fr w base gs g gm s M' w' where
  sup := ⟨(hg.block gs h.sup.lt (fun e => h.nes (by simpa using e))).trans h.sup.1, h.sup.2⟩
  cell := by
    rw [← h.cell]
    unfold World.cell?
    rw [hg.block gm h.cellLt (fun e => h.nem (by simpa using e))]
  cellLt := Nat.lt_of_lt_of_le h.cellLt hg.size
  own := hO.small hs hM
  low := h.low
  nes := h.nes
  nem := h.nem
  below := h.below.grown hg (Nat.le_of_lt (Nat.lt_of_le_of_lt h.low h.own.lt)) (fun k hk => by injection hk with hk; rw [← hk]; exact h.low)
end Go.Proofs.Ytjjpfpgjpmedmaa

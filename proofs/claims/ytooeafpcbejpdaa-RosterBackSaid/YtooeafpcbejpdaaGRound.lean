/- A region that draws its order, in a round: one walk in the text's order serves; quiet operations first, then what waits for all of them; or every order, state by state. No claim of its own. -/
import Derived.Test.YtooeafpcbejpdaaGIter
import Derived.Deep.QuietTactic
import Derived.BigQuiet
import Derived.StillTail
import Derived.Lib.QuietBelow
namespace Go.Proofs.Ytooeafpcbejpdaa
open Go.RowKit
section
variable {P : Program} {ops : Array Oper} {md : Region.Mode} {C : World → Prop} {l n : Nat}
/-- No operation of the region is carried out otherwise in a round. -/
def Plain (ops : Array Oper) : Prop := ∀ (i : Nat) (o : Oper), ops[i]? = some o → ∀ l ρ, o.semAt (some l) ρ = execOp ρ o
theorem op_round {o : Oper} {a : Act} {K : Act → Prop} {K' : Act → World → Prop} {Q' : Exit → Act → World → Prop} {w : World} (hp : ∀ l ρ, o.semAt (some l) ρ = execOp ρ o) (hw : C w) (h : ∀ a w', C w' → K a → K' a w') (hh : o.quiet P a C K) :
    o.wpIn (Fence.wide.inRound l) n P a w K' Q' := by
  obtain ⟨v, h1, h2⟩ := hh
  have h3 := h1 w hw
  unfold Oper.quietAt at h3
  refine ⟨fun _ _ => trivial, ?_⟩
  show o.uponIn (Fence.wide.inRound l) n P a K' Q' ((o.semAt (some l) a.eval).run P w)
  rw [hp]
  generalize (execOp a.eval o).run P w = r at *
  cases r with
  | halt x w' => simp only [Oper.quietUpon] at h3
  | ok x w' =>
    cases x <;> simp only [Oper.quietUpon] at h3 <;> simp only [Oper.uponIn]
    case value u =>
      obtain ⟨rfl, rfl⟩ := h3
      exact h _ _ hw h2
    case skip =>
      obtain ⟨rfl, rfl⟩ := h3
      exact h _ _ hw h2
    case enter f args =>
      obtain ⟨rfl, hc⟩ := h3
      refine ⟨(fun e => by cases e), (callsIn_wide.2 hc).mono fun e w'' he => ?_⟩
      obtain ⟨rfl, hw''⟩ := he
      exact h _ _ hw'' h2
theorem opIn_round {i : Nat} {a : Act} {K : Act → Prop} {K' : Act → World → Prop} {Q' : Exit → Act → World → Prop} {w : World} (hp : Plain ops) (hC : C w) (h : ∀ a w', C w' → K a → K' a w') (hh : qOp P ops C i K a) :
    wpOpIn (Fence.wide.inRound l) n P ops Q' i K' a w := by
  unfold qOp at hh
  unfold wpOpIn
  split
  · next ho => simp only [ho] at hh; exact h _ _ hC hh
  · next o ho =>
    simp only [ho] at hh
    split
    · next hw => simp only [hw, if_true] at hh; exact op_round (hp i o ho) hC h hh
    · next hw => simp only [hw] at hh; exact ⟨fun _ _ => trivial, h _ _ hC hh⟩
theorem anyIn_round {Q : Act → Prop} {Q' : Exit → Act → World → Prop} (hp : Plain ops) (hQ : ∀ a w, C w → Q a → Q' .normal a w) : ∀ (fuel : Nat) (listed : Array Bool) (a : Act) (w : World), C w →
    wpAnyQ P md ops C Q fuel listed a → wpAnyIn (Fence.wide.inRound l) n P md ops Q' fuel listed a w
  | 0, _, _, _, hw, h => ⟨h.1, hQ _ _ hw h.2⟩
  | fuel + 1, _, _, _, hw, h => ⟨fun h0 => hQ _ _ hw (h.1 h0), fun i hi => opIn_round hp hw (fun a' w' hw' => anyIn_round hp hQ fuel _ a' w' hw') (h.2 i hi)⟩
/-- One walk of the text's order serves every order, in a round. -/
theorem round_quiet {id : Nat} {Q : Exit → Act → World → Prop} {a : Act} {w : World} {os : List Oper} (hp : Plain os.toArray) (hm : P.follows .mixedOrders = true) (hB : Region.lexB .any os.toArray = true) (hC : C w.drew)
    (h : wpQuiet P os.toArray C (fun a' => ∀ w', C w' → Q .normal a' w') os a) : (Code.region id os.toArray true).wpIn (Fence.wide.inRound l) n P Q a w := by
  simp only [Region.lexB, Bool.and_eq_true] at hB
  refine wpIn_region_any hm (anyIn_round (C := C) (Q := fun a' => ∀ w', C w' → Q .normal a' w') hp (fun _ w' hw' h => h w' hw') _ _ _ _ hC ?_)
  have := wpAnyQ_lex (P := P) (C := C) (md := .any) hB.1 os 0 (Array.replicate os.length false) a (fun j => by simp) (by simpa using hB.2) h
  simpa using this
def noDefer (ops : Array Oper) : Bool := ops.all fun o => match o.op with | .defer _ => false | _ => true
theorem plain_of {ops : Array Oper} (h : noDefer ops = true) : Plain ops := fun i o ho l ρ => Oper.semAt_eq (some l) ρ o fun c hc => by
  unfold noDefer at h
  rw [Array.all_eq_true] at h
  obtain ⟨hlt, he⟩ := Array.getElem?_eq_some_iff.1 ho
  have := h i hlt
  rw [he, hc] at this
  cases this
end
section
variable {P : Program} {ops hops : Array Oper} {md : Region.Mode} {C : World → Prop} {l m : Nat}
/-- On every way through the first n, while one of them may come up, only such may; behind them one after another. -/
def treeB (md : Region.Mode) (ops hops : Array Oper) (n g : Nat) : Nat → List Bool → Bool
  | 0, r => Region.seqB md ops g n (r ++ List.replicate g false).toArray
  | f + 1, r => if (Region.ready md hops r.toArray).isEmpty then Region.seqB md ops g n (r ++ List.replicate g false).toArray
    else Region.ready md ops (r ++ List.replicate g false).toArray == Region.ready md hops r.toArray && (Region.ready md hops r.toArray).all fun i => treeB md ops hops n g f (r.set i true)
theorem seqIn {F : Fence} {Q' : Exit → Act → World → Prop} : ∀ (tl : List Oper) (k fuel : Nat) (listed : Array Bool) (a : Act) (w : World), (∀ j, tl[j]? = ops[k + j]?) →
    Region.seqB md ops tl.length k listed = true → tl.length ≤ fuel → wpListIn F m P ops Q' tl a w → wpAnyIn F m P md ops Q' fuel listed a w
  | [], k, fuel, listed, a, w, _, hB, _, h => by
    have h0 : Region.ready md ops listed = [] := by simpa [Region.seqB] using hB
    cases fuel with
    | zero => exact ⟨h0, h⟩
    | succ fuel => exact ⟨fun _ => h, fun i hi => by rw [h0] at hi; cases hi⟩
  | o :: tl, k, fuel, listed, a, w, hl, hB, hf, h => by
    obtain ⟨fuel, rfl⟩ : ∃ f, fuel = f + 1 := ⟨fuel - 1, by simp only [List.length_cons] at hf; omega⟩
    have h0 : ops[k]? = some o := by simpa using (hl 0).symm
    simp only [List.length_cons, Region.seqB, Bool.and_eq_true, decide_eq_true_eq] at hB hf
    refine ⟨fun h1 => (by rw [hB.1] at h1; cases h1), fun i hi => ?_⟩
    rw [hB.1] at hi
    obtain rfl : i = k := by simpa using hi
    have hw : wpOpIn F m P ops Q' i (wpListIn F m P ops Q' tl) a w := by unfold wpOpIn; simp only [h0]; exact h
    exact wpOpIn_mono (fun a' w' h' => seqIn tl (i + 1) fuel _ a' w' (fun j => by have := hl (j + 1); simpa [Nat.add_assoc, Nat.add_comm 1 j] using this) hB.2 (by omega) h') hw
theorem ready_lt {listed : Array Bool} {i : Nat} (h : i ∈ Region.ready md hops listed) : i < hops.size := by
  unfold Region.ready at h
  exact List.mem_range.1 (List.mem_filter.1 h).1
theorem headOp {i : Nat} {a : Act} {K : Act → Prop} {K' : Act → World → Prop} {Q' : Exit → Act → World → Prop} {w : World} (hp : Plain hops) (hg : ∀ o, hops[i]? = some o → o.guard = none) (hi : hops[i]? = ops[i]?)
    (hC : C w) (h : ∀ a w', C w' → K a → K' a w') (hh : qOp P hops C i K a) : wpOpIn (Fence.wide.inRound l) m P ops Q' i K' a w := by
  unfold qOp at hh
  unfold wpOpIn
  rw [← hi]
  split
  · next ho => simp only [ho] at hh; exact h _ _ hC hh
  · next o ho =>
    have hgo := hg o ho
    simp only [ho, Region.wanted, hgo, if_true] at hh ⊢
    exact op_round (hp i o ho) hC h hh
theorem headIn {n g : Nat} {tl : List Oper} {Q' : Exit → Act → World → Prop} (hp : Plain hops) (hg : ∀ (i : Nat) o, hops[i]? = some o → o.guard = none) (hn : hops.size = n) (hi : ∀ i, i < n → hops[i]? = ops[i]?)
    (htl : ∀ j, tl[j]? = ops[n + j]?) (hgl : tl.length = g) :
    ∀ (fuel : Nat) (r : List Bool) (a : Act) (w : World), treeB md ops hops n g fuel r = true → r.length = n → C w → wpAnyQ P md hops C (fun a' => ∀ w', C w' → wpListIn (Fence.wide.inRound l) m P ops Q' tl a' w') fuel r.toArray a →
      wpAnyIn (Fence.wide.inRound l) m P md ops Q' (fuel + g) (r ++ List.replicate g false).toArray a w := by
  intro fuel
  induction fuel with
  | zero =>
    intro r a w hb hr hC h
    exact seqIn tl n _ _ a w htl (by rw [hgl]; exact hb) (by omega) (h.2 w hC)
  | succ fuel ih =>
    intro r a w hb hr hC h
    by_cases h0 : Region.ready md hops r.toArray = []
    · rw [treeB, if_pos (by simpa using h0)] at hb
      exact seqIn tl n _ _ a w htl (by rw [hgl]; exact hb) (by omega) (h.1 h0 w hC)
    · rw [treeB, if_neg (by simpa using h0), Bool.and_eq_true] at hb
      obtain ⟨hb1, hb2⟩ := hb
      have he : Region.ready md ops (r ++ List.replicate g false).toArray = Region.ready md hops r.toArray := by simpa using hb1
      rw [show fuel + 1 + g = (fuel + g) + 1 by omega]
      refine ⟨fun h1 => absurd (he.symm.trans h1) h0, fun i hir => ?_⟩
      rw [he] at hir
      have hin : i < n := by have := ready_lt hir; omega
      refine headOp hp (hg i) (hi i hin) hC (fun a' w' hC' h' => ?_) (h.2 i hir)
      have := ih (r.set i true) a' w' (List.all_eq_true.1 hb2 i hir) (by rw [List.length_set]; exact hr) hC' (by simpa using h')
      rw [← List.set_append_left _ _ (by omega)] at this
      simpa using this
/-- One walk of the head in the text's order, one of the tail, serve every order, in a round. -/
theorem round_tail {id : Nat} {Q : Exit → Act → World → Prop} {a : Act} {w : World} (hd tl : List Oper) (hp : Plain hd.toArray) (hg : (hd.all fun o => o.guard.isNone) = true) (hm : P.follows .mixedOrders = true) (hB : Region.lexB .any hd.toArray = true)
    (hT : treeB .any (hd ++ tl).toArray hd.toArray hd.length tl.length hd.length (List.replicate hd.length false) = true) (hC : C w.drew)
    (h : wpQuiet P hd.toArray C (fun a' => ∀ w', C w' → wpListIn (Fence.wide.inRound l) m P (hd ++ tl).toArray Q tl a' w') hd a) : (Code.region id (hd ++ tl).toArray true).wpIn (Fence.wide.inRound l) m P Q a w := by
  simp only [Region.lexB, Bool.and_eq_true] at hB
  refine wpIn_region_any hm ?_
  have hq := wpAnyQ_lex (P := P) (C := C) (md := .any) hB.1 hd 0 (Array.replicate hd.length false) a (fun j => by simp) (by simpa using hB.2) h
  have hr : (Array.replicate hd.length false) = (List.replicate hd.length false).toArray := by simp
  rw [hr] at hq
  have := headIn (ops := (hd ++ tl).toArray) (tl := tl) (Q' := Q) (m := m) (l := l) hp (fun i o ho => by
      have := List.all_eq_true.1 hg o (by simpa using Array.mem_of_getElem? ho)
      simpa using this) (by simp) (fun i hi => by simp [List.getElem?_append_left hi]) (fun j => by simp [List.getElem?_append_right]) rfl hd.length _ a w.drew hT (by simp) hC hq
  simpa [List.replicate_append_replicate] using this
theorem round_cut {id : Nat} {Q : Exit → Act → World → Prop} {a : Act} {w : World} {os : List Oper} (k : Nat) (hp : noDefer (os.take k).toArray = true) (hg : ((os.take k).all fun o => o.guard.isNone) = true) (hm : P.follows .mixedOrders = true) (hB : Region.lexB .any (os.take k).toArray = true)
    (hT : treeB .any os.toArray (os.take k).toArray (os.take k).length (os.drop k).length (os.take k).length (List.replicate (os.take k).length false) = true) (hC : C w.drew)
    (h : wpQuiet P (os.take k).toArray C (fun a' => ∀ w', C w' → wpListIn (Fence.wide.inRound l) m P os.toArray Q (os.drop k) a' w') (os.take k) a) : (Code.region id os.toArray true).wpIn (Fence.wide.inRound l) m P Q a w := by
  have := round_tail (P := P) (C := C) (l := l) (m := m) (id := id) (Q := Q) (a := a) (w := w) (os.take k) (os.drop k) (plain_of hp) hg hm hB (by rw [List.take_append_drop]; exact hT) hC (by rw [List.take_append_drop]; exact h)
  rwa [List.take_append_drop] at this
end
section
variable {P : Program} {ops : Array Oper} {md : Region.Mode} {l n : Nat} {Q : Exit → Act → World → Prop}
/-- One operation of those that may come up: it hands back v. -/
theorem step_val {i fuel : Nat} {o : Oper} {a : Act} {w w' : World} {v : Value} {rs : List Nat} {listed : Array Bool} (ho : ops[i]? = some o) (hw : Region.wanted o (yielded ops a.tmps) = true)
    (hr : (o.semAt (some l) a.eval).run P w = .ok (.value v) w') (hn : wpAnyIn (Fence.wide.inRound l) n P md ops Q fuel (listed.setIfInBounds i true) (a.put o.dst v) w')
    (hs : AllReadyIn (Fence.wide.inRound l) n P md ops Q fuel listed a w rs) : AllReadyIn (Fence.wide.inRound l) n P md ops Q fuel listed a w (i :: rs) :=
  AllReadyIn.cons ho (fun K hK => by
    rw [if_pos hw]
    refine ⟨fun _ _ => trivial, ?_⟩
    show o.uponIn (Fence.wide.inRound l) n P a K Q ((o.semAt (some l) a.eval).run P w)
    rw [hr]
    exact hK _ _ hn) hs
end
end Go.Proofs.Ytooeafpcbejpdaa

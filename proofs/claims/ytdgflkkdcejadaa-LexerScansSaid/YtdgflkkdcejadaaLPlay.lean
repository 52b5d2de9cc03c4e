/- The two scanners of a law: no claim of its own. -/
import Derived.Test.YtdgflkkdcejadaaLPair
import Derived.Test.YtdgflkkdcejadaaLOpen
import Derived.Test.YtdgflkkdcejadaaLNew
import Derived.Laws.AppendOwnNone
namespace Go.Proofs.Ytdgflkkdcejadaa
open Go.RowKit
theorem quiet_left {P : Program} {f : FuncId} {args : Array Value} {w : World} {n : Nat} {v : Value}
    (h : Calls P f args (w.drewN n) fun e w' => e = .returned v ∧ w.drewN n = w') : Calls P f args (w.drewN n) fun e w'' => e = .returned v ∧ ∃ m, w'' = w.drewN m :=
  h.mono fun _ _ ⟨he, hm⟩ => ⟨he, n, hm.symm⟩
/-- append onto a row of the call's own; what is appended came in, nil or not. -/
theorem wpList_append_opt {P : Program} (w : World) {ops : Array Oper} {rest : List Oper} {o : Oper} {a : Act} {Q : Exit → Act → World → Prop} (hgd : o.guard = none) (s x : Operand) (t : TypeId)
    (ho : o.op = .call { callee := .builtin .append, args := #[s, x], argTypes := #[t, t] })
    (base : Nat) (e : TypeId) (i : TypeInfo) (z : Value) (size bytes : Nat) (ht : P.underlying t = some (.slice e)) (hi : P.info? e = some i) (hz : i.zero = some z)
    (hsize : i.size = size) (hby : i.bytes = bytes) (hzs : z.cells.size = size) (hsz : 0 < size)
    (v : Value) (n : Nat) (xs : List Value) (hs : a.eval s = v) (hown : w.ownsRow base e size v n xs)
    (A : Option Addr) (m c : Nat) (news : List Value) (hx : a.eval x = .slice A m c) (hA : A = none → m = 0 ∧ c = 0) (hl : news.length = m * size) (hnews : ∀ ad, A = some ad → ∀ j u, news[j]? = some u → w.cell? (ad.add j) = some u) (h1 : ∀ u ∈ news, u.oneCell' = true)
    (h63 : n + m ≤ maxLen) (hbytes : (n + m) * bytes ≤ 140737488355328) (hbase : base ≤ w.heap.size)
    (h : ∀ v' w', w'.ownsRow base e size v' (n + m) (xs ++ news) → w.grownBy w' v.ownBlock → wpList P ops Q rest (a.put o.dst v') w') : wpList P ops Q (o :: rest) a w := by
  cases A with
  | none =>
    obtain ⟨rfl, rfl⟩ := hA rfl
    have hn : news = [] := List.eq_nil_of_length_eq_zero (by rw [hl]; simp)
    subst hn
    exact wpList_append_own_none hgd s x t ho base e i size ht hi v n xs hs hown hx (h v w (by simpa using hown) (World.grownBy.refl _ _))
  | some ad => exact wpList_append_own w hgd s x t ho base e i z size bytes ht hi hz hsize hby hzs hsz v n xs hs hown ad m c news hx hl (hnews ad rfl) h1 h63 hbytes hbase fun v' w' a1 a2 _ => h v' w' a1 a2
/-- Both scanners stand alike. -/
structure Play (B gp gr : Nat) (W : Option Addr) (wn wc : Nat) (L0 : List Tk) (w0 : World) (us : List Tk) (er : Int) (wr : World) : Prop where
  sp : SP (fun k => k = gr ∨ k = gp) wr gp us er
  sr : SR (fun k => k = gr ∨ k = gp) wr gr us er
  was : Tks wr W wn wc L0
  wfar : ∀ ad, W = some ad → ¬ (ad.block = gr ∨ ad.block = gp)
  below : Below B w0 wr
  fine : AllFine us
  inv : er ≠ 0 → us = []
  ne_ : gr ≠ gp
  lo : B ≤ gr ∧ B ≤ gp
section
variable {B gp gr : Nat} {W : Option Addr} {wn wc : Nat} {L0 : List Tk} {w0 : World} {us us' : List Tk} {er er' : Int} {wr w1 w2 : World}
theorem Play.size (h : Play B gp gr W wn wc L0 w0 us er wr) : B ≤ wr.heap.size := Nat.le_trans h.lo.2 (Nat.le_of_lt h.sp.lt)
theorem Play.keep (h : Play B gp gr W wn wc L0 w0 us er wr) (hb : Below wr.heap.size wr w1) : Play B gp gr W wn wc L0 w0 us er w1 :=
  ⟨h.sp.keep hb, h.sr.keep hb, h.was.keep hb, h.wfar, h.below.trans (hb.mono h.size), h.fine, h.inv, h.ne_, h.lo⟩
theorem SP.other {bad : Nat → Prop} {w w' : World} {g g' : Nat} {ts : List Tk} {e : Int} (h : SP bad w g ts e) (hg : w.grownBy w' (some g')) (hb : bad g') (hne : g ≠ g') : SP bad w' g ts e := by
  obtain ⟨A, n, c, h1, h2⟩ := h; exact ⟨A, n, c, h1.other hg hb hne, h2⟩
theorem SR.other {bad : Nat → Prop} {w w' : World} {g g' : Nat} {ts : List Tk} {e : Int} (h : SR bad w g ts e) (hg : w.grownBy w' (some g')) (hb : bad g') (hne : g ≠ g') : SR bad w' g ts e := by
  obtain ⟨A, n, c, L, h1, h2⟩ := h; exact ⟨A, n, c, L, h1.other hg hb hne, h2⟩
/-- Behind the package's call and the reference's. -/
theorem Play.both (h : Play B gp gr W wn wc L0 w0 us er wr) (g1 : wr.grownBy w1 (some gp)) (s1 : SP (fun k => k = gr ∨ k = gp) w1 gp us' er') (g2 : w1.grownBy w2 (some gr)) (s2 : SR (fun k => k = gr ∨ k = gp) w2 gr us' er') (hf : AllFine us') (hi : er' ≠ 0 → us' = []) :
    Play B gp gr W wn wc L0 w0 us' er' w2 :=
  ⟨s1.other g2 (.inl rfl) (Ne.symm h.ne_), s2, (h.was.far (bad := fun k => k = gr ∨ k = gp) h.wfar g1 (.inr rfl)).far (bad := fun k => k = gr ∨ k = gp) h.wfar g2 (.inl rfl), h.wfar,
    (h.below.trans (grown_below g1 h.lo.2 h.size)).trans (grown_below g2 h.lo.1 (Nat.le_trans h.size g1.size)), hf, hi, h.ne_, h.lo⟩
theorem Play.mid (h : Play B gp gr W wn wc L0 w0 us er wr) (g1 : wr.grownBy w1 (some gp)) : SR (fun k => k = gr ∨ k = gp) w1 gr us er := h.sr.other g1 (.inr rfl) h.ne_
end
/-- Block g holds three cells. -/
def CB (w : World) (g : Nat) (T : TypeId) (a b c : Value) : Prop := w.heap[g]? = some (.cells #[a, b, c] T (0, 0))
section
variable {w w' : World} {g : Nat} {T : TypeId} {a b c : Value}
theorem CB.new (w : World) (T : TypeId) (a b c : Value) : CB (w.alloc (.cells #[a, b, c] T)) w.heap.size T a b c := heap_new w _
theorem CB.lt (h : CB w g T a b c) : g < w.heap.size := (Array.getElem?_eq_some_iff.1 h).1
theorem CB.other {g' : Nat} (h : CB w g T a b c) (hg : w.grownBy w' (some g')) (hne : g ≠ g') : CB w' g T a b c := (hg.block g h.lt (fun x => by injection x with x; exact hne x)).trans h
theorem CB.cells (h : CB w g T a b c) : w.cell? ⟨g, 0, none⟩ = some a ∧ w.cell? ⟨g, 1, none⟩ = some b ∧ w.cell? ⟨g, 2, none⟩ = some c := by
  have h' : w.heap[g]? = some (.cells #[a, b, c] T (0, 0)) := h
  exact ⟨by rw [cell_of_row w g 0 _ _ _ h']; rfl, by rw [cell_of_row w g 1 _ _ _ h']; rfl, by rw [cell_of_row w g 2 _ _ _ h']; rfl⟩
end
end Go.Proofs.Ytdgflkkdcejadaa

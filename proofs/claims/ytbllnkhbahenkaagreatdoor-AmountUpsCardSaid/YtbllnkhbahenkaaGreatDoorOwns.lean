/- Appending to rows of the call's own: no claim of its own. -/
import Derived.Test.YtbllnkhbahenkaaGreatDoorCmp
import Derived.Test.YtbllnkhbahenkaaGreatDoorBase
namespace Go.Proofs.YtbllnkhbahenkaaGreatDoor
open Go.RowKit
section
variable {P : Program} (w : World)

theorem run_append_of_nil (base : Nat) (t ty e : TypeId) (i : TypeInfo) (size : Nat) (ht : P.underlying t = some (.slice e)) (hi : P.info? e = some i)
    (v : Value) (n : Nat) (xs : List Value) (hown : w.ownsRow base e size v n xs) (c : Nat) : (Builtin.append_ #[t, t] ty #[v, .slice none 0 c]).run P w = .ok v w := by
  rcases hown.2 with ⟨rfl, rfl⟩ | ⟨g, cap, cur, rfl, _, _, hnc, _⟩
  · simp [Builtin.append_, run_underlying ht, sizeOf, typeInfo, hi, Builtin.lenOf, Builtin.firstCells]
  · simp [Builtin.append_, run_underlying ht, sizeOf, typeInfo, hi, Builtin.lenOf, Builtin.firstCells, hnc, storeCells]

theorem run_append_any (base : Nat) (t ty e : TypeId) (i : TypeInfo) (z : Value) (size bytes : Nat) (ht : P.underlying t = some (.slice e)) (hi : P.info? e = some i) (hz : i.zero = some z)
    (hsize : i.size = size) (hby : i.bytes = bytes) (hzs : z.cells.size = size) (hsz : 0 < size)
    (v : Value) (n : Nat) (xs : List Value) (hown : w.ownsRow base e size v n xs)
    (B : Nat) (A : Option Addr) (m c : Nat) (news : List Value) (hr : Reads w B size A m news) (h1 : ∀ u ∈ news, u.oneCell' = true)
    (h63 : n + m ≤ maxLen) (hbytes : (n + m) * bytes ≤ 140737488355328) (hbase : base ≤ w.heap.size) :
    ∃ v' w', (Builtin.append_ #[t, t] ty #[v, .slice A m c]).run P w = .ok v' w' ∧ w'.ownsRow base e size v' (n + m) (xs ++ news) ∧ w.grownBy w' v.ownBlock ∧
      (v'.ownBlock = v.ownBlock ∨ v'.ownBlock = some w.heap.size) := by
  rcases A with _ | ad
  · have hm : m = 0 := by
      rcases Nat.eq_zero_or_pos m with h0 | h0
      · exact h0
      · obtain ⟨ad, h, _⟩ := hr.2 h0
        cases h
    subst hm
    have hn : news = [] := List.eq_nil_of_length_eq_zero (by simpa using hr.1)
    subst hn
    exact ⟨v, w, run_append_of_nil w base t ty e i size ht hi v n xs hown c, by simpa using hown, World.grownBy.refl w _, .inl rfl⟩
  · have hcells : ∀ j u, news[j]? = some u → w.cell? (ad.add j) = some u := by
      intro j u hu
      rcases Nat.eq_zero_or_pos m with h0 | h0
      · subst h0
        have hn : news = [] := List.eq_nil_of_length_eq_zero (by simpa using hr.1)
        subst hn
        simp at hu
      · obtain ⟨ad', h, _, hc⟩ := hr.2 h0
        injection h with h
        subst h
        exact hc j u hu
    obtain ⟨v', w', hrun, h2, h3, _, h5⟩ := run_append_own_at (P := P) w base t ty e i z size bytes ht hi hz hsize hby hzs hsz v n xs hown ad m c news hr.1 hcells h1 h63 hbytes hbase
    exact ⟨v', w', hrun, h2, h3, h5⟩

theorem wp_append_any {o : Oper} {a : Act} {K : Act → World → Prop} {Q : Exit → Act → World → Prop} (s x : Operand) (t : TypeId)
    (ho : o.op = .call { callee := .builtin .append, args := #[s, x], argTypes := #[t, t] })
    (base : Nat) (e : TypeId) (i : TypeInfo) (z : Value) (size bytes : Nat) (ht : P.underlying t = some (.slice e)) (hi : P.info? e = some i) (hz : i.zero = some z)
    (hsize : i.size = size) (hby : i.bytes = bytes) (hzs : z.cells.size = size) (hsz : 0 < size)
    (v : Value) (n : Nat) (xs : List Value) (hs : a.eval s = v) (hown : w.ownsRow base e size v n xs)
    (B : Nat) (A : Option Addr) (m c : Nat) (news : List Value) (hx : a.eval x = .slice A m c) (hr : Reads w B size A m news) (h1 : ∀ u ∈ news, u.oneCell' = true)
    (h63 : n + m ≤ maxLen) (hbytes : (n + m) * bytes ≤ 140737488355328) (hbase : base ≤ w.heap.size)
    (h : ∀ v' w', w'.ownsRow base e size v' (n + m) (xs ++ news) → w.grownBy w' v.ownBlock → (v'.ownBlock = v.ownBlock ∨ v'.ownBlock = some w.heap.size) → K (a.put o.dst v') w') : o.wp P a w K Q := by
  obtain ⟨v', w', hrun, h2, h3, h4⟩ := run_append_any (P := P) w base t o.type e i z size bytes ht hi hz hsize hby hzs hsz v n xs hown B A m c news hr h1 h63 hbytes hbase
  unfold Oper.wp execOp
  simp only [ho, resolve, invoke, builtin, Sem.run_bind, Sem.run_pure, Result.andThen_ok, List.map_toArray, List.map_cons, List.map_nil, hs, hx, hrun]
  exact h v' w' h2 h3 h4

theorem wpList_append_any {ops : Array Oper} {rest : List Oper} {o : Oper} {a : Act} {Q : Exit → Act → World → Prop} (hgd : o.guard = none) (s x : Operand) (t : TypeId)
    (ho : o.op = .call { callee := .builtin .append, args := #[s, x], argTypes := #[t, t] })
    (base : Nat) (e : TypeId) (i : TypeInfo) (z : Value) (size bytes : Nat) (ht : P.underlying t = some (.slice e)) (hi : P.info? e = some i) (hz : i.zero = some z)
    (hsize : i.size = size) (hby : i.bytes = bytes) (hzs : z.cells.size = size) (hsz : 0 < size)
    (v : Value) (n : Nat) (xs : List Value) (hs : a.eval s = v) (hown : w.ownsRow base e size v n xs)
    (B : Nat) (A : Option Addr) (m c : Nat) (news : List Value) (hx : a.eval x = .slice A m c) (hr : Reads w B size A m news) (h1 : ∀ u ∈ news, u.oneCell' = true)
    (h63 : n + m ≤ maxLen) (hbytes : (n + m) * bytes ≤ 140737488355328) (hbase : base ≤ w.heap.size)
    (h : ∀ v' w', w'.ownsRow base e size v' (n + m) (xs ++ news) → w.grownBy w' v.ownBlock → (v'.ownBlock = v.ownBlock ∨ v'.ownBlock = some w.heap.size) → wpList P ops Q rest (a.put o.dst v') w') : wpList P ops Q (o :: rest) a w :=
  wpList_plain hgd fun _ hK => wp_append_any w s x t ho base e i z size bytes ht hi hz hsize hby hzs hsz v n xs hs hown B A m c news hx hr h1 h63 hbytes hbase fun v' w' h2 h3 h4 => hK _ _ (h v' w' h2 h3 h4)
end

/-- The call's own row of digits. -/
structure Own (w : World) (B : Nat) (v : Value) (xs : List Nat) : Prop where
  own : w.ownsRow B 52 1 v xs.length (Dg xs)
  lt : ∀ d ∈ xs, d < 4294967296
theorem Own.lst {w : World} {B : Nat} {v : Value} {xs : List Nat} (h : Own w B v xs) (hs : xs.length ≤ 35184372088832) : ∃ A c, v = .slice A xs.length c ∧ Lst w A xs.length c xs := by
  rcases h.own.2 with ⟨rfl, h0⟩ | ⟨g, cap, cur, rfl, hg, hh, hc, hm, hsz, ht⟩
  · exact ⟨none, 0, by rw [h0], ⟨by rw [h0]; have : xs = [] := List.eq_nil_of_length_eq_zero h0
                                    subst this; exact Reads.none_, rfl, by omega, hs, h.lt⟩⟩
  · exact ⟨some ⟨g, 0, none⟩, cap, rfl, ⟨Reads.of_own h.own, rfl, hc, hs, h.lt⟩⟩
theorem Own.lst' {w : World} {B n : Nat} {v : Value} {xs : List Nat} (h : Own w B v xs) (hn : xs.length = n) (hs : n ≤ 35184372088832) : ∃ A c, v = .slice A n c ∧ Lst w A n c xs := by
  subst hn; exact h.lst hs
theorem Own.nil (w : World) (B : Nat) : Own w B (.slice none 0 0) [] := ⟨World.ownsRow_nil _ _ _ _, by simp⟩
theorem Own.keepB {w w' : World} {B C : Nat} {v : Value} {xs : List Nat} (h : Own w B v xs) (hb : Below C w w') (hC : w.heap.size ≤ C) : Own w' B v xs := by
  refine ⟨⟨h.own.1, ?_⟩, h.lt⟩
  rcases h.own.2 with h1 | ⟨g, cap, cur, h1, hg, hh, r⟩
  · exact .inl h1
  · exact .inr ⟨g, cap, cur, h1, hg, by rw [hb.block g (by have := (Array.getElem?_eq_some_iff.1 hh).1; omega)]; exact hh, r⟩
theorem dg_oneCell (xs : List Nat) : ∀ u ∈ Dg xs, u.oneCell' = true := by
  intro v hv; simp [Dg] at hv; obtain ⟨_, _, rfl⟩ := hv; rfl
theorem Own.snoc {w' : World} {B : Nat} {v' : Value} {xs : List Nat} {d : Nat} (hd : d < 4294967296) (hl : ∀ d ∈ xs, d < 4294967296) (h : w'.ownsRow B 52 1 v' (xs.length + 1) (Dg xs ++ [.int .u32 (d : Int)])) : Own w' B v' (xs ++ [d]) :=
  ⟨by simpa [Dg] using h, fun x hx => by
    rcases List.mem_append.1 hx with h1 | h1
    · exact hl x h1
    · simp at h1; omega⟩
theorem Own.cat {w' : World} {B : Nat} {v' : Value} {xs ys : List Nat} (h1 : ∀ d ∈ xs, d < 4294967296) (h2 : ∀ d ∈ ys, d < 4294967296) (h : w'.ownsRow B 52 1 v' (xs.length + ys.length) (Dg xs ++ Dg ys)) : Own w' B v' (xs ++ ys) :=
  ⟨by simpa [Dg] using h, fun x hx => (List.mem_append.1 hx).elim (h1 x) (h2 x)⟩
theorem Own.gives {w w1 : World} {v1 : Value} {ys : List Nat} {a B : Nat} (h : Own w1 B v1 ys) (hk : ys.length ≤ 35184372088832) (ht : Tight ys) (hv : dval ys = a) (hb : Below w.heap.size w w1) : GivesNum a w (.returned v1) w1 := by
  obtain ⟨A, c, rfl, L⟩ := h.lst hk
  exact ⟨A, _, c, ys, rfl, ⟨L, ht, hv⟩, hb⟩
theorem copied_gives {w w1 : World} {v1 : Value} {k : Nat} {ys : List Nat} {a : Nat} (hown : w1.ownsRow w.heap.size 52 1 v1 (0 + k) ([] ++ Dg ys)) (hl : ∀ d ∈ ys, d < 4294967296) (hy : ys.length = k) (hk : k ≤ 35184372088832) (ht : Tight ys) (hv : dval ys = a)
    (hg : (w.alloc (.cells #[] 52)).grownBy w1 (some w.heap.size)) : GivesNum a w (.returned v1) w1 := by
  subst hy
  refine Own.gives (B := w.heap.size) ⟨by simpa using hown, hl⟩ hk ht hv ?_
  exact ((Below.refl _ _).alloc (Nat.le_refl _) _).grown hg (by simp) (by intro g hg'; injection hg' with hg'; omega)
theorem Own.app {w wr w1 : World} {B d : Nat} {v v' : Value} {out : List Nat} {u : Int} {o : Obj} (h : Own wr B v out) (hB : Below B w wr) (hs : B ≤ wr.heap.size) (hown : w1.ownsRow B 52 1 v' (out.length + 1) (Dg out ++ [.int .u32 u]))
    (hu : u = (d : Int)) (hd : d < 4294967296) (hg : (wr.alloc o).grownBy w1 v.ownBlock) : Own w1 B v' (out ++ [d]) ∧ Below B w w1 := by
  subst hu
  exact ⟨Own.snoc hd h.lt hown, (hB.alloc hs o).grown hg (by simp; omega) (fun k hk => (h.own.lt k hk).1)⟩
theorem GivesNum.from_ {w wr w' : World} {a B : Nat} {e : Ending} (hb : Below B w wr) (hB : B = w.heap.size) (h : GivesNum a wr e w') : GivesNum a w e w' := by
  subst hB
  obtain ⟨A, n, c, xs, rfl, hN, hb2⟩ := h
  exact ⟨A, n, c, xs, rfl, hN, hb.trans (hb2.mono hb.size)⟩
theorem Num.len_le {w : World} {A : Option Addr} {n c a k : Nat} {xs : List Nat} (h : Num w A n c xs a) (hk : a < 4294967296 ^ k) : n ≤ k := by
  rw [← h.len]
  exact Go.Proofs.YtbllnkhbahenkaaGreatDoor.len_le h.tight (by rw [h.val]; exact hk)
theorem Num.lt_pow {w : World} {A : Option Addr} {n c a : Nat} {xs : List Nat} (h : Num w A n c xs a) : a < 4294967296 ^ n := by
  rw [← h.val, ← h.len]; exact dval_lt xs h.lt
theorem Num.zero (w : World) : Num w none 0 0 [] 0 := ⟨⟨Reads.none_, rfl, Nat.le_refl _, by decide, by simp⟩, .inl rfl, rfl⟩
end Go.Proofs.YtbllnkhbahenkaaGreatDoor

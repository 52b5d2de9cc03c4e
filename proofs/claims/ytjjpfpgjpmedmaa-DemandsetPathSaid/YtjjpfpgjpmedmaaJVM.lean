/- MathVA, MathVB, MathVC, joined: no claim of its own. -/
import Derived.Test.YtjjpfpgjpmedmaaMathB
import Derived.Test.YtjjpfpgjpmedmaaMathE
namespace Go.Proofs.Ytjjpfpgjpmedmaa.VV
open MB (at_)
/-- The greatest of some numbers, at least 0. -/
def supL : List Int → Int
  | [] => 0
  | v :: r => max v (supL r)
theorem supL_nonneg : ∀ l, 0 ≤ supL l
  | [] => Int.le_refl _
  | _v :: r => Int.le_trans (supL_nonneg r) (Int.le_max_right _ _)
theorem le_supL : ∀ {l : List Int} {v : Int}, v ∈ l → v ≤ supL l
  | [], _, h => by cases h
  | u :: r, v, h => by
    rcases List.mem_cons.1 h with rfl | h
    · exact Int.le_max_left _ _
    · exact Int.le_trans (le_supL h) (Int.le_max_right _ _)
theorem supL_le : ∀ {l : List Int} {m : Int}, 0 ≤ m → (∀ v ∈ l, v ≤ m) → supL l ≤ m
  | [], _, h, _ => h
  | u :: _r, _m, h, hl => Int.max_le.2 ⟨hl u List.mem_cons_self, supL_le h fun v hv => hl v (List.mem_cons_of_mem _ hv)⟩
theorem supL_mem : ∀ l : List Int, supL l = 0 ∨ supL l ∈ l
  | [] => .inl rfl
  | v :: r => by
    show max v (supL r) = 0 ∨ max v (supL r) ∈ v :: r
    by_cases h : v ≤ supL r
    · rw [Int.max_eq_right h]
      exact (supL_mem r).imp (fun q => q) (List.mem_cons_of_mem _)
    · rw [Int.max_eq_left (by omega)]
      exact .inr List.mem_cons_self
theorem supL_append (a b : List Int) : supL (a ++ b) = max (supL a) (supL b) := by
  induction a with
  | nil => show supL b = max 0 (supL b); rw [Int.max_eq_right (supL_nonneg b)]
  | cons v r ih => show max v (supL (r ++ b)) = max (max v (supL r)) (supL b); rw [ih, Int.max_assoc]
/-- Order of bundles. -/
def Le (a b : List Int) : Prop := ∀ j, j < 6 → at_ a j ≤ at_ b j
def leB (a b : List Int) : Bool := MB.withinB a b 6
theorem leB_iff {a b : List Int} : leB a b = true ↔ Le a b := MB.withinB_iff a b 6
theorem Le.refl (a : List Int) : Le a a := fun _ _ => Int.le_refl _
theorem Le.trans {a b c : List Int} (h : Le a b) (h' : Le b c) : Le a c := fun j hj => Int.le_trans (h j hj) (h' j hj)
/-- A bundle with quantities that are not negative. -/
structure Bu (b : List Int) : Prop where
  len : b.length = 6
  pos : ∀ j, j < 6 → 0 ≤ at_ b j
def Z : List Int := [0, 0, 0, 0, 0, 0]
theorem Z_at {j : Nat} (h : j < 6) : at_ Z j = 0 := by
  have : j = 0 ∨ j = 1 ∨ j = 2 ∨ j = 3 ∨ j = 4 ∨ j = 5 := by omega
  rcases this with rfl | rfl | rfl | rfl | rfl | rfl <;> rfl
theorem Bu.z : Bu Z := ⟨rfl, fun j h => by rw [Z_at h]; exact Int.le_refl _⟩
theorem Bu.ge {b : List Int} (h : Bu b) : Le Z b := fun j hj => by rw [Z_at hj]; exact h.pos j hj
def six (F : Nat → Int) : List Int := [F 0, F 1, F 2, F 3, F 4, F 5]
theorem six_at (F : Nat → Int) {k : Nat} (hk : k < 6) : at_ (six F) k = F k := by
  have : k = 0 ∨ k = 1 ∨ k = 2 ∨ k = 3 ∨ k = 4 ∨ k = 5 := by omega
  rcases this with rfl | rfl | rfl | rfl | rfl | rfl <;> rfl
def add (a b : List Int) : List Int := six fun k => at_ a k + at_ b k
def sub (a b : List Int) : List Int := six fun k => at_ a k - at_ b k
theorem add_at {a b : List Int} {k : Nat} (hk : k < 6) : at_ (add a b) k = at_ a k + at_ b k := six_at _ hk
theorem sub_at {a b : List Int} {k : Nat} (hk : k < 6) : at_ (sub a b) k = at_ a k - at_ b k := six_at _ hk
theorem Bu.add {a b : List Int} (ha : Bu a) (hb : Bu b) : Bu (add a b) := ⟨rfl, fun j hj => by rw [add_at hj]; have := ha.pos j hj; have := hb.pos j hj; omega⟩
theorem Bu.sub {a b : List Int} (h : Le b a) : Bu (sub a b) := ⟨rfl, fun j hj => by rw [sub_at hj]; have := h j hj; omega⟩
theorem sub_le {a b : List Int} (hb : Bu b) : Le (sub a b) a := fun j hj => by rw [sub_at hj]; have := hb.pos j hj; omega
theorem bu_ext {a b : List Int} (ha : Bu a) (hb : Bu b) (h : ∀ j, j < 6 → at_ a j = at_ b j) : a = b := MB.ext6 ha.len hb.len h
/-- The bundles within a bundle, in order of their ranks. -/
def at6 (s : List Int) (i : Nat) : List Int := MB.pad (MB.D s 6 i)
def cnt (s : List Int) : Nat := MB.P s 6
def rank (s b : List Int) : Nat := MB.R s b 6
def all (s : List Int) : List (List Int) := MB.row s 6 (cnt s)
theorem at6_eq (s : List Int) (i : Nat) : at6 s i = MB.D s 6 i := MB.pad_full (MB.D_length s 6 i)
theorem at6_bu {s : List Int} (hs : Bu s) (i : Nat) : Bu (at6 s i) ∧ Le (at6 s i) s := by
  rw [at6_eq]
  refine ⟨⟨MB.D_length s 6 i, fun j hj => (MB.D_within s 6 i j hj).1⟩, fun j hj => ?_⟩
  have h := MB.D_within s 6 i j hj
  have := hs.pos j hj
  omega
theorem rank_lt {s b : List Int} (hs : Bu s) (hb : Bu b) (h : Le b s) : rank s b < cnt s := MB.R_lt s b 6 fun j hj => by
  have := h j hj; have := hs.pos j hj; have := hb.pos j hj; omega
theorem at_rank {s b : List Int} (hs : Bu s) (hb : Bu b) (h : Le b s) : at6 s (rank s b) = b := by
  refine bu_ext (at6_bu hs _).1 hb fun j hj => ?_
  rw [at6_eq]
  exact MB.D_R s b 6 (fun j hj => by have := h j hj; have := hs.pos j hj; have := hb.pos j hj; omega) j hj
theorem all_mem {s b : List Int} (hs : Bu s) : b ∈ all s ↔ Bu b ∧ Le b s := by
  unfold all MB.row
  rw [List.mem_map]
  constructor
  · rintro ⟨i, _, rfl⟩
    exact at6_bu hs i
  · rintro ⟨hb, hl⟩
    exact ⟨rank s b, List.mem_range.2 (rank_lt hs hb hl), at_rank hs hb hl⟩
/-- The best division of a bundle between two. -/
def orF (f g : List Int → Int) (c : List Int) : Int := supL ((all c).map fun d => f d + g (sub c d))
theorem le_orF {f g : List Int → Int} {c d : List Int} (hc : Bu c) (hd : Bu d) (h : Le d c) : f d + g (sub c d) ≤ orF f g c := le_supL (List.mem_map.2 ⟨d, (all_mem hc).2 ⟨hd, h⟩, rfl⟩)
theorem orF_le {f g : List Int → Int} {c : List Int} {m : Int} (hc : Bu c) (h0 : 0 ≤ m) (h : ∀ d, Bu d → Le d c → f d + g (sub c d) ≤ m) : orF f g c ≤ m := supL_le h0 fun v hv => by
  obtain ⟨d, hd, rfl⟩ := List.mem_map.1 hv
  obtain ⟨h1, h2⟩ := (all_mem hc).1 hd
  exact h d h1 h2
theorem orF_nonneg (f g : List Int → Int) (c : List Int) : 0 ≤ orF f g c := supL_nonneg _
theorem orF_att {f g : List Int → Int} {c : List Int} (hc : Bu c) : orF f g c = 0 ∨ ∃ d, Bu d ∧ Le d c ∧ orF f g c = f d + g (sub c d) := by
  rcases supL_mem ((all c).map fun d => f d + g (sub c d)) with h | h
  · exact .inl h
  · obtain ⟨d, hd, e⟩ := List.mem_map.1 h
    obtain ⟨h1, h2⟩ := (all_mem hc).1 hd
    exact .inr ⟨d, h1, h2, e.symm⟩
/-- Never less for a greater bundle; never negative. -/
structure Mono (f : List Int → Int) : Prop where
  up : ∀ x y, Bu x → Bu y → Le x y → f x ≤ f y
  pos : ∀ x, Bu x → 0 ≤ f x
theorem orF_mono {f g : List Int → Int} (hg : Mono g) : Mono (orF f g) := ⟨fun x y hx hy h => orF_le hx (orF_nonneg _ _ _) fun d hd hl => by
    have h1 := le_orF (f := f) (g := g) hy hd (hl.trans h)
    have h2 := hg.up (sub x d) (sub y d) (Bu.sub hl) (Bu.sub (hl.trans h)) fun j hj => by rw [sub_at hj, sub_at hj]; have := h j hj; omega
    omega, fun _ _ => orF_nonneg _ _ _⟩
theorem sub_self (x : List Int) : sub x x = Z := bu_ext (Bu.sub (Le.refl x)) Bu.z fun j hj => by rw [sub_at hj, Z_at hj]; omega
/-- Steps: bundles with values. -/
abbrev St := List (List Int × Int)
def worth (S : St) (x : List Int) : Int := supL ((S.filter fun s => leB s.1 x).map (·.2))
theorem le_worth {S : St} {s : List Int × Int} {x : List Int} (hs : s ∈ S) (h : Le s.1 x) : s.2 ≤ worth S x := le_supL (List.mem_map.2 ⟨s, List.mem_filter.2 ⟨hs, leB_iff.2 h⟩, rfl⟩)
theorem worth_le {S : St} {x : List Int} {m : Int} (h0 : 0 ≤ m) (h : ∀ s ∈ S, Le s.1 x → s.2 ≤ m) : worth S x ≤ m := supL_le h0 fun v hv => by
  obtain ⟨s, hs, rfl⟩ := List.mem_map.1 hv
  obtain ⟨h1, h2⟩ := List.mem_filter.1 hs
  exact h s h1 (leB_iff.1 h2)
theorem worth_att (S : St) (x : List Int) : worth S x = 0 ∨ ∃ s ∈ S, Le s.1 x ∧ worth S x = s.2 := by
  rcases supL_mem ((S.filter fun s => leB s.1 x).map (·.2)) with h | h
  · exact .inl h
  · obtain ⟨s, hs, e⟩ := List.mem_map.1 h
    obtain ⟨h1, h2⟩ := List.mem_filter.1 hs
    exact .inr ⟨s, h1, leB_iff.1 h2, e.symm⟩
theorem worth_nonneg (S : St) (x : List Int) : 0 ≤ worth S x := supL_nonneg _
theorem worth_cons (s : List Int × Int) (S : St) (x : List Int) : worth (s :: S) x = if leB s.1 x then max s.2 (worth S x) else worth S x := by
  unfold worth
  rw [List.filter_cons]
  split <;> rfl
end Go.Proofs.Ytjjpfpgjpmedmaa.VV
namespace Go.Proofs.Ytjjpfpgjpmedmaa.VV
open MB (at_)
open ME (F Nd)
def addV (o : Int) (b : List Int) (v : Int) (x : List Int) : Int := if (o = 1 ∨ o = 4) ∧ leB b x = true then v else 0
def limV (o v q : Int) : Int := if o = 5 then min q v else q
def finV (o : Int) (b : List Int) (v : Int) (f : List Int → Int) (x : List Int) : Int := min 1000000 (limV o v (f x + addV o b v x))
def stepV (o : Int) (f g : List Int → Int) : List Int → Int := if o = 3 then orF f g else fun x => max (f x) (g x)
def accV (o : Int) : List (List Int → Int) → (List Int → Int) → List Int → Int
  | [], f => f
  | g :: r, f => accV o r (stepV o f g)
def argsV (o : Int) : List (List Int → Int) → List Int → Int
  | [] => fun _ => 0
  | g :: r => accV o r (fun x => max 0 (g x))
def nodeV (o : Int) (b : List Int) (v : Int) (fs : List (List Int → Int)) : List Int → Int := finV o b v (argsV o fs)
/-- What expressions say that a bundle is worth. -/
def valF : F → List (List Int → Int)
  | .nil => []
  | .cons o b v k r => nodeV o b v (valF k) :: valF r
def valN (n : Nd) : List Int → Int := nodeV n.o n.b n.v (valF n.k)
/-- A node of a valid expression. -/
structure OkV (n : Nd) : Prop where
  bu : Bu n.b
  v0 : 0 ≤ n.v
  v1 : n.v ≤ 1000000
  way : (n.o = 1 ∧ n.k = .nil) ∨ ((n.o = 2 ∨ n.o = 3) ∧ ∃ a r, n.k.roots = a :: r) ∨ ((n.o = 4 ∨ n.o = 5) ∧ ∃ a, n.k.roots = [a])
/-! Values never decrease. -/
theorem stepV_mono {o : Int} {f g : List Int → Int} (hf : Mono f) (hg : Mono g) : Mono (stepV o f g) := by
  unfold stepV
  split
  · exact orF_mono hg
  · exact ⟨fun x y hx hy h => by have := hf.up x y hx hy h; have := hg.up x y hx hy h; omega, fun x hx => by have := hf.pos x hx; omega⟩
theorem accV_mono {o : Int} : ∀ {fs : List (List Int → Int)} {f : List Int → Int}, (∀ g ∈ fs, Mono g) → Mono f → Mono (accV o fs f)
  | [], _, _, hf => hf
  | g :: r, _f, h, hf => accV_mono (fs := r) (fun g' hg' => h g' (List.mem_cons_of_mem _ hg')) (stepV_mono hf (h g List.mem_cons_self))
theorem argsV_mono {o : Int} : ∀ {fs : List (List Int → Int)}, (∀ g ∈ fs, Mono g) → Mono (argsV o fs)
  | [], _ => ⟨fun _ _ _ _ _ => Int.le_refl _, fun _ _ => Int.le_refl _⟩
  | g :: r, h => accV_mono (fun g' hg' => h g' (List.mem_cons_of_mem _ hg')) (by
    have hg := h g List.mem_cons_self
    exact ⟨fun x y hx hy hl => by have := hg.up x y hx hy hl; omega, fun x _ => by omega⟩)
theorem finV_mono {o : Int} {b : List Int} {v : Int} (hv : 0 ≤ v) {f : List Int → Int} (hf : Mono f) : Mono (finV o b v f) := by
  have ha : ∀ x y, Bu x → Bu y → Le x y → addV o b v x ≤ addV o b v y := fun x y _ _ h => by
    unfold addV
    by_cases h1 : (o = 1 ∨ o = 4) ∧ leB b x = true
    · rw [if_pos h1, if_pos ⟨h1.1, leB_iff.2 ((leB_iff.1 h1.2).trans h)⟩]; exact Int.le_refl _
    · rw [if_neg h1]; split <;> omega
  have h0 : ∀ x, 0 ≤ addV o b v x := fun x => by unfold addV; split <;> omega
  refine ⟨fun x y hx hy h => ?_, fun x hx => ?_⟩
  · have h1 := hf.up x y hx hy h
    have h2 := ha x y hx hy h
    unfold finV limV
    split <;> omega
  · have h1 := hf.pos x hx
    have h2 := h0 x
    unfold finV limV
    split <;> omega
theorem nodeV_mono {o : Int} {b : List Int} {v : Int} (hv : 0 ≤ v) {fs : List (List Int → Int)} (h : ∀ g ∈ fs, Mono g) : Mono (nodeV o b v fs) := finV_mono hv (argsV_mono h)
theorem valF_mono : ∀ {k : F}, (∀ z ∈ k.pre, 0 ≤ z.v) → ∀ g ∈ valF k, Mono g
  | .nil, _, _, hg => by cases hg
  | .cons o b v k r, h, g, hg => by
    rw [valF] at hg
    rcases List.mem_cons.1 hg with rfl | hg
    · exact nodeV_mono (h ⟨o, b, v, k⟩ (by rw [F.pre]; exact List.mem_cons_self)) (valF_mono fun z hz => h z (by rw [F.pre]; exact List.mem_cons_of_mem _ (List.mem_append_left _ hz)))
    · exact valF_mono (fun z hz => h z (by rw [F.pre]; exact List.mem_cons_of_mem _ (List.mem_append_right _ hz))) g hg
theorem valN_mono {n : Nd} (hv : 0 ≤ n.v) (h : ∀ z ∈ n.k.pre, 0 ≤ z.v) : Mono (valN n) := nodeV_mono hv (valF_mono h)
/-! The map of values, bundle by bundle, within a supply. -/
abbrev Vm := List Int → Option Int
structure GoodM (s : List Int) (M : Vm) (f : List Int → Int) : Prop where
  mem : ∀ b v, M b = some v → Bu b ∧ Le b s ∧ 0 ≤ v ∧ v ≤ 1000000
  zero : ∃ v, M Z = some v
  ub : ∀ x, Bu x → Le x s → ∀ b v, M b = some v → Le b x → v ≤ f x
  att : ∀ x, Bu x → Le x s → ∃ b v, M b = some v ∧ Le b x ∧ v = f x
def M0 : Vm := fun b => if b = Z then some 0 else none
/-- What raising does. -/
def upM (s : List Int) (M : Vm) (b : List Int) (v : Int) : Vm := if leB b s = true then fun c => if c = b then some (max ((M b).getD 0) (min v 1000000)) else M c else M
def upF (f : List Int → Int) (b : List Int) (v : Int) (x : List Int) : Int := if leB b x = true then max (f x) (min v 1000000) else f x
theorem GoodM.nonneg {s : List Int} {M : Vm} {f : List Int → Int} (h : GoodM s M f) {x : List Int} (hx : Bu x) (hl : Le x s) : 0 ≤ f x ∧ f x ≤ 1000000 := by
  obtain ⟨b, v, h1, _, h2⟩ := h.att x hx hl
  have := h.mem b v h1
  omega
theorem GoodM.raise {s : List Int} {M : Vm} {f : List Int → Int} (h : GoodM s M f) {b : List Int} {v : Int} (hb : Bu b) (hv : 0 ≤ v) : GoodM s (upM s M b v) (upF f b v) := by
  by_cases hl : leB b s = true
  · have hls := leB_iff.1 hl
    have eM : ∀ c, upM s M b v c = if c = b then some (max ((M b).getD 0) (min v 1000000)) else M c := fun c => by unfold upM; rw [if_pos hl]
    have hbd : 0 ≤ (M b).getD 0 ∧ (M b).getD 0 ≤ 1000000 := by
      cases e : M b with
      | none => exact ⟨Int.le_refl _, by decide⟩
      | some u => have := h.mem b u e; exact ⟨this.2.2.1, this.2.2.2⟩
    refine ⟨fun c u hc => ?_, ?_, fun x hx hxs c u hc hcx => ?_, fun x hx hxs => ?_⟩
    · rw [eM] at hc
      split at hc
      · rename_i e
        subst e
        injection hc with hc
        exact ⟨hb, hls, by omega, by omega⟩
      · exact h.mem c u hc
    · obtain ⟨u, hu⟩ := h.zero
      rw [eM]
      split
      · exact ⟨_, rfl⟩
      · exact ⟨u, hu⟩
    · rw [eM] at hc
      unfold upF
      split at hc
      · rename_i e
        subst e
        injection hc with hc
        rw [if_pos (leB_iff.2 hcx)]
        have : (M c).getD 0 ≤ f x := by
          cases e : M c with
          | none => exact (h.nonneg hx hxs).1
          | some u => exact h.ub x hx hxs c u e hcx
        omega
      · have := h.ub x hx hxs c u hc hcx
        split <;> omega
    · obtain ⟨c, u, h1, h2, h3⟩ := h.att x hx hxs
      unfold upF
      by_cases hbx : leB b x = true
      · rw [if_pos hbx]
        have hub : (M b).getD 0 ≤ f x := by
          cases e : M b with
          | none => exact (h.nonneg hx hxs).1
          | some u => exact h.ub x hx hxs b u e (leB_iff.1 hbx)
        by_cases hm : f x ≤ min v 1000000
        · exact ⟨b, _, by rw [eM, if_pos rfl], leB_iff.1 hbx, by omega⟩
        · by_cases e : c = b
          · subst e
            exact ⟨c, _, by rw [eM, if_pos rfl], h2, by rw [h1]; simp only [Option.getD_some]; omega⟩
          · exact ⟨c, u, by rw [eM, if_neg e]; exact h1, h2, by omega⟩
      · rw [if_neg hbx]
        have e : c ≠ b := fun e => hbx (leB_iff.2 (e ▸ h2))
        exact ⟨c, u, by rw [eM, if_neg e]; exact h1, h2, h3⟩
  · have eM : upM s M b v = M := by unfold upM; rw [if_neg hl]
    rw [eM]
    have e : ∀ x, Le x s → upF f b v x = f x := fun x hxs => by unfold upF; rw [if_neg (fun q => hl (leB_iff.2 ((leB_iff.1 q).trans hxs)))]
    exact ⟨h.mem, h.zero, fun x hx hxs => by rw [e x hxs]; exact h.ub x hx hxs, fun x hx hxs => by rw [e x hxs]; exact h.att x hx hxs⟩
/-- Raising one after another. -/
def upsM (s : List Int) : St → Vm → Vm
  | [], M => M
  | p :: r, M => upsM s r (upM s M p.1 p.2)
def cap (S : St) : St := S.map fun p => (p.1, min p.2 1000000)
def upsF (f : List Int → Int) (S : St) (x : List Int) : Int := max (f x) (worth (cap S) x)
theorem GoodM.same {s : List Int} {M : Vm} {f g : List Int → Int} (h : GoodM s M f) (e : ∀ x, Bu x → Le x s → f x = g x) : GoodM s M g :=
  ⟨h.mem, h.zero, fun x hx hl => by rw [← e x hx hl]; exact h.ub x hx hl, fun x hx hl => by rw [← e x hx hl]; exact h.att x hx hl⟩
theorem GoodM.raises {s : List Int} : ∀ {S : St} {M : Vm} {f : List Int → Int}, GoodM s M f → (∀ p ∈ S, Bu p.1 ∧ 0 ≤ p.2) → GoodM s (upsM s S M) (upsF f S)
  | [], M, f, h, _ => h.same fun x hx hl => by unfold upsF; show f x = max (f x) 0; have := (h.nonneg hx hl).1; omega
  | p :: r, M, f, h, hS => by
    have hp := hS p List.mem_cons_self
    refine (GoodM.raises (S := r) (h.raise hp.1 hp.2) fun q hq => hS q (List.mem_cons_of_mem _ hq)).same fun x _ _ => ?_
    unfold upsF upF cap
    rw [List.map_cons, worth_cons]
    dsimp only
    split <;> omega
/-- The steps of a map. -/
def Entries (M : Vm) (S : St) : Prop := ∀ b v, (b, v) ∈ S ↔ M b = some v
/-- Steps that say what bundles within a supply are worth. -/
structure Good (s : List Int) (S : St) (f : List Int → Int) : Prop where
  mem : ∀ p ∈ S, Bu p.1 ∧ Le p.1 s ∧ 0 ≤ p.2 ∧ p.2 ≤ 1000000
  zero : ∃ v, (Z, v) ∈ S
  val : ∀ x, Bu x → Le x s → worth S x = f x
theorem GoodM.entries {s : List Int} {M : Vm} {f : List Int → Int} (h : GoodM s M f) {S : St} (hS : Entries M S) : Good s S f where
  mem p hp := h.mem p.1 p.2 ((hS p.1 p.2).1 hp)
  zero := by obtain ⟨v, hv⟩ := h.zero; exact ⟨v, (hS _ _).2 hv⟩
  val x hx hl := by
    apply Int.le_antisymm
    · exact worth_le (h.nonneg hx hl).1 fun p hp hpx => h.ub x hx hl p.1 p.2 ((hS _ _).1 hp) hpx
    · obtain ⟨b, v, h1, h2, h3⟩ := h.att x hx hl
      rw [← h3]
      exact le_worth ((hS b v).2 h1) h2
theorem worth_append (S T : St) (x : List Int) : worth (S ++ T) x = max (worth S x) (worth T x) := by
  unfold worth
  rw [List.filter_append, List.map_append, supL_append]
theorem Good.le {s : List Int} {S : St} {f : List Int → Int} (h : Good s S f) {x : List Int} (hx : Bu x) (hl : Le x s) : 0 ≤ f x ∧ f x ≤ 1000000 := by
  rw [← h.val x hx hl]
  exact ⟨worth_nonneg _ _, worth_le (by decide) fun p hp _ => (h.mem p hp).2.2.2⟩
/-- A step is there for each value. -/
theorem Good.att {s : List Int} {S : St} {f : List Int → Int} (h : Good s S f) {x : List Int} (hx : Bu x) (hl : Le x s) : ∃ p ∈ S, Le p.1 x ∧ p.2 = f x := by
  rw [← h.val x hx hl]
  rcases worth_att S x with e | ⟨p, hp, h1, h2⟩
  · obtain ⟨v, hv⟩ := h.zero
    have h1 := le_worth hv (x := x) hx.ge
    have h2 := h.mem _ hv
    exact ⟨_, hv, hx.ge, by dsimp only at *; omega⟩
  · exact ⟨p, hp, h1, h2.symm⟩
theorem Good.ub {s : List Int} {S : St} {f : List Int → Int} (h : Good s S f) {x : List Int} (hx : Bu x) (hl : Le x s) {p : List Int × Int} (hp : p ∈ S) (hpx : Le p.1 x) : p.2 ≤ f x := by
  rw [← h.val x hx hl]; exact le_worth hp hpx
theorem le_cap {S : St} {p : List Int × Int} {x : List Int} (hp : p ∈ S) (h : Le p.1 x) : min p.2 1000000 ≤ worth (cap S) x :=
  le_worth (s := (p.1, min p.2 1000000)) (List.mem_map.2 ⟨p, hp, rfl⟩) h
/-! The five operations. -/
/-- The raises of an or's argument. -/
def orL (s : List Int) (S B : St) : St := S.flatMap fun p => (B.filter fun o => leB o.1 (sub s p.1)).map fun o => (add p.1 o.1, p.2 + o.2)
theorem orL_mem {s : List Int} {S B : St} {q : List Int × Int} : q ∈ orL s S B ↔ ∃ p ∈ S, ∃ o ∈ B, Le o.1 (sub s p.1) ∧ q = (add p.1 o.1, p.2 + o.2) := by
  unfold orL
  rw [List.mem_flatMap]
  constructor
  · rintro ⟨p, hp, h⟩
    obtain ⟨o, ho, e⟩ := List.mem_map.1 h
    obtain ⟨h1, h2⟩ := List.mem_filter.1 ho
    exact ⟨p, hp, o, h1, leB_iff.1 h2, e.symm⟩
  · rintro ⟨p, hp, o, ho, h, e⟩
    exact ⟨p, hp, List.mem_map.2 ⟨o, List.mem_filter.2 ⟨ho, leB_iff.2 h⟩, e.symm⟩⟩
theorem or_step {s : List Int} {S B : St} {f g : List Int → Int} (hg : Good s S g) (hf : Good s B f) {x : List Int} (hx : Bu x) (hl : Le x s) : upsF f (orL s S B) x = min 1000000 (orF f g x) := by
  have hfb := hf.le hx hl
  have ho0 := orF_nonneg f g x
  unfold upsF
  apply Int.le_antisymm
  · have h1 : f x ≤ orF f g x := by
      have := le_orF (f := f) (g := g) hx hx (Le.refl x)
      rw [sub_self] at this
      have h2 := (hg.le Bu.z (hx.ge.trans hl)).1
      omega
    have h2 : worth (cap (orL s S B)) x ≤ min 1000000 (orF f g x) := by
      refine worth_le (by omega) fun q hq hqx => ?_
      unfold cap at hq
      obtain ⟨q', hq', rfl⟩ := List.mem_map.1 hq
      obtain ⟨p, hp, o, ho, hle, rfl⟩ := orL_mem.1 hq'
      dsimp only at hqx ⊢
      have hop := hf.mem o ho
      have hpp := hg.mem p hp
      have hox : Le o.1 x := fun j hj => by have := hqx j hj; rw [add_at hj] at this; have := hpp.1.pos j hj; omega
      have h3 := le_orF (f := f) (g := g) hx hop.1 hox
      have h4 := hf.ub hop.1 (hox.trans hl) ho (Le.refl _)
      have h5 := hg.ub (Bu.sub hox) ((sub_le hop.1).trans hl) hp (fun j hj => by rw [sub_at hj]; have := hqx j hj; rw [add_at hj] at this; omega)
      omega
    omega
  · rcases orF_att (f := f) (g := g) hx with e | ⟨d, hd, hdx, e⟩
    · rw [e]
      have := worth_nonneg (cap (orL s S B)) x
      omega
    · rw [e]
      obtain ⟨o, ho, h1, h2⟩ := hf.att hd (hdx.trans hl)
      obtain ⟨p, hp, h3, h4⟩ := hg.att (Bu.sub hdx) ((sub_le hd).trans hl)
      have hop := hf.mem o ho
      have hpp := hg.mem p hp
      have hin : (add p.1 o.1, p.2 + o.2) ∈ orL s S B := orL_mem.2 ⟨p, hp, o, ho, fun j hj => by
        rw [sub_at hj]
        have q1 := h1 j hj; have q3 := h3 j hj; rw [sub_at hj] at q3
        have := hl j hj
        omega, rfl⟩
      have hle := le_cap (x := x) hin (fun j hj => by
        dsimp only
        rw [add_at hj]
        have q1 := h1 j hj; have q3 := h3 j hj; rw [sub_at hj] at q3
        omega)
      dsimp only at hle
      omega
/-! Arguments one after another. -/
/-- What the map says behind some arguments of an or. -/
theorem min_orF {f a g : List Int → Int} {x : List Int} (hx : Bu x) (hf : ∀ d, Bu d → Le d x → f d = min 1000000 (a d)) (hg : ∀ d, Bu d → Le d x → 0 ≤ g d) : min 1000000 (orF f g x) = min 1000000 (orF a g x) := by
  have h1 : orF f g x ≤ orF a g x := orF_le hx (orF_nonneg _ _ _) fun d hd hl => by
    have := le_orF (f := a) (g := g) hx hd hl
    have := hf d hd hl
    omega
  have h2 : min 1000000 (orF a g x) ≤ orF f g x := by
    rcases orF_att (f := a) (g := g) hx with e | ⟨d, hd, hl, e⟩
    · rw [e]; have := orF_nonneg f g x; omega
    · rw [e]
      have h3 := le_orF (f := f) (g := g) hx hd hl
      have h4 := hf d hd hl
      have h5 := hg (sub x d) (Bu.sub hl) (sub_le hd)
      omega
  omega
/-- f is what the map says, a what the definition says. -/
def Fits (s : List Int) (f a : List Int → Int) : Prop := ∀ x, Bu x → Le x s → f x = min 1000000 (a x)
theorem Fits.or {s : List Int} {f a g : List Int → Int} (h : Fits s f a) {S B : St} (hg : Good s S g) (hf : Good s B f) : Fits s (upsF f (orL s S B)) (stepV 3 a g) := fun x hx hl => by
  rw [or_step hg hf hx hl]
  unfold stepV
  rw [if_pos rfl]
  exact min_orF hx (fun d hd hdx => h d hd (hdx.trans hl)) (fun d hd hdx => (hg.le hd (hdx.trans hl)).1)
end Go.Proofs.Ytjjpfpgjpmedmaa.VV
namespace Go.Proofs.Ytjjpfpgjpmedmaa.VV
open MB (at_)
open ME (F Nd)
/-! Products that do not occur make no difference. -/
mutual
def useF : F → Nat → Bool
  | .nil, _ => false
  | .cons _ b _ k r, j => (decide (0 < at_ b j) || useF k j) || useF r j
end
def useN (n : Nd) (j : Nat) : Bool := decide (0 < at_ n.b j) || useF n.k j
/-- Two bundles agree where U says so. -/
def Agree (U : Nat → Bool) (x y : List Int) : Prop := ∀ j, j < 6 → U j = true → at_ x j = at_ y j
def Local (U : Nat → Bool) (f : List Int → Int) : Prop := ∀ x y, Bu x → Bu y → Agree U x y → f x = f y
theorem Local.more {U V : Nat → Bool} {f : List Int → Int} (h : Local U f) (hUV : ∀ j, U j = true → V j = true) : Local V f := fun x y hx hy ha => h x y hx hy fun j hj hu => ha j hj (hUV j hu)
/-! Tables. -/
theorem R_self (s : List Int) : ∀ i, MB.R s s i + 1 = MB.P s i
  | 0 => rfl
  | i + 1 => by
    rw [MB.R, MB.P, ← R_self s i, Nat.add_mul, Nat.one_mul]; omega
/-! Single steps. -/
def below (b : List Int) (k : Nat) : List Int := six fun j => if j = k then max 0 (at_ b j - 1) else at_ b j
/-! Joins. -/
/-- The empty bundle is worth nothing, if every node of an expression asks for something. -/
theorem orF_z {f g : List Int → Int} (hf : f Z = 0) (hg : g Z = 0) : orF f g Z = 0 := by
  apply Int.le_antisymm
  · refine orF_le Bu.z (Int.le_refl _) fun d hd hl => ?_
    have : d = Z := bu_ext hd Bu.z fun j hj => Int.le_antisymm (hl j hj) (by rw [Z_at hj]; exact hd.pos j hj)
    rw [this, sub_self, hf, hg]; exact Int.le_refl _
  · exact orF_nonneg _ _ _
theorem accV_z {o : Int} : ∀ {fs : List (List Int → Int)} {f : List Int → Int}, (∀ g ∈ fs, g Z = 0) → f Z = 0 → accV o fs f Z = 0
  | [], _, _, hf => hf
  | g :: r, f, h, hf => accV_z (fs := r) (fun g' hg' => h g' (List.mem_cons_of_mem _ hg')) (by
    have hg := h g List.mem_cons_self
    unfold stepV
    split
    · exact orF_z hf hg
    · show max (f Z) (g Z) = 0
      rw [hf, hg]; rfl)
theorem argsV_z {o : Int} : ∀ {fs : List (List Int → Int)}, (∀ g ∈ fs, g Z = 0) → argsV o fs Z = 0
  | [], _ => rfl
  | g :: r, h => accV_z (fun g' hg' => h g' (List.mem_cons_of_mem _ hg')) (by rw [h g List.mem_cons_self]; rfl)
/-- A node that asks for something where it adds a value. -/
def Asks (n : Nd) : Prop := (n.o = 1 ∨ n.o = 4) → leB n.b Z = false
theorem nodeV_z {n : Nd} (ha : Asks n) (hv : 0 ≤ n.v) {fs : List (List Int → Int)} (h : ∀ g ∈ fs, g Z = 0) : nodeV n.o n.b n.v fs Z = 0 := by
  unfold nodeV finV
  rw [argsV_z h]
  have : addV n.o n.b n.v Z = 0 := by
    unfold addV
    rw [if_neg]
    rintro ⟨h1, h2⟩
    rw [ha h1] at h2
    cases h2
  rw [this]
  unfold limV
  split <;> omega
theorem valF_z : ∀ {k : F}, (∀ z ∈ k.pre, Asks z ∧ 0 ≤ z.v) → ∀ g ∈ valF k, g Z = 0
  | .nil, _, _, hg => by cases hg
  | .cons o b v k r, h, g, hg => by
    rw [valF] at hg
    rcases List.mem_cons.1 hg with rfl | hg
    · have h0 := h ⟨o, b, v, k⟩ (by rw [F.pre]; exact List.mem_cons_self)
      exact nodeV_z h0.1 h0.2 (valF_z fun z hz => h z (by rw [F.pre]; exact List.mem_cons_of_mem _ (List.mem_append_left _ hz)))
    · exact valF_z (fun z hz => h z (by rw [F.pre]; exact List.mem_cons_of_mem _ (List.mem_append_right _ hz))) g hg
theorem valN_z {n : Nd} (h0 : Asks n ∧ 0 ≤ n.v) (h : ∀ z ∈ n.k.pre, Asks z ∧ 0 ≤ z.v) : valN n Z = 0 := nodeV_z h0.1 h0.2 (valF_z h)
end Go.Proofs.Ytjjpfpgjpmedmaa.VV

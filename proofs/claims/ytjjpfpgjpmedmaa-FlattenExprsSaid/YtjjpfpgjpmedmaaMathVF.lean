/- The arguments of an expression, one after another, without the cap: the mathematics of the reference. No claim of its own. -/
import Derived.Test.YtjjpfpgjpmedmaaMathVD
namespace Go.Proofs.Ytjjpfpgjpmedmaa.VV
open MB (at_)
open ME (F Nd)
/-- Between nothing and m. -/
def In (m : Int) (g : List Int → Int) : Prop := ∀ x, Bu x → 0 ≤ g x ∧ g x ≤ m
theorem In.step {o : Int} {a m : Int} {f g : List Int → Int} (ha : 0 ≤ a) (hm : 0 ≤ m) (hf : In a f) (hg : In m g) : In (a + m) (stepV o f g) := fun x hx => by
  unfold stepV
  by_cases ho : o = 3
  · rw [if_pos ho]
    refine ⟨orF_nonneg _ _ _, orF_le hx (by omega) fun d hd hl => ?_⟩
    have h1 := hf d hd
    have h2 := hg (sub x d) (Bu.sub hl)
    omega
  · rw [if_neg ho]
    have h1 := hf x hx
    have h2 := hg x hx
    show 0 ≤ max (f x) (g x) ∧ max (f x) (g x) ≤ a + m
    omega
theorem In.acc {o : Int} {m : Int} (hm : 0 ≤ m) : ∀ {fs : List (List Int → Int)} {f : List Int → Int} {a : Int}, 0 ≤ a → In a f → (∀ g ∈ fs, In m g) → In (a + fs.length * m) (accV o fs f)
  | [], f, a, _, hf, _ => fun x hx => by have := hf x hx; simp only [accV, List.length_nil]; omega
  | g :: r, f, a, ha, hf, h => fun x hx => by
    have h1 := In.acc (o := o) hm (fs := r) (a := a + m) (by omega) (hf.step (o := o) ha hm (h g List.mem_cons_self)) (fun g' hg' => h g' (List.mem_cons_of_mem _ hg')) x hx
    rw [accV, List.length_cons]
    have e : ((r.length + 1 : Nat) : Int) * m = r.length * m + m := by rw [Int.natCast_add, Int.add_mul]; omega
    rw [e]
    omega
theorem In.args {o : Int} {m : Int} (hm : 0 ≤ m) {fs : List (List Int → Int)} (h : ∀ g ∈ fs, In m g) : In (fs.length * m) (argsV o fs) := by
  cases fs with
  | nil => exact fun x _ => by simp only [argsV, List.length_nil]; omega
  | cons g r =>
    intro x hx
    have h1 := In.acc (o := o) hm (fs := r) (f := fun x => max 0 (g x)) (a := m) hm (fun x hx => by have := h g List.mem_cons_self x hx; show 0 ≤ max 0 (g x) ∧ max 0 (g x) ≤ m; omega) (fun g' hg' => h g' (List.mem_cons_of_mem _ hg')) x hx
    rw [argsV, List.length_cons]
    have e : ((r.length + 1 : Nat) : Int) * m = r.length * m + m := by rw [Int.natCast_add, Int.add_mul]; omega
    rw [e]
    omega
theorem args_or {fs : List (List Int → Int)} {g : List Int → Int} (h : 0 < fs.length) : argsV 3 (fs ++ [g]) = orF (argsV 3 fs) g := by
  cases fs with
  | nil => cases h
  | cons a r => rw [argsV_snoc]; unfold stepV; rw [if_pos rfl]
theorem args_max {o : Int} {fs : List (List Int → Int)} {g : List Int → Int} (h : ¬ (o = 3 ∧ 0 < fs.length)) : argsV o (fs ++ [g]) = fun x => max (argsV o fs x) (g x) := by
  cases fs with
  | nil => rfl
  | cons a r =>
    rw [argsV_snoc]
    unfold stepV
    rw [if_neg fun e => h ⟨e, by simp⟩]
/-- The table, its first i cells through. -/
def finG (o : Int) (b : List Int) (v : Int) (f : List Int → Int) (s : List Int) (i k : Nat) : Int := if k < i then finV o b v f (at6 s k) else f (at6 s k)
def maxG (f g : List Int → Int) (s : List Int) (i k : Nat) : Int := if k < i then max (f (at6 s k)) (g (at6 s k)) else f (at6 s k)
theorem finG_put {o : Int} {b : List Int} {v : Int} {f : List Int → Int} {s : List Int} {i : Nat} {u u1 : Int} (hu : u = finV o b v f (at6 s i)) (k : Nat) : finG o b v f s (i + 1) k = if k = i then u else if k = i then u1 else finG o b v f s i k := by
  unfold finG
  by_cases e : k = i
  · subst e; rw [if_pos (by omega), if_pos rfl, hu]
  · by_cases h : k < i
    · simp only [e, if_false, h, if_true, show k < i + 1 by omega]
    · simp only [e, if_false, h, show ¬ k < i + 1 by omega]
theorem finG_put1 {o : Int} {b : List Int} {v : Int} {f : List Int → Int} {s : List Int} {i : Nat} {u : Int} (hu : u = finV o b v f (at6 s i)) (k : Nat) : finG o b v f s (i + 1) k = if k = i then u else finG o b v f s i k := by
  rw [finG_put (u1 := u) hu]
  by_cases e : k = i
  · simp only [e, if_true]
  · simp only [e, if_false]
theorem maxG_put {f g : List Int → Int} {s : List Int} {i : Nat} {u : Int} (hu : u = max (f (at6 s i)) (g (at6 s i))) (k : Nat) : maxG f g s (i + 1) k = if k = i then u else maxG f g s i k := by
  unfold maxG
  by_cases e : k = i
  · subst e; rw [if_pos (by omega), if_pos rfl, hu]
  · by_cases h : k < i
    · simp only [e, if_false, h, if_true, show k < i + 1 by omega]
    · simp only [e, if_false, h, show ¬ k < i + 1 by omega]
end Go.Proofs.Ytjjpfpgjpmedmaa.VV

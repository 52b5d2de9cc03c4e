/- The arguments of an expression, one after another, without the cap: the mathematics of the reference. No claim of its own. -/
import Derived.Test.YtjjpfpgjpmedmaaMathVD
namespace Go.Proofs.Ytjjpfpgjpmedmaa.VV
open MB (at_)
open ME (F Nd)
/-- Between nothing and m. -/
def In (m : Int) (g : List Int → Int) : Prop := ∀ x, Bu x → 0 ≤ g x ∧ g x ≤ m
theorem In.step {o : Int} {a m : Int} {f g : List Int → Int} (ha : 0 ≤ a) (hm : 0 ≤ m) (hf : In a f) (hg : In m g) : In (a + m) (stepV o f g) := fun x hx => by
  unfold stepV
  by_cases ho : o = 3
  · rw [if_pos ho]
    refine ⟨orF_nonneg _ _ _, orF_le hx (by omega) fun d hd hl => ?_⟩
    have h1 := hf d hd
    have h2 := hg (sub x d) (Bu.sub hl)
    omega
  · rw [if_neg ho]
    have h1 := hf x hx
    have h2 := hg x hx
    show 0 ≤ max (f x) (g x) ∧ max (f x) (g x) ≤ a + m
    omega
theorem In.acc {o : Int} {m : Int} (hm : 0 ≤ m) : ∀ {fs : List (List Int → Int)} {f : List Int → Int} {a : Int}, 0 ≤ a → In a f → (∀ g ∈ fs, In m g) → In (a + fs.length * m) (accV o fs f)
  | [], f, a, _, hf, _ => fun x hx => by have := hf x hx; simp only [accV, List.length_nil]; omega
  | g :: r, f, a, ha, hf, h => fun x hx => by
    have h1 := In.acc (o := o) hm (fs := r) (a := a + m) (by omega) (hf.step (o := o) ha hm (h g List.mem_cons_self)) (fun g' hg' => h g' (List.mem_cons_of_mem _ hg')) x hx
    rw [accV, List.length_cons]
    have e : ((r.length + 1 : Nat) : Int) * m = r.length * m + m := by rw [Int.natCast_add, Int.add_mul]; omega
    rw [e]
    omega
theorem In.args {o : Int} {m : Int} (hm : 0 ≤ m) {fs : List (List Int → Int)} (h : ∀ g ∈ fs, In m g) : In (fs.length * m) (argsV o fs) := by
  cases fs with
  | nil => exact fun x _ => by simp only [argsV, List.length_nil]; omega
  | cons g r =>
    intro x hx
    have h1 := In.acc (o := o) hm (fs := r) (f := fun x => max 0 (g x)) (a := m) hm (fun x hx => by have := h g List.mem_cons_self x hx; show 0 ≤ max 0 (g x) ∧ max 0 (g x) ≤ m; omega) (fun g' hg' => h g' (List.mem_cons_of_mem _ hg')) x hx
    rw [argsV, List.length_cons]
    have e : ((r.length + 1 : Nat) : Int) * m = r.length * m + m := by rw [Int.natCast_add, Int.add_mul]; omega
    rw [e]
    omega
end Go.Proofs.Ytjjpfpgjpmedmaa.VV

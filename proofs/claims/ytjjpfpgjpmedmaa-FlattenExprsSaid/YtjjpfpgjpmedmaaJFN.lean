/- MathFN, MathFO, joined: no claim of its own. -/
import Derived.Test.YtjjpfpgjpmedmaaMathFX
import Derived.Test.YtjjpfpgjpmedmaaJVM
import Derived.Test.YtjjpfpgjpmedmaaJFF
import Derived.Test.YtjjpfpgjpmedmaaJFM
namespace Go.Proofs.Ytjjpfpgjpmedmaa
open VV (supL)
theorem accV_two : ∀ (fs : List (List Int → Int)) (f : List Int → Int) (x : List Int), 0 ≤ f x → VV.accV 2 fs f x = max (f x) (supL (fs.map fun g => g x))
  | [], f, x, h => by
    show f x = max (f x) 0
    omega
  | g :: r, f, x, h => by
    rw [VV.accV, accV_two r _ x (by show 0 ≤ max (f x) (g x); omega)]
    show max (max (f x) (g x)) _ = max (f x) (max (g x) _)
    omega
theorem argsV_two (fs : List (List Int → Int)) (x : List Int) : VV.argsV 2 fs x = supL (fs.map fun g => g x) := by
  cases fs with
  | nil => rfl
  | cons g r =>
    show VV.accV 2 r (fun y => max 0 (g y)) x = max (g x) _
    rw [accV_two r _ x (by show 0 ≤ max 0 (g x); omega)]
    have := VV.supL_nonneg (r.map fun g => g x)
    show max (max 0 (g x)) _ = _
    omega
theorem foldr_roots : ∀ zs : List ME.Nd, (zs.foldr (fun z k => ME.F.cons z.o z.b z.v z.k k) .nil).roots = zs
  | [] => rfl
  | z :: r => by rw [List.foldr_cons, ME.F.roots, foldr_roots r]
theorem grN_val {zs : List ME.Nd} {x : List Int} (h0 : ∀ z ∈ zs, 0 ≤ VV.valN z x) : VV.valN (grN zs) x = supL (zs.map fun z => VV.valN z x) := by
  unfold grN
  split
  · rename_i h
    match zs, h, h0 with
    | [z], _, h0 =>
      show VV.valN z x = max (VV.valN z x) 0
      have := h0 z List.mem_cons_self
      omega
  · unfold VV.valN VV.nodeV VV.finV
    dsimp only
    rw [VV.valF_roots, foldr_roots, argsV_two, List.map_map]
    have hle : supL (zs.map ((fun g => g x) ∘ VV.valN)) ≤ 1000000 := VV.supL_le (by decide) fun v hv => by
      obtain ⟨z, _, rfl⟩ := List.mem_map.1 hv
      exact VV.valN_max z x
    show min 1000000 (VV.limV 2 0 (supL (zs.map ((fun g => g x) ∘ VV.valN)) + VV.addV 2 _ 0 x)) = supL (zs.map ((fun g => g x) ∘ VV.valN))
    unfold VV.limV VV.addV
    rw [if_neg (by decide), if_neg (by rintro ⟨h, _⟩; omega)]
    omega
theorem chL_iff {n : Nat} {y : Nat × Nat} : y ∈ chL n ↔ ∃ j, 8 * j < n ∧ y = (8 * j, min 8 (n - 8 * j)) := by
  unfold chL chP
  rw [List.mem_map]
  constructor
  · rintro ⟨j, hj, rfl⟩
    exact ⟨j, by have := List.mem_range.1 hj; omega, rfl⟩
  · rintro ⟨j, hj, rfl⟩
    exact ⟨j, List.mem_range.2 (by omega), rfl⟩
theorem gN_val {ns : List ME.Nd} {x : List Int} (h0 : ∀ z ∈ ns, 0 ≤ VV.valN z x) (y : Nat × Nat) : VV.valN (gN ns y) x = supL (((ns.drop y.1).take y.2).map fun z => VV.valN z x) :=
  grN_val fun z hz => h0 z (List.mem_of_mem_drop (List.mem_of_mem_take hz))
theorem toN_val {ns : List ME.Nd} {x : List Int} (h0 : ∀ z ∈ ns, 0 ≤ VV.valN z x) : VV.valN (toN ns) x = supL (ns.map fun z => VV.valN z x) := by
  unfold toN
  rw [grN_val fun z hz => by
    obtain ⟨y, _, rfl⟩ := List.mem_map.1 hz
    rw [gN_val h0 y]; exact VV.supL_nonneg _]
  apply Int.le_antisymm
  · refine VV.supL_le (VV.supL_nonneg _) fun v hv => ?_
    obtain ⟨g, hg, rfl⟩ := List.mem_map.1 hv
    obtain ⟨y, _, rfl⟩ := List.mem_map.1 hg
    rw [gN_val h0 y]
    refine VV.supL_le (VV.supL_nonneg _) fun v hv => ?_
    obtain ⟨z, hz, rfl⟩ := List.mem_map.1 hv
    exact VV.le_supL (List.mem_map.2 ⟨z, List.mem_of_mem_drop (List.mem_of_mem_take hz), rfl⟩)
  · refine VV.supL_le (VV.supL_nonneg _) fun v hv => ?_
    obtain ⟨z, hz, rfl⟩ := List.mem_map.1 hv
    obtain ⟨i, hi, rfl⟩ := List.getElem_of_mem hz
    have hy : (8 * (i / 8), min 8 (ns.length - 8 * (i / 8))) ∈ chL ns.length := chL_iff.2 ⟨i / 8, by omega, rfl⟩
    refine Int.le_trans ?_ (VV.le_supL (List.mem_map.2 ⟨_, List.mem_map.2 ⟨_, hy, rfl⟩, rfl⟩))
    rw [gN_val h0]
    refine VV.le_supL (List.mem_map.2 ⟨_, ?_, rfl⟩)
    refine List.mem_of_getElem? (i := i % 8) ?_
    rw [List.getElem?_take, if_pos (by omega), List.getElem?_drop, show 8 * (i / 8) + i % 8 = i by omega, List.getElem?_eq_getElem hi]
theorem atX_val {p : MF.Of} (h0 : 0 ≤ p.value) (h1 : p.value ≤ 1000000) (x : List Int) : VV.valN (atX p).n x = if VV.leB p.want x = true then p.value else 0 := by
  show min 1000000 (VV.limV 1 p.value (0 + VV.addV 1 p.want p.value x)) = _
  unfold VV.limV VV.addV
  rw [if_neg (by decide)]
  by_cases h : VV.leB p.want x = true
  · rw [if_pos ⟨.inl rfl, h⟩, if_pos h]; omega
  · rw [if_neg fun q => h q.2, if_neg h]; rfl
/-- The expression of offers has their value. -/
theorem offs_val {l : List MF.Of} (h : ∀ p ∈ l, 0 ≤ p.value ∧ p.value ≤ 1000000) (x : List Int) : VV.valN (toN (l.map fun p => (atX p).n)) x = VV.worth (MF.stp l) x := by
  have h0 : ∀ z ∈ l.map (fun p => (atX p).n), 0 ≤ VV.valN z x := fun z hz => by
    obtain ⟨p, hp, rfl⟩ := List.mem_map.1 hz
    rw [atX_val (h p hp).1 (h p hp).2]
    have := (h p hp).1
    split <;> omega
  rw [toN_val h0, List.map_map]
  apply Int.le_antisymm
  · refine VV.supL_le (VV.worth_nonneg _ _) fun v hv => ?_
    obtain ⟨p, hp, rfl⟩ := List.mem_map.1 hv
    show VV.valN (atX p).n x ≤ _
    rw [atX_val (h p hp).1 (h p hp).2]
    split
    · rename_i hl
      exact VV.le_worth (s := (p.want, p.value)) (List.mem_map.2 ⟨p, hp, rfl⟩) (VV.leB_iff.1 hl)
    · exact VV.worth_nonneg _ _
  · refine VV.worth_le (VV.supL_nonneg _) fun s hs hl => ?_
    obtain ⟨p, hp, rfl⟩ := List.mem_map.1 hs
    refine VV.le_supL (List.mem_map.2 ⟨p, hp, ?_⟩)
    show VV.valN (atX p).n x = p.value
    rw [atX_val (h p hp).1 (h p hp).2, if_pos (VV.leB_iff.2 hl)]
end Go.Proofs.Ytjjpfpgjpmedmaa
namespace Go.Proofs.Ytjjpfpgjpmedmaa
abbrev chain (zs : List ME.Nd) : ME.F := zs.foldr (fun z k => ME.F.cons z.o z.b z.v z.k k) .nil
theorem chain_len (zs : List ME.Nd) : (chain zs).len = zs.length := by rw [← ME.F.roots_length, foldr_roots]
theorem chain_pre {y : ME.Nd} : ∀ {zs : List ME.Nd}, y ∈ (chain zs).pre ↔ ∃ z ∈ zs, y ∈ z.pre
  | [] => by simp [chain, ME.F.pre]
  | z :: r => by
    show y ∈ z :: (z.k.pre ++ (chain r).pre) ↔ _
    rw [← List.cons_append, List.mem_append, chain_pre (zs := r)]
    constructor
    · rintro (h | ⟨x, hx, h⟩)
      · exact ⟨z, List.mem_cons_self, h⟩
      · exact ⟨x, List.mem_cons_of_mem _ hx, h⟩
    · rintro ⟨x, hx, h⟩
      rcases List.mem_cons.1 hx with rfl | hx
      · exact .inl h
      · exact .inr ⟨x, hx, h⟩
theorem chain_depth {m : Nat} : ∀ {zs : List ME.Nd}, (∀ z ∈ zs, z.depth ≤ m) → (chain zs).depth ≤ m
  | [], _ => Nat.zero_le _
  | z :: r, h => by
    show max (z.k.depth + 1) (chain r).depth ≤ m
    exact Nat.max_le.2 ⟨h z List.mem_cons_self, chain_depth fun x hx => h x (List.mem_cons_of_mem _ hx)⟩
theorem grN_cases (zs : List ME.Nd) : (∃ z, zs = [z] ∧ grN zs = z) ∨ (zs.length ≠ 1 ∧ grN zs = ⟨2, ME.zero6, 0, chain zs⟩) := by
  by_cases h : zs.length = 1
  · obtain ⟨z, rfl⟩ := List.length_eq_one_iff.1 h
    exact .inl ⟨z, rfl, rfl⟩
  · exact .inr ⟨h, by unfold grN; rw [if_neg h]; rfl⟩
theorem grN_depth {zs : List ME.Nd} {m : Nat} (h : ∀ z ∈ zs, z.depth ≤ m) : (grN zs).depth ≤ m + 1 := by
  rcases grN_cases zs with ⟨z, rfl, e⟩ | ⟨_, e⟩
  · rw [e]; have := h z List.mem_cons_self; omega
  · rw [e]; have := chain_depth h; show (chain zs).depth + 1 ≤ m + 1; omega
theorem grN_has {zs : List ME.Nd} {y z : ME.Nd} (hz : z ∈ zs) (hy : y ∈ z.pre) : y ∈ (grN zs).pre := by
  rcases grN_cases zs with ⟨x, rfl, e⟩ | ⟨_, e⟩
  · rw [e]; rw [List.mem_singleton.1 hz] at hy; exact hy
  · rw [e]; exact List.mem_cons_of_mem _ (chain_pre.2 ⟨z, hz, hy⟩)
theorem chunk_mem {ns : List ME.Nd} {y : Nat × Nat} {z : ME.Nd} (h : z ∈ (ns.drop y.1).take y.2) : z ∈ ns := List.mem_of_mem_drop (List.mem_of_mem_take h)
theorem toN_depth {ns : List ME.Nd} {m : Nat} (h : ∀ z ∈ ns, z.depth ≤ m) : (toN ns).depth ≤ m + 2 := by
  unfold toN
  refine grN_depth (m := m + 1) fun g hg => ?_
  obtain ⟨y, _, rfl⟩ := List.mem_map.1 hg
  exact grN_depth fun z hz => h z (chunk_mem hz)
theorem toN_has {ns : List ME.Nd} {z : ME.Nd} (hz : z ∈ ns) : z ∈ (toN ns).pre := by
  obtain ⟨i, hi, rfl⟩ := List.getElem_of_mem hz
  have hy : (8 * (i / 8), min 8 (ns.length - 8 * (i / 8))) ∈ chL ns.length := chL_iff.2 ⟨i / 8, by omega, rfl⟩
  refine grN_has (List.mem_map.2 ⟨_, hy, rfl⟩) (grN_has (z := ns[i]) ?_ List.mem_cons_self)
  refine List.mem_of_getElem? (i := i % 8) ?_
  rw [List.getElem?_take, if_pos (by omega), List.getElem?_drop, show 8 * (i / 8) + i % 8 = i by omega, List.getElem?_eq_getElem hi]
/-- Offers whose expression is valid have values in range. -/
theorem toN_fine {l : List MF.Of} (h : ME.checkE (toN (l.map fun p => (atX p).n)) = 0) : ∀ p ∈ l, 0 ≤ p.value ∧ p.value ≤ 1000000 := fun p hp => by
  have h1 := (ME.checkE_zero.1 h).2.2.2 _ (toN_has (List.mem_map.2 ⟨p, hp, rfl⟩))
  unfold ME.nodeE at h1
  split at h1
  · cases h1
  · split at h1
    · cases h1
    · rename_i h2
      unfold ME.rangeB at h2
      have ho : (atX p).n.o = 1 := rfl
      have hv : (atX p).n.v = p.value := rfl
      rw [if_neg (by rw [ho]; decide), hv] at h2
      by_cases h3 : p.value < 1 ∨ 1000000 < p.value
      · rw [if_pos h3] at h2; exact absurd rfl h2
      · omega
/-! The offers of an expression. -/
end Go.Proofs.Ytjjpfpgjpmedmaa

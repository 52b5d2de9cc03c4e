/- MathFN, MathFO, FWalkMn, joined: no claim of its own. -/
import Derived.Test.YtbnillkihmooeaaMathFX
import Derived.Test.YtbnillkihmooeaaJVM
import Derived.Test.YtbnillkihmooeaaJFF
import Derived.Test.YtbnillkihmooeaaMathFD
import Derived.Test.YtbnillkihmooeaaJFH
import Derived.Test.YtbnillkihmooeaaJFD
namespace Go.Proofs.Ytbnillkihmooeaa
open VV (supL)
theorem accV_two : ∀ (fs : List (List Int → Int)) (f : List Int → Int) (x : List Int), 0 ≤ f x → VV.accV 2 fs f x = max (f x) (supL (fs.map fun g => g x))
  | [], f, x, h => by
    show f x = max (f x) 0
    omega
  | g :: r, f, x, h => by
    rw [VV.accV, accV_two r _ x (by show 0 ≤ max (f x) (g x); omega)]
    show max (max (f x) (g x)) _ = max (f x) (max (g x) _)
    omega
theorem argsV_two (fs : List (List Int → Int)) (x : List Int) : VV.argsV 2 fs x = supL (fs.map fun g => g x) := by
  cases fs with
  | nil => rfl
  | cons g r =>
    show VV.accV 2 r (fun y => max 0 (g y)) x = max (g x) _
    rw [accV_two r _ x (by show 0 ≤ max 0 (g x); omega)]
    have := VV.supL_nonneg (r.map fun g => g x)
    show max (max 0 (g x)) _ = _
    omega
theorem foldr_roots : ∀ zs : List ME.Nd, (zs.foldr (fun z k => ME.F.cons z.o z.b z.v z.k k) .nil).roots = zs
  | [] => rfl
  | z :: r => by rw [List.foldr_cons, ME.F.roots, foldr_roots r]
theorem grN_val {zs : List ME.Nd} {x : List Int} (h0 : ∀ z ∈ zs, 0 ≤ VV.valN z x) : VV.valN (grN zs) x = supL (zs.map fun z => VV.valN z x) := by
  unfold grN
  split
  · rename_i h
    match zs, h, h0 with
    | [z], _, h0 =>
      show VV.valN z x = max (VV.valN z x) 0
      have := h0 z List.mem_cons_self
      omega
  · unfold VV.valN VV.nodeV VV.finV
    dsimp only
    rw [VV.valF_roots, foldr_roots, argsV_two, List.map_map]
    have hle : supL (zs.map ((fun g => g x) ∘ VV.valN)) ≤ 1000000 := VV.supL_le (by decide) fun v hv => by
      obtain ⟨z, _, rfl⟩ := List.mem_map.1 hv
      exact VV.valN_max z x
    show min 1000000 (VV.limV 2 0 (supL (zs.map ((fun g => g x) ∘ VV.valN)) + VV.addV 2 _ 0 x)) = supL (zs.map ((fun g => g x) ∘ VV.valN))
    unfold VV.limV VV.addV
    rw [if_neg (by decide), if_neg (by rintro ⟨h, _⟩; omega)]
    omega
theorem chL_iff {n : Nat} {y : Nat × Nat} : y ∈ chL n ↔ ∃ j, 8 * j < n ∧ y = (8 * j, min 8 (n - 8 * j)) := by
  unfold chL chP
  rw [List.mem_map]
  constructor
  · rintro ⟨j, hj, rfl⟩
    exact ⟨j, by have := List.mem_range.1 hj; omega, rfl⟩
  · rintro ⟨j, hj, rfl⟩
    exact ⟨j, List.mem_range.2 (by omega), rfl⟩
theorem gN_val {ns : List ME.Nd} {x : List Int} (h0 : ∀ z ∈ ns, 0 ≤ VV.valN z x) (y : Nat × Nat) : VV.valN (gN ns y) x = supL (((ns.drop y.1).take y.2).map fun z => VV.valN z x) :=
  grN_val fun z hz => h0 z (List.mem_of_mem_drop (List.mem_of_mem_take hz))
theorem toN_val {ns : List ME.Nd} {x : List Int} (h0 : ∀ z ∈ ns, 0 ≤ VV.valN z x) : VV.valN (toN ns) x = supL (ns.map fun z => VV.valN z x) := by
  unfold toN
  rw [grN_val fun z hz => by
    obtain ⟨y, _, rfl⟩ := List.mem_map.1 hz
    rw [gN_val h0 y]; exact VV.supL_nonneg _]
  apply Int.le_antisymm
  · refine VV.supL_le (VV.supL_nonneg _) fun v hv => ?_
    obtain ⟨g, hg, rfl⟩ := List.mem_map.1 hv
    obtain ⟨y, _, rfl⟩ := List.mem_map.1 hg
    rw [gN_val h0 y]
    refine VV.supL_le (VV.supL_nonneg _) fun v hv => ?_
    obtain ⟨z, hz, rfl⟩ := List.mem_map.1 hv
    exact VV.le_supL (List.mem_map.2 ⟨z, List.mem_of_mem_drop (List.mem_of_mem_take hz), rfl⟩)
  · refine VV.supL_le (VV.supL_nonneg _) fun v hv => ?_
    obtain ⟨z, hz, rfl⟩ := List.mem_map.1 hv
    obtain ⟨i, hi, rfl⟩ := List.getElem_of_mem hz
    have hy : (8 * (i / 8), min 8 (ns.length - 8 * (i / 8))) ∈ chL ns.length := chL_iff.2 ⟨i / 8, by omega, rfl⟩
    refine Int.le_trans ?_ (VV.le_supL (List.mem_map.2 ⟨_, List.mem_map.2 ⟨_, hy, rfl⟩, rfl⟩))
    rw [gN_val h0]
    refine VV.le_supL (List.mem_map.2 ⟨_, ?_, rfl⟩)
    refine List.mem_of_getElem? (i := i % 8) ?_
    rw [List.getElem?_take, if_pos (by omega), List.getElem?_drop, show 8 * (i / 8) + i % 8 = i by omega, List.getElem?_eq_getElem hi]
theorem atX_val {p : MF.Of} (h0 : 0 ≤ p.value) (h1 : p.value ≤ 1000000) (x : List Int) : VV.valN (atX p).n x = if VV.leB p.want x = true then p.value else 0 := by
  show min 1000000 (VV.limV 1 p.value (0 + VV.addV 1 p.want p.value x)) = _
  unfold VV.limV VV.addV
  rw [if_neg (by decide)]
  by_cases h : VV.leB p.want x = true
  · rw [if_pos ⟨.inl rfl, h⟩, if_pos h]; omega
  · rw [if_neg fun q => h q.2, if_neg h]; rfl
/-- The expression of offers has their value. -/
theorem offs_val {l : List MF.Of} (h : ∀ p ∈ l, 0 ≤ p.value ∧ p.value ≤ 1000000) (x : List Int) : VV.valN (toN (l.map fun p => (atX p).n)) x = VV.worth (MF.stp l) x := by
  have h0 : ∀ z ∈ l.map (fun p => (atX p).n), 0 ≤ VV.valN z x := fun z hz => by
    obtain ⟨p, hp, rfl⟩ := List.mem_map.1 hz
    rw [atX_val (h p hp).1 (h p hp).2]
    have := (h p hp).1
    split <;> omega
  rw [toN_val h0, List.map_map]
  apply Int.le_antisymm
  · refine VV.supL_le (VV.worth_nonneg _ _) fun v hv => ?_
    obtain ⟨p, hp, rfl⟩ := List.mem_map.1 hv
    show VV.valN (atX p).n x ≤ _
    rw [atX_val (h p hp).1 (h p hp).2]
    split
    · rename_i hl
      exact VV.le_worth (s := (p.want, p.value)) (List.mem_map.2 ⟨p, hp, rfl⟩) (VV.leB_iff.1 hl)
    · exact VV.worth_nonneg _ _
  · refine VV.worth_le (VV.supL_nonneg _) fun s hs hl => ?_
    obtain ⟨p, hp, rfl⟩ := List.mem_map.1 hs
    refine VV.le_supL (List.mem_map.2 ⟨p, hp, ?_⟩)
    show VV.valN (atX p).n x = p.value
    rw [atX_val (h p hp).1 (h p hp).2, if_pos (VV.leB_iff.2 hl)]
end Go.Proofs.Ytbnillkihmooeaa
namespace Go.Proofs.Ytbnillkihmooeaa
abbrev chain (zs : List ME.Nd) : ME.F := zs.foldr (fun z k => ME.F.cons z.o z.b z.v z.k k) .nil
theorem chain_len (zs : List ME.Nd) : (chain zs).len = zs.length := by rw [← ME.F.roots_length, foldr_roots]
theorem chain_pre {y : ME.Nd} : ∀ {zs : List ME.Nd}, y ∈ (chain zs).pre ↔ ∃ z ∈ zs, y ∈ z.pre
  | [] => by simp [chain, ME.F.pre]
  | z :: r => by
    show y ∈ z :: (z.k.pre ++ (chain r).pre) ↔ _
    rw [← List.cons_append, List.mem_append, chain_pre (zs := r)]
    constructor
    · rintro (h | ⟨x, hx, h⟩)
      · exact ⟨z, List.mem_cons_self, h⟩
      · exact ⟨x, List.mem_cons_of_mem _ hx, h⟩
    · rintro ⟨x, hx, h⟩
      rcases List.mem_cons.1 hx with rfl | hx
      · exact .inl h
      · exact .inr ⟨x, hx, h⟩
theorem chain_depth {m : Nat} : ∀ {zs : List ME.Nd}, (∀ z ∈ zs, z.depth ≤ m) → (chain zs).depth ≤ m
  | [], _ => Nat.zero_le _
  | z :: r, h => by
    show max (z.k.depth + 1) (chain r).depth ≤ m
    exact Nat.max_le.2 ⟨h z List.mem_cons_self, chain_depth fun x hx => h x (List.mem_cons_of_mem _ hx)⟩
theorem grN_cases (zs : List ME.Nd) : (∃ z, zs = [z] ∧ grN zs = z) ∨ (zs.length ≠ 1 ∧ grN zs = ⟨2, ME.zero6, 0, chain zs⟩) := by
  by_cases h : zs.length = 1
  · obtain ⟨z, rfl⟩ := List.length_eq_one_iff.1 h
    exact .inl ⟨z, rfl, rfl⟩
  · exact .inr ⟨h, by unfold grN; rw [if_neg h]; rfl⟩
theorem grN_depth {zs : List ME.Nd} {m : Nat} (h : ∀ z ∈ zs, z.depth ≤ m) : (grN zs).depth ≤ m + 1 := by
  rcases grN_cases zs with ⟨z, rfl, e⟩ | ⟨_, e⟩
  · rw [e]; have := h z List.mem_cons_self; omega
  · rw [e]; have := chain_depth h; show (chain zs).depth + 1 ≤ m + 1; omega
theorem grN_pre {zs : List ME.Nd} {y : ME.Nd} (h0 : 0 < zs.length) (h8 : zs.length ≤ 8) (hy : y ∈ (grN zs).pre) : (ME.nodeE y = 0 ∧ y.k.len ≤ 8) ∨ ∃ z ∈ zs, y ∈ z.pre := by
  rcases grN_cases zs with ⟨z, rfl, e⟩ | ⟨_, e⟩
  · rw [e] at hy; exact .inr ⟨z, List.mem_cons_self, hy⟩
  · rw [e] at hy
    rcases List.mem_cons.1 hy with rfl | hy
    · refine .inl ⟨?_, by show (chain zs).len ≤ 8; rw [chain_len]; exact h8⟩
      have hl := chain_len zs
      unfold ME.nodeE ME.formB ME.rangeB
      dsimp only
      rw [hl]
      simp [h8, Nat.succ_le_of_lt h0]
    · exact .inr (chain_pre.1 hy)
theorem grN_has {zs : List ME.Nd} {y z : ME.Nd} (hz : z ∈ zs) (hy : y ∈ z.pre) : y ∈ (grN zs).pre := by
  rcases grN_cases zs with ⟨x, rfl, e⟩ | ⟨_, e⟩
  · rw [e]; rw [List.mem_singleton.1 hz] at hy; exact hy
  · rw [e]; exact List.mem_cons_of_mem _ (chain_pre.2 ⟨z, hz, hy⟩)
theorem chunk_mem {ns : List ME.Nd} {y : Nat × Nat} {z : ME.Nd} (h : z ∈ (ns.drop y.1).take y.2) : z ∈ ns := List.mem_of_mem_drop (List.mem_of_mem_take h)
theorem toN_depth {ns : List ME.Nd} {m : Nat} (h : ∀ z ∈ ns, z.depth ≤ m) : (toN ns).depth ≤ m + 2 := by
  unfold toN
  refine grN_depth (m := m + 1) fun g hg => ?_
  obtain ⟨y, _, rfl⟩ := List.mem_map.1 hg
  exact grN_depth fun z hz => h z (chunk_mem hz)
theorem toN_pre {ns : List ME.Nd} (h0 : 0 < ns.length) (h64 : ns.length ≤ 64) {y : ME.Nd} (hy : y ∈ (toN ns).pre) : (ME.nodeE y = 0 ∧ y.k.len ≤ 8) ∨ ∃ z ∈ ns, y ∈ z.pre := by
  unfold toN at hy
  rcases grN_pre (by rw [List.length_map, chL_len]; omega) (by rw [List.length_map, chL_len]; omega) hy with h | ⟨g, hg, hy⟩
  · exact .inl h
  · obtain ⟨q, hq, rfl⟩ := List.mem_map.1 hg
    have hb := chL_mem hq
    obtain ⟨j, _, rfl⟩ := chL_iff.1 hq
    dsimp only at hb
    unfold gN at hy
    rcases grN_pre (by rw [List.length_take, List.length_drop]; omega) (by rw [List.length_take]; omega) hy with h | ⟨z, hz, hy⟩
    · exact .inl h
    · exact .inr ⟨z, chunk_mem (y := (8 * j, min 8 (ns.length - 8 * j))) hz, hy⟩
theorem toN_has {ns : List ME.Nd} {z : ME.Nd} (hz : z ∈ ns) : z ∈ (toN ns).pre := by
  obtain ⟨i, hi, rfl⟩ := List.getElem_of_mem hz
  have hy : (8 * (i / 8), min 8 (ns.length - 8 * (i / 8))) ∈ chL ns.length := chL_iff.2 ⟨i / 8, by omega, rfl⟩
  refine grN_has (List.mem_map.2 ⟨_, hy, rfl⟩) (grN_has (z := ns[i]) ?_ List.mem_cons_self)
  refine List.mem_of_getElem? (i := i % 8) ?_
  rw [List.getElem?_take, if_pos (by omega), List.getElem?_drop, show 8 * (i / 8) + i % 8 = i by omega, List.getElem?_eq_getElem hi]
theorem atX_pre {p : MF.Of} {y : ME.Nd} (h : y ∈ (atX p).n.pre) : y = (atX p).n := List.mem_singleton.1 h
/-- The expression of valid offers is valid, unless it is too large. -/
theorem toN_check {l : List MF.Of} (h0 : 0 < l.length) (h64 : l.length ≤ 64) (h : ∀ p ∈ l, ME.nodeE (atX p).n = 0) : ME.checkE (toN (l.map fun p => (atX p).n)) = 0 ∨ (ME.checkE (toN (l.map fun p => (atX p).n)) = 3 ∧ 30 < l.length) := by
  have hd : (toN (l.map fun p => (atX p).n)).depth ≤ 3 := toN_depth (m := 1) fun z hz => by
    obtain ⟨p, _, rfl⟩ := List.mem_map.1 hz
    exact Nat.le_refl _
  have hp : ∀ y ∈ (toN (l.map fun p => (atX p).n)).pre, ME.nodeE y = 0 ∧ y.k.len ≤ 8 := fun y hy => by
    rcases toN_pre (by rw [List.length_map]; exact h0) (by rw [List.length_map]; exact h64) hy with g | ⟨z, hz, hy⟩
    · exact g
    · obtain ⟨p, hp, rfl⟩ := List.mem_map.1 hz
      rw [atX_pre hy]
      exact ⟨h p hp, Nat.zero_le _⟩
  have hz := toN_size l h0
  by_cases hs : 40 < (toN (l.map fun p => (atX p).n)).size
  · refine .inr ⟨?_, by omega⟩
    unfold ME.checkE
    rw [if_neg (by omega), if_pos hs]
  · exact .inl (ME.checkE_zero.2 ⟨by omega, by omega, by unfold ME.wideB; rw [List.all_eq_true]; exact fun y hy => decide_eq_true (hp y hy).2, fun y hy => (hp y hy).1⟩)
/-- Offers whose expression is valid have values in range. -/
theorem toN_fine {l : List MF.Of} (h : ME.checkE (toN (l.map fun p => (atX p).n)) = 0) : ∀ p ∈ l, 0 ≤ p.value ∧ p.value ≤ 1000000 := fun p hp => by
  have h1 := (ME.checkE_zero.1 h).2.2.2 _ (toN_has (List.mem_map.2 ⟨p, hp, rfl⟩))
  unfold ME.nodeE at h1
  split at h1
  · cases h1
  · split at h1
    · cases h1
    · rename_i h2
      unfold ME.rangeB at h2
      have ho : (atX p).n.o = 1 := rfl
      have hv : (atX p).n.v = p.value := rfl
      rw [if_neg (by rw [ho]; decide), hv] at h2
      by_cases h3 : p.value < 1 ∨ 1000000 < p.value
      · rw [if_pos h3] at h2; exact absurd rfl h2
      · omega
/-! The offers of an expression. -/
theorem all_apart (s : List Int) : (VV.all s).Pairwise (· ≠ ·) := by
  rw [List.pairwise_iff_getElem]
  intro i j hi hj hlt e
  have hi' : i < VV.cnt s := by rw [show (VV.all s).length = VV.cnt s from MB.row_length _ _ _] at hi; exact hi
  have hj' : j < VV.cnt s := by rw [show (VV.all s).length = VV.cnt s from MB.row_length _ _ _] at hj; exact hj
  have e1 : (VV.all s)[i]? = some (VV.at6 s i) := MB.row_at hi'
  have e2 : (VV.all s)[j]? = some (VV.at6 s j) := MB.row_at hj'
  rw [List.getElem?_eq_getElem hi] at e1
  rw [List.getElem?_eq_getElem hj] at e2
  have : VV.at6 s i = VV.at6 s j := by injection e1 with e1; injection e2 with e2; rw [← e1, ← e2, e]
  have h1 := VV.rank_at hi'
  have h2 := VV.rank_at hj'
  rw [this, h2] at h1
  omega
theorem offs_mem {f : List Int → Int} {s : List Int} (hs : VV.Bu s) {p : MF.Of} (hp : p ∈ offs f (VV.all s)) : ∃ b, VV.Bu b ∧ VV.Le b s ∧ VV.subT f b < f b ∧ p = ofB b (f b) := by
  obtain ⟨b, hb, rfl⟩ := List.mem_map.1 hp
  obtain ⟨hb, h⟩ := List.mem_filter.1 hb
  obtain ⟨h1, h2⟩ := (VV.all_mem hs).1 hb
  exact ⟨b, h1, h2, of_decide_eq_true h, rfl⟩
theorem ofB_good {f : List Int → Int} {b d : List Int} (hb : VV.Bu b) (hd : VV.Bu d) (hne : b ≠ d) (h : VV.subT f d < f d) : MF.good (ofB b (f b)) (ofB d (f d)) = false := by
  cases hg : MF.good (ofB b (f b)) (ofB d (f d)) with
  | false => rfl
  | true =>
    obtain ⟨_, h1, h2⟩ := MF.good_iff.1 hg
    rw [ofB_want hb.len, ofB_want hd.len] at h2
    have h3 := VV.le_subT (f := f) hd hb h2 hne
    have h1' : f d ≤ f b := h1
    omega
theorem offs_apart {f : List Int → Int} {s : List Int} (hs : VV.Bu s) : (offs f (VV.all s)).Pairwise MF.Apart := by
  unfold offs
  rw [List.pairwise_map]
  have h1 := (all_apart s).filter fun b => decide (VV.subT f b < f b)
  refine h1.imp_of_mem ?_
  intro b d hb hd hne
  obtain ⟨hb1, hb2⟩ := List.mem_filter.1 hb
  obtain ⟨hd1, hd2⟩ := List.mem_filter.1 hd
  have kb := ((VV.all_mem hs).1 hb1).1
  have kd := ((VV.all_mem hs).1 hd1).1
  exact ⟨ofB_good kb kd hne (of_decide_eq_true hd2), ofB_good kd kb (Ne.symm hne) (of_decide_eq_true hb2)⟩
/-- The offers of an expression are clean. -/
theorem offers_clean {n : ME.Nd} {s : List Int} (hl6 : s.length = 6) (h : (offersE n s).2 = 0) : MF.cleanL (offersE n s).1 = (offersE n s).1 := by
  obtain ⟨h1, _, h3, _⟩ := offersE_ok h
  obtain ⟨_, hk, _, _⟩ := tabE_ok h1
  have hs : VV.Bu s := VV.bu_of_ok hl6 (VV.ok_of_chk hk)
  rw [h3]
  refine MF.clean_self _ _ rfl (offs_apart hs) fun p hp => ?_
  obtain ⟨b, _, _, hlt, rfl⟩ := offs_mem hs hp
  have := VV.subT_nonneg (fT (tabE n s).1 s) b
  show 1 ≤ fT (tabE n s).1 s b
  omega
theorem tot_pos1 {b : List Int} (hl : b.length = 6) (hk : MB.okB b = true) (hne : b ≠ VV.Z) : 1 ≤ totB b 6 := by
  match b, hl with
  | [a0, a1, a2, a3, a4, a5], _ =>
    have q0 := okB_at hk (k := 0) (by show 0 < 6; decide)
    have q1 := okB_at hk (k := 1) (by show 1 < 6; decide)
    have q2 := okB_at hk (k := 2) (by show 2 < 6; decide)
    have q3 := okB_at hk (k := 3) (by show 3 < 6; decide)
    have q4 := okB_at hk (k := 4) (by show 4 < 6; decide)
    have q5 := okB_at hk (k := 5) (by show 5 < 6; decide)
    simp only [MB.at_, List.getD_cons_zero, List.getD_cons_succ] at q0 q1 q2 q3 q4 q5
    have e : totB [a0, a1, a2, a3, a4, a5] 6 = a0 + a1 + a2 + a3 + a4 + a5 := by
      simp only [totB, MB.at_, List.getD_cons_zero, List.getD_cons_succ]
      unfold RowKit.wrap64
      omega
    rw [e]
    by_cases h : 1 ≤ a0 + a1 + a2 + a3 + a4 + a5
    · exact h
    · exact absurd (show [a0, a1, a2, a3, a4, a5] = VV.Z by
        obtain ⟨rfl, rfl, rfl, rfl, rfl, rfl⟩ : a0 = 0 ∧ a1 = 0 ∧ a2 = 0 ∧ a3 = 0 ∧ a4 = 0 ∧ a5 = 0 := by omega
        rfl) hne
theorem okB_le {b s : List Int} (hb : VV.Bu b) (hk : MB.okB s = true) (hl : VV.Le b s) (hs : s.length = 6) : MB.okB b = true := by
  unfold MB.okB
  rw [List.all_eq_true]
  intro q hq
  obtain ⟨i, hi, rfl⟩ := List.getElem_of_mem hq
  have hi6 : i < 6 := by rw [hb.len] at hi; exact hi
  have h1 := hb.pos i hi6
  have h2 := hl i hi6
  have h3 := okB_at hk (k := i) (by rw [hs]; exact hi6)
  have e : MB.at_ b i = b[i] := by unfold MB.at_; rw [List.getD_eq_getElem?_getD, List.getElem?_eq_getElem hi]; rfl
  rw [← e]
  simp
  omega
theorem rank_zero {s : List Int} (hs : VV.Bu s) : VV.rank s VV.Z = 0 := by
  have h := VV.rank_at (s := s) (i := 0) (VV.cnt_pos s)
  have h2 := VV.rank_mono (s := s) (VV.at6_bu hs 0).1.ge
  omega
/-- The offers of an expression are valid. -/
theorem offers_node {n : ME.Nd} {s : List Int} (hl6 : s.length = 6) (h : (offersE n s).2 = 0) : ∀ p ∈ (offersE n s).1, ME.nodeE (atX p).n = 0 := fun p hp => by
  obtain ⟨h1, hc, h3, _⟩ := offersE_ok h
  obtain ⟨_, hk, _, _⟩ := tabE_ok h1
  have hok := VV.ok_of_chk hk
  have hs : VV.Bu s := VV.bu_of_ok hl6 hok
  obtain ⟨_, _, hz, ht⟩ := ckT_ok hl6 hc
  rw [h3] at hp
  obtain ⟨b, hb, hl, hlt, rfl⟩ := offs_mem hs hp
  have hsub := VV.subT_nonneg (fT (tabE n s).1 s) b
  have hmax : fT (tabE n s).1 s b ≤ 1000000 := (getD_in ht _).2
  have hbk := okB_le hb hok hl hl6
  have hne : b ≠ VV.Z := by
    rintro rfl
    refine VV.z_not (f := fT (tabE n s).1 s) ?_ hlt
    unfold fT
    rw [rank_zero hs]
    exact hz
  have ht1 := tot_pos1 hb.len hbk hne
  have hw : (ofB b (fT (tabE n s).1 s b)).want = b := ofB_want hb.len
  have e1 : (atX (ofB b (fT (tabE n s).1 s b))).n = ⟨1, b, fT (tabE n s).1 s b, .nil⟩ := by
    show (⟨1, (ofB b (fT (tabE n s).1 s b)).want, _, .nil⟩ : ME.Nd) = _
    rw [hw]; rfl
  rw [e1]
  unfold ME.nodeE ME.formB ME.rangeB
  dsimp only
  have hck : chk b = 0 := by unfold chk; rw [hbk]; rfl
  have h2 : ¬ (fT (tabE n s).1 s b < 1 ∨ 1000000 < fT (tabE n s).1 s b) := by omega
  simp [ME.F.len, hck, h2, ht1]
/-- The offers of the expression of the offers are the offers. -/
theorem offers_again {n : ME.Nd} {s : List Int} (hl6 : s.length = 6) (h : (offersE n s).2 = 0) (hx : ME.checkE (toN ((offersE n s).1.map fun p => (atX p).n)) = 0) : offersE (toN ((offersE n s).1.map fun p => (atX p).n)) s = ((offersE n s).1, 0) := by
  obtain ⟨h1, _, _, _⟩ := offersE_ok h
  obtain ⟨hc, hk, hct, ht⟩ := tabE_ok h1
  have hs : VV.Bu s := VV.bu_of_ok hl6 (VV.ok_of_chk hk)
  have hf := toN_fine hx
  have e : tabE (toN ((offersE n s).1.map fun p => (atX p).n)) s = tabE n s := by
    unfold tabE
    rw [if_neg (fun q => q hx), if_neg (fun q => q hk), if_neg hct, if_neg (fun q => q hc), if_neg (fun q => q hk), if_neg hct]
    congr 1
    unfold VV.tab
    refine List.map_congr_left fun b hb => ?_
    obtain ⟨hb1, hb2⟩ := (VV.all_mem hs).1 hb
    rw [offs_val hf, offers_worth hl6 h hb1 hb2]
  have e2 : offersE (toN ((offersE n s).1.map fun p => (atX p).n)) s = offersE n s := by
    generalize toN ((offersE n s).1.map fun p => (atX p).n) = m at e
    unfold offersE
    rw [e]
  rw [e2, ← h]
end Go.Proofs.Ytbnillkihmooeaa
namespace Go.Proofs.Ytbnillkihmooeaa
open Go.RowKit
attribute [local go_sem] Oper.semAt_some
set_option maxRecDepth 100000 in
set_option maxHeartbeats 8000000 in
theorem flattenMinimal_walk (x : NT) (hx : x.size ≤ 1000000) (q0 q1 q2 q3 q4 q5 : Int) (w : World) (ok : Nat → Prop) (hok : x.Ok w ok) : Calls Try.prog 9 #[x.val, .agg #[.int .i64 q0, .int .i64 q1, .int .i64 q2, .int .i64 q3, .int .i64 q4, .int .i64 q5]] w (Gives (.bool true) w) := by
  have CS := Lib.hid (fun w' (hb : Below w.heap.size w w') => small14_any x hx q0 q1 q2 q3 q4 q5 w' ok (hok.below hb))
  have CF := Lib.hid (fun w' (hb : Below w.heap.size w w') => foffers_any x (Nat.le_trans hx (by decide)) q0 q1 q2 q3 q4 q5 w' ok (hok.below hb))
  have CG := Lib.hid (fun (y : NT) (hy : y.n.size ≤ 40) w' ok' (hb : y.Ok w' ok') => foffers_any y (by rw [← NT.size_n]; omega) q0 q1 q2 q3 q4 q5 w' ok' hb)
  have HOK : Hid ((offersE x.n [q0, q1, q2, q3, q4, q5]).2 = 0 → MF.cleanL (offersE x.n [q0, q1, q2, q3, q4, q5]).1 = (offersE x.n [q0, q1, q2, q3, q4, q5]).1 ∧ (offersE x.n [q0, q1, q2, q3, q4, q5]).1.length ≤ 40 ∧ (0 < (offersE x.n [q0, q1, q2, q3, q4, q5]).1.length → ((toE (offersE x.n [q0, q1, q2, q3, q4, q5]).1).2 = 0 ∧ (toE (offersE x.n [q0, q1, q2, q3, q4, q5]).1).1.size ≤ 40 ∧ offersE (toE (offersE x.n [q0, q1, q2, q3, q4, q5]).1).1 [q0, q1, q2, q3, q4, q5] = ((offersE x.n [q0, q1, q2, q3, q4, q5]).1, 0)) ∨ ((toE (offersE x.n [q0, q1, q2, q3, q4, q5]).1).2 = 3 ∧ 30 < (offersE x.n [q0, q1, q2, q3, q4, q5]).1.length))) := Lib.hid (fun h => by
    obtain ⟨_, _, _, h40⟩ := offersE_ok h
    refine ⟨offers_clean rfl h, h40, fun h0 => ?_⟩
    rcases toN_check h0 (by omega) (offers_node rfl h) with e | ⟨e, e2⟩
    · have et : toE (offersE x.n [q0, q1, q2, q3, q4, q5]).1 = (toN ((offersE x.n [q0, q1, q2, q3, q4, q5]).1.map fun p => (atX p).n), 0) := by
        unfold toE
        rw [if_neg (by omega), if_neg (fun q => q e)]
      rw [et]
      exact .inl ⟨rfl, (ME.checkE_zero.1 e).2.1, offers_again rfl h e⟩
    · have et : (toE (offersE x.n [q0, q1, q2, q3, q4, q5]).1).2 = 3 := by
        unfold toE
        rw [if_neg (by omega), if_pos (by rw [e]; decide)]
        exact e
      exact .inr ⟨et, e2⟩)
  generalize offersE x.n [q0, q1, q2, q3, q4, q5] = T at *
  obtain ⟨TL, te⟩ := T
  dsimp only at HOK
  obtain ⟨o, bb, v, A, cc, k⟩ := x
  obtain ⟨x0, x1, x2, x3, x4, x5, rfl⟩ := six hok.six
  rw [NT.val_lit] at CS CF ⊢
  clear hok hx
  generalize (decide (NT.size ⟨o, [x0, x1, x2, x3, x4, x5], v, A, cc, k⟩ ≤ 60) && decide (cntB [q0, q1, q2, q3, q4, q5] ≤ 100)) = sm at *
  have I0 := Lib.hid (IV14.start w (.int .i64 o) (.int .i64 x0) (.int .i64 x1) (.int .i64 x2) (.int .i64 x3) (.int .i64 x4) (.int .i64 x5) (.int .i64 v) (.slice A k.len cc) q0 q1 q2 q3 q4 q5)
  go_enter Try.func9, Try.ntmps9
  go_upto_region 1 with (fail)
  generalize (w.alloc (.cells #[.int .i64 o, .int .i64 x0, .int .i64 x1, .int .i64 x2, .int .i64 x3, .int .i64 x4, .int .i64 x5, .int .i64 v, .slice A k.len cc] 26)).alloc (.cells #[.int .i64 q0, .int .i64 q1, .int .i64 q2, .int .i64 q3, .int .i64 q4, .int .i64 q5] 23) = w1 at *
  obtain ⟨e0, e1, e2, e3, e4, e5, e6, e7, e8⟩ := I0.out.e.cells
  obtain ⟨r0, r1, r2, r3, r4, r5⟩ := cells6 I0.out.q
  go_wp2_with fail
  refine (CS.out _ I0.out.below).mono ?_
  rintro ev w2 ⟨rfl, nb⟩
  have I2 := Lib.hid (I0.out.keep nb)
  clear nb I0 CS e0 e1 e2 e3 e4 e5 e6 e7 e8 r0 r1 r2 r3 r4 r5
  cases sm with
  | false =>
    go_wp2_with fail
    refine (awake14_any _).mono ?_
    rintro ev w9 ⟨rfl, nb⟩
    have B9_ := Lib.hid (I2.out.below.trans (nb.mono I2.out.below.size))
    clear nb
    go_wp2
    go_ret
    exact ⟨rfl, B9_.out⟩
  | true =>
    obtain ⟨e0, e1, e2, e3, e4, e5, e6, e7, e8⟩ := I2.out.e.cells
    obtain ⟨r0, r1, r2, r3, r4, r5⟩ := cells6 I2.out.q
    go_wp2_with fail
    refine (CF.out _ I2.out.below).mono ?_
    rintro ev w3 ⟨A3, n3, c3, rfl, hl3, nb⟩
    have I3 := Lib.hid (I2.out.keep nb)
    have K3 := Lib.hid hl3
    clear nb hl3 I2 CF e0 e1 e2 e3 e4 e5 e6 e7 e8 r0 r1 r2 r3 r4 r5
    dsimp only at K3 ⊢
    have hn3 : n3 = TL.length := K3.out.len.symm
    by_cases hte : te = 0
    · have dte : (te == 0) = true := beq_iff_eq.2 hte
      obtain ⟨hcl, h40, hto⟩ := HOK.out hte
      clear HOK
      by_cases hz : n3 = 0
      · have dz : ((n3 : Int) == 0) = true := beq_iff_eq.2 (by omega)
        go_wp2_with fail
        refine (awake14_any _).mono ?_
        rintro ev w9 ⟨rfl, nb⟩
        have B9_ := Lib.hid (I3.out.below.trans (nb.mono I3.out.below.size))
        clear nb
        go_wp2
        go_ret
        exact ⟨rfl, B9_.out⟩
      · have dz : ((n3 : Int) == 0) = false := beq_eq_false_iff_ne.2 (by omega)
        replace hto := hto (by omega)
        have HCL := Lib.hid hcl
        have HTO := Lib.hid hto
        have HN3 := Lib.hid hn3
        have H40 := Lib.hid h40
        clear hcl hto hn3 h40
        have hle : n3 ≤ 100000 := by have := HN3.out; have := H40.out; omega
        go_wp2_with fail
        refine (fclean_any A3 n3 c3 TL hle _ K3.out).mono ?_
        rintro ev w4 ⟨A4, n4, c4, rfl, hl4, nb⟩
        have I4 := Lib.hid (I3.out.keep nb)
        have K4 := Lib.hid (K3.out.keep nb)
        rw [HCL.out] at hl4
        have M4 := Lib.hid hl4
        clear nb hl4 I3 K3 HCL
        go_wp2_with fail
        refine (rsame14_any A4 A3 n4 c4 n3 c3 TL _ M4.out K4.out).mono ?_
        rintro ev w5 ⟨rfl, nb⟩
        have I5 := Lib.hid (I4.out.keep nb)
        have K5 := Lib.hid (K4.out.keep nb)
        clear nb I4 K4 M4
        go_wp2_with fail
        refine (ftoexpr_any A3 n3 c3 TL hle _ K5.out).mono ?_
        rintro ev w6 ⟨y, rfl, hyn, hyo, nb⟩
        have I6 := Lib.hid (I5.out.keep nb)
        have K6 := Lib.hid (K5.out.keep nb)
        clear nb I5 K5
        generalize toE TL = P at *
        obtain ⟨PN, pe⟩ := P
        dsimp only at hyn HTO ⊢
        have CY := Lib.hid (fun (hy : PN.size ≤ 40) w' (hb : Below w6.heap.size w6 w') => CG.out y (by rw [hyn]; exact hy) w' _ (hyo.below hb))
        rw [hyn] at CY
        obtain ⟨oy, byy, vy, Ay, cy, ky⟩ := y
        obtain ⟨y0, y1, y2, y3, y4, y5, rfl⟩ := six hyo.six
        rw [NT.val_lit] at CY ⊢
        clear hyn hyo CG
        have BY := below_new w6 (.cells #[.int .i64 oy, .int .i64 y0, .int .i64 y1, .int .i64 y2, .int .i64 y3, .int .i64 y4, .int .i64 y5, .int .i64 vy, .slice Ay ky.len cy] 26)
        have YX : Hid (B9 (w6.alloc (.cells #[.int .i64 oy, .int .i64 y0, .int .i64 y1, .int .i64 y2, .int .i64 y3, .int .i64 y4, .int .i64 y5, .int .i64 vy, .slice Ay ky.len cy] 26)) w6.heap.size (.int .i64 oy) (.int .i64 y0) (.int .i64 y1) (.int .i64 y2) (.int .i64 y3) (.int .i64 y4) (.int .i64 y5) (.int .i64 vy) (.slice Ay ky.len cy)) := Lib.hid (heap_new w6 _)
        have I7 := Lib.hid (I6.out.keep BY)
        have K7 := Lib.hid (K6.out.keep BY)
        have BB7 := Lib.hid BY
        clear BY I6 K6
        go_upto_region 9 with (fail)
        generalize w6.alloc (.cells #[.int .i64 oy, .int .i64 y0, .int .i64 y1, .int .i64 y2, .int .i64 y3, .int .i64 y4, .int .i64 y5, .int .i64 vy, .slice Ay ky.len cy] 26) = w7 at *
        rcases HTO.out with ⟨hp, hps, hpo⟩ | ⟨hp, h30⟩
        · have dp : (pe == 0) = true := beq_iff_eq.2 hp
          have CZ := Lib.hid (CY.out hps)
          rw [hpo] at CZ
          clear CY HTO hps hpo
          obtain ⟨e0, e1, e2, e3, e4, e5, e6, e7, e8⟩ := YX.out.cells
          obtain ⟨r0, r1, r2, r3, r4, r5⟩ := cells6 I7.out.q
          go_wp2_with fail
          refine (CZ.out _ BB7.out).mono ?_
          rintro ev w8 ⟨A8, n8, c8, rfl, hl8, nb⟩
          have I8 := Lib.hid (I7.out.keep nb)
          have K8 := Lib.hid (K7.out.keep nb)
          have M8 := Lib.hid hl8
          clear nb hl8 I7 K7 CZ YX BB7 e0 e1 e2 e3 e4 e5 e6 e7 e8 r0 r1 r2 r3 r4 r5
          dsimp only at M8 ⊢
          go_wp2_with fail
          refine (rsame14_any A8 A3 n8 c8 n3 c3 TL _ M8.out K8.out).mono ?_
          rintro ev w10 ⟨rfl, nb⟩
          have I10 := Lib.hid (I8.out.keep nb)
          clear nb I8 K8 M8
          go_wp2_with fail
          refine (awake14_any _).mono ?_
          rintro ev w9 ⟨rfl, nb⟩
          have B9_ := Lib.hid (I10.out.below.trans (nb.mono I10.out.below.size))
          clear nb
          go_wp2
          go_ret
          exact ⟨rfl, B9_.out⟩
        · have dp : (pe == 0) = false := beq_eq_false_iff_ne.2 (by omega)
          subst hp
          have d30 : decide ((30 : Int) < n3) = true := decide_eq_true (by have := HN3.out; omega)
          clear CY HTO
          go_wp2_with fail
          refine (awake14_any _).mono ?_
          rintro ev w9 ⟨rfl, nb⟩
          have B9_ := Lib.hid (I7.out.below.trans (nb.mono I7.out.below.size))
          clear nb
          go_wp2
          go_ret
          exact ⟨rfl, B9_.out⟩
    · have dte : (te == 0) = false := beq_eq_false_iff_ne.2 hte
      go_wp2_with fail
      refine (awake14_any _).mono ?_
      rintro ev w9 ⟨rfl, nb⟩
      have B9_ := Lib.hid (I3.out.below.trans (nb.mono I3.out.below.size))
      clear nb
      go_wp2
      go_ret
      exact ⟨rfl, B9_.out⟩
end Go.Proofs.Ytbnillkihmooeaa

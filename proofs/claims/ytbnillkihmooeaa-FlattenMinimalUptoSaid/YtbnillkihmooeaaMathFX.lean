/- What Offers answers: its list is worth what the expression is worth, and nothing in it is dominated. No claim of its own. -/
import Derived.Test.YtbnillkihmooeaaJFC
import Derived.Test.YtbnillkihmooeaaJFM
namespace Go.Proofs.Ytbnillkihmooeaa
open Go.RowKit
namespace VV
theorem subT_congr {f g : List Int → Int} {b : List Int} (hb : Bu b) (h : ∀ d, Bu d → Le d b → f d = g d) : subT f b = subT g b := by
  unfold subT
  congr 1
  apply List.map_congr_left
  intro d hd
  have := (all_mem hb).1 (List.mem_filter.1 hd).1
  exact h d this.1 this.2
theorem minL_congr {f g : List Int → Int} {s : List Int} (hs : Bu s) (h : ∀ d, Bu d → Le d s → f d = g d) : minL f s = minL g s := by
  unfold minL
  have e : (all s).filter (fun b => decide (subT f b < f b)) = (all s).filter (fun b => decide (subT g b < g b)) := by
    apply List.filter_congr
    intro b hb
    have := (all_mem hs).1 hb
    rw [subT_congr this.1 (fun d hd hl => h d hd (hl.trans this.2)), h b this.1 this.2]
  rw [e]
  apply List.map_congr_left
  intro b hb
  have := (all_mem hs).1 (List.mem_filter.1 hb).1
  rw [h b this.1 this.2]
end VV
theorem tabE_ok {n : ME.Nd} {s : List Int} (h : (tabE n s).2 = 0) : ME.checkE n = 0 ∧ chk s = 0 ∧ cntB s ≠ 0 ∧ (tabE n s).1 = VV.tab (VV.valN n) s := by
  unfold tabE at h ⊢
  by_cases h1 : ME.checkE n ≠ 0
  · rw [if_pos h1] at h; exact absurd h h1
  · rw [if_neg h1] at h ⊢
    by_cases h2 : chk s ≠ 0
    · rw [if_pos h2] at h; exact absurd h h2
    · rw [if_neg h2] at h ⊢
      by_cases h3 : cntB s = 0
      · rw [if_pos h3] at h; cases h
      · rw [if_neg h3]
        exact ⟨by simpa using h1, by simpa using h2, h3, rfl⟩
theorem fromE_ok {L s : List Int} (h : (fromE L s).2 = 0) : ckT L s = 0 ∧ (fromE L s).1 = offs (fT L s) (VV.all s) ∧ (offs (fT L s) (VV.all s)).length ≤ 40 := by
  by_cases h1 : ckT L s = 0
  · by_cases h2 : 40 < (offs (fT L s) (VV.all s)).length
    · rw [fromE2 h1 h2] at h; cases h
    · rw [fromE3 h1 h2]; exact ⟨h1, rfl, by omega⟩
  · rw [fromE1 h1] at h; exact absurd h h1
theorem offersE_ok {n : ME.Nd} {s : List Int} (h : (offersE n s).2 = 0) : (tabE n s).2 = 0 ∧ ckT (tabE n s).1 s = 0 ∧ (offersE n s).1 = offs (fT (tabE n s).1 s) (VV.all s) ∧ (offersE n s).1.length ≤ 40 := by
  by_cases h1 : (tabE n s).2 = 0
  · rw [offersE2 h1] at h ⊢
    obtain ⟨a, b, c⟩ := fromE_ok h
    exact ⟨h1, a, b, by rw [b]; exact c⟩
  · rw [offersE1 h1] at h; exact absurd h h1
theorem tab_getD {f : List Int → Int} {s : List Int} {i : Nat} (hi : i < VV.cnt s) : (VV.tab f s).getD i 0 = f (VV.at6 s i) := by
  have hl : i < (VV.all s).length := by unfold VV.all; rw [MB.row_length]; exact hi
  have e := (fall_get (List.getElem?_eq_getElem hl)).2
  unfold VV.tab
  rw [List.getD_eq_getElem?_getD, List.getElem?_map, List.getElem?_eq_getElem hl]
  show f _ = _
  rw [e]
theorem fT_tab {f : List Int → Int} {s b : List Int} (hs : VV.Bu s) (hb : VV.Bu b) (hl : VV.Le b s) : fT (VV.tab f s) s b = f b := by
  unfold fT
  rw [tab_getD (VV.rank_lt hs hb hl), VV.at_rank hs hb hl]
/-- The offers are worth what the expression is worth. -/
theorem offers_worth {n : ME.Nd} {s x : List Int} (hl6 : s.length = 6) (h : (offersE n s).2 = 0) (hx : VV.Bu x) (hl : VV.Le x s) : VV.worth (MF.stp (offersE n s).1) x = VV.valN n x := by
  obtain ⟨h1, _, h3, _⟩ := offersE_ok h
  obtain ⟨hc, hk, _, ht⟩ := tabE_ok h1
  have hs : VV.Bu s := VV.bu_of_ok hl6 (VV.ok_of_chk hk)
  rw [h3, offs_stp hs, VV.minL_congr hs (g := VV.valN n) (fun d hd hdl => by rw [ht]; exact fT_tab hs hd hdl)]
  exact VV.min_val hs (VV.AllOk.of hc).mono hx hl
end Go.Proofs.Ytbnillkihmooeaa

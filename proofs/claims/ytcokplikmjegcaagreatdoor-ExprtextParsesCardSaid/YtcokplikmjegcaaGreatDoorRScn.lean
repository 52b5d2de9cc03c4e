/- The reference's scanner, live or dead: no claim of its own. -/
import Derived.Test.YtcokplikmjegcaaGreatDoorLRMeth
import Derived.Test.YtcokplikmjegcaaGreatDoorJW
namespace Go.Proofs.YtcokplikmjegcaaGreatDoor
open Go.RowKit
section
variable {bad : Nat → Prop} {w : World} {g : Nat} {ts : List Tk} {er : Int}
theorem SR.ways (h : SR bad w g ts er) : ∃ A n c L, SB 68 bad w g A n c L er ∧ ((ts = [] ∧ (er ≠ 0 ∨ L = [])) ∨ (er = 0 ∧ ∃ t r, L = t :: r ∧ ts = t :: r)) := by
  obtain ⟨A, n, c, L, hs, h1, h2⟩ := h
  refine ⟨A, n, c, L, hs, ?_⟩
  by_cases he : er = 0
  · have hL := h1 he
    cases L with
    | nil => exact .inl ⟨hL.symm, .inr rfl⟩
    | cons t r => exact .inr ⟨he, t, r, rfl, hL.symm⟩
  · exact .inl ⟨h2 he, .inl he⟩
theorem rpeekU (h : SR bad w g ts er) : Calls Tryz.prog 63 #[.pointer (some ⟨g, 0, none⟩)] w (Gives (aggT (headT ts)) w) := by
  obtain ⟨A, n, c, L, hs, ⟨rfl, hd⟩ | ⟨rfl, t, r, rfl, rfl⟩⟩ := h.ways
  · exact rpeek_D hs hd
  · exact rpeek_some hs
theorem rexpectU (c : UInt8) (h : SR bad w g ts er) :
    Calls Tryz.prog 67 #[.pointer (some ⟨g, 0, none⟩), .string ⟨#[c]⟩] w (Did (fun w' => SR bad w' g (MX.nxt ts (MX.exE c ts er)) (MX.exE c ts er)) g (.tuple #[]) w) := by
  obtain ⟨A, n, cp, L, hs, ⟨rfl, hd⟩ | ⟨rfl, t, r, rfl, rfl⟩⟩ := h.ways
  · have he : MX.exE c [] er = refE er := by unfold MX.exE refE; rfl
    have hn : MX.nxt [] (refE er) = [] := by unfold MX.nxt; split <;> rfl
    rw [he, hn]
    exact rexpect_D _ hs hd
  · cases hm : MC.isM c t with
    | true =>
      rw [MX.ex_yes hm, MX.nxt_yes]
      obtain ⟨h1, h2⟩ := isM_iff.1 hm
      exact rexpect_yes _ hs h1 h2
    | false =>
      have he : MX.exE c (t :: r) 0 = 2 := by
        unfold MX.exE
        rw [if_pos rfl, show MC.isO c (t :: r)[0]? = MC.isM c t from rfl, hm]; rfl
      rw [he]
      exact rexpect_no ⟨#[c]⟩ hs fun hh => by rw [isM_iff.2 hh] at hm; cases hm
theorem raccU (c : UInt8) (h : SR bad w g ts er) :
    Calls Tryz.prog 68 #[.pointer (some ⟨g, 0, none⟩), .string ⟨#[c]⟩] w (Did (fun w' => SR bad w' g (if MC.isO c ts[0]? = true then ts.drop 1 else ts) er) g (.bool (MC.isO c ts[0]?)) w) := by
  obtain ⟨A, n, cp, L, hs, ⟨rfl, hd⟩ | ⟨rfl, t, r, rfl, rfl⟩⟩ := h.ways
  · refine (raccept_D _ hs hd).mono ?_
    rintro e w' ⟨h1, h2, h3⟩
    exact ⟨h1, h2.sr hd, h3⟩
  · cases hm : MC.isM c t with
    | true =>
      have e : MC.isO c (t :: r)[0]? = true := hm
      rw [e, if_pos rfl]
      obtain ⟨h1, h2⟩ := isM_iff.1 hm
      exact raccept_yes _ hs h1 h2
    | false =>
      have e : MC.isO c (t :: r)[0]? = false := hm
      rw [e, if_neg (by decide)]
      refine (raccept_no ⟨#[c]⟩ hs fun hh => by rw [isM_iff.2 hh] at hm; cases hm).mono ?_
      rintro e w' ⟨h1, h2, h3⟩
      exact ⟨h1, h2.srl, h3⟩
theorem rnameU (h : SR bad w g ts er) :
    Calls Tryz.prog 65 #[.pointer (some ⟨g, 0, none⟩)] w (Did (fun w' => SR bad w' g (if nmE ts er = 0 then ts.drop 1 else []) (nmE ts er)) g (.string (str (nmT' ts er))) w) := by
  obtain ⟨A, n, cp, L, hs, ⟨rfl, hd⟩ | ⟨rfl, t, r, rfl, rfl⟩⟩ := h.ways
  · have he : nmE [] er = refE er := by unfold nmE refE; rfl
    have ht : nmT' [] er = [] := by unfold nmT'; rw [if_neg (by rw [he]; exact refE_ne er)]
    rw [ht, he, if_neg (refE_ne er)]
    exact rname_D hs hd
  · by_cases hk : t.kind = 1
    · have he : nmE (t :: r) 0 = 0 := by unfold nmE; rw [if_pos rfl]; simp [hk]
      have ht : nmT' (t :: r) 0 = t.text := by unfold nmT'; rw [if_pos he]; rfl
      rw [ht, he, if_pos rfl]
      exact rname_yes hs hk
    · have he : nmE (t :: r) 0 = 2 := by unfold nmE; rw [if_pos rfl]; simp [hk]
      have ht : nmT' (t :: r) 0 = [] := by unfold nmT'; rw [if_neg (by rw [he]; decide)]
      rw [ht, he, if_neg (by decide)]
      exact rname_no hs hk
theorem ramountU (M : Int) (h : SR bad w g ts er) :
    Calls Tryz.prog 69 #[.pointer (some ⟨g, 0, none⟩), .int .i64 M] w (Did (fun w' => SR bad w' g (MX.nxt ts (MX.amtE M ts er)) (MX.amtE M ts er)) g (.int .i64 (MX.amtV M ts er)) w) := by
  obtain ⟨A, n, cp, L, hs, ⟨rfl, hd⟩ | ⟨rfl, t, r, rfl, rfl⟩⟩ := h.ways
  · have he : MX.amtE M [] er = refE er := by unfold MX.amtE refE; rfl
    have ht : MX.amtV M [] er = 0 := by unfold MX.amtV; rw [if_neg (by rw [he]; exact refE_ne er)]
    have hn : MX.nxt [] (refE er) = [] := by unfold MX.nxt; split <;> rfl
    rw [ht, he, hn]
    exact ramount_D M hs hd
  · have hno : ∀ x : Int, x ≠ 0 → MX.amtE M (t :: r) 0 = x → MX.amtV M (t :: r) 0 = 0 := fun x hx h => by unfold MX.amtV; rw [if_neg (by rw [h]; exact hx)]
    by_cases hk : t.kind = 2
    · by_cases hv : t.value < 0
      · have he : MX.amtE M (t :: r) 0 = 4 := by unfold MX.amtE; rw [if_pos rfl]; simp [hk, hv]
        rw [hno 4 (by decide) he, he]
        exact ramount_neg M hs hk hv
      · by_cases hv2 : M < t.value
        · have he : MX.amtE M (t :: r) 0 = 4 := by unfold MX.amtE; rw [if_pos rfl]; simp [hk, hv2]
          rw [hno 4 (by decide) he, he]
          exact ramount_most M hs hk (by omega) hv2
        · rw [MX.amtV_yes hk (by omega) (by omega), MX.amt_yes hk (by omega) (by omega), MX.nxt_yes]
          exact ramount_yes M hs hk (by omega) (by omega)
    · have he : MX.amtE M (t :: r) 0 = 2 := by unfold MX.amtE; rw [if_pos rfl]; simp [hk]
      rw [hno 2 (by decide) he, he]
      exact ramount_kind M hs hk
theorem rfailU (x : Int) (hx : x ≠ 0) (h : SR bad w g ts er) :
    Calls Tryz.prog 66 #[.pointer (some ⟨g, 0, none⟩), .int .i64 x] w (Did (fun w' => SR bad w' g [] (flE x er)) g (.tuple #[]) w) := by
  obtain ⟨A, n, cp, L, hs, hi1, hi2⟩ := h
  unfold flE
  by_cases e : er = 0
  · subst e
    rw [if_pos rfl]
    refine (rfail_set x hs).mono ?_
    rintro e w' ⟨h1, h2, h3⟩
    exact ⟨h1, h2.sr (.inl hx), h3⟩
  · rw [if_neg e]
    refine (rfail_dead x hs e).mono ?_
    rintro e1 w' ⟨rfl, rfl⟩
    exact ⟨rfl, hs.sr (.inl e), World.grownBy.refl _ _⟩
theorem rendU (h : SR bad w g ts er) : Calls Tryz.prog 32 #[.pointer (some ⟨g, 0, none⟩)] w fun e w' => e = .returned (.int .i64 (MX.endE ts er)) ∧ w = w' := by
  obtain ⟨A, n, cp, L, hs, ⟨rfl, hd⟩ | ⟨rfl, t, r, rfl, rfl⟩⟩ := h.ways
  · rw [show MX.endE [] er = er from if_pos rfl]
    exact rend_D hs hd
  · rw [show MX.endE (t :: r) 0 = 3 from if_neg (by simp)]
    exact rend_live hs
end
end Go.Proofs.YtcokplikmjegcaaGreatDoor

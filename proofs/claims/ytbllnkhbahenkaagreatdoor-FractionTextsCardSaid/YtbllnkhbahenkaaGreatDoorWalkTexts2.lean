/- FractionTexts, whatever the fraction and the text: no claim of its own. -/
import Derived.Test.YtbllnkhbahenkaaGreatDoorWalkTexts
namespace Go.Proofs.YtbllnkhbahenkaaGreatDoor
open Go.RowKit
theorem pw20 {p : Nat} (h : p < 4294967296 ^ 20) : p < 10 ^ 200 := pow_ten h
theorem fText_size {u : Bool} {p q : Nat} {t : ByteArray} (h : fText u p q t.data.toList) (hp : p < 10 ^ 200) (hq : q < 10 ^ 200) : t.size ≤ 1202 := by
  obtain ⟨a, b, h1, h2, e⟩ := h
  have l1 := isText_len _ _ _ h1 hp
  rw [← size_list, e]
  by_cases hq1 : q = 1
  · cases u <;> simp [hq1] <;> omega
  · have l2 := isText_len _ _ _ (h2 hq1) hq
    cases u <;> simp [hq1] <;> omega
theorem texts_walk (s : Bool) (A : Option Addr) (n c : Nat) (z0 : List Int) (B : Option Addr) (m d : Nat) (z1 : List Int) (x : ByteArray) (w : World) (w0 : IsRow .u32 w A n c z0) (w1 : IsRow .u32 w B m d z1) : Calls Tryz.prog 3 #[.agg #[.bool s, .slice A n c, .slice B m d], .string x] w (Gives (.bool true) w) := by
  obtain ⟨b, hb, v⟩ := IsRow.short (s := s) w0 w1
  cases b
  · exact texts_skip s A B n c m d w x false (.inl rfl) v
  rcases Nat.lt_or_ge 1300 x.size with hl | hl
  · exact texts_skip s A B n c m d w x true (.inr ⟨rfl, hl⟩) v
  obtain ⟨h1, h2, xs, ys, p, q, hx, hy, ok⟩ := hb rfl
  have pp := hx.below h1
  have pq := hy.below h2
  have pa : ∀ (t : ByteArray), fText s p q t.data.toList → ∀ w, Calls Tryz.prog 8 #[.string t] w (GivesRd s p q 0 w) := fun t ht w' =>
    fparse_yes t ⟨s, p, q⟩ (IsFr.of_text ht ok (pw20 pp) (pw20 pq) (by omega)) (fText_size ht (pw20 pp) (pw20 pq)) w'
  rcases Nat.lt_or_ge 1202 x.size with hk | hk
  · exact texts_err s A B n c m d p q xs ys w x hl hx hy pp pq v pa false 0 0 3 (by decide) (fun w' => parse_far x hk (by omega) w') (fun w' => rfparse_far x hk (by omega) w')
  by_cases hT : ∃ T, IsFr x.data.toList T
  · obtain ⟨T, hT⟩ := hT
    exact texts_ok s A B n c m d p q xs ys w x hl hx hy pp pq v pa T.s T.p T.q (fun w' => fparse_yes x T hT hk w') (fun w' => rfparse_yes x T hT hk w')
  · have hN : ∀ T, ¬ IsFr x.data.toList T := fun T h => hT ⟨T, h⟩
    exact texts_err s A B n c m d p q xs ys w x hl hx hy pp pq v pa false 0 0 2 (by decide) (fun w' => fparse_no x hN hk w') (fun w' => rfparse_no x hN hk w')
end Go.Proofs.YtbllnkhbahenkaaGreatDoor

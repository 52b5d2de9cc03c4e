/- VAny, VVal, joined: no claim of its own. -/
import Derived.Test.YtjjpfpgjpmedmaaMathVD
import Derived.Test.YtjjpfpgjpmedmaaJVX
import Derived.Test.YtjjpfpgjpmedmaaJVL
import Derived.Test.YtjjpfpgjpmedmaaJP
namespace Go.Proofs.Ytjjpfpgjpmedmaa
open Go.RowKit
theorem FT.nil_of {k : FT} (h : k.f.len = 0) : k = .nil := by
  cases k with
  | nil => rfl
  | cons o b v A c k r => simp [FT.f, ME.F.len] at h
theorem FT.one_of {k : FT} (h : k.f.len = 1) : ∃ o b v A c k', k = .cons o b v A c k' .nil := by
  cases k with
  | nil => simp [FT.f, ME.F.len] at h
  | cons o b v A c k' r =>
    have : r.f.len = 0 := by simp [FT.f, ME.F.len] at h; omega
    exact ⟨o, b, v, A, c, k', by rw [FT.nil_of this]⟩
theorem Kids.one6 {w : World} {ok : Nat → Prop} {A : Option Addr} {c : Nat} {o v : Int} {b : List Int} {A' : Option Addr} {c' : Nat} {k r : FT} (h : Kids w ok A c (.cons o b v A' c' k r)) : b.length = 6 := by
  rcases h.lay with h | ⟨ad, _, ⟨⟨_, _, h6, _⟩, _⟩⟩
  · cases h
  · exact h6
theorem steps_any : ∀ (N : Nat) (x : NT), x.size ≤ N → N ≤ 2000000 → VV.AllOk x.n → ∀ (s0 s1 s2 s3 s4 s5 : Int) (w : World) (ok : Nat → Prop), K4 [s0, s1, s2, s3, s4, s5] → x.Ok w ok →
    Calls Try.prog 82 #[x.val, .agg #[.int .i64 s0, .int .i64 s1, .int .i64 s2, .int .i64 s3, .int .i64 s4, .int .i64 s5]] w (GivesSteps [s0, s1, s2, s3, s4, s5] (VV.valN x.n) w)
  | 0, x, hx, _, _, _, _, _, _, _, _, _, _, _, _ => by unfold NT.size at hx; omega
  | N + 1, x, hx, hN, hall, s0, s1, s2, s3, s4, s5, w, ok, hs4, hok => by
    obtain ⟨o, b, v, A, c, k⟩ := x
    obtain ⟨x0, x1, x2, x3, x4, x5, rfl⟩ := six hok.six
    have hn := hall.here
    have hsz : k.size ≤ N := by unfold NT.size at hx; exact Nat.le_of_succ_le_succ hx
    have hlen : k.len ≤ 2000000 := by
      have := ME.F.len_size k.f
      rw [FT.len_f, FT.size_f] at this
      omega
    have IH : ∀ y : NT, y.n ∈ k.f.roots → ∀ (w' : World) (ok' : Nat → Prop), y.Ok w' ok' → Calls Try.prog 82 #[y.val, .agg #[.int .i64 s0, .int .i64 s1, .int .i64 s2, .int .i64 s3, .int .i64 s4, .int .i64 s5]] w' (GivesSteps [s0, s1, s2, s3, s4, s5] (VV.valN y.n) w') := fun y hy w' ok' hok' => by
      have h1 := VV.roots_size hy
      rw [NT.size_n, FT.size_f] at h1
      exact steps_any N y (by omega) (by omega) (hall.kid hy) s0 s1 s2 s3 s4 s5 w' ok' hs4 hok'
    have hv0 : 0 ≤ v := hn.v0
    have hv1 : v ≤ 1000000 := hn.v1
    have hway := hn.way
    rw [NT.val_lit]
    change Calls _ _ _ _ (GivesSteps _ (VV.nodeV o [x0, x1, x2, x3, x4, x5] v (VV.valF k.f)) w)
    rcases hway with ⟨ho, hl, hb⟩ | ⟨ho, hl⟩ | ⟨ho, hl, hb⟩ | ⟨ho, hl⟩
    · replace ho : o = 1 := ho
      replace hb : MB.okB [x0, x1, x2, x3, x4, x5] = true := hb
      obtain rfl := FT.nil_of hl
      subst ho
      exact steps_atom x0 x1 x2 x3 x4 x5 v s0 s1 s2 s3 s4 s5 A c w hs4 (VV.bu_of_ok rfl hb) hv0 hv1
    · rcases (ho : o = 2 ∨ o = 3) with rfl | rfl
      · exact steps_xor x0 x1 x2 x3 x4 x5 v s0 s1 s2 s3 s4 s5 A c k ok w hs4 hok.kids hlen IH
      · exact steps_or x0 x1 x2 x3 x4 x5 v s0 s1 s2 s3 s4 s5 A c k ok w hs4 hok.kids hlen (fun y hy => (hall.kid hy).mono) IH
    · replace ho : o = 4 := ho
      replace hb : MB.okB [x0, x1, x2, x3, x4, x5] = true := hb
      obtain ⟨o', b', v', A', c', k', rfl⟩ := FT.one_of hl
      obtain ⟨y0, y1, y2, y3, y4, y5, rfl⟩ := six hok.kids.one6
      subst ho
      exact steps_bonus x0 x1 x2 x3 x4 x5 v s0 s1 s2 s3 s4 s5 o' y0 y1 y2 y3 y4 y5 v' A A' c c' k' ok w hs4 hok.kids (VV.bu_of_ok rfl hb) hv0 hv1 (fun w' ok' h => IH ⟨o', [y0, y1, y2, y3, y4, y5], v', A', c', k'⟩ (by show _ ∈ ME.F.roots (.cons ..); rw [ME.F.roots]; exact List.mem_cons_self) w' ok' h)
    · replace ho : o = 5 := ho
      obtain ⟨o', b', v', A', c', k', rfl⟩ := FT.one_of hl
      obtain ⟨y0, y1, y2, y3, y4, y5, rfl⟩ := six hok.kids.one6
      subst ho
      exact steps_limit x0 x1 x2 x3 x4 x5 v s0 s1 s2 s3 s4 s5 o' y0 y1 y2 y3 y4 y5 v' A A' c c' k' ok w hs4 hok.kids hv0 (fun w' ok' h => IH ⟨o', [y0, y1, y2, y3, y4, y5], v', A', c', k'⟩ (by show _ ∈ ME.F.roots (.cons ..); rw [ME.F.roots]; exact List.mem_cons_self) w' ok' h)
end Go.Proofs.Ytjjpfpgjpmedmaa
namespace Go.Proofs.Ytjjpfpgjpmedmaa
open Go.RowKit
theorem value_bad {n : ME.Nd} {b : List Int} (h : ME.checkE n ≠ 0) : VV.value n b = 0 := if_neg fun g => h g.1
theorem value_bad2 {n : ME.Nd} {b : List Int} (h : chk b ≠ 0) : VV.value n b = 0 := if_neg fun g => h g.2
theorem value_ok {n : ME.Nd} {b : List Int} (h : ME.checkE n = 0) (h2 : chk b = 0) : VV.value n b = VV.valN n b := if_pos ⟨h, h2⟩
theorem k4_of {b : List Int} (hl : b.length = 6) (h : chk b = 0) : K4 b := ⟨hl, VV.ok_of_chk h⟩
end Go.Proofs.Ytjjpfpgjpmedmaa

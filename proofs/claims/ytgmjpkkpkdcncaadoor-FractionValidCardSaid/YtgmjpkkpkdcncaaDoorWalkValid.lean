/- The walk of FractionValid: no claim of its own. -/
import Derived.Test.YtgmjpkkpkdcncaaDoorAwake
import Derived.Test.YtgmjpkkpkdcncaaDoorFValid
import Derived.Test.YtgmjpkkpkdcncaaDoorIsRow
namespace Go.Proofs.YtgmjpkkpkdcncaaDoor
open Go.RowKit
set_option maxRecDepth 100000 in
set_option maxHeartbeats 2000000 in
theorem valid_long1 (s : Bool) (A B : Option Addr) (n c m d : Nat) (w : World) (h : 20 < n) (hn : n ≤ 9223372036854775807) : Calls Tryd.prog 6 #[.agg #[.bool s, .slice A n c, .slice B m d]] w (Gives (.bool true) w) := by
  have B0 := Lib.hid ((Below.refl w.heap.size w).alloc (Nat.le_refl _) (.cells #[.bool s, .slice A n c, .slice B m d] 41))
  have J5 := Lib.hid awake2
  go_enter Tryd.func6, Tryd.ntmps6
  go_wp2_with fail
  refine (J5.out _).mono ?_
  rintro e w9 ⟨rfl, hb⟩
  have B9 := Lib.hid (B0.out.trans (hb.mono B0.out.size))
  clear hb B0
  go_wp2
  go_ret
  exact ⟨rfl, B9.out⟩
set_option maxRecDepth 100000 in
set_option maxHeartbeats 2000000 in
theorem valid_long2 (s : Bool) (A B : Option Addr) (n c m d : Nat) (w : World) (h1 : n ≤ 20) (h : 20 < m) (hn : m ≤ 9223372036854775807) : Calls Tryd.prog 6 #[.agg #[.bool s, .slice A n c, .slice B m d]] w (Gives (.bool true) w) := by
  have B0 := Lib.hid ((Below.refl w.heap.size w).alloc (Nat.le_refl _) (.cells #[.bool s, .slice A n c, .slice B m d] 41))
  have J5 := Lib.hid awake2
  go_enter Tryd.func6, Tryd.ntmps6
  go_wp2_with fail
  refine (J5.out _).mono ?_
  rintro e w9 ⟨rfl, hb⟩
  have B9 := Lib.hid (B0.out.trans (hb.mono B0.out.size))
  clear hb B0
  go_wp2
  go_ret
  exact ⟨rfl, B9.out⟩
set_option maxRecDepth 100000 in
set_option maxHeartbeats 2000000 in
theorem valid_main (s : Bool) (A B : Option Addr) (n c m d : Nat) (w : World) (h1 : n ≤ 20) (h2 : m ≤ 20) (b : Bool)
    (v1 : ∀ w', Below w.heap.size w w' → Calls Tryd.prog 27 #[.agg #[.bool s, .slice A n c, .slice B m d]] w' (Gives (.bool b) w'))
    (v2 : ∀ w', Below w.heap.size w w' → Calls Tryd.prog 28 #[.agg #[.bool s, .slice A n c, .slice B m d]] w' (Gives (.bool b) w')) : Calls Tryd.prog 6 #[.agg #[.bool s, .slice A n c, .slice B m d]] w (Gives (.bool true) w) := by
  have B0 := Lib.hid ((Below.refl w.heap.size w).alloc (Nat.le_refl _) (.cells #[.bool s, .slice A n c, .slice B m d] 41))
  have J5 := Lib.hid awake2
  have V1 := Lib.hid v1
  have V2 := Lib.hid v2
  have zB := B0.out.drew
  have zH := (FB.new w s A n c B m d).drew
  have ebb : (b == b) = true := by cases b <;> rfl
  clear v1 v2 B0
  go_enter Tryd.func6, Tryd.ntmps6
  go_wp2
  obtain ⟨Ha, Hb, Hc, _, _, _⟩ := zH.facts
  go_region_held3 (fun w' => w'.cell? ⟨w.heap.size, 0, none⟩ = some (.bool s) ∧ w'.cell? ⟨w.heap.size, 1, none⟩ = some (.slice A n c) ∧ w'.cell? ⟨w.heap.size, 2, none⟩ = some (.slice B m d)) (go_keep) (first | (go_at_call 27; (with_reducible refine (V1.out _ zB).mono ?_); rintro e wq ⟨rfl, hb⟩; replace zH := zH.keep hb; replace zB := zB.trans (hb.mono zB.size); clear hb; obtain ⟨Ha, Hb, Hc, _, _, _⟩ := zH.facts) | (go_at_call 28; (with_reducible refine (V2.out _ zB).mono ?_); rintro e wq ⟨rfl, hb⟩; replace zH := zH.keep hb; replace zB := zB.trans (hb.mono zB.size); clear hb; obtain ⟨Ha, Hb, Hc, _, _, _⟩ := zH.facts) | (go_at_call 26; (with_reducible refine (J5.out _).mono ?_); rintro e wq ⟨rfl, hb⟩; replace zH := zH.keep hb; replace zB := zB.trans (hb.mono zB.size); clear hb; obtain ⟨Ha, Hb, Hc, _, _, _⟩ := zH.facts))
  all_goals go_wp2
  all_goals go_ret
  all_goals exact ⟨rfl, zB⟩
theorem valid_walk (s : Bool) (A : Option Addr) (n c : Nat) (z0 : List Int) (B : Option Addr) (m d : Nat) (z1 : List Int) (w : World) (w0 : IsRow .u32 w A n c z0) (w1 : IsRow .u32 w B m d z1) : Calls Tryd.prog 6 #[.agg #[.bool s, .slice A n c, .slice B m d]] w (Gives (.bool true) w) := by
  rcases Nat.lt_or_ge 20 n with h1 | h1
  · exact valid_long1 s A B n c m d w h1 w0.len_le
  rcases Nat.lt_or_ge 20 m with h2 | h2
  · exact valid_long2 s A B n c m d w h1 h2 w1.len_le
  obtain ⟨xs, hx⟩ := w0.lst (by omega)
  obtain ⟨ys, hy⟩ := w1.lst (by omega)
  obtain ⟨b, hb⟩ := valid_both s A B n c m d xs ys w hx hy h1 h2
  exact valid_main s A B n c m d w h1 h2 b (fun w' k => (hb w' k).1) (fun w' k => (hb w' k).2)
end Go.Proofs.YtgmjpkkpkdcncaaDoor

/- fraction.split of any text, the walk: no claim of its own. -/
import Derived.Test.YtbllnkhbahenkaaGreatDoorFSplit
namespace Go.Proofs.YtbllnkhbahenkaaGreatDoor
open Go.RowKit
set_option maxRecDepth 100000 in
set_option maxHeartbeats 1000000 in
theorem split_any (s N D : ByteArray) (u z : Bool) (h : Split s u N z D) (hs : s.size ≤ 2000) (w : World) : Calls Tryz.prog 24 #[.string s] w (Gives (.agg #[.bool u, .string N, .bool z, .string D]) w) := by
  have hp := Lib.hid (fun w' => prefix_any s N D u z h w')
  have C := Lib.hid (fun (b : ByteArray) (hb : b.data.toList = N.data.toList ++ (if z then 47 :: D.data.toList else [])) (hbs : b.size ≤ s.size) w' => cut_any b N D z hb h.parts.ns (fun hz => h.empty hz) (Nat.le_trans hbs hs) w')
  clear h hs
  go_enter Tryz.func24, Tryz.ntmps24
  go_wp2_with fail
  obtain ⟨b, hb, hbs, P⟩ := hp.out _
  refine P.mono ?_
  have C2 := Lib.hid (C.out b hb hbs)
  clear P hp C hb hbs
  rintro e w' ⟨rfl, rfl⟩
  go_wp2_with fail
  refine (C2.out _).mono ?_
  rintro e w' ⟨rfl, q, rfl⟩
  clear C2
  go_wp2
  refine bodyPost_ret (v := .agg #[.bool u, .string N, .bool z, .string D]) (by simp [results, Tryz.results24, go_sem]) rfl ?_
  have b := below_drewN (((Below.refl w.heap.size w).alloc (Nat.le_refl _) (.cells #[.bool false, .string ⟨#[]⟩, .bool false, .string ⟨#[]⟩] 44)).alloc (by simp) (.cells #[.bool u, .string ⟨#[]⟩, .bool false, .string ⟨#[]⟩] 44)) q
  have b2 := ((b.setCell (p := ⟨w.heap.size + 1, 1, none⟩) (Nat.le_succ _) (.string N)).setCell (p := ⟨w.heap.size + 1, 3, none⟩) (Nat.le_succ _) (.string D)).setCell (p := ⟨w.heap.size + 1, 2, none⟩) (Nat.le_succ _) (.bool z)
  have b3 := (((b2.setCell (p := ⟨w.heap.size, 0, none⟩) (Nat.le_refl _) (.bool u)).setCell (p := ⟨w.heap.size, 1, none⟩) (Nat.le_refl _) (.string N)).setCell (p := ⟨w.heap.size, 2, none⟩) (Nat.le_refl _) (.bool z)).setCell (p := ⟨w.heap.size, 3, none⟩) (Nat.le_refl _) (.string D)
  exact ⟨rfl, b3⟩
end Go.Proofs.YtbllnkhbahenkaaGreatDoor

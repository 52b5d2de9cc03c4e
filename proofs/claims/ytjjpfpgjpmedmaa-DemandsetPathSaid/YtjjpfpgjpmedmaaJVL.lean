/- VLim, VBon, joined: no claim of its own. -/
import Derived.Test.YtjjpfpgjpmedmaaJVX
import Derived.Deep.RegionHeld3
import Derived.Deep.DeepCutAuto
import Derived.Test.YtjjpfpgjpmedmaaVJoin
namespace Go.Proofs.Ytjjpfpgjpmedmaa
open Go.RowKit
/-- A child's cells. -/
def Cell9 (w : World) (ad : Addr) (o' y0 y1 y2 y3 y4 y5 v' : Int) (sl : Value) : Prop :=
  w.cell? ad = some (.int .i64 o') ∧ w.cell? ⟨ad.block, ad.off + 1, none⟩ = some (.int .i64 y0) ∧ w.cell? ⟨ad.block, ad.off + 2, none⟩ = some (.int .i64 y1) ∧ w.cell? ⟨ad.block, ad.off + 3, none⟩ = some (.int .i64 y2) ∧ w.cell? ⟨ad.block, ad.off + 4, none⟩ = some (.int .i64 y3) ∧
  w.cell? ⟨ad.block, ad.off + 5, none⟩ = some (.int .i64 y4) ∧ w.cell? ⟨ad.block, ad.off + 6, none⟩ = some (.int .i64 y5) ∧ w.cell? ⟨ad.block, ad.off + 7, none⟩ = some (.int .i64 v') ∧ w.cell? ⟨ad.block, ad.off + 8, none⟩ = some sl
theorem Cell9.keep {w w' : World} {ad : Addr} {o' y0 y1 y2 y3 y4 y5 v' : Int} {sl : Value} (h : ad.block < w.heap.size ∧ Cell9 w ad o' y0 y1 y2 y3 y4 y5 v' sl) (hb : Below w.heap.size w w') : ad.block < w'.heap.size ∧ Cell9 w' ad o' y0 y1 y2 y3 y4 y5 v' sl := by
  obtain ⟨hl, h0, h1, h2, h3, h4, h5, h6, h7, h8⟩ := h
  exact ⟨Nat.lt_of_lt_of_le hl hb.size, (hb.cell hl).trans h0, (hb.cell (p := ⟨ad.block, ad.off + 1, none⟩) hl).trans h1, (hb.cell (p := ⟨ad.block, ad.off + 2, none⟩) hl).trans h2, (hb.cell (p := ⟨ad.block, ad.off + 3, none⟩) hl).trans h3, (hb.cell (p := ⟨ad.block, ad.off + 4, none⟩) hl).trans h4, (hb.cell (p := ⟨ad.block, ad.off + 5, none⟩) hl).trans h5, (hb.cell (p := ⟨ad.block, ad.off + 6, none⟩) hl).trans h6, (hb.cell (p := ⟨ad.block, ad.off + 7, none⟩) hl).trans h7, (hb.cell (p := ⟨ad.block, ad.off + 8, none⟩) hl).trans h8⟩
attribute [local go_sem] Oper.semAt_some
end Go.Proofs.Ytjjpfpgjpmedmaa
namespace Go.Proofs.Ytjjpfpgjpmedmaa
open Go.RowKit
attribute [local go_sem] Oper.semAt_some
end Go.Proofs.Ytjjpfpgjpmedmaa

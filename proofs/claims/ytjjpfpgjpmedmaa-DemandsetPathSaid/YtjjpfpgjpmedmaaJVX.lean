/- VAtom, VXor, VOr, joined: no claim of its own. -/
import Derived.Test.YtjjpfpgjpmedmaaJVV
import Derived.Test.YtjjpfpgjpmedmaaJK
import Derived.Carry
import Derived.Test.YtjjpfpgjpmedmaaVWorth
import Derived.Deep.RegionHeld3
import Derived.Deep.DeepCutAuto
namespace Go.Proofs.Ytjjpfpgjpmedmaa
open Go.RowKit
attribute [local go_sem] Oper.semAt_some
end Go.Proofs.Ytjjpfpgjpmedmaa
namespace Go.Proofs.Ytjjpfpgjpmedmaa
open Go.RowKit
theorem StW.raise {w w' : World} {A : Option Addr} {n c : Nat} {S : VV.St} {g m : Nat} {M : VV.Vm} (h : StW w A n c S) (hO : OwnV w g m M) (hg : w.grownBy w' (some g)) : StW w' A n c S := by
  refine ⟨⟨h.reads.1, fun hn => ?_⟩, h.len, h.cap, h.few, h.all⟩
  obtain ⟨ad, e, hb, hc⟩ := h.reads.2 hn
  have hne : ad.block ≠ g := fun e => by
    obtain ⟨D, ⟨es, clock, hm, _⟩, _⟩ := hO
    have hl := h.reads.1
    have h0 : 0 < (cellsSs S).length := by rw [hl]; omega
    have c0 := hc 0 _ (List.getElem?_eq_getElem h0)
    unfold World.cell? at c0
    rw [block_of_add, e, hm] at c0
    simp at c0
  exact ⟨ad, e, Nat.lt_of_lt_of_le hb hg.size, fun j u hu => (cell_same (hg.block (ad.add j).block (by rw [block_of_add]; exact hb) (fun e => hne (by rw [block_of_add] at e; simpa using e)))).trans (hc j u hu)⟩
attribute [local go_sem] Oper.semAt_some
end Go.Proofs.Ytjjpfpgjpmedmaa
namespace Go.Proofs.Ytjjpfpgjpmedmaa
open Go.RowKit
attribute [local go_sem] Oper.semAt_some
end Go.Proofs.Ytjjpfpgjpmedmaa

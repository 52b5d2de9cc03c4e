/- UFld5, UPar0, UPar1, joined: no claim of its own. -/
import Derived.Test.YtigfgeanofccgaaGreatDoorJFl
import Derived.Deep.DeepCutAuto
import Derived.Deep.AppendLies
import Derived.Deep.RegionHeld3
namespace Go.Proofs.YtigfgeanofccgaaGreatDoor
open Go.RowKit
open MC (Pr)
open MR (Bd)
theorem g_poke {w w' : World} {g q : Nat} (h : w.grownBy w' (some g)) (hq : w.heap.size ≤ q) (i : Nat) (u : Value) : w.grownBy (w'.setCell ⟨q, i, none⟩ u) (some g) :=
  ⟨h.os, h.tape, h.output, by have := h.size; simpa [World.setCell] using this, fun k hk hne => (Below.heap_setCell w' ⟨q, i, none⟩ u k (by show k ≠ q; omega)).trans (h.block k hk hne)⟩
theorem FB.poke {w : World} {g n c q : Nat} {A : Option Addr} {ws : List (List UInt8)} {e : Int} (h : FB w g A n c ws e) (hq : g < q) (i : Nat) (u : Value) : FB (w.setCell ⟨q, i, none⟩ u) g A n c ws e :=
  ⟨(Below.heap_setCell w ⟨q, i, none⟩ u g (by show g ≠ q; omega)).trans h.blk, h.wd.below ((Below.refl g w).setCell (p := ⟨q, i, none⟩) (Nat.le_of_lt hq) _)⟩
theorem row_turn {w w' : World} {g R : Nat} {o : Obj} (h : w.heap[R]? = some o) (hg : w.grownBy w' (some g)) (hne : g ≠ R) : w'.heap[R]? = some o :=
  (hg.block R (Array.getElem?_eq_some_iff.1 h).1 (fun e => by injection e with e; omega)).trans h
set_option maxRecDepth 100000 in
set_option maxHeartbeats 4000000 in
theorem fprod_any {w : World} {g n c : Nat} {A : Option Addr} {r : List (List UInt8)} {x0 x1 x2 x3 x4 : List UInt8} {e : Int} (h : FB w g A n c (x0 :: x1 :: x2 :: x3 :: x4 :: r) e) :
    Calls Tryz.prog 53 #[.pointer (some ⟨g, 0, none⟩)] w (Rdv (.agg #[.string (str x0), .int .i64 (MU.digE x1).1, .int .i64 (MU.digE x2).1, .int .i64 (MU.digE x3).1, .int .i64 (MU.digE x4).1]) g r (upE (upE (upE (upE (upE e (nmEr x0)) ((MU.digE x1).2)) ((MU.digE x2).2)) ((MU.digE x3).2)) ((MU.digE x4).2)) w) := by
  have hgR := h.lt
  have R0 := Lib.hid (heap_new w (.cells #[.string ⟨#[]⟩, .int .i64 0, .int .i64 0, .int .i64 0, .int .i64 0] 60))
  have H0 := Lib.hid (h.keep (below_new w (.cells #[.string ⟨#[]⟩, .int .i64 0, .int .i64 0, .int .i64 0, .int .i64 0] 60)))
  have G0 := Lib.hid (g_of (below_new w (.cells #[.string ⟨#[]⟩, .int .i64 0, .int .i64 0, .int .i64 0, .int .i64 0] 60)) (some g))
  clear h
  go_enter Tryz.func53, Tryz.ntmps53
  go_upto_region 1 with (fail)
  have hWs : w.heap.size ≤ (w.alloc (.cells #[.string ⟨#[]⟩, .int .i64 0, .int .i64 0, .int .i64 0, .int .i64 0] 60)).heap.size := by simp
  generalize w.alloc (.cells #[.string ⟨#[]⟩, .int .i64 0, .int .i64 0, .int .i64 0, .int .i64 0] 60) = W0 at *
  go_wp2_with fail
  refine (name_any H0.out).mono ?_
  rintro ev w1 ⟨rfl, ⟨A1', n1', c1', h1⟩, hg⟩
  have H1 := Lib.hid h1
  have G1 := Lib.hid (G0.out.trans hg)
  have R1 := Lib.hid (row_turn R0.out hg (by omega))
  clear h1 hg H0 G0 R0
  go_wp2_with fail
  refine (numw_any H1.out).mono ?_
  rintro ev w2 ⟨rfl, ⟨A2', n2', c2', h2⟩, hg⟩
  have H2 := Lib.hid h2
  have G2 := Lib.hid (G1.out.trans hg)
  have R2 := Lib.hid (row_turn R1.out hg (by omega))
  clear h2 hg H1 G1 R1
  go_wp2_with fail
  refine (numw_any H2.out).mono ?_
  rintro ev w3 ⟨rfl, ⟨A3', n3', c3', h3⟩, hg⟩
  have H3 := Lib.hid h3
  have G3 := Lib.hid (G2.out.trans hg)
  have R3 := Lib.hid (row_turn R2.out hg (by omega))
  clear h3 hg H2 G2 R2
  go_wp2_with fail
  refine (numw_any H3.out).mono ?_
  rintro ev w4 ⟨rfl, ⟨A4', n4', c4', h4⟩, hg⟩
  have H4 := Lib.hid h4
  have G4 := Lib.hid (G3.out.trans hg)
  have R4 := Lib.hid (row_turn R3.out hg (by omega))
  clear h4 hg H3 G3 R3
  go_wp2_with fail
  refine (numw_any H4.out).mono ?_
  rintro ev w5 ⟨rfl, ⟨A5', n5', c5', h5⟩, hg⟩
  have H5 := Lib.hid h5
  have G5 := Lib.hid (G4.out.trans hg)
  have R5 := Lib.hid (row_turn R4.out hg (by omega))
  clear h5 hg H4 G4 R4
  have c0' : w5.cell? ⟨w.heap.size, 0, none⟩ = some (.string ⟨#[]⟩) := by rw [cell_of_row _ _ _ _ _ _ R5.out]; rfl
  have c1' : w5.cell? ⟨w.heap.size, 1, none⟩ = some (.int .i64 0) := by rw [cell_of_row _ _ _ _ _ _ R5.out]; rfl
  have c2' : w5.cell? ⟨w.heap.size, 2, none⟩ = some (.int .i64 0) := by rw [cell_of_row _ _ _ _ _ _ R5.out]; rfl
  have c3' : w5.cell? ⟨w.heap.size, 3, none⟩ = some (.int .i64 0) := by rw [cell_of_row _ _ _ _ _ _ R5.out]; rfl
  have c4' : w5.cell? ⟨w.heap.size, 4, none⟩ = some (.int .i64 0) := by rw [cell_of_row _ _ _ _ _ _ R5.out]; rfl
  have f0' : w5.frozen? ⟨w.heap.size, 0, none⟩ = false := frozen_of_row _ _ _ _ _ R5.out
  have f1' : w5.frozen? ⟨w.heap.size, 1, none⟩ = false := frozen_of_row _ _ _ _ _ R5.out
  have f2' : w5.frozen? ⟨w.heap.size, 2, none⟩ = false := frozen_of_row _ _ _ _ _ R5.out
  have f3' : w5.frozen? ⟨w.heap.size, 3, none⟩ = false := frozen_of_row _ _ _ _ _ R5.out
  have f4' : w5.frozen? ⟨w.heap.size, 4, none⟩ = false := frozen_of_row _ _ _ _ _ R5.out
  have hlt : w.heap.size < w5.heap.size := (Array.getElem?_eq_some_iff.1 R5.out).1
  generalize (MU.digE x1).1 = v1 at *
  generalize (MU.digE x2).1 = v2 at *
  generalize (MU.digE x3).1 = v3 at *
  generalize (MU.digE x4).1 = v4 at *
  go_wp2
  exact bodyPost_ret (v := .agg #[.string (str x0), .int .i64 v1, .int .i64 v2, .int .i64 v3, .int .i64 v4]) (by simp [results, Tryz.results53, go_sem, c0', c1', c2', c3', c4']) rfl ⟨rfl, ⟨_, _, _, (((((H5.out.poke hgR 0 _).poke hgR 1 _).poke hgR 2 _).poke hgR 3 _).poke hgR 4 _)⟩, (g_poke (g_poke (g_poke (g_poke (g_poke G5.out (Nat.le_refl _) 0 _) (Nat.le_refl _) 1 _) (Nat.le_refl _) 2 _) (Nat.le_refl _) 3 _) (Nat.le_refl _) 4 _)⟩
set_option maxRecDepth 100000 in
set_option maxHeartbeats 4000000 in
theorem fbid_any {w : World} {g n c : Nat} {A : Option Addr} {r : List (List UInt8)} {x0 x1 x2 x3 : List UInt8} {e : Int} (h : FB w g A n c (x0 :: x1 :: x2 :: x3 :: r) e) :
    Calls Tryz.prog 54 #[.pointer (some ⟨g, 0, none⟩)] w (Rdv (.agg #[.string (str x0), .int .i64 (MU.digE x1).1, .int .i64 (MU.digE x2).1, .int .i64 (MU.digE x3).1]) g r (upE (upE (upE (upE e (nmEr x0)) ((MU.digE x1).2)) ((MU.digE x2).2)) ((MU.digE x3).2)) w) := by
  have hgR := h.lt
  have R0 := Lib.hid (heap_new w (.cells #[.string ⟨#[]⟩, .int .i64 0, .int .i64 0, .int .i64 0] 64))
  have H0 := Lib.hid (h.keep (below_new w (.cells #[.string ⟨#[]⟩, .int .i64 0, .int .i64 0, .int .i64 0] 64)))
  have G0 := Lib.hid (g_of (below_new w (.cells #[.string ⟨#[]⟩, .int .i64 0, .int .i64 0, .int .i64 0] 64)) (some g))
  clear h
  go_enter Tryz.func54, Tryz.ntmps54
  go_upto_region 1 with (fail)
  have hWs : w.heap.size ≤ (w.alloc (.cells #[.string ⟨#[]⟩, .int .i64 0, .int .i64 0, .int .i64 0] 64)).heap.size := by simp
  generalize w.alloc (.cells #[.string ⟨#[]⟩, .int .i64 0, .int .i64 0, .int .i64 0] 64) = W0 at *
  go_wp2_with fail
  refine (name_any H0.out).mono ?_
  rintro ev w1 ⟨rfl, ⟨A1', n1', c1', h1⟩, hg⟩
  have H1 := Lib.hid h1
  have G1 := Lib.hid (G0.out.trans hg)
  have R1 := Lib.hid (row_turn R0.out hg (by omega))
  clear h1 hg H0 G0 R0
  go_wp2_with fail
  refine (numw_any H1.out).mono ?_
  rintro ev w2 ⟨rfl, ⟨A2', n2', c2', h2⟩, hg⟩
  have H2 := Lib.hid h2
  have G2 := Lib.hid (G1.out.trans hg)
  have R2 := Lib.hid (row_turn R1.out hg (by omega))
  clear h2 hg H1 G1 R1
  go_wp2_with fail
  refine (numw_any H2.out).mono ?_
  rintro ev w3 ⟨rfl, ⟨A3', n3', c3', h3⟩, hg⟩
  have H3 := Lib.hid h3
  have G3 := Lib.hid (G2.out.trans hg)
  have R3 := Lib.hid (row_turn R2.out hg (by omega))
  clear h3 hg H2 G2 R2
  go_wp2_with fail
  refine (numw_any H3.out).mono ?_
  rintro ev w4 ⟨rfl, ⟨A4', n4', c4', h4⟩, hg⟩
  have H4 := Lib.hid h4
  have G4 := Lib.hid (G3.out.trans hg)
  have R4 := Lib.hid (row_turn R3.out hg (by omega))
  clear h4 hg H3 G3 R3
  have c0' : w4.cell? ⟨w.heap.size, 0, none⟩ = some (.string ⟨#[]⟩) := by rw [cell_of_row _ _ _ _ _ _ R4.out]; rfl
  have c1' : w4.cell? ⟨w.heap.size, 1, none⟩ = some (.int .i64 0) := by rw [cell_of_row _ _ _ _ _ _ R4.out]; rfl
  have c2' : w4.cell? ⟨w.heap.size, 2, none⟩ = some (.int .i64 0) := by rw [cell_of_row _ _ _ _ _ _ R4.out]; rfl
  have c3' : w4.cell? ⟨w.heap.size, 3, none⟩ = some (.int .i64 0) := by rw [cell_of_row _ _ _ _ _ _ R4.out]; rfl
  have f0' : w4.frozen? ⟨w.heap.size, 0, none⟩ = false := frozen_of_row _ _ _ _ _ R4.out
  have f1' : w4.frozen? ⟨w.heap.size, 1, none⟩ = false := frozen_of_row _ _ _ _ _ R4.out
  have f2' : w4.frozen? ⟨w.heap.size, 2, none⟩ = false := frozen_of_row _ _ _ _ _ R4.out
  have f3' : w4.frozen? ⟨w.heap.size, 3, none⟩ = false := frozen_of_row _ _ _ _ _ R4.out
  have hlt : w.heap.size < w4.heap.size := (Array.getElem?_eq_some_iff.1 R4.out).1
  generalize (MU.digE x1).1 = v1 at *
  generalize (MU.digE x2).1 = v2 at *
  generalize (MU.digE x3).1 = v3 at *
  go_wp2
  exact bodyPost_ret (v := .agg #[.string (str x0), .int .i64 v1, .int .i64 v2, .int .i64 v3]) (by simp [results, Tryz.results54, go_sem, c0', c1', c2', c3']) rfl ⟨rfl, ⟨_, _, _, ((((H4.out.poke hgR 0 _).poke hgR 1 _).poke hgR 2 _).poke hgR 3 _)⟩, (g_poke (g_poke (g_poke (g_poke G4.out (Nat.le_refl _) 0 _) (Nat.le_refl _) 1 _) (Nat.le_refl _) 2 _) (Nat.le_refl _) 3 _)⟩
set_option maxRecDepth 100000 in
set_option maxHeartbeats 4000000 in
theorem fcap_any {w : World} {g n c : Nat} {A : Option Addr} {r : List (List UInt8)} {x0 x1 x2 : List UInt8} {e : Int} (h : FB w g A n c (x0 :: x1 :: x2 :: r) e) (A2 : Option Addr) (n2 c2 : Nat) (L : List Bd) (h2 : LN bdE w g A2 n2 c2 L) :
    Calls Tryz.prog 55 #[.pointer (some ⟨g, 0, none⟩), .slice A2 n2 c2] w (Rdv (.agg #[.int .i64 (cpV L x0), .int .i64 (MU.digE x1).1, .int .i64 (MU.digE x2).1]) g r (upE (upE (upE e (cpEr L x0)) ((MU.digE x1).2)) ((MU.digE x2).2)) w) := by
  have hgR := h.lt
  have R0 := Lib.hid (heap_new w (.cells #[.int .i64 0, .int .i64 0, .int .i64 0] 66))
  have H0 := Lib.hid (h.keep (below_new w (.cells #[.int .i64 0, .int .i64 0, .int .i64 0] 66)))
  have G0 := Lib.hid (g_of (below_new w (.cells #[.int .i64 0, .int .i64 0, .int .i64 0] 66)) (some g))
  have HL := Lib.hid (h2.below ((below_new w (.cells #[.int .i64 0, .int .i64 0, .int .i64 0] 66)).mono (Nat.le_of_lt hgR)))
  clear h h2
  go_enter Tryz.func55, Tryz.ntmps55
  go_upto_region 1 with (fail)
  have hWs : w.heap.size ≤ (w.alloc (.cells #[.int .i64 0, .int .i64 0, .int .i64 0] 66)).heap.size := by simp
  generalize w.alloc (.cells #[.int .i64 0, .int .i64 0, .int .i64 0] 66) = W0 at *
  go_wp2_with fail
  refine (capped_any H0.out A2 n2 c2 L HL.out).mono ?_
  rintro ev w1 ⟨rfl, ⟨A1', n1', c1', h1⟩, hg⟩
  have H1 := Lib.hid h1
  have G1 := Lib.hid (G0.out.trans hg)
  have R1 := Lib.hid (row_turn R0.out hg (by omega))
  clear h1 hg H0 G0 R0 HL
  go_wp2_with fail
  refine (numw_any H1.out).mono ?_
  rintro ev w2 ⟨rfl, ⟨A2', n2', c2', h2⟩, hg⟩
  have H2 := Lib.hid h2
  have G2 := Lib.hid (G1.out.trans hg)
  have R2 := Lib.hid (row_turn R1.out hg (by omega))
  clear h2 hg H1 G1 R1
  go_wp2_with fail
  refine (numw_any H2.out).mono ?_
  rintro ev w3 ⟨rfl, ⟨A3', n3', c3', h3⟩, hg⟩
  have H3 := Lib.hid h3
  have G3 := Lib.hid (G2.out.trans hg)
  have R3 := Lib.hid (row_turn R2.out hg (by omega))
  clear h3 hg H2 G2 R2
  have c0' : w3.cell? ⟨w.heap.size, 0, none⟩ = some (.int .i64 0) := by rw [cell_of_row _ _ _ _ _ _ R3.out]; rfl
  have c1' : w3.cell? ⟨w.heap.size, 1, none⟩ = some (.int .i64 0) := by rw [cell_of_row _ _ _ _ _ _ R3.out]; rfl
  have c2' : w3.cell? ⟨w.heap.size, 2, none⟩ = some (.int .i64 0) := by rw [cell_of_row _ _ _ _ _ _ R3.out]; rfl
  have f0' : w3.frozen? ⟨w.heap.size, 0, none⟩ = false := frozen_of_row _ _ _ _ _ R3.out
  have f1' : w3.frozen? ⟨w.heap.size, 1, none⟩ = false := frozen_of_row _ _ _ _ _ R3.out
  have f2' : w3.frozen? ⟨w.heap.size, 2, none⟩ = false := frozen_of_row _ _ _ _ _ R3.out
  have hlt : w.heap.size < w3.heap.size := (Array.getElem?_eq_some_iff.1 R3.out).1
  generalize (MU.digE x1).1 = v1 at *
  generalize (MU.digE x2).1 = v2 at *
  go_wp2
  exact bodyPost_ret (v := .agg #[.int .i64 (cpV L x0), .int .i64 v1, .int .i64 v2]) (by simp [results, Tryz.results55, go_sem, c0', c1', c2']) rfl ⟨rfl, ⟨_, _, _, (((H3.out.poke hgR 0 _).poke hgR 1 _).poke hgR 2 _)⟩, (g_poke (g_poke (g_poke G3.out (Nat.le_refl _) 0 _) (Nat.le_refl _) 1 _) (Nat.le_refl _) 2 _)⟩
set_option maxRecDepth 100000 in
set_option maxHeartbeats 4000000 in
theorem fasd_any {w : World} {g n c : Nat} {A : Option Addr} {r : List (List UInt8)} {x0 x1 x2 : List UInt8} {e : Int} (h : FB w g A n c (x0 :: x1 :: x2 :: r) e) (A2 : Option Addr) (n2 c2 : Nat) (L : List Pr) (h2 : LN prE w g A2 n2 c2 L) (hn2 : n2 ≤ 5000) :
    Calls Tryz.prog 56 #[.pointer (some ⟨g, 0, none⟩), .slice A2 n2 c2] w (Rdv (.agg #[.int .i64 (asV L x0), .int .i64 (MU.digE x1).1, .int .i64 (MU.digE x2).1]) g r (upE (upE (upE e (asEr L x0)) ((MU.digE x1).2)) ((MU.digE x2).2)) w) := by
  have hgR := h.lt
  have R0 := Lib.hid (heap_new w (.cells #[.int .i64 0, .int .i64 0, .int .i64 0] 68))
  have H0 := Lib.hid (h.keep (below_new w (.cells #[.int .i64 0, .int .i64 0, .int .i64 0] 68)))
  have G0 := Lib.hid (g_of (below_new w (.cells #[.int .i64 0, .int .i64 0, .int .i64 0] 68)) (some g))
  have HL := Lib.hid (h2.below ((below_new w (.cells #[.int .i64 0, .int .i64 0, .int .i64 0] 68)).mono (Nat.le_of_lt hgR)))
  clear h h2
  go_enter Tryz.func56, Tryz.ntmps56
  go_upto_region 1 with (fail)
  have hWs : w.heap.size ≤ (w.alloc (.cells #[.int .i64 0, .int .i64 0, .int .i64 0] 68)).heap.size := by simp
  generalize w.alloc (.cells #[.int .i64 0, .int .i64 0, .int .i64 0] 68) = W0 at *
  go_wp2_with fail
  refine (reserved_any H0.out A2 n2 c2 L HL.out hn2).mono ?_
  rintro ev w1 ⟨rfl, ⟨A1', n1', c1', h1⟩, hg⟩
  have H1 := Lib.hid h1
  have G1 := Lib.hid (G0.out.trans hg)
  have R1 := Lib.hid (row_turn R0.out hg (by omega))
  clear h1 hg H0 G0 R0 HL
  go_wp2_with fail
  refine (numw_any H1.out).mono ?_
  rintro ev w2 ⟨rfl, ⟨A2', n2', c2', h2⟩, hg⟩
  have H2 := Lib.hid h2
  have G2 := Lib.hid (G1.out.trans hg)
  have R2 := Lib.hid (row_turn R1.out hg (by omega))
  clear h2 hg H1 G1 R1
  go_wp2_with fail
  refine (numw_any H2.out).mono ?_
  rintro ev w3 ⟨rfl, ⟨A3', n3', c3', h3⟩, hg⟩
  have H3 := Lib.hid h3
  have G3 := Lib.hid (G2.out.trans hg)
  have R3 := Lib.hid (row_turn R2.out hg (by omega))
  clear h3 hg H2 G2 R2
  have c0' : w3.cell? ⟨w.heap.size, 0, none⟩ = some (.int .i64 0) := by rw [cell_of_row _ _ _ _ _ _ R3.out]; rfl
  have c1' : w3.cell? ⟨w.heap.size, 1, none⟩ = some (.int .i64 0) := by rw [cell_of_row _ _ _ _ _ _ R3.out]; rfl
  have c2' : w3.cell? ⟨w.heap.size, 2, none⟩ = some (.int .i64 0) := by rw [cell_of_row _ _ _ _ _ _ R3.out]; rfl
  have f0' : w3.frozen? ⟨w.heap.size, 0, none⟩ = false := frozen_of_row _ _ _ _ _ R3.out
  have f1' : w3.frozen? ⟨w.heap.size, 1, none⟩ = false := frozen_of_row _ _ _ _ _ R3.out
  have f2' : w3.frozen? ⟨w.heap.size, 2, none⟩ = false := frozen_of_row _ _ _ _ _ R3.out
  have hlt : w.heap.size < w3.heap.size := (Array.getElem?_eq_some_iff.1 R3.out).1
  generalize (MU.digE x1).1 = v1 at *
  generalize (MU.digE x2).1 = v2 at *
  go_wp2
  exact bodyPost_ret (v := .agg #[.int .i64 (asV L x0), .int .i64 v1, .int .i64 v2]) (by simp [results, Tryz.results56, go_sem, c0', c1', c2']) rfl ⟨rfl, ⟨_, _, _, (((H3.out.poke hgR 0 _).poke hgR 1 _).poke hgR 2 _)⟩, (g_poke (g_poke (g_poke G3.out (Nat.le_refl _) 0 _) (Nat.le_refl _) 1 _) (Nat.le_refl _) 2 _)⟩
end Go.Proofs.YtigfgeanofccgaaGreatDoor
namespace Go.Proofs.YtigfgeanofccgaaGreatDoor
open Go.RowKit
open MU (Su Cp As)
theorem OwnL.ne {α : Type} {E : El α} {e : TypeId} {w : World} {B g : Nat} {v : Value} {l : List α} {cs : Array Value} {T : TypeId} {fz : Nat × Nat} (h : OwnL E e w B v l) (hg : w.heap[g]? = some (.cells cs T fz)) (hT : T ≠ e) : v.ownBlock = none ∨ v.ownBlock ≠ some g := by
  rcases h.1.2 with ⟨rfl, _⟩ | ⟨g', cap, cur, rfl, _, hh, _⟩
  · exact .inl rfl
  · refine .inr fun he => ?_
    have : g' = g := by simpa [Value.ownBlock] using he
    subst this
    rw [hh] at hg
    injection hg with hg
    injection hg with _ hg _
    exact hT hg.symm
theorem OwnL.apart {α β : Type} {E : El α} {F : El β} {e f : TypeId} {w : World} {B : Nat} {v u : Value} {l : List α} {m : List β} (h : OwnL E e w B v l) (k : OwnL F f w B u m) (hT : e ≠ f) : v.ownBlock = none ∨ v.ownBlock ≠ u.ownBlock := by
  rcases k.1.2 with ⟨rfl, _⟩ | ⟨g', cap, cur, rfl, _, hh, _⟩
  · cases hv : v.ownBlock with
    | none => exact .inl rfl
    | some k => exact .inr (by simp [Value.ownBlock])
  · have := h.ne hh (fun e' => hT e'.symm)
    simpa [Value.ownBlock] using this
theorem OwnL.turn {α : Type} {E : El α} {e : TypeId} {w w' : World} {B : Nat} {v : Value} {l : List α} {row : Option Nat} (h : OwnL E e w B v l) (hg : w.grownBy w' row) (hne : v.ownBlock = none ∨ v.ownBlock ≠ row) : OwnL E e w' B v l := ⟨h.1.kept hg hne, h.2⟩
theorem OwnL.low {α : Type} {E : El α} {e : TypeId} {w : World} {B : Nat} {v : Value} {l : List α} (h : OwnL E e w B v l) (g : Nat) (hg : g < B) : v.ownBlock = none ∨ v.ownBlock ≠ some g := by
  cases hv : v.ownBlock with
  | none => exact .inl rfl
  | some k => exact .inr (fun e => by injection e with e; have := (World.ownsRow.lt h.1 k hv).1; omega)
theorem OwnL.snoc {α : Type} {E : El α} {e : TypeId} {w1 : World} {B : Nat} {v v' : Value} {l : List α} {x : α} {w : World} (h : OwnL E e w B v l) (hx : E.fine x) (hown : w1.ownsRow B e E.sz v' (l.length + 1) (E.all l ++ E.cells x)) : OwnL E e w1 B v' (l ++ [x]) := by
  refine ⟨?_, h.2.snoc hx⟩
  rw [El.all_append, El.all_one, List.length_append]
  exact hown
/-- Block gs is the variable. -/
structure SV (w : World) (gs : Nat) (s : Su) (v1 v2 v3 v4 : Value) : Prop where
  box : TB w gs 27 v1 v2 v3 v4
  p : OwnL prE 60 w (gs + 1) v1 s.ps
  b : OwnL bdE 64 w (gs + 1) v2 s.bs
  c : OwnL cpE 66 w (gs + 1) v3 s.cs
  a : OwnL asdE 68 w (gs + 1) v4 s.as_
theorem SV.keep {w w' : World} {gs : Nat} {s : Su} {v1 v2 v3 v4 : Value} (h : SV w gs s v1 v2 v3 v4) (hb : Below w.heap.size w w') : SV w' gs s v1 v2 v3 v4 :=
  ⟨h.box.keep hb, h.p.keep hb, h.b.keep hb, h.c.keep hb, h.a.keep hb⟩
/-- Another block turns. -/
theorem SV.turn {w w' : World} {gs g : Nat} {s : Su} {v1 v2 v3 v4 : Value} {cs : Array Value} {T : TypeId} {fz : Nat × Nat} (h : SV w gs s v1 v2 v3 v4) (hg : w.grownBy w' (some g)) (ho : w.heap[g]? = some (.cells cs T fz)) (hne : gs ≠ g)
    (h1 : T ≠ 60) (h2 : T ≠ 64) (h3 : T ≠ 66) (h4 : T ≠ 68) : SV w' gs s v1 v2 v3 v4 :=
  ⟨(hg.block gs h.box.lt (fun e => by injection e with e; omega)).trans h.box, h.p.turn hg (h.p.ne ho h1), h.b.turn hg (h.b.ne ho h2), h.c.turn hg (h.c.ne ho h3), h.a.turn hg (h.a.ne ho h4)⟩
theorem SV.stay0 {w w1 : World} {gs : Nat} {s : Su} {v1 v2 v3 v4 : Value} (h : SV w gs s v1 v2 v3 v4) (hg : w.grownBy w1 v1.ownBlock) : TB w1 gs 27 v1 v2 v3 v4 :=
  (hg.block gs h.box.lt (by rcases h.p.low gs (Nat.lt_succ_self gs) with e | e; rw [e]; simp; exact fun e' => e e'.symm)).trans h.box
theorem SV.app0 {w w1 : World} {gs : Nat} {s : Su} {v1 v2 v3 v4 v' : Value} {x : MC.Pr} (h : SV w gs s v1 v2 v3 v4) (hx : prE.fine x) (hown : w1.ownsRow (gs + 1) 60 prE.sz v' (s.ps.length + 1) (prE.all s.ps ++ prE.cells x)) (hg : w.grownBy w1 v1.ownBlock) :
    SV (w1.setCell ⟨gs, 0, none⟩ v') gs { s with ps := s.ps ++ [x] } v' v2 v3 v4 :=
  ⟨by have hb : TB w1 gs 27 v1 v2 v3 v4 := (hg.block gs h.box.lt (by rcases h.p.low gs (Nat.lt_succ_self gs) with e | e; rw [e]; simp; exact fun e' => e e'.symm)).trans h.box; unfold TB at hb ⊢; rw [heap_setCell_same w1 gs 0 _ _ _ hb]; rfl,
   ((h.p.snoc hx hown).turn (g_set w1 gs 0 v') ((h.p.snoc hx hown).low gs (Nat.lt_succ_self gs))),
   ((h.b.turn hg (h.b.apart h.p (by decide))).turn (g_set w1 gs 0 v') ((h.b.turn hg (h.b.apart h.p (by decide))).low gs (Nat.lt_succ_self gs))),
   ((h.c.turn hg (h.c.apart h.p (by decide))).turn (g_set w1 gs 0 v') ((h.c.turn hg (h.c.apart h.p (by decide))).low gs (Nat.lt_succ_self gs))),
   ((h.a.turn hg (h.a.apart h.p (by decide))).turn (g_set w1 gs 0 v') ((h.a.turn hg (h.a.apart h.p (by decide))).low gs (Nat.lt_succ_self gs)))⟩
theorem SV.far0 {w w1 : World} {gs : Nat} {s : Su} {v1 v2 v3 v4 v' : Value} (h : SV w gs s v1 v2 v3 v4) (hg : w.grownBy w1 v1.ownBlock) (k : Nat) (o : Obj) (hk : w.heap[k]? = some o) (hkg : k ≠ gs) (ho : ∀ c fz, o ≠ .cells c 60 fz) : (w1.setCell ⟨gs, 0, none⟩ v').heap[k]? = some o := by
  rw [Below.heap_setCell w1 ⟨gs, 0, none⟩ v' k hkg]
  refine (hg.block k (Array.getElem?_eq_some_iff.1 hk).1 ?_).trans hk
  rcases h.p.1.2 with ⟨hv, _⟩ | ⟨g', cap, cur, hv, _, hh, _⟩
  · rw [hv]; simp [Value.ownBlock]
  · rw [hv]
    intro e
    have : k = g' := by simpa [Value.ownBlock] using e
    subst this
    rw [hh] at hk
    injection hk with hk
    exact ho _ _ hk.symm
theorem SV.low0 {w w1 : World} {gs : Nat} {s : Su} {v1 v2 v3 v4 v' : Value} (h : SV w gs s v1 v2 v3 v4) (hg : w.grownBy w1 v1.ownBlock) : Below gs w (w1.setCell ⟨gs, 0, none⟩ v') :=
  Below.setCell (p := ⟨gs, 0, none⟩) ((Below.refl gs w).grown hg (Nat.le_of_lt h.box.lt) (fun k hk => by have := (World.ownsRow.lt h.p.1 k hk).1; omega)) (Nat.le_refl _) _
theorem SV.stay1 {w w1 : World} {gs : Nat} {s : Su} {v1 v2 v3 v4 : Value} (h : SV w gs s v1 v2 v3 v4) (hg : w.grownBy w1 v2.ownBlock) : TB w1 gs 27 v1 v2 v3 v4 :=
  (hg.block gs h.box.lt (by rcases h.b.low gs (Nat.lt_succ_self gs) with e | e; rw [e]; simp; exact fun e' => e e'.symm)).trans h.box
theorem SV.app1 {w w1 : World} {gs : Nat} {s : Su} {v1 v2 v3 v4 v' : Value} {x : MR.Bd} (h : SV w gs s v1 v2 v3 v4) (hx : bdE.fine x) (hown : w1.ownsRow (gs + 1) 64 bdE.sz v' (s.bs.length + 1) (bdE.all s.bs ++ bdE.cells x)) (hg : w.grownBy w1 v2.ownBlock) :
    SV (w1.setCell ⟨gs, 1, none⟩ v') gs { s with bs := s.bs ++ [x] } v1 v' v3 v4 :=
  ⟨by have hb : TB w1 gs 27 v1 v2 v3 v4 := (hg.block gs h.box.lt (by rcases h.b.low gs (Nat.lt_succ_self gs) with e | e; rw [e]; simp; exact fun e' => e e'.symm)).trans h.box; unfold TB at hb ⊢; rw [heap_setCell_same w1 gs 1 _ _ _ hb]; rfl,
   ((h.p.turn hg (h.p.apart h.b (by decide))).turn (g_set w1 gs 1 v') ((h.p.turn hg (h.p.apart h.b (by decide))).low gs (Nat.lt_succ_self gs))),
   ((h.b.snoc hx hown).turn (g_set w1 gs 1 v') ((h.b.snoc hx hown).low gs (Nat.lt_succ_self gs))),
   ((h.c.turn hg (h.c.apart h.b (by decide))).turn (g_set w1 gs 1 v') ((h.c.turn hg (h.c.apart h.b (by decide))).low gs (Nat.lt_succ_self gs))),
   ((h.a.turn hg (h.a.apart h.b (by decide))).turn (g_set w1 gs 1 v') ((h.a.turn hg (h.a.apart h.b (by decide))).low gs (Nat.lt_succ_self gs)))⟩
theorem SV.far1 {w w1 : World} {gs : Nat} {s : Su} {v1 v2 v3 v4 v' : Value} (h : SV w gs s v1 v2 v3 v4) (hg : w.grownBy w1 v2.ownBlock) (k : Nat) (o : Obj) (hk : w.heap[k]? = some o) (hkg : k ≠ gs) (ho : ∀ c fz, o ≠ .cells c 64 fz) : (w1.setCell ⟨gs, 1, none⟩ v').heap[k]? = some o := by
  rw [Below.heap_setCell w1 ⟨gs, 1, none⟩ v' k hkg]
  refine (hg.block k (Array.getElem?_eq_some_iff.1 hk).1 ?_).trans hk
  rcases h.b.1.2 with ⟨hv, _⟩ | ⟨g', cap, cur, hv, _, hh, _⟩
  · rw [hv]; simp [Value.ownBlock]
  · rw [hv]
    intro e
    have : k = g' := by simpa [Value.ownBlock] using e
    subst this
    rw [hh] at hk
    injection hk with hk
    exact ho _ _ hk.symm
theorem SV.low1 {w w1 : World} {gs : Nat} {s : Su} {v1 v2 v3 v4 v' : Value} (h : SV w gs s v1 v2 v3 v4) (hg : w.grownBy w1 v2.ownBlock) : Below gs w (w1.setCell ⟨gs, 1, none⟩ v') :=
  Below.setCell (p := ⟨gs, 1, none⟩) ((Below.refl gs w).grown hg (Nat.le_of_lt h.box.lt) (fun k hk => by have := (World.ownsRow.lt h.b.1 k hk).1; omega)) (Nat.le_refl _) _
theorem SV.stay2 {w w1 : World} {gs : Nat} {s : Su} {v1 v2 v3 v4 : Value} (h : SV w gs s v1 v2 v3 v4) (hg : w.grownBy w1 v3.ownBlock) : TB w1 gs 27 v1 v2 v3 v4 :=
  (hg.block gs h.box.lt (by rcases h.c.low gs (Nat.lt_succ_self gs) with e | e; rw [e]; simp; exact fun e' => e e'.symm)).trans h.box
theorem SV.app2 {w w1 : World} {gs : Nat} {s : Su} {v1 v2 v3 v4 v' : Value} {x : Cp} (h : SV w gs s v1 v2 v3 v4) (hx : cpE.fine x) (hown : w1.ownsRow (gs + 1) 66 cpE.sz v' (s.cs.length + 1) (cpE.all s.cs ++ cpE.cells x)) (hg : w.grownBy w1 v3.ownBlock) :
    SV (w1.setCell ⟨gs, 2, none⟩ v') gs { s with cs := s.cs ++ [x] } v1 v2 v' v4 :=
  ⟨by have hb : TB w1 gs 27 v1 v2 v3 v4 := (hg.block gs h.box.lt (by rcases h.c.low gs (Nat.lt_succ_self gs) with e | e; rw [e]; simp; exact fun e' => e e'.symm)).trans h.box; unfold TB at hb ⊢; rw [heap_setCell_same w1 gs 2 _ _ _ hb]; rfl,
   ((h.p.turn hg (h.p.apart h.c (by decide))).turn (g_set w1 gs 2 v') ((h.p.turn hg (h.p.apart h.c (by decide))).low gs (Nat.lt_succ_self gs))),
   ((h.b.turn hg (h.b.apart h.c (by decide))).turn (g_set w1 gs 2 v') ((h.b.turn hg (h.b.apart h.c (by decide))).low gs (Nat.lt_succ_self gs))),
   ((h.c.snoc hx hown).turn (g_set w1 gs 2 v') ((h.c.snoc hx hown).low gs (Nat.lt_succ_self gs))),
   ((h.a.turn hg (h.a.apart h.c (by decide))).turn (g_set w1 gs 2 v') ((h.a.turn hg (h.a.apart h.c (by decide))).low gs (Nat.lt_succ_self gs)))⟩
theorem SV.far2 {w w1 : World} {gs : Nat} {s : Su} {v1 v2 v3 v4 v' : Value} (h : SV w gs s v1 v2 v3 v4) (hg : w.grownBy w1 v3.ownBlock) (k : Nat) (o : Obj) (hk : w.heap[k]? = some o) (hkg : k ≠ gs) (ho : ∀ c fz, o ≠ .cells c 66 fz) : (w1.setCell ⟨gs, 2, none⟩ v').heap[k]? = some o := by
  rw [Below.heap_setCell w1 ⟨gs, 2, none⟩ v' k hkg]
  refine (hg.block k (Array.getElem?_eq_some_iff.1 hk).1 ?_).trans hk
  rcases h.c.1.2 with ⟨hv, _⟩ | ⟨g', cap, cur, hv, _, hh, _⟩
  · rw [hv]; simp [Value.ownBlock]
  · rw [hv]
    intro e
    have : k = g' := by simpa [Value.ownBlock] using e
    subst this
    rw [hh] at hk
    injection hk with hk
    exact ho _ _ hk.symm
theorem SV.low2 {w w1 : World} {gs : Nat} {s : Su} {v1 v2 v3 v4 v' : Value} (h : SV w gs s v1 v2 v3 v4) (hg : w.grownBy w1 v3.ownBlock) : Below gs w (w1.setCell ⟨gs, 2, none⟩ v') :=
  Below.setCell (p := ⟨gs, 2, none⟩) ((Below.refl gs w).grown hg (Nat.le_of_lt h.box.lt) (fun k hk => by have := (World.ownsRow.lt h.c.1 k hk).1; omega)) (Nat.le_refl _) _
theorem SV.stay3 {w w1 : World} {gs : Nat} {s : Su} {v1 v2 v3 v4 : Value} (h : SV w gs s v1 v2 v3 v4) (hg : w.grownBy w1 v4.ownBlock) : TB w1 gs 27 v1 v2 v3 v4 :=
  (hg.block gs h.box.lt (by rcases h.a.low gs (Nat.lt_succ_self gs) with e | e; rw [e]; simp; exact fun e' => e e'.symm)).trans h.box
theorem SV.app3 {w w1 : World} {gs : Nat} {s : Su} {v1 v2 v3 v4 v' : Value} {x : As} (h : SV w gs s v1 v2 v3 v4) (hx : asdE.fine x) (hown : w1.ownsRow (gs + 1) 68 asdE.sz v' (s.as_.length + 1) (asdE.all s.as_ ++ asdE.cells x)) (hg : w.grownBy w1 v4.ownBlock) :
    SV (w1.setCell ⟨gs, 3, none⟩ v') gs { s with as_ := s.as_ ++ [x] } v1 v2 v3 v' :=
  ⟨by have hb : TB w1 gs 27 v1 v2 v3 v4 := (hg.block gs h.box.lt (by rcases h.a.low gs (Nat.lt_succ_self gs) with e | e; rw [e]; simp; exact fun e' => e e'.symm)).trans h.box; unfold TB at hb ⊢; rw [heap_setCell_same w1 gs 3 _ _ _ hb]; rfl,
   ((h.p.turn hg (h.p.apart h.a (by decide))).turn (g_set w1 gs 3 v') ((h.p.turn hg (h.p.apart h.a (by decide))).low gs (Nat.lt_succ_self gs))),
   ((h.b.turn hg (h.b.apart h.a (by decide))).turn (g_set w1 gs 3 v') ((h.b.turn hg (h.b.apart h.a (by decide))).low gs (Nat.lt_succ_self gs))),
   ((h.c.turn hg (h.c.apart h.a (by decide))).turn (g_set w1 gs 3 v') ((h.c.turn hg (h.c.apart h.a (by decide))).low gs (Nat.lt_succ_self gs))),
   ((h.a.snoc hx hown).turn (g_set w1 gs 3 v') ((h.a.snoc hx hown).low gs (Nat.lt_succ_self gs)))⟩
theorem SV.far3 {w w1 : World} {gs : Nat} {s : Su} {v1 v2 v3 v4 v' : Value} (h : SV w gs s v1 v2 v3 v4) (hg : w.grownBy w1 v4.ownBlock) (k : Nat) (o : Obj) (hk : w.heap[k]? = some o) (hkg : k ≠ gs) (ho : ∀ c fz, o ≠ .cells c 68 fz) : (w1.setCell ⟨gs, 3, none⟩ v').heap[k]? = some o := by
  rw [Below.heap_setCell w1 ⟨gs, 3, none⟩ v' k hkg]
  refine (hg.block k (Array.getElem?_eq_some_iff.1 hk).1 ?_).trans hk
  rcases h.a.1.2 with ⟨hv, _⟩ | ⟨g', cap, cur, hv, _, hh, _⟩
  · rw [hv]; simp [Value.ownBlock]
  · rw [hv]
    intro e
    have : k = g' := by simpa [Value.ownBlock] using e
    subst this
    rw [hh] at hk
    injection hk with hk
    exact ho _ _ hk.symm
theorem SV.low3 {w w1 : World} {gs : Nat} {s : Su} {v1 v2 v3 v4 v' : Value} (h : SV w gs s v1 v2 v3 v4) (hg : w.grownBy w1 v4.ownBlock) : Below gs w (w1.setCell ⟨gs, 3, none⟩ v') :=
  Below.setCell (p := ⟨gs, 3, none⟩) ((Below.refl gs w).grown hg (Nat.le_of_lt h.box.lt) (fun k hk => by have := (World.ownsRow.lt h.a.1 k hk).1; omega)) (Nat.le_refl _) _
end Go.Proofs.YtigfgeanofccgaaGreatDoor
namespace Go.Proofs.YtigfgeanofccgaaGreatDoor
open Go.RowKit
open MU (Su Cp As)
/-- The first of two errors. -/
theorem upE_ne {e k : Int} (h : e ≠ 0) : upE e k = e := by
  unfold upE
  rw [if_neg h]
  split <;> rfl
theorem upE_0 {k : Int} : upE 0 k = k := by
  unfold upE
  split
  · next h => exact h.symm
  · rw [if_pos rfl]
theorem nums_err1 {a : List UInt8} {r : List (List UInt8)} (h : (MU.digE a).2 ≠ 0) : MU.numsE (a :: r) = ([], (MU.digE a).2) := by rw [MU.numsE, if_pos h]
theorem nums_on {a : List UInt8} {r : List (List UInt8)} (h : (MU.digE a).2 = 0) : MU.numsE (a :: r) = if (MU.numsE r).2 ≠ 0 then ([], (MU.numsE r).2) else ((MU.digE a).1 :: (MU.numsE r).1, 0) := by rw [MU.numsE, if_neg (by rw [h]; simp)]
/-- The errors of words, one behind the other. -/
theorem nums_up : ∀ (l : List (List UInt8)), (MU.numsE l).2 = l.foldl (fun e x => upE e (MU.digE x).2) 0 ∧ ((MU.numsE l).2 = 0 → (MU.numsE l).1 = l.map fun x => (MU.digE x).1)
  | [] => ⟨rfl, fun _ => rfl⟩
  | a :: r => by
    have key : ∀ (r : List (List UInt8)) (e : Int), e ≠ 0 → r.foldl (fun e x => upE e (MU.digE x).2) e = e := by
      intro r
      induction r with
      | nil => intro e _; rfl
      | cons b r ih => intro e he; rw [List.foldl_cons, upE_ne he]; exact ih e he
    obtain ⟨h1, h2⟩ := nums_up r
    by_cases ha : (MU.digE a).2 = 0
    · rw [nums_on ha, List.foldl_cons, upE_0, ha]
      by_cases hr : (MU.numsE r).2 = 0
      · rw [if_neg (by rw [hr]; simp)]
        exact ⟨by rw [← h1, hr], fun _ => by rw [List.map_cons, h2 hr]⟩
      · rw [if_pos hr]
        exact ⟨h1, fun h => absurd h hr⟩
    · rw [nums_err1 ha, List.foldl_cons, upE_0, key r _ ha]
      exact ⟨rfl, fun h => absurd h ha⟩
/-- A line's error: that of its first word behind the keyword, then of its numbers. -/
theorem up_nums (k : Int) (l : List (List UInt8)) : l.foldl (fun e x => upE e (MU.digE x).2) k = if k ≠ 0 then k else (MU.numsE l).2 := by
  by_cases h : k = 0
  · rw [if_neg (by simpa using h), h, (nums_up l).1]
  · rw [if_pos h]
    induction l with
    | nil => rfl
    | cons b r ih => rw [List.foldl_cons, upE_ne h]; exact ih
theorem line_prod (s : Su) (x0 x1 x2 x3 x4 : List UInt8) :
    (MU.lineE s [MU.wProduct, x0, x1, x2, x3, x4]).2 = (upE (upE (upE (upE (upE 0 (nmEr x0)) (MU.digE x1).2) (MU.digE x2).2) (MU.digE x3).2) (MU.digE x4).2) ∧ ((MU.lineE s [MU.wProduct, x0, x1, x2, x3, x4]).2 = 0 → (MU.lineE s [MU.wProduct, x0, x1, x2, x3, x4]).1 = { s with ps := s.ps ++ [⟨x0, (MU.digE x1).1, (MU.digE x2).1, (MU.digE x3).1, (MU.digE x4).1⟩] }) := by
  have hu := up_nums (nmEr x0) [x1, x2, x3, x4]
  have hv := (nums_up [x1, x2, x3, x4]).2
  have hL : MU.lineE s [MU.wProduct, x0, x1, x2, x3, x4] = if nameB x0 = false then (s, 5) else if (MU.numsE [x1, x2, x3, x4]).2 ≠ 0 then (s, (MU.numsE [x1, x2, x3, x4]).2) else ({ s with ps := s.ps ++ [⟨x0, MU.atI (MU.numsE [x1, x2, x3, x4]).1 0, MU.atI (MU.numsE [x1, x2, x3, x4]).1 1, MU.atI (MU.numsE [x1, x2, x3, x4]).1 2, MU.atI (MU.numsE [x1, x2, x3, x4]).1 3⟩] }, 0) :=
    (show MU.lineE s [MU.wProduct, x0, x1, x2, x3, x4] = _ from (if_pos rfl)).trans ((if_neg (by simp)).trans rfl)
  rw [hL, upE_0]
  show _ = List.foldl (fun e x => upE e (MU.digE x).2) (nmEr x0) [x1, x2, x3, x4] ∧ _
  rw [hu]
  by_cases hc : nameB x0 = false
  · have hn : nmEr x0 = 5 := by unfold nmEr; rw [hc]; rfl
    rw [if_pos hc, hn]
    exact ⟨rfl, fun h => by cases h⟩
  · have hn : nmEr x0 = 0 := by
      unfold nmEr; rw [if_pos (by simpa using hc)]
    rw [if_neg hc, hn, if_neg (show ¬ (0 : Int) ≠ 0 by simp)]
    by_cases hN : (MU.numsE [x1, x2, x3, x4]).2 = 0
    · rw [if_neg (show ¬ (MU.numsE [x1, x2, x3, x4]).2 ≠ 0 by rw [hN]; simp), hv hN, hN]
      refine ⟨rfl, fun _ => ?_⟩
      rfl
    · rw [if_pos hN]
      exact ⟨rfl, fun h => absurd h hN⟩
theorem line_bid (s : Su) (x0 x1 x2 x3 : List UInt8) :
    (MU.lineE s [MU.wBidder, x0, x1, x2, x3]).2 = (upE (upE (upE (upE 0 (nmEr x0)) (MU.digE x1).2) (MU.digE x2).2) (MU.digE x3).2) ∧ ((MU.lineE s [MU.wBidder, x0, x1, x2, x3]).2 = 0 → (MU.lineE s [MU.wBidder, x0, x1, x2, x3]).1 = { s with bs := s.bs ++ [⟨x0, (MU.digE x1).1, (MU.digE x2).1, (MU.digE x3).1⟩] }) := by
  have hu := up_nums (nmEr x0) [x1, x2, x3]
  have hv := (nums_up [x1, x2, x3]).2
  have hL : MU.lineE s [MU.wBidder, x0, x1, x2, x3] = if nameB x0 = false then (s, 5) else if (MU.numsE [x1, x2, x3]).2 ≠ 0 then (s, (MU.numsE [x1, x2, x3]).2) else ({ s with bs := s.bs ++ [⟨x0, MU.atI (MU.numsE [x1, x2, x3]).1 0, MU.atI (MU.numsE [x1, x2, x3]).1 1, MU.atI (MU.numsE [x1, x2, x3]).1 2⟩] }, 0) :=
    (show MU.lineE s [MU.wBidder, x0, x1, x2, x3] = _ from ((if_neg (show ¬ MU.wBidder = MU.wProduct by decide)).trans (if_pos rfl))).trans ((if_neg (by simp)).trans rfl)
  rw [hL, upE_0]
  show _ = List.foldl (fun e x => upE e (MU.digE x).2) (nmEr x0) [x1, x2, x3] ∧ _
  rw [hu]
  by_cases hc : nameB x0 = false
  · have hn : nmEr x0 = 5 := by unfold nmEr; rw [hc]; rfl
    rw [if_pos hc, hn]
    exact ⟨rfl, fun h => by cases h⟩
  · have hn : nmEr x0 = 0 := by
      unfold nmEr; rw [if_pos (by simpa using hc)]
    rw [if_neg hc, hn, if_neg (show ¬ (0 : Int) ≠ 0 by simp)]
    by_cases hN : (MU.numsE [x1, x2, x3]).2 = 0
    · rw [if_neg (show ¬ (MU.numsE [x1, x2, x3]).2 ≠ 0 by rw [hN]; simp), hv hN, hN]
      refine ⟨rfl, fun _ => ?_⟩
      rfl
    · rw [if_pos hN]
      exact ⟨rfl, fun h => absurd h hN⟩
theorem line_cap (s : Su) (x0 x1 x2 : List UInt8) (hbs : ∀ b ∈ s.bs, nameB b.name = true) :
    (MU.lineE s [MU.wCap, x0, x1, x2]).2 = (upE (upE (upE 0 (cpEr s.bs x0)) (MU.digE x1).2) (MU.digE x2).2) ∧ ((MU.lineE s [MU.wCap, x0, x1, x2]).2 = 0 → (MU.lineE s [MU.wCap, x0, x1, x2]).1 = { s with cs := s.cs ++ [⟨cpV s.bs x0, (MU.digE x1).1, (MU.digE x2).1⟩] }) := by
  have hu := up_nums (cpEr s.bs x0) [x1, x2]
  have hv := (nums_up [x1, x2]).2
  have hL : MU.lineE s [MU.wCap, x0, x1, x2] = if MR.findL s.bs x0 = none ∧ x0 ≠ [42] then (s, 6) else if (MU.numsE [x1, x2]).2 ≠ 0 then (s, (MU.numsE [x1, x2]).2) else ({ s with cs := s.cs ++ [⟨((MR.findL s.bs x0).map Int.ofNat).getD (-1), MU.atI (MU.numsE [x1, x2]).1 0, MU.atI (MU.numsE [x1, x2]).1 1⟩] }, 0) :=
    (show MU.lineE s [MU.wCap, x0, x1, x2] = _ from ((if_neg (show ¬ MU.wCap = MU.wProduct by decide)).trans ((if_neg (show ¬ MU.wCap = MU.wBidder by decide)).trans (if_pos rfl)))).trans ((if_neg (by simp)).trans rfl)
  rw [hL, upE_0]
  show _ = List.foldl (fun e x => upE e (MU.digE x).2) (cpEr s.bs x0) [x1, x2] ∧ _
  rw [hu]
  by_cases hc : MR.findL s.bs x0 = none ∧ x0 ≠ [42]
  · have hn : cpEr s.bs x0 = 6 := by unfold cpEr; rw [if_neg hc.2, if_pos hc.1]
    rw [if_pos hc, hn]
    exact ⟨rfl, fun h => by cases h⟩
  · have hn : cpEr s.bs x0 = 0 := by
      unfold cpEr
      by_cases hs : x0 = [42]
      · rw [if_pos hs]
      · rw [if_neg hs, if_neg (fun h => hc ⟨h, hs⟩)]
    rw [if_neg hc, hn, if_neg (show ¬ (0 : Int) ≠ 0 by simp)]
    by_cases hN : (MU.numsE [x1, x2]).2 = 0
    · rw [if_neg (show ¬ (MU.numsE [x1, x2]).2 ≠ 0 by rw [hN]; simp), hv hN, hN]
      refine ⟨rfl, fun _ => ?_⟩
      have hval : ((MR.findL s.bs x0).map Int.ofNat).getD (-1) = cpV s.bs x0 := by
        unfold cpV
        by_cases hs : x0 = [42]
        · rw [if_pos hs]
          have : MR.findL s.bs x0 = none := MR.find_none fun p hp e => by
            have h2 := hbs p hp
            rw [e, hs] at h2
            revert h2; decide
          rw [this]; rfl
        · rw [if_neg hs]
          cases hf : MR.findL s.bs x0 with
          | none => exact absurd ⟨hf, hs⟩ hc
          | some i => rfl
      rw [hval]
      rfl
    · rw [if_pos hN]
      exact ⟨rfl, fun h => absurd h hN⟩
theorem line_as (s : Su) (x0 x1 x2 : List UInt8) :
    (MU.lineE s [MU.wAside, x0, x1, x2]).2 = (upE (upE (upE 0 (asEr s.ps x0)) (MU.digE x1).2) (MU.digE x2).2) ∧ ((MU.lineE s [MU.wAside, x0, x1, x2]).2 = 0 → (MU.lineE s [MU.wAside, x0, x1, x2]).1 = { s with as_ := s.as_ ++ [⟨asV s.ps x0, (MU.digE x1).1, (MU.digE x2).1⟩] }) := by
  have hu := up_nums (asEr s.ps x0) [x1, x2]
  have hv := (nums_up [x1, x2]).2
  have hL : MU.lineE s [MU.wAside, x0, x1, x2] = if MC.findL s.ps x0 = none then (s, 6) else if (MU.numsE [x1, x2]).2 ≠ 0 then (s, (MU.numsE [x1, x2]).2) else ({ s with as_ := s.as_ ++ [⟨((MC.findL s.ps x0).map Int.ofNat).getD 0, MU.atI (MU.numsE [x1, x2]).1 0, MU.atI (MU.numsE [x1, x2]).1 1⟩] }, 0) :=
    (show MU.lineE s [MU.wAside, x0, x1, x2] = _ from ((if_neg (show ¬ MU.wAside = MU.wProduct by decide)).trans ((if_neg (show ¬ MU.wAside = MU.wBidder by decide)).trans ((if_neg (show ¬ MU.wAside = MU.wCap by decide)).trans (if_pos rfl))))).trans ((if_neg (by simp)).trans rfl)
  rw [hL, upE_0]
  show _ = List.foldl (fun e x => upE e (MU.digE x).2) (asEr s.ps x0) [x1, x2] ∧ _
  rw [hu]
  by_cases hc : MC.findL s.ps x0 = none
  · have hn : asEr s.ps x0 = 6 := by unfold asEr; rw [if_pos hc]
    rw [if_pos hc, hn]
    exact ⟨rfl, fun h => by cases h⟩
  · have hn : asEr s.ps x0 = 0 := by
      unfold asEr; rw [if_neg hc]
    rw [if_neg hc, hn, if_neg (show ¬ (0 : Int) ≠ 0 by simp)]
    by_cases hN : (MU.numsE [x1, x2]).2 = 0
    · rw [if_neg (show ¬ (MU.numsE [x1, x2]).2 ≠ 0 by rw [hN]; simp), hv hN, hN]
      refine ⟨rfl, fun _ => ?_⟩
      rfl
    · rw [if_pos hN]
      exact ⟨rfl, fun h => absurd h hN⟩
end Go.Proofs.YtigfgeanofccgaaGreatDoor

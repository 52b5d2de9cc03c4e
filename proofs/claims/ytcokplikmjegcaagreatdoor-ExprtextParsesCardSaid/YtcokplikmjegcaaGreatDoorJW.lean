/- Lives0, PScn, POp, joined: no claim of its own. -/
import Derived.Test.YtcokplikmjegcaaGreatDoorJV
import Derived.Test.YtcokplikmjegcaaGreatDoorJN
import Derived.Test.YtcokplikmjegcaaGreatDoorCScan
import Derived.Test.YtcokplikmjegcaaGreatDoorJS
import Derived.Test.YtcokplikmjegcaaGreatDoorJE
import Derived.Deep.DeepCutAuto
namespace Go.Proofs.YtcokplikmjegcaaGreatDoor
open Go.RowKit
open MC (Pr)
open ME (F Nd)
def nA : Nd := ⟨1, [1, 0, 0, 0, 0, 0], 5, .nil⟩
def nB : Nd := ⟨1, [0, 1, 0, 0, 0, 0], 7, .nil⟩
def nE : Nd := ⟨2, [0, 0, 0, 0, 0, 0], 0, MX.mkF [nA, nB]⟩
def tE1 : List UInt8 := [120, 111, 114, 40, 32, 123, 97, 58, 49, 125, 32, 64, 32, 53, 32, 44, 32, 123, 98, 58, 49, 125, 32, 64, 32, 55, 32, 41]
def tE2 : List UInt8 := [123, 99, 58, 49, 125, 64, 53]
def tE3 : List UInt8 := [123, 97, 58, 49, 125, 64, 48]
def tE0 : List UInt8 := [120, 111, 114, 40, 123, 97, 58, 49, 125, 64, 53, 44, 123, 98, 58, 49, 125, 64, 55, 41]
theorem ex_p1 : (MX.parseE saleL tE1).2 = 0 := by decide +kernel
theorem ex_p1' : ME.eqN nE (MX.parseE saleL tE1).1 = true := by decide +kernel
theorem ex_p2 : (MX.parseE saleL tE2).2 = 6 := by decide +kernel
theorem ex_p3 : (MX.parseE saleL tE3).2 = 4 := by decide +kernel
theorem ex_chk : ME.checkE nE = 0 := by decide +kernel
theorem ex_txt : MX.txN saleL nE = tE0 := by decide +kernel
theorem sale_fits {a b : Int} (ha : 0 ≤ a) (ha4 : a ≤ 4) (hb : 0 ≤ b) (hb4 : b ≤ 4) : MC.Fits saleL [a, b, 0, 0, 0, 0] := by
  refine ⟨sale_chk, ?_, fun j hj => ?_⟩
  · unfold MB.okB
    simp [ha, ha4, hb, hb4]
  · have hj2 : 2 ≤ j := hj
    obtain ⟨k, rfl⟩ : ∃ k, j = k + 2 := ⟨j - 2, by omega⟩
    show ([a, b, 0, 0, 0, 0] : List Int).getD (k + 2) 0 = 0
    rw [List.getD_cons_succ, List.getD_cons_succ]
    match k with
    | 0 => rfl
    | 1 => rfl
    | 2 => rfl
    | 3 => rfl
    | _ + 4 => rfl
theorem ex_fits : MX.FitN saleL nE := by
  intro x hx
  have hx' : x = nE ∨ x = nA ∨ x = nB := by simpa [nE, Nd.pre, F.pre, MX.mkF, nA, nB] using hx
  rcases hx' with rfl | rfl | rfl
  · exact sale_fits (by decide) (by decide) (by decide) (by decide)
  · exact sale_fits (by decide) (by decide) (by decide) (by decide)
  · exact sale_fits (by decide) (by decide) (by decide) (by decide)
theorem ex_fmt : MX.fmtE saleL nE = (tE0, 0) := by
  unfold MX.fmtE
  rw [if_neg (by rw [sale_chk]; decide), if_neg (by rw [ex_chk]; decide), if_neg (fun h => h ex_fits), ex_txt, if_neg (by decide)]
end Go.Proofs.YtcokplikmjegcaaGreatDoor
namespace Go.Proofs.YtcokplikmjegcaaGreatDoor
open Go.RowKit
open MC (Pr)
section
variable {bad : Nat → Prop} {w : World} {g : Nat} {ts : List Tk} {er : Int}
theorem amountM (M : Int) (h : SP bad w g ts er) :
    Calls Tryz.prog 98 #[.pointer (some ⟨g, 0, none⟩), .int .i64 M] w (Did (fun w' => SP bad w' g (if MX.amtE M ts er = 0 then ts.drop 1 else []) (MX.amtE M ts er)) g (.int .i64 (MX.amtV M ts er)) w) := by
  obtain ⟨A, n, cp, hs, hi⟩ := h
  cases ts with
  | nil =>
    have he : MX.amtE M [] er = refE er := by unfold MX.amtE refE; rfl
    have ht : MX.amtV M [] er = 0 := by unfold MX.amtV; rw [if_neg (by rw [he]; exact refE_ne er)]
    rw [ht, he, if_neg (refE_ne er)]
    exact amount_empty M hs
  | cons t r =>
    obtain rfl : er = 0 := by
      by_cases e : er = 0
      · exact e
      · cases hi e
    have hno : ∀ x : Int, x ≠ 0 → MX.amtE M (t :: r) 0 = x → MX.amtV M (t :: r) 0 = 0 := fun x hx h => by unfold MX.amtV; rw [if_neg (by rw [h]; exact hx)]
    by_cases hk : t.kind = 2
    · by_cases hv : t.value < 0
      · have he : MX.amtE M (t :: r) 0 = 4 := by unfold MX.amtE; rw [if_pos rfl]; simp [hk, hv]
        rw [hno 4 (by decide) he, he, if_neg (by decide)]
        exact amount_neg M hs hk hv
      · by_cases hv2 : M < t.value
        · have he : MX.amtE M (t :: r) 0 = 4 := by unfold MX.amtE; rw [if_pos rfl]; simp [hk, hv2]
          rw [hno 4 (by decide) he, he, if_neg (by decide)]
          exact amount_most M hs hk (by omega) hv2
        · have he : MX.amtE M (t :: r) 0 = 0 := by unfold MX.amtE; rw [if_pos rfl]; simp [hk, hv, hv2]
          have ht : MX.amtV M (t :: r) 0 = t.value := by unfold MX.amtV; rw [if_pos he]; rfl
          rw [ht, he, if_pos rfl]
          exact amount_yes M hs hk (by omega) (by omega)
    · have he : MX.amtE M (t :: r) 0 = 2 := by unfold MX.amtE; rw [if_pos rfl]; simp [hk]
      rw [hno 2 (by decide) he, he, if_neg (by decide)]
      exact amount_kind M hs hk
theorem hk_head (ts : List Tk) : MX.hk ts = (headT ts).kind := by cases ts <;> rfl
theorem peek12 (h : SP bad w g ts er) : Calls Tryz.prog 92 #[.pointer (some ⟨g, 0, none⟩)] w (Gives (aggT (headT ts)) w) := by
  obtain ⟨A, n, c, h1, _⟩ := h
  exact peek_any h1
end
/-- What a method of the parser leaves: its value, the scanner, nothing else. -/
def RdV (N g : Nat) (v : Value) (ts : List Tk) (er : Int) (w : World) (e : Ending) (w' : World) : Prop := e = .returned v ∧ SP (fun k => g ≤ k) w' g ts er ∧ Mv N g g w w'
/-- What lies below the parser. -/
def REnv (N : Nat) (A : Option Addr) (n cp : Nat) (L : List Pr) (w : World) : Prop := ∀ w', Below N w w' → Prs w' A n cp L ∧ Ops w'
theorem REnv.next {N : Nat} {A : Option Addr} {n cp : Nat} {L : List Pr} {w w1 : World} (h : REnv N A n cp L w) (hb : Below N w w1) : REnv N A n cp L w1 := fun w' q => h w' (hb.trans q)
end Go.Proofs.YtcokplikmjegcaaGreatDoor
namespace Go.Proofs.YtcokplikmjegcaaGreatDoor
open Go.RowKit
open MC (Pr)
def opWl : Nat → List UInt8
  | 2 => MX.xorW
  | 3 => MX.orW
  | 4 => MX.bonusW
  | 5 => MX.limitW
  | _ => []
def opN (ts : List Tk) : Int := if MX.hk ts ≠ 1 then 1 else MX.opW (MX.hw ts)
def opT (ts : List Tk) (er : Int) : List Tk := if MX.hk ts ≠ 1 then ts else if MX.opW (MX.hw ts) = 0 then [] else ts.drop 1
def opE (ts : List Tk) (er : Int) : Int := if MX.hk ts ≠ 1 then er else if MX.opW (MX.hw ts) = 0 then (if er = 0 then 2 else er) else er
theorem opW_of {w : List UInt8} {j : Nat} (h : opWl j = w) (h2 : 2 ≤ j) (h5 : j ≤ 5) : MX.opW w = (j : Int) := by
  have : j = 2 ∨ j = 3 ∨ j = 4 ∨ j = 5 := by omega
  subst h
  rcases this with rfl | rfl | rfl | rfl <;> decide
theorem opW_no {w : List UInt8} (h : ∀ i, i < 6 → opWl i ≠ w) : MX.opW w = 0 := by
  unfold MX.opW
  rw [if_neg (fun e => h 2 (by decide) e.symm), if_neg (fun e => h 3 (by decide) e.symm), if_neg (fun e => h 4 (by decide) e.symm), if_neg (fun e => h 5 (by decide) e.symm)]
theorem idx_0 (w : World) : (Instr.index 85 (.agg #[.string ⟨#[]⟩, .string ⟨#[]⟩, .string ⟨#[]⟩, .string ⟨#[98]⟩, .string ⟨#[120, 111, 114]⟩, .string ⟨#[40, 108, 41]⟩, .string ⟨#[111, 114]⟩, .string ⟨#[40, 108, 41]⟩, .string ⟨#[98, 111, 110, 117, 115]⟩, .string ⟨#[40, 101, 44, 98, 41]⟩, .string ⟨#[108, 105, 109, 105, 116]⟩, .string ⟨#[40, 101, 44, 118, 41]⟩]) (.int .i64 0)).run Tryz.prog w = .ok (.agg #[.string ⟨#[]⟩, .string ⟨#[]⟩]) w := by kernel_rfl
theorem idx_1 (w : World) : (Instr.index 85 (.agg #[.string ⟨#[]⟩, .string ⟨#[]⟩, .string ⟨#[]⟩, .string ⟨#[98]⟩, .string ⟨#[120, 111, 114]⟩, .string ⟨#[40, 108, 41]⟩, .string ⟨#[111, 114]⟩, .string ⟨#[40, 108, 41]⟩, .string ⟨#[98, 111, 110, 117, 115]⟩, .string ⟨#[40, 101, 44, 98, 41]⟩, .string ⟨#[108, 105, 109, 105, 116]⟩, .string ⟨#[40, 101, 44, 118, 41]⟩]) (.int .i64 1)).run Tryz.prog w = .ok (.agg #[.string ⟨#[]⟩, .string ⟨#[98]⟩]) w := by kernel_rfl
theorem idx_2 (w : World) : (Instr.index 85 (.agg #[.string ⟨#[]⟩, .string ⟨#[]⟩, .string ⟨#[]⟩, .string ⟨#[98]⟩, .string ⟨#[120, 111, 114]⟩, .string ⟨#[40, 108, 41]⟩, .string ⟨#[111, 114]⟩, .string ⟨#[40, 108, 41]⟩, .string ⟨#[98, 111, 110, 117, 115]⟩, .string ⟨#[40, 101, 44, 98, 41]⟩, .string ⟨#[108, 105, 109, 105, 116]⟩, .string ⟨#[40, 101, 44, 118, 41]⟩]) (.int .i64 2)).run Tryz.prog w = .ok (.agg #[.string ⟨#[120, 111, 114]⟩, .string ⟨#[40, 108, 41]⟩]) w := by kernel_rfl
theorem idx_3 (w : World) : (Instr.index 85 (.agg #[.string ⟨#[]⟩, .string ⟨#[]⟩, .string ⟨#[]⟩, .string ⟨#[98]⟩, .string ⟨#[120, 111, 114]⟩, .string ⟨#[40, 108, 41]⟩, .string ⟨#[111, 114]⟩, .string ⟨#[40, 108, 41]⟩, .string ⟨#[98, 111, 110, 117, 115]⟩, .string ⟨#[40, 101, 44, 98, 41]⟩, .string ⟨#[108, 105, 109, 105, 116]⟩, .string ⟨#[40, 101, 44, 118, 41]⟩]) (.int .i64 3)).run Tryz.prog w = .ok (.agg #[.string ⟨#[111, 114]⟩, .string ⟨#[40, 108, 41]⟩]) w := by kernel_rfl
theorem idx_4 (w : World) : (Instr.index 85 (.agg #[.string ⟨#[]⟩, .string ⟨#[]⟩, .string ⟨#[]⟩, .string ⟨#[98]⟩, .string ⟨#[120, 111, 114]⟩, .string ⟨#[40, 108, 41]⟩, .string ⟨#[111, 114]⟩, .string ⟨#[40, 108, 41]⟩, .string ⟨#[98, 111, 110, 117, 115]⟩, .string ⟨#[40, 101, 44, 98, 41]⟩, .string ⟨#[108, 105, 109, 105, 116]⟩, .string ⟨#[40, 101, 44, 118, 41]⟩]) (.int .i64 4)).run Tryz.prog w = .ok (.agg #[.string ⟨#[98, 111, 110, 117, 115]⟩, .string ⟨#[40, 101, 44, 98, 41]⟩]) w := by kernel_rfl
theorem idx_5 (w : World) : (Instr.index 85 (.agg #[.string ⟨#[]⟩, .string ⟨#[]⟩, .string ⟨#[]⟩, .string ⟨#[98]⟩, .string ⟨#[120, 111, 114]⟩, .string ⟨#[40, 108, 41]⟩, .string ⟨#[111, 114]⟩, .string ⟨#[40, 108, 41]⟩, .string ⟨#[98, 111, 110, 117, 115]⟩, .string ⟨#[40, 101, 44, 98, 41]⟩, .string ⟨#[108, 105, 109, 105, 116]⟩, .string ⟨#[40, 101, 44, 118, 41]⟩]) (.int .i64 5)).run Tryz.prog w = .ok (.agg #[.string ⟨#[108, 105, 109, 105, 116]⟩, .string ⟨#[40, 101, 44, 118, 41]⟩]) w := by kernel_rfl
set_option maxRecDepth 100000 in
set_option maxHeartbeats 8000000 in
theorem readOp_any (A : Option Addr) (n cp : Nat) (L : List Pr) (N g : Nat) (ts : List Tk) (er : Int) (w : World) (h : SP (fun k => g ≤ k) w g ts er) (hN : N ≤ g) (hNw : N ≤ w.heap.size) (he : REnv N A n cp L w) (hne0 : MX.hk ts = 1 → MX.hw ts ≠ []) :
    Calls Tryz.prog 58 #[.agg #[.slice A n cp, .pointer (some ⟨g, 0, none⟩)]] w (RdV N g (.int .i64 (opN ts)) (opT ts er) (opE ts er) w) := by
  have B0 := below_new w (.cells #[.slice A n cp, .pointer (some ⟨g, 0, none⟩)] 60)
  have HS := Lib.hid (h.keep B0)
  have HM := Lib.hid ((Mv.refl N g g w).quiet B0 hNw)
  have HX := Lib.hid (heap_new w (.cells #[.slice A n cp, .pointer (some ⟨g, 0, none⟩)] 60))
  have hgb : g < w.heap.size := h.lt
  have HE := Lib.hid he
  clear h he B0
  go_enter Tryz.func58, Tryz.ntmps58
  go_upto_region 1 with (fail)
  obtain ⟨W0, hW0⟩ : ∃ W0, W0 = w.alloc (.cells #[.slice A n cp, .pointer (some ⟨g, 0, none⟩)] 60) := ⟨_, rfl⟩
  rw [← hW0] at HS HM HX ⊢
  clear hW0
  have c0 : W0.cell? ⟨w.heap.size, 0, none⟩ = some (.slice A n cp) := by rw [cell_of_row _ _ _ _ _ _ HX.out]; rfl
  have c1 : W0.cell? ⟨w.heap.size, 1, none⟩ = some (.pointer (some ⟨g, 0, none⟩)) := by rw [cell_of_row _ _ _ _ _ _ HX.out]; rfl
  go_wp2_with fail
  refine (peek12 HS.out).mono ?_
  rintro ev w1 ⟨rfl, hb⟩
  have HS1 := Lib.hid (HS.out.keep hb)
  have HM1 := Lib.hid (HM.out.quiet hb hNw)
  have HX1 := Lib.hid ((hb.block _ (Array.getElem?_eq_some_iff.1 HX.out).1).trans HX.out)
  clear hb HS HM HX c0 c1
  unfold aggT
  by_cases hk : MX.hk ts = 1
  case neg =>
    have hk' : ((headT ts).kind != 1) = true := bne_iff_ne.2 (by rw [← hk_head]; exact hk)
    have R := Lib.hid (show RdV N g (.int .i64 (opN ts)) (opT ts er) (opE ts er) w (.returned (.int .i64 1)) w1 from ⟨by unfold opN; rw [if_pos hk], by unfold opT opE; rw [if_pos hk, if_pos hk]; exact HS1.out, HM1.out⟩)
    clear hk HS1 HM1
    generalize (headT ts).kind = kd at *
    generalize (headT ts).value = vl at *
    generalize (headT ts).at_ = at9 at *
    generalize str (headT ts).text = tx9 at *
    have fld := field_0 kd vl at9 tx9 w1
    go_wp2
    go_ret
    exact R.out
  have hk' : ((headT ts).kind != 1) = false := by rw [← hk_head, hk]; rfl
  obtain ⟨t, r, rfl⟩ : ∃ t r, ts = t :: r := by
    cases ts with
    | nil => cases hk
    | cons t r => exact ⟨t, r, rfl⟩
  obtain rfl : er = 0 := by
    by_cases e : er = 0
    · exact e
    · have := HS1.out.dead e; cases this
  have hkt : t.kind = 1 := hk
  have hne : t.text ≠ [] := hne0 hk
  have EN : nmE (t :: r) 0 = 0 := by unfold nmE; rw [if_pos rfl]; simp [hkt]
  have ET : nmT' (t :: r) 0 = t.text := by unfold nmT'; rw [if_pos EN]; rfl
  have NM := Lib.hid (nameU HS1.out)
  rw [EN, ET, if_pos rfl] at NM
  have EOP : ∀ (e : Ending) (w' : World) (v : Int) (T : List Tk) (q : Int), e = .returned (.int .i64 v) → v = opN (t :: r) → T = opT (t :: r) 0 → q = opE (t :: r) 0 → SP (fun k => g ≤ k) w' g T q → Mv N g g w w' → RdV N g (.int .i64 (opN (t :: r))) (opT (t :: r) 0) (opE (t :: r) 0) w e w' := by
    rintro e w' v T q rfl rfl rfl rfl h1 h2
    exact ⟨rfl, h1, h2⟩
  have eN : opN (t :: r) = MX.opW t.text := by unfold opN; rw [if_neg (by simpa using hk)]; rfl
  have eT : opT (t :: r) 0 = if MX.opW t.text = 0 then [] else r := by unfold opT; rw [if_neg (by simpa using hk)]; rfl
  have eE : opE (t :: r) 0 = if MX.opW t.text = 0 then 2 else 0 := by unfold opE; rw [if_neg (by simpa using hk)]; rfl
  have RES := Lib.hid (fun (j : Nat) (hj : opWl j = t.text) (h2 : 2 ≤ j) (h5 : j ≤ 5) => show ∀ w', SP (fun k => g ≤ k) w' g r 0 → Mv N g g w w' → RdV N g (.int .i64 (opN (t :: r))) (opT (t :: r) 0) (opE (t :: r) 0) w (.returned (.int .i64 (j : Int))) w' from by
    intro w' h1 h3
    have e := opW_of hj h2 h5
    exact EOP _ w' _ r 0 rfl (by rw [eN, e]) (by rw [eT, e, if_neg (by omega)]) (by rw [eE, e, if_neg (by omega)]) h1 h3)
  have RNO := Lib.hid (fun (hj : ∀ i, i < 6 → opWl i ≠ t.text) => show ∀ w', SP (fun k => g ≤ k) w' g [] 2 → Mv N g g w w' → RdV N g (.int .i64 (opN (t :: r))) (opT (t :: r) 0) (opE (t :: r) 0) w (.returned (.int .i64 0)) w' from by
    intro w' h1 h3
    have e := opW_no hj
    exact EOP _ w' _ [] 2 rfl (by rw [eN, e]) (by rw [eT, e, if_pos rfl]) (by rw [eE, e, if_pos rfl]) h1 h3)
  clear EOP eN eT eE EN ET hk hkt hne0 HS1
  have c1 : w1.cell? ⟨w.heap.size, 1, none⟩ = some (.pointer (some ⟨g, 0, none⟩)) := by rw [cell_of_row _ _ _ _ _ _ HX1.out]; rfl
  generalize RdV N g (.int .i64 (opN (t :: r))) (opT (t :: r) 0) (opE (t :: r) 0) w = POST at *
  generalize hword : t.text = word at *
  clear hword
  generalize (headT (t :: r)).kind = kd at *
  generalize (headT (t :: r)).value = vl at *
  generalize (headT (t :: r)).at_ = at9 at *
  generalize str (headT (t :: r)).text = tx9 at *
  have fld := field_0 kd vl at9 tx9 w1
  go_wp2_with fail
  refine NM.out.mono ?_
  rintro ev w2 ⟨rfl, hs2, hg2⟩
  have HM2 := Lib.hid (HM1.out.grown hg2 hN hNw)
  have HS2 := Lib.hid hs2
  have HX2 := Lib.hid ((hg2.block _ (Array.getElem?_eq_some_iff.1 HX1.out).1 (fun e => by injection e with e; omega)).trans HX1.out)
  clear hs2 hg2 HM1 HX1 NM c1
  have ho := (HE.out _ HM2.out.below).2
  have o0 : w2.cell? ⟨0, 0, none⟩ = some (.string ⟨#[]⟩) := ho.wd 0 (by decide)
  have p0 : w2.cell? ⟨0, 1, none⟩ = some (.string ⟨#[]⟩) := ho.ly 0 (by decide)
  have o1 : w2.cell? ⟨0, 2, none⟩ = some (.string ⟨#[]⟩) := ho.wd 1 (by decide)
  have p1 : w2.cell? ⟨0, 3, none⟩ = some (.string ⟨#[98]⟩) := ho.ly 1 (by decide)
  have o2 : w2.cell? ⟨0, 4, none⟩ = some (.string ⟨#[120, 111, 114]⟩) := ho.wd 2 (by decide)
  have p2 : w2.cell? ⟨0, 5, none⟩ = some (.string ⟨#[40, 108, 41]⟩) := ho.ly 2 (by decide)
  have o3 : w2.cell? ⟨0, 6, none⟩ = some (.string ⟨#[111, 114]⟩) := ho.wd 3 (by decide)
  have p3 : w2.cell? ⟨0, 7, none⟩ = some (.string ⟨#[40, 108, 41]⟩) := ho.ly 3 (by decide)
  have o4 : w2.cell? ⟨0, 8, none⟩ = some (.string ⟨#[98, 111, 110, 117, 115]⟩) := ho.wd 4 (by decide)
  have p4 : w2.cell? ⟨0, 9, none⟩ = some (.string ⟨#[40, 101, 44, 98, 41]⟩) := ho.ly 4 (by decide)
  have o5 : w2.cell? ⟨0, 10, none⟩ = some (.string ⟨#[108, 105, 109, 105, 116]⟩) := ho.wd 5 (by decide)
  have p5 : w2.cell? ⟨0, 11, none⟩ = some (.string ⟨#[40, 101, 44, 118, 41]⟩) := ho.ly 5 (by decide)
  clear ho HE
  go_wp2
  clear o0 p0 o1 p1 o2 p2 o3 p3 o4 p4 o5 p5
  have ix0 := idx_0
  have ix1 := idx_1
  have ix2 := idx_2
  have ix3 := idx_3
  have ix4 := idx_4
  have ix5 := idx_5
  generalize Value.agg #[.string ⟨#[]⟩, .string ⟨#[]⟩, .string ⟨#[]⟩, .string ⟨#[98]⟩, .string ⟨#[120, 111, 114]⟩, .string ⟨#[40, 108, 41]⟩, .string ⟨#[111, 114]⟩, .string ⟨#[40, 108, 41]⟩, .string ⟨#[98, 111, 110, 117, 115]⟩, .string ⟨#[40, 101, 44, 98, 41]⟩, .string ⟨#[108, 105, 109, 105, 116]⟩, .string ⟨#[40, 101, 44, 118, 41]⟩] = AV at *
  go_loopw [15] (fun i wr => ∃ j : Nat, j ≤ 6 ∧ i = .int .i64 j ∧ Hid (SP (fun k => g ≤ k) wr g r 0) ∧ Hid (Mv N g g w wr) ∧ Hid (∀ i, i < j → opWl i ≠ word) ∧ Hid (wr.heap[w.heap.size]? = some (.cells #[.slice A n cp, .pointer (some ⟨g, 0, none⟩)] 60 (0, 0)))) (fun i _ => 6 - (intOf i).toNat)
  case atStart => exact ⟨0, by decide, rfl, HS2, HM2, Lib.hid (fun i hi => absurd hi (Nat.not_lt_zero _)), HX2⟩
  case round =>
    obtain ⟨j, hj, rfl, HS, HM, HN, HX⟩ := hrel
    clear HS2 HM2 HX2
    have hcase : j = 0 ∨ j = 1 ∨ j = 2 ∨ j = 3 ∨ j = 4 ∨ j = 5 ∨ j = 6 := by omega
    rcases hcase with rfl | rfl | rfl | rfl | rfl | rfl | rfl
    · have BN := below_new wr (.cells #[.string ⟨#[]⟩, .string ⟨#[]⟩] 84)
      have ix := ix0 wr
      clear ix0 ix1 ix2 ix3 ix4 ix5
      have ht : (str word).toList.isEmpty = false := by rw [ByteArray.toList_eq, str_data]; cases word with | nil => exact absurd rfl hne | cons a b => rfl
      have HN2 := Lib.hid (fun i (hi : i < 1) => show opWl i ≠ word from by
        rcases Nat.lt_succ_iff_lt_or_eq.1 hi with h | rfl
        · exact HN.out i h
        · exact fun e => hne (by rw [← e]; rfl))
      clear HN RES
      generalize str word = sw at *
      go_wp2
      go_roundw
      case rel => exact ⟨1, by decide, rfl, Lib.hid (HS.out.keep BN), Lib.hid (HM.out.quiet BN hNw), HN2, Lib.hid ((BN.block _ (Array.getElem?_eq_some_iff.1 HX.out).1).trans HX.out)⟩
      case measure => simp [intOf]
    · have BN := below_new wr (.cells #[.string ⟨#[]⟩, .string ⟨#[98]⟩] 84)
      have ix := ix1 wr
      clear ix0 ix1 ix2 ix3 ix4 ix5
      have ht : (str word).toList.isEmpty = false := by rw [ByteArray.toList_eq, str_data]; cases word with | nil => exact absurd rfl hne | cons a b => rfl
      have HN2 := Lib.hid (fun i (hi : i < 2) => show opWl i ≠ word from by
        rcases Nat.lt_succ_iff_lt_or_eq.1 hi with h | rfl
        · exact HN.out i h
        · exact fun e => hne (by rw [← e]; rfl))
      clear HN RES
      generalize str word = sw at *
      go_wp2
      go_roundw
      case rel => exact ⟨2, by decide, rfl, Lib.hid (HS.out.keep BN), Lib.hid (HM.out.quiet BN hNw), HN2, Lib.hid ((BN.block _ (Array.getElem?_eq_some_iff.1 HX.out).1).trans HX.out)⟩
      case measure => simp [intOf]
    · have BN := below_new wr (.cells #[.string ⟨#[120, 111, 114]⟩, .string ⟨#[40, 108, 41]⟩] 84)
      have ix := ix2 wr
      clear ix0 ix1 ix2 ix3 ix4 ix5
      by_cases hq : word = MX.xorW
      · have ht : (([120, 111, 114] : List UInt8) == (str word).toList) = true := by rw [ByteArray.toList_eq, str_data, hq]; rfl
        have R := Lib.hid (RES.out 2 (show opWl 2 = word from hq.symm) (by decide) (by decide))
        clear HN hq
        generalize str word = sw at *
        go_wp2
        exact R.out _ (HS.out.keep BN) (HM.out.quiet BN hNw)
      · have ht : (([120, 111, 114] : List UInt8) == (str word).toList) = false := by rw [ByteArray.toList_eq, str_data]; exact beq_eq_false_iff_ne.2 (fun e => hq e.symm)
        have HN2 := Lib.hid (fun i (hi : i < 3) => show opWl i ≠ word from by
          rcases Nat.lt_succ_iff_lt_or_eq.1 hi with h | rfl
          · exact HN.out i h
          · exact fun e => hq (by rw [← e]; rfl))
        clear hq
        clear HN RES
        generalize str word = sw at *
        go_wp2
        go_roundw
        case rel => exact ⟨3, by decide, rfl, Lib.hid (HS.out.keep BN), Lib.hid (HM.out.quiet BN hNw), HN2, Lib.hid ((BN.block _ (Array.getElem?_eq_some_iff.1 HX.out).1).trans HX.out)⟩
        case measure => simp [intOf]
    · have BN := below_new wr (.cells #[.string ⟨#[111, 114]⟩, .string ⟨#[40, 108, 41]⟩] 84)
      have ix := ix3 wr
      clear ix0 ix1 ix2 ix3 ix4 ix5
      by_cases hq : word = MX.orW
      · have ht : (([111, 114] : List UInt8) == (str word).toList) = true := by rw [ByteArray.toList_eq, str_data, hq]; rfl
        have R := Lib.hid (RES.out 3 (show opWl 3 = word from hq.symm) (by decide) (by decide))
        clear HN hq
        generalize str word = sw at *
        go_wp2
        exact R.out _ (HS.out.keep BN) (HM.out.quiet BN hNw)
      · have ht : (([111, 114] : List UInt8) == (str word).toList) = false := by rw [ByteArray.toList_eq, str_data]; exact beq_eq_false_iff_ne.2 (fun e => hq e.symm)
        have HN2 := Lib.hid (fun i (hi : i < 4) => show opWl i ≠ word from by
          rcases Nat.lt_succ_iff_lt_or_eq.1 hi with h | rfl
          · exact HN.out i h
          · exact fun e => hq (by rw [← e]; rfl))
        clear hq
        clear HN RES
        generalize str word = sw at *
        go_wp2
        go_roundw
        case rel => exact ⟨4, by decide, rfl, Lib.hid (HS.out.keep BN), Lib.hid (HM.out.quiet BN hNw), HN2, Lib.hid ((BN.block _ (Array.getElem?_eq_some_iff.1 HX.out).1).trans HX.out)⟩
        case measure => simp [intOf]
    · have BN := below_new wr (.cells #[.string ⟨#[98, 111, 110, 117, 115]⟩, .string ⟨#[40, 101, 44, 98, 41]⟩] 84)
      have ix := ix4 wr
      clear ix0 ix1 ix2 ix3 ix4 ix5
      by_cases hq : word = MX.bonusW
      · have ht : (([98, 111, 110, 117, 115] : List UInt8) == (str word).toList) = true := by rw [ByteArray.toList_eq, str_data, hq]; rfl
        have R := Lib.hid (RES.out 4 (show opWl 4 = word from hq.symm) (by decide) (by decide))
        clear HN hq
        generalize str word = sw at *
        go_wp2
        exact R.out _ (HS.out.keep BN) (HM.out.quiet BN hNw)
      · have ht : (([98, 111, 110, 117, 115] : List UInt8) == (str word).toList) = false := by rw [ByteArray.toList_eq, str_data]; exact beq_eq_false_iff_ne.2 (fun e => hq e.symm)
        have HN2 := Lib.hid (fun i (hi : i < 5) => show opWl i ≠ word from by
          rcases Nat.lt_succ_iff_lt_or_eq.1 hi with h | rfl
          · exact HN.out i h
          · exact fun e => hq (by rw [← e]; rfl))
        clear hq
        clear HN RES
        generalize str word = sw at *
        go_wp2
        go_roundw
        case rel => exact ⟨5, by decide, rfl, Lib.hid (HS.out.keep BN), Lib.hid (HM.out.quiet BN hNw), HN2, Lib.hid ((BN.block _ (Array.getElem?_eq_some_iff.1 HX.out).1).trans HX.out)⟩
        case measure => simp [intOf]
    · have BN := below_new wr (.cells #[.string ⟨#[108, 105, 109, 105, 116]⟩, .string ⟨#[40, 101, 44, 118, 41]⟩] 84)
      have ix := ix5 wr
      clear ix0 ix1 ix2 ix3 ix4 ix5
      by_cases hq : word = MX.limitW
      · have ht : (([108, 105, 109, 105, 116] : List UInt8) == (str word).toList) = true := by rw [ByteArray.toList_eq, str_data, hq]; rfl
        have R := Lib.hid (RES.out 5 (show opWl 5 = word from hq.symm) (by decide) (by decide))
        clear HN hq
        generalize str word = sw at *
        go_wp2
        exact R.out _ (HS.out.keep BN) (HM.out.quiet BN hNw)
      · have ht : (([108, 105, 109, 105, 116] : List UInt8) == (str word).toList) = false := by rw [ByteArray.toList_eq, str_data]; exact beq_eq_false_iff_ne.2 (fun e => hq e.symm)
        have HN2 := Lib.hid (fun i (hi : i < 6) => show opWl i ≠ word from by
          rcases Nat.lt_succ_iff_lt_or_eq.1 hi with h | rfl
          · exact HN.out i h
          · exact fun e => hq (by rw [← e]; rfl))
        clear hq
        clear HN RES
        generalize str word = sw at *
        go_wp2
        go_roundw
        case rel => exact ⟨6, by decide, rfl, Lib.hid (HS.out.keep BN), Lib.hid (HM.out.quiet BN hNw), HN2, Lib.hid ((BN.block _ (Array.getElem?_eq_some_iff.1 HX.out).1).trans HX.out)⟩
        case measure => simp [intOf]
    · have R := Lib.hid (RNO.out HN.out)
      have FL := Lib.hid (failU 2 (by decide) HS.out)
      have c1 : wr.cell? ⟨w.heap.size, 1, none⟩ = some (.pointer (some ⟨g, 0, none⟩)) := by rw [cell_of_row _ _ _ _ _ _ HX.out]; rfl
      clear HN RES RNO HX HS
      go_wp2_with fail
      refine FL.out.mono ?_
      rintro ev w4 ⟨rfl, hs4, hg4⟩
      have HM4 := Lib.hid (HM.out.grown hg4 hN hNw)
      have HS4 := Lib.hid hs4
      clear hs4 hg4 HM FL c1
      go_wp2
      exact R.out _ HS4.out HM4.out
end Go.Proofs.YtcokplikmjegcaaGreatDoor

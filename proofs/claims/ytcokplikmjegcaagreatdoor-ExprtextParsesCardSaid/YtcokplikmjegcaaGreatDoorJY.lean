/- PRead0, PRead1, PRead, joined: no claim of its own. -/
import Derived.Test.YtcokplikmjegcaaGreatDoorPArgs2
import Derived.Test.YtcokplikmjegcaaGreatDoorJN
import Derived.Deep.RegionHeld3
namespace Go.Proofs.YtcokplikmjegcaaGreatDoor
open Go.RowKit
open ME (F Nd)
open MC (Pr)
/-- What has been read of a node. -/
structure PT where
  b : List Int
  v : Int
  ks : List Nd
  ts : List Tk
  er : Int
def stepP (L : List Pr) (f : Nat) (s : PT) (c : UInt8) : PT :=
  if c = 101 then ⟨s.b, s.v, [(MX.rdE L f s.ts s.er).1], (MX.rdE L f s.ts s.er).2.1, (MX.rdE L f s.ts s.er).2.2⟩
  else if c = 108 then ⟨s.b, s.v, (MX.rdE L f s.ts s.er).1 :: (MX.rdL (MX.rdE L f) f (MX.rdE L f s.ts s.er).2.1 (MX.rdE L f s.ts s.er).2.2).1, (MX.rdL (MX.rdE L f) f (MX.rdE L f s.ts s.er).2.1 (MX.rdE L f s.ts s.er).2.2).2.1, (MX.rdL (MX.rdE L f) f (MX.rdE L f s.ts s.er).2.1 (MX.rdE L f s.ts s.er).2.2).2.2⟩
  else if c = 98 then ⟨(MX.bid L s.ts s.er).1, (MX.bid L s.ts s.er).2.1, s.ks, (MX.bid L s.ts s.er).2.2.1, (MX.bid L s.ts s.er).2.2.2⟩
  else if c = 118 then ⟨s.b, MX.amtV 1000000 s.ts s.er, s.ks, MX.nxt s.ts (MX.amtE 1000000 s.ts s.er), MX.amtE 1000000 s.ts s.er⟩
  else ⟨s.b, s.v, s.ks, MX.nxt s.ts (MX.exE c s.ts s.er), MX.exE c s.ts s.er⟩
theorem step_101 (L : List Pr) (f : Nat) (s : PT) : stepP L f s 101 = ⟨s.b, s.v, [(MX.rdE L f s.ts s.er).1], (MX.rdE L f s.ts s.er).2.1, (MX.rdE L f s.ts s.er).2.2⟩ := rfl
theorem step_108 (L : List Pr) (f : Nat) (s : PT) : stepP L f s 108 = ⟨s.b, s.v, (MX.rdE L f s.ts s.er).1 :: (MX.rdL (MX.rdE L f) f (MX.rdE L f s.ts s.er).2.1 (MX.rdE L f s.ts s.er).2.2).1, (MX.rdL (MX.rdE L f) f (MX.rdE L f s.ts s.er).2.1 (MX.rdE L f s.ts s.er).2.2).2.1, (MX.rdL (MX.rdE L f) f (MX.rdE L f s.ts s.er).2.1 (MX.rdE L f s.ts s.er).2.2).2.2⟩ := rfl
theorem step_98 (L : List Pr) (f : Nat) (s : PT) : stepP L f s 98 = ⟨(MX.bid L s.ts s.er).1, (MX.bid L s.ts s.er).2.1, s.ks, (MX.bid L s.ts s.er).2.2.1, (MX.bid L s.ts s.er).2.2.2⟩ := rfl
theorem step_118 (L : List Pr) (f : Nat) (s : PT) : stepP L f s 118 = ⟨s.b, MX.amtV 1000000 s.ts s.er, s.ks, MX.nxt s.ts (MX.amtE 1000000 s.ts s.er), MX.amtE 1000000 s.ts s.er⟩ := rfl
theorem step_40 (L : List Pr) (f : Nat) (s : PT) : stepP L f s 40 = ⟨s.b, s.v, s.ks, MX.nxt s.ts (MX.exE 40 s.ts s.er), MX.exE 40 s.ts s.er⟩ := rfl
theorem step_41 (L : List Pr) (f : Nat) (s : PT) : stepP L f s 41 = ⟨s.b, s.v, s.ks, MX.nxt s.ts (MX.exE 41 s.ts s.er), MX.exE 41 s.ts s.er⟩ := rfl
theorem step_44 (L : List Pr) (f : Nat) (s : PT) : stepP L f s 44 = ⟨s.b, s.v, s.ks, MX.nxt s.ts (MX.exE 44 s.ts s.er), MX.exE 44 s.ts s.er⟩ := rfl
theorem step_suf (L : List Pr) (f : Nat) (s : PT) (c : UInt8) : (stepP L f s c).ts <:+ s.ts := by
  unfold stepP
  split
  · exact MX.rd_suf L f _ _
  · split
    · exact (MX.rdL_suf (fun ts er => MX.rd_suf L f ts er) f _ _).trans (MX.rd_suf L f _ _)
    · split
      · exact MX.bid_suf L _ _
      · split
        · exact MX.nxt_suf _ _
        · exact MX.nxt_suf _ _
def startP (ts : List Tk) (er : Int) : PT := ⟨MC.Z6, 0, [], opT ts er, opE ts er⟩
/-- The parts of the layout together are the expression. -/
theorem parts_rd (L : List Pr) (f : Nat) (ts : List Tk) (er : Int) {m : Nat} (hm : opN ts = m) :
    MX.rdE L (f + 1) ts er = (⟨(m : Int), ((opLy m).data.toList.foldl (stepP L f) (startP ts er)).b, ((opLy m).data.toList.foldl (stepP L f) (startP ts er)).v, MX.mkF ((opLy m).data.toList.foldl (stepP L f) (startP ts er)).ks⟩, ((opLy m).data.toList.foldl (stepP L f) (startP ts er)).ts, ((opLy m).data.toList.foldl (stepP L f) (startP ts er)).er) := by
  rw [MX.rdE]
  unfold opN at hm
  by_cases hk : MX.hk ts ≠ 1
  · rw [if_pos hk] at hm
    obtain rfl : m = 1 := by omega
    have e1 : opT ts er = ts := by unfold opT; rw [if_pos hk]
    have e2 : opE ts er = er := by unfold opE; rw [if_pos hk]
    rw [if_pos hk]
    simp only [opLy, startP, e1, e2, List.foldl_cons, List.foldl_nil, step_98, MX.mkF]
    rfl
  · rw [if_neg hk] at hm
    rw [if_neg hk]
    by_cases h0 : MX.opW (MX.hw ts) = 0
    · obtain rfl : m = 0 := by omega
      have e1 : opT ts er = [] := by unfold opT; rw [if_neg hk, if_pos h0]
      have e2 : opE ts er = if er = 0 then 2 else er := by unfold opE; rw [if_neg hk, if_pos h0]
      rw [if_pos h0]
      simp only [opLy, startP, e1, e2, List.foldl_nil, MX.mkF]
      rfl
    · rw [if_neg h0]
      have e1 : opT ts er = ts.drop 1 := by unfold opT; rw [if_neg hk, if_neg h0]
      have e2 : opE ts er = er := by unfold opE; rw [if_neg hk, if_neg h0]
      have hw := MX.op_ways (MX.hw ts)
      rcases hw with q | q | q | q | q
      · exact absurd q h0
      · obtain rfl : m = 2 := by omega
        rw [q]
        simp only [opLy, startP, e1, e2, List.foldl_cons, List.foldl_nil, step_40, step_108, step_41]
        unfold MX.body MX.endP
        rw [if_pos (.inl rfl)]
        rfl
      · obtain rfl : m = 3 := by omega
        rw [q]
        simp only [opLy, startP, e1, e2, List.foldl_cons, List.foldl_nil, step_40, step_108, step_41]
        unfold MX.body MX.endP
        rw [if_pos (.inr rfl)]
        rfl
      · obtain rfl : m = 4 := by omega
        rw [q]
        simp only [opLy, startP, e1, e2, List.foldl_cons, List.foldl_nil, step_40, step_101, step_44, step_98, step_41]
        unfold MX.body MX.body2 MX.endP
        rw [if_neg (by decide), if_pos rfl]
        rfl
      · obtain rfl : m = 5 := by omega
        rw [q]
        simp only [opLy, startP, e1, e2, List.foldl_cons, List.foldl_nil, step_40, step_101, step_44, step_118, step_41]
        unfold MX.body MX.body2 MX.endP
        rw [if_neg (by decide), if_neg (by decide)]
        rfl
/-- The parts, and that an expression is read once. -/
def lyB (m : Nat) : Bool := (List.range (opLy m).size).all fun p => match (opLy m).data[p]? with
  | none => true
  | some c => (decide (c = 40) || decide (c = 41) || decide (c = 44) || decide (c = 118) || decide (c = 98) || decide (c = 101) || decide (c = 108)) && (!(decide (c = 101) || decide (c = 108)) || ((opLy m).data.toList.take p).all fun d => !(decide (d = 101) || decide (d = 108)))
theorem ly_all : ∀ m, m ≤ 5 → lyB m = true := by decide
theorem ly_part {m p : Nat} (hm : m ≤ 5) (hp : p < (opLy m).size) : ((opLy m)[p] = 40 ∨ (opLy m)[p] = 41 ∨ (opLy m)[p] = 44 ∨ (opLy m)[p] = 118 ∨ (opLy m)[p] = 98 ∨ (opLy m)[p] = 101 ∨ (opLy m)[p] = 108) ∧ ((opLy m)[p] = 101 ∨ (opLy m)[p] = 108 → ∀ d ∈ (opLy m).data.toList.take p, d ≠ 101 ∧ d ≠ 108) := by
  have h := ly_all m hm
  unfold lyB at h
  rw [List.all_eq_true] at h
  have h2 := h p (List.mem_range.2 hp)
  have e : (opLy m).data[p]? = some (opLy m)[p] := Array.getElem?_eq_getElem hp
  rw [e] at h2
  simp only [Bool.and_eq_true, Bool.or_eq_true, decide_eq_true_eq] at h2
  refine ⟨by
    rcases h2.1 with (((((q | q) | q) | q) | q) | q) | q
    · exact .inl q
    · exact .inr (.inl q)
    · exact .inr (.inr (.inl q))
    · exact .inr (.inr (.inr (.inl q)))
    · exact .inr (.inr (.inr (.inr (.inl q))))
    · exact .inr (.inr (.inr (.inr (.inr (.inl q)))))
    · exact .inr (.inr (.inr (.inr (.inr (.inr q))))), fun hc d hd => ?_⟩
  rcases h2.2 with q | q
  · exfalso
    rcases hc with r | r <;> rw [r] at q <;> revert q <;> decide
  · rw [List.all_eq_true] at q
    have := q d hd
    constructor
    · rintro rfl; revert this; decide
    · rintro rfl; revert this; decide
theorem fold_ks (L : List Pr) (f : Nat) : ∀ (l : List UInt8) (s : PT), (∀ d ∈ l, d ≠ 101 ∧ d ≠ 108) → (l.foldl (stepP L f) s).ks = s.ks
  | [], _, _ => rfl
  | c :: r, s, h => by
    obtain ⟨h1, h2⟩ := h c List.mem_cons_self
    rw [List.foldl_cons, fold_ks L f r _ fun d hd => h d (List.mem_cons_of_mem _ hd)]
    unfold stepP
    rw [if_neg h1, if_neg h2]
    split
    · rfl
    · split <;> rfl
/-! The numbers of what was read. -/
theorem in64_small {z : Int} (h0 : 0 ≤ z) (h1 : z ≤ 1000000) : In64 z := by unfold In64; omega
theorem z6_small : ∀ z ∈ MC.Z6, 0 ≤ z ∧ z ≤ 4 := by decide
theorem elems_small (l : List Pr) : ∀ (f : Nat) (b : List Int) (ts : List Tk), (∀ z ∈ b, 0 ≤ z ∧ z ≤ 4) → ∀ z ∈ (MC.elems l f b ts).1, 0 ≤ z ∧ z ≤ 4
  | 0, _, _, _ => by rw [MC.elems]; exact z6_small
  | f + 1, b, ts, h => by
    by_cases h0 : MC.elE l b ts = 0
    · obtain ⟨t, m, v, e, r0, k, rfl, hx⟩ := MC.elE_zero h0
      obtain ⟨_, _, _, _, _, hv1, hv4, _, hB⟩ := hx
      have hB2 : ∀ z ∈ MC.elB l b (t :: m :: v :: e :: r0), 0 ≤ z ∧ z ≤ 4 := fun z hz => by
        rw [hB] at hz
        rcases List.mem_or_eq_of_mem_set hz with q | q
        · exact h z q
        · rw [q]; exact ⟨by omega, hv4⟩
      cases h1 : MC.isO 125 (t :: m :: v :: e :: r0)[3]? with
      | true => rw [MC.elems_end h0 h1]; exact hB2
      | false => rw [MC.elems_on h0 h1]; exact elems_small l f _ _ hB2
    · rw [MC.elems_bad h0]; exact z6_small
theorem scanU_small (L : List Pr) (ts : List Tk) (er : Int) : ∀ z ∈ (MX.scanU L ts er).1, 0 ≤ z ∧ z ≤ 4 := by
  unfold MX.scanU
  split
  · unfold MC.scanL
    split
    · split
      · exact z6_small
      · exact elems_small L _ _ _ z6_small
    · exact z6_small
  · exact z6_small
theorem amtV_small (ts : List Tk) (er : Int) : 0 ≤ MX.amtV 1000000 ts er ∧ MX.amtV 1000000 ts er ≤ 1000000 := by
  by_cases h : MX.amtE 1000000 ts er = 0
  · obtain ⟨rfl, t, r, rfl, h1, h2, h3⟩ := MX.amt_zero h
    rw [MX.amtV_yes h1 h2 h3]
    exact ⟨h2, h3⟩
  · unfold MX.amtV
    rw [if_neg h]
    exact ⟨Int.le_refl _, by decide⟩
/-! The state of read's loop. -/
/-- The node so far: the scanner, the expression's block, its own row of arguments. -/
structure RL (N g ge G : Nat) (o : Int) (s : PT) (w wr : World) : Prop where
  sp : SP (fun k => g ≤ k) wr g s.ts s.er
  ex : ∃ (vk : Value) (L : List NT), (∃ x0 x1 x2 x3 x4 x5, s.b = [x0, x1, x2, x3, x4, x5] ∧ B9 wr ge (.int .i64 o) (.int .i64 x0) (.int .i64 x1) (.int .i64 x2) (.int .i64 x3) (.int .i64 x4) (.int .i64 x5) (.int .i64 s.v) vk) ∧ OwnL ntE 27 wr w.heap.size vk L ∧
    (∀ z ∈ L, z.Ok wr (fun k => G < k)) ∧ L.map NT.n = s.ks ∧ (s.ks = [] → vk = .slice none 0 0) ∧ ∀ k, vk.ownBlock = some k → G < k
  mv : Mv N g g w wr
  b64 : ∀ z ∈ s.b, In64 z
  v64 : In64 s.v
theorem mv_new {N g ge : Nat} {w w1 w2 : World} (h : Mv N g g w w1) (h' : Mv N g ge w1 w2) (hw : w.heap.size ≤ ge) : Mv N g g w w2 :=
  ⟨h.below.trans h'.below, fun k h1 h2 h3 => (h'.rest k (Nat.lt_of_lt_of_le h1 h.below.size) h2 (by omega)).trans (h.rest k h1 h2 h3)⟩
/-- A part that leaves the arguments alone. -/
theorem RL.leave {N g ge G : Nat} {o : Int} {s s' : PT} {w wr w' : World} (h : RL N g ge G o s w wr) (hG : ge ≤ G) (hg : g < w.heap.size) (hw : w.heap.size ≤ ge) (hm : Mv N g ge wr w') (hs : SP (fun k => g ≤ k) w' g s'.ts s'.er)
    (hb : ∀ vk, (∃ x0 x1 x2 x3 x4 x5, s.b = [x0, x1, x2, x3, x4, x5] ∧ B9 wr ge (.int .i64 o) (.int .i64 x0) (.int .i64 x1) (.int .i64 x2) (.int .i64 x3) (.int .i64 x4) (.int .i64 x5) (.int .i64 s.v) vk) → ∃ x0 x1 x2 x3 x4 x5, s'.b = [x0, x1, x2, x3, x4, x5] ∧ B9 w' ge (.int .i64 o) (.int .i64 x0) (.int .i64 x1) (.int .i64 x2) (.int .i64 x3) (.int .i64 x4) (.int .i64 x5) (.int .i64 s'.v) vk)
    (hk : s'.ks = s.ks) (h1 : ∀ z ∈ s'.b, In64 z) (h2 : In64 s'.v) : RL N g ge G o s' w w' := by
  obtain ⟨vk, L, hB, hO, hok, hn, hz, hr⟩ := h.ex
  refine ⟨hs, ⟨vk, L, hb vk hB, ⟨?_, hO.2⟩, fun z hz => ?_, hn.trans hk.symm, fun q => hz (by rw [← hk]; exact q), hr⟩, mv_new h.mv hm hw, h1, h2⟩
  · obtain ⟨h1, h2⟩ := hO.1
    refine ⟨h1, h2.imp (fun q => q) fun ⟨k, cap, cur, e, q1, q2, q3⟩ => ⟨k, cap, cur, e, q1, ?_, q3⟩⟩
    have hk2 := hr k (by rw [e]; rfl)
    exact (hm.rest k (Array.getElem?_eq_some_iff.1 q2).1 (by omega) (by omega)).trans q2
  · exact (hok z hz).keep (fun k q hl => hm.rest k hl (by omega) (by omega)) hm.below.size (fun k q _ => q)
/-- The string's iterator goes on. -/
theorem RL.iter {N g ge G : Nat} {o : Int} {s : PT} {w wr : World} (h : RL N g ge G o s w wr) (hN : N ≤ w.heap.size) (hG : ge < G) (hg : g < w.heap.size) (hw : w.heap.size ≤ ge) (t : ByteArray) (pos : Nat) : RL N g ge G o s w (wr.iterAt G t pos) := by
  have hB : Below G wr (wr.iterAt G t pos) := Lib.below_iterAt (Below.refl _ _) (Nat.le_refl _) t pos
  have hgr : wr.grownBy (wr.iterAt G t pos) (some G) := ⟨hB.os, hB.tape, hB.output, hB.size, fun k _ hne => Lib.iterAt_other wr G k t pos (fun e => hne (by rw [e]))⟩
  obtain ⟨vk, L, ⟨x0, x1, x2, x3, x4, x5, hb, hx⟩, hO, hok, hn, hz, hr⟩ := h.ex
  refine ⟨h.sp.turn hgr (fun k e => ⟨?_, ?_⟩), ⟨vk, L, ⟨x0, x1, x2, x3, x4, x5, hb, hx.same (hgr.block _ hx.lt (fun e => ?_))⟩, ⟨hO.1.kept hgr (.inr (fun e => ?_)), hO.2⟩, fun z hz => grown_keepP hgr (hok z hz) (fun k q e => ?_) (fun k q _ => q), hn, hz, hr⟩, h.mv.turn hgr hN (fun k e => ⟨?_, .inr (.inr ?_)⟩), h.b64, h.v64⟩
  · have := Option.some.inj e; show g ≤ k; omega
  · have := Option.some.inj e; omega
  · have := Option.some.inj e; omega
  · have := hr G e; omega
  · have := Option.some.inj e; omega
  · have := Option.some.inj e; omega
  · have := Option.some.inj e; omega
end Go.Proofs.YtcokplikmjegcaaGreatDoor
namespace Go.Proofs.YtcokplikmjegcaaGreatDoor
open Go.RowKit
open ME (F Nd)
open MC (Pr)
theorem same_vk {w : World} {g : Nat} {a0 a1 a2 a3 a4 a5 a6 a7 a8 b0 b1 b2 b3 b4 b5 b6 b7 b8 : Value} (h : B9 w g a0 a1 a2 a3 a4 a5 a6 a7 a8) (h' : B9 w g b0 b1 b2 b3 b4 b5 b6 b7 b8) : a8 = b8 := by
  have e := h.cells.2.2.2.2.2.2.2.2
  rw [h'.cells.2.2.2.2.2.2.2.2] at e
  exact (Option.some.inj e).symm
/-- One part. -/
theorem rl_part (A : Option Addr) (n cp : Nat) (LP : List Pr) (N f g ge G : Nat) (o : Int) (s : PT) (w wr : World) (c : UInt8) (IH : ReadOk A n cp LP N f) (h : RL N g ge G o s w wr) (hG : ge ≤ G) (hGr : G < wr.heap.size) (hN : N ≤ g) (hNw : N ≤ w.heap.size) (hgw : g < w.heap.size) (hw : w.heap.size ≤ ge) (he : REnv N A n cp LP w) (hc0 : MC.chkL LP = 0) (hts : c = 101 ∨ c = 108 → s.ts.length < f) (hf : f ≤ 100000) (hne : ∀ t ∈ s.ts, t.kind = 1 → t.text ≠ [])
    (hc : c = 40 ∨ c = 41 ∨ c = 44 ∨ c = 118 ∨ c = 98 ∨ c = 101 ∨ c = 108) (hk : c = 101 ∨ c = 108 → s.ks = []) :
    Calls Tryz.prog 59 #[.agg #[.slice A n cp, .pointer (some ⟨g, 0, none⟩)], .int .i32 (c.toNat : Int), .pointer (some ⟨ge, 0, none⟩)] wr fun e w' => e = .returned (.tuple #[]) ∧ RL N g ge G o (stepP LP f s c) w w' ∧ Mv N g ge wr w' := by
  obtain ⟨vk, L, ⟨x0, x1, x2, x3, x4, x5, hb, hB⟩, hO, hok, hn, hvk, hr⟩ := h.ex
  have hNr : N ≤ wr.heap.size := Nat.le_trans hNw h.mv.below.size
  have hge : g < ge := by omega
  rcases hc with e40 | e41 | e44 | e118 | e98 | e101 | e108
  · subst e40
    refine (rpart_mark40 A n cp LP N g ge s.ts s.er o x0 x1 x2 x3 x4 x5 s.v vk wr h.sp hN hNr hge hB).mono ?_
    rintro ev w' ⟨rfl, hs, ⟨y0, y1, y2, y3, y4, y5, hy, hB'⟩, hm⟩
    rw [step_40]
    refine ⟨rfl, h.leave hG hgw hw hm hs (fun vk' q => ?_) rfl h.b64 h.v64, hm⟩
    obtain ⟨z0, z1, z2, z3, z4, z5, hz, hzB⟩ := q
    obtain rfl : vk' = vk := same_vk hzB hB
    exact ⟨y0, y1, y2, y3, y4, y5, hb.trans hy, hB'⟩
  · subst e41
    refine (rpart_mark41 A n cp LP N g ge s.ts s.er o x0 x1 x2 x3 x4 x5 s.v vk wr h.sp hN hNr hge hB).mono ?_
    rintro ev w' ⟨rfl, hs, ⟨y0, y1, y2, y3, y4, y5, hy, hB'⟩, hm⟩
    rw [step_41]
    refine ⟨rfl, h.leave hG hgw hw hm hs (fun vk' q => ?_) rfl h.b64 h.v64, hm⟩
    obtain ⟨z0, z1, z2, z3, z4, z5, hz, hzB⟩ := q
    obtain rfl : vk' = vk := same_vk hzB hB
    exact ⟨y0, y1, y2, y3, y4, y5, hb.trans hy, hB'⟩
  · subst e44
    refine (rpart_mark44 A n cp LP N g ge s.ts s.er o x0 x1 x2 x3 x4 x5 s.v vk wr h.sp hN hNr hge hB).mono ?_
    rintro ev w' ⟨rfl, hs, ⟨y0, y1, y2, y3, y4, y5, hy, hB'⟩, hm⟩
    rw [step_44]
    refine ⟨rfl, h.leave hG hgw hw hm hs (fun vk' q => ?_) rfl h.b64 h.v64, hm⟩
    obtain ⟨z0, z1, z2, z3, z4, z5, hz, hzB⟩ := q
    obtain rfl : vk' = vk := same_vk hzB hB
    exact ⟨y0, y1, y2, y3, y4, y5, hb.trans hy, hB'⟩
  · subst e118
    refine (rpart_amount A n cp LP N g ge s.ts s.er o x0 x1 x2 x3 x4 x5 s.v vk wr h.sp hN hNr hge hB).mono ?_
    rintro ev w' ⟨rfl, hs, ⟨y0, y1, y2, y3, y4, y5, hy, hB'⟩, hm⟩
    rw [step_118]
    have hv := amtV_small s.ts s.er
    refine ⟨rfl, h.leave hG hgw hw hm hs (fun vk' q => ?_) rfl h.b64 (in64_small hv.1 hv.2), hm⟩
    obtain ⟨z0, z1, z2, z3, z4, z5, hz, hzB⟩ := q
    obtain rfl : vk' = vk := same_vk hzB hB
    exact ⟨y0, y1, y2, y3, y4, y5, hb.trans hy, hB'⟩
  · subst e98
    refine (rpart_bid A n cp LP N g ge s.ts s.er o x0 x1 x2 x3 x4 x5 s.v vk wr h.sp hN hNr hge hB (he.next h.mv.below) hc0).mono ?_
    rintro ev w' ⟨rfl, hs, ⟨y0, y1, y2, y3, y4, y5, hy, hB'⟩, hm⟩
    rw [step_98]
    have hv : 0 ≤ (MX.bid LP s.ts s.er).2.1 ∧ (MX.bid LP s.ts s.er).2.1 ≤ 1000000 := by unfold MX.bid MX.bid1 MX.bid2; exact amtV_small _ _
    refine ⟨rfl, h.leave hG hgw hw hm hs (fun vk' q => ?_) rfl (fun z hz => ?_) (in64_small hv.1 hv.2), hm⟩
    · obtain ⟨z0, z1, z2, z3, z4, z5, hz, hzB⟩ := q
      obtain rfl : vk' = vk := same_vk hzB hB
      exact ⟨y0, y1, y2, y3, y4, y5, hy, hB'⟩
    · have hz' : z ∈ (MX.scanU LP s.ts s.er).1 := by unfold MX.bid MX.bid1 MX.bid2 at hz; exact hz
      have := scanU_small LP s.ts s.er z hz'
      exact in64_small this.1 (by omega)
  · subst e101
    have hk0 := hk (by decide)
    obtain rfl := hvk hk0
    have he' := he.next h.mv.below
    refine (rpart_args101 A n cp LP N f g ge s.ts s.er o x0 x1 x2 x3 x4 x5 s.v wr IH (hts (by decide)) hf h.sp hN hNr hge hB he' hne).mono ?_
    rintro ev w' ⟨vk', L', rfl, hP, hn'⟩
    rw [step_101]
    refine ⟨rfl, ⟨hP.sp, ⟨vk', L', ⟨x0, x1, x2, x3, x4, x5, hb, hP.box⟩, ⟨⟨hP.own.1.1, hP.own.1.2.imp (fun q => q) (fun ⟨k, cap, cur, q1, q2, q3⟩ => ⟨k, cap, cur, q1, by have := h.mv.below.size; omega, q3⟩)⟩, hP.own.2⟩, fun z hz => (hP.ok z hz).keep (fun _ _ _ => rfl) (Nat.le_refl _) (fun k q _ => by have := q.1; omega), hn', fun q => (by cases q), fun k q => by have := (World.ownsRow.lt hP.own.1 k q).1; omega⟩, mv_new h.mv hP.mv hw, h.b64, h.v64⟩, hP.mv⟩
  · subst e108
    have hk0 := hk (by decide)
    obtain rfl := hvk hk0
    have he' := he.next h.mv.below
    refine (rpart_args108 A n cp LP N f g ge s.ts s.er o x0 x1 x2 x3 x4 x5 s.v wr IH (hts (by decide)) hf h.sp hN hNr hge hB he' hne).mono ?_
    rintro ev w' ⟨vk', L', rfl, hP, hn'⟩
    rw [step_108]
    refine ⟨rfl, ⟨hP.sp, ⟨vk', L', ⟨x0, x1, x2, x3, x4, x5, hb, hP.box⟩, ⟨⟨hP.own.1.1, hP.own.1.2.imp (fun q => q) (fun ⟨k, cap, cur, q1, q2, q3⟩ => ⟨k, cap, cur, q1, by have := h.mv.below.size; omega, q3⟩)⟩, hP.own.2⟩, fun z hz => (hP.ok z hz).keep (fun _ _ _ => rfl) (Nat.le_refl _) (fun k q _ => by have := q.1; omega), hn', fun q => (by cases q), fun k q => by have := (World.ownsRow.lt hP.own.1 k q).1; omega⟩, mv_new h.mv hP.mv hw, h.b64, h.v64⟩, hP.mv⟩
theorem own_kids {w : World} {c : Nat} {A : Option Addr} {L : List NT} {ok : Nat → Prop} (h : Lst ntE w A L.length c L) (hb : ∀ ad, A = some ad → ok ad.block) (hy : ∀ y ∈ L, y.Ok w ok) : Kids w ok A c (FT.of L) := by
  refine ⟨by rw [FT.of_len]; exact h.cap, by rw [FT.of_len]; exact h.few, ?_⟩
  cases L with
  | nil => exact .inl rfl
  | cons y0 r0 =>
    obtain ⟨ad, _, e, _⟩ := h.at0 (k := 0) (by simp)
    refine .inr ⟨ad, e, lay_of (y0 :: r0) ad fun i x hx => ?_⟩
    obtain ⟨ad', x', e', hx', hf, hbl, hc⟩ := h.at0 (k := i) (List.getElem?_eq_some_iff.1 hx).1
    rw [e] at e'
    injection e' with e'
    subst e'
    rw [hx] at hx'
    injection hx' with hx'
    subst hx'
    have hbb : (ad.add (i * 9)).block = ad.block := block_of_add ad _
    exact ⟨by rw [hbb]; exact hb ad e, by rw [hbb]; exact hbl, hy x (List.mem_of_getElem? hx), hc⟩
theorem read_results {w : World} {R1 : Nat} {z0 z1 z2 z3 z4 z5 z6 z7 z8 : Value} (tmps : Array Value) (h2 : tmps.getD 2 undef = .pointer (some ⟨R1, 0, none⟩)) (b1 : B9 w R1 z0 z1 z2 z3 z4 z5 z6 z7 z8) :
    (results Tryz.f28 tmps).run Tryz.prog w = .ok (.agg #[z0, z1, z2, z3, z4, z5, z6, z7, z8]) w := by
  have h2' : tmps[2]?.getD undef = .pointer (some ⟨R1, 0, none⟩) := by simpa using h2
  obtain ⟨r0, r1, r2, r3, r4, r5, r6, r7, r8⟩ := b1.cells
  simp [results, Tryz.results28, h2', go_sem, r0, r1, r2, r3, r4, r5, r6, r7, r8]
theorem opN_ways (ts : List Tk) : ∃ m : Nat, m ≤ 5 ∧ opN ts = m := by
  unfold opN
  by_cases h : MX.hk ts ≠ 1
  · exact ⟨1, by decide, by rw [if_pos h]; rfl⟩
  · rw [if_neg h]
    rcases MX.op_ways (MX.hw ts) with q | q | q | q | q
    · exact ⟨0, by decide, q⟩
    · exact ⟨2, by decide, q⟩
    · exact ⟨3, by decide, q⟩
    · exact ⟨4, by decide, q⟩
    · exact ⟨5, by decide, q⟩
theorem opT_suf (ts : List Tk) (er : Int) : opT ts er <:+ ts := by
  unfold opT
  split
  · exact List.suffix_refl _
  · split
    · exact List.nil_suffix
    · exact List.drop_suffix _ _
theorem opT_less {ts : List Tk} {er : Int} {f : Nat} (h : ts.length < f + 1) (hm : opN ts ≠ 1) : (opT ts er).length < f := by
  unfold opN at hm
  unfold opT
  by_cases h1 : MX.hk ts ≠ 1
  · rw [if_pos h1] at hm; exact absurd rfl hm
  · rw [if_neg h1]
    cases ts with
    | nil => exact absurd (show MX.hk [] ≠ 1 by simp [MX.hk]) h1
    | cons t r =>
      simp only [List.length_cons] at h
      split
      · show 0 < f; omega
      · simp only [List.drop_succ_cons, List.drop_zero]; omega
theorem own_few {w : World} {B : Nat} {v : Value} {l : List NT} (h : OwnL ntE 27 w B v l) : l.length ≤ 9223372036854775807 := by
  rcases h.1.2 with ⟨_, h0⟩ | ⟨_, cap, _, _, _, _, h1, h2, _⟩
  · omega
  · unfold maxLen at h2; omega
theorem fold_take {α : Type} {F : α → UInt8 → α} {s : ByteArray} {p : Nat} (hp : p < s.size) (z : α) : (s.data.toList.take (p + 1)).foldl F z = F ((s.data.toList.take p).foldl F z) s[p] := by
  have h := at_list s p hp
  rw [List.take_add_one, h, List.foldl_append]
  rfl
/-- Where an expression is to be read, there are fewer tokens. -/
theorem ly_one {p : Nat} (hp : p < (opLy 1).size) : (opLy 1)[p] ≠ 101 ∧ (opLy 1)[p] ≠ 108 := by
  have hp' : p < 1 := hp
  obtain rfl : p = 0 := by omega
  have e : (opLy 1)[0]'hp = 98 := rfl
  rw [e]
  decide
theorem fold_suf (L : List Pr) (f : Nat) : ∀ (l : List UInt8) (s : PT), (l.foldl (stepP L f) s).ts <:+ s.ts
  | [], _ => List.suffix_refl _
  | c :: r, s => by rw [List.foldl_cons]; exact (fold_suf L f r _).trans (step_suf L f s c)
end Go.Proofs.YtcokplikmjegcaaGreatDoor
namespace Go.Proofs.YtcokplikmjegcaaGreatDoor
open Go.RowKit
open ME (F Nd)
open MC (Pr)
set_option maxRecDepth 100000 in
set_option maxHeartbeats 16000000 in
theorem read_step (A : Option Addr) (n cp : Nat) (LP : List Pr) (hc0 : MC.chkL LP = 0) (N f : Nat) (IH0 : ReadOk A n cp LP N f) : ReadOk A n cp LP N (f + 1) := by
  intro g ts er w hts hf h hN hNw he hne
  refine (show ∀ (POST : Ending → World → Prop), (∀ e w', (∃ y : NT, e = .returned y.val ∧ y.n = (MX.rdE LP (f + 1) ts er).1 ∧ y.Ok w' (fun k => w.heap.size ≤ k) ∧ SP (fun k => g ≤ k) w' g (MX.rdE LP (f + 1) ts er).2.1 (MX.rdE LP (f + 1) ts er).2.2 ∧ Mv N g g w w') → POST e w') → Calls Tryz.prog 28 #[.agg #[.slice A n cp, .pointer (some ⟨g, 0, none⟩)]] w POST from ?_) _ (fun _ _ h => h)
  intro POST0 hpost
  have FPOST := Lib.hid hpost
  clear hpost
  have IH := Lib.hid IH0
  have HC0 := Lib.hid hc0
  have hgw : g < w.heap.size := h.lt
  obtain ⟨m, hm5, hm⟩ := opN_ways ts
  have HF := Lib.hid (parts_rd LP f ts er hm)
  have HE := Lib.hid he
  have HNE := Lib.hid (fun t (ht : t ∈ opT ts er) => hne t ((opT_suf ts er).subset ht))
  have HLT : Hid (∀ p (hp : p < (opLy m).size), (opLy m)[p] = 101 ∨ (opLy m)[p] = 108 → (opT ts er).length < f) := Lib.hid (fun p hp hc => by
    refine opT_less hts (fun e => ?_)
    rw [hm] at e
    obtain rfl : m = 1 := by omega
    rcases hc with q | q
    · exact (ly_one hp).1 q
    · exact (ly_one hp).2 q)
  have hfp : 0 < f + 1 := Nat.succ_pos f
  have B0 := below_new w (.cells #[.slice A n cp, .pointer (some ⟨g, 0, none⟩)] 60)
  have hs1 : (w.alloc (.cells #[.slice A n cp, .pointer (some ⟨g, 0, none⟩)] 60)).heap.size = w.heap.size + 1 := by simp
  have B1 : Below w.heap.size w ((w.alloc (.cells #[.slice A n cp, .pointer (some ⟨g, 0, none⟩)] 60)).alloc (.cells #[.int .i64 0, .int .i64 0, .int .i64 0, .int .i64 0, .int .i64 0, .int .i64 0, .int .i64 0, .int .i64 0, .slice none 0 0] 27)) := B0.trans ((below_new (w.alloc (.cells #[.slice A n cp, .pointer (some ⟨g, 0, none⟩)] 60)) (.cells #[.int .i64 0, .int .i64 0, .int .i64 0, .int .i64 0, .int .i64 0, .int .i64 0, .int .i64 0, .int .i64 0, .slice none 0 0] 27)).mono (by omega))
  have HB1 := Lib.hid B1
  have P1 : Hid (((w.alloc (.cells #[.slice A n cp, .pointer (some ⟨g, 0, none⟩)] 60)).alloc (.cells #[.int .i64 0, .int .i64 0, .int .i64 0, .int .i64 0, .int .i64 0, .int .i64 0, .int .i64 0, .int .i64 0, .slice none 0 0] 27)).heap[w.heap.size]? = some (.cells #[.slice A n cp, .pointer (some ⟨g, 0, none⟩)] 60 (0, 0))) := Lib.hid (((below_new (w.alloc (.cells #[.slice A n cp, .pointer (some ⟨g, 0, none⟩)] 60)) (.cells #[.int .i64 0, .int .i64 0, .int .i64 0, .int .i64 0, .int .i64 0, .int .i64 0, .int .i64 0, .int .i64 0, .slice none 0 0] 27)).block _ (by omega)).trans (heap_new w (.cells #[.slice A n cp, .pointer (some ⟨g, 0, none⟩)] 60)))
  have R1 : Hid (B9 ((w.alloc (.cells #[.slice A n cp, .pointer (some ⟨g, 0, none⟩)] 60)).alloc (.cells #[.int .i64 0, .int .i64 0, .int .i64 0, .int .i64 0, .int .i64 0, .int .i64 0, .int .i64 0, .int .i64 0, .slice none 0 0] 27)) (w.heap.size + 1) (.int .i64 0) (.int .i64 0) (.int .i64 0) (.int .i64 0) (.int .i64 0) (.int .i64 0) (.int .i64 0) (.int .i64 0) (.slice none 0 0)) := Lib.hid (by have := heap_new (w.alloc (.cells #[.slice A n cp, .pointer (some ⟨g, 0, none⟩)] 60)) (.cells #[.int .i64 0, .int .i64 0, .int .i64 0, .int .i64 0, .int .i64 0, .int .i64 0, .int .i64 0, .int .i64 0, .slice none 0 0] 27); rw [hs1] at this; exact this)
  have RO := Lib.hid (readOp_any A n cp LP N g ts er ((w.alloc (.cells #[.slice A n cp, .pointer (some ⟨g, 0, none⟩)] 60)).alloc (.cells #[.int .i64 0, .int .i64 0, .int .i64 0, .int .i64 0, .int .i64 0, .int .i64 0, .int .i64 0, .int .i64 0, .slice none 0 0] 27)) (h.keep B1) hN (Nat.le_trans hNw B1.size) (he.next (B1.mono hNw)) (fun hk => by
    cases ts with
    | nil => cases hk
    | cons t r => exact hne t List.mem_cons_self hk))
  have M1 : Hid (Mv N g g w ((w.alloc (.cells #[.slice A n cp, .pointer (some ⟨g, 0, none⟩)] 60)).alloc (.cells #[.int .i64 0, .int .i64 0, .int .i64 0, .int .i64 0, .int .i64 0, .int .i64 0, .int .i64 0, .int .i64 0, .slice none 0 0] 27))) := Lib.hid ((Mv.refl N g g w).quiet B1 hNw)
  rw [hm] at RO
  clear h he hne B0 B1 hs1 hts hm IH0 hc0
  obtain ⟨TT, hTT⟩ : ∃ q, q = opT ts er := ⟨_, rfl⟩
  obtain ⟨EE, hEE⟩ : ∃ q, q = opE ts er := ⟨_, rfl⟩
  have HS0 : Hid (startP ts er = ⟨MC.Z6, 0, [], TT, EE⟩) := Lib.hid (by rw [hTT, hEE]; rfl)
  rw [← hTT] at RO HNE HLT
  rw [← hEE] at RO
  rw [HS0.out] at HF
  clear hTT hEE HS0
  go_enter Tryz.func28, Tryz.ntmps28
  go_upto_region 1 with (fail)
  obtain ⟨W1, hW1⟩ : ∃ W1, W1 = (w.alloc (.cells #[.slice A n cp, .pointer (some ⟨g, 0, none⟩)] 60)).alloc (.cells #[.int .i64 0, .int .i64 0, .int .i64 0, .int .i64 0, .int .i64 0, .int .i64 0, .int .i64 0, .int .i64 0, .slice none 0 0] 27) := ⟨_, rfl⟩
  rw [← hW1] at HB1 P1 R1 RO M1 ⊢
  clear hW1
  obtain ⟨c0, c1⟩ := px_cells P1.out
  go_wp2_with fail
  refine RO.out.mono ?_
  rintro ev w2 ⟨rfl, hs2, hm2⟩
  have P2 := Lib.hid ((hm2.rest _ (Array.getElem?_eq_some_iff.1 P1.out).1 (by omega) (by omega)).trans P1.out)
  have R2 := Lib.hid (R1.out.same (hm2.rest _ R1.out.lt (by omega) (by omega)))
  have M2 := Lib.hid (M1.out.trans hm2)
  have S2 := Lib.hid hs2
  have hz2 : w.heap.size + 2 ≤ w2.heap.size := by have := R2.out.lt; omega
  clear hs2 hm2 RO M1 P1 R1 HB1 c0 c1
  have HB3 := below_new w2 (.cells #[.int .i64 (m : Int), .int .i64 0, .int .i64 0, .int .i64 0, .int .i64 0, .int .i64 0, .int .i64 0, .int .i64 0, .slice none 0 0] 27)
  have X3 : Hid (B9 (w2.alloc (.cells #[.int .i64 (m : Int), .int .i64 0, .int .i64 0, .int .i64 0, .int .i64 0, .int .i64 0, .int .i64 0, .int .i64 0, .slice none 0 0] 27)) w2.heap.size (.int .i64 (m : Int)) (.int .i64 0) (.int .i64 0) (.int .i64 0) (.int .i64 0) (.int .i64 0) (.int .i64 0) (.int .i64 0) (.slice none 0 0)) := Lib.hid (heap_new w2 _)
  have P3 := Lib.hid ((HB3.block _ (Array.getElem?_eq_some_iff.1 P2.out).1).trans P2.out)
  have R3 := Lib.hid (R2.out.keep HB3)
  have S3 := Lib.hid (S2.out.keep HB3)
  have M3 := Lib.hid (M2.out.quiet HB3 hNw)
  clear HB3 P2 R2 S2 M2
  have o3 := (HE.out _ M3.out.below).2
  have u1 := Lib.hid (o3.ly m (by omega))
  clear o3
  go_upto_region 2 with (fail)
  obtain ⟨W3, hW3⟩ : ∃ W3, W3 = w2.alloc (.cells #[.int .i64 (m : Int), .int .i64 0, .int .i64 0, .int .i64 0, .int .i64 0, .int .i64 0, .int .i64 0, .int .i64 0, .slice none 0 0] 27) := ⟨_, rfl⟩
  rw [← hW3] at X3 P3 R3 S3 M3 u1 ⊢
  clear hW3
  obtain ⟨ge, hge⟩ : ∃ ge, ge = w2.heap.size := ⟨_, rfl⟩
  rw [← hge] at X3 hz2 ⊢
  clear hge w2
  have hm6 : (m : Int) < 6 := by omega
  have hgx := X3.out.lt
  have hgp : w.heap.size < W3.heap.size := (Array.getElem?_eq_some_iff.1 P3.out).1
  have x0 := X3.out.cells.1
  have v1 := u1.out
  have BI : Below W3.heap.size W3 (W3.iter (opLy m) 0) := below_new W3 (.stringIter (opLy m) 0)
  have HK := Lib.hid (World.iter_heap W3 (opLy m) 0)
  have RL4 : Hid (RL N g ge W3.heap.size (m : Int) ⟨MC.Z6, 0, [], TT, EE⟩ w (W3.iter (opLy m) 0)) := Lib.hid ⟨S3.out.keep BI, ⟨.slice none 0 0, [], ⟨0, 0, 0, 0, 0, 0, rfl, X3.out.keep BI⟩, OwnL.nil _ _ _, (fun z hz => by cases hz), rfl, fun _ => rfl, fun k q => by cases q⟩, M3.out.quiet BI hNw, fun z hz => by have := z6_small z hz; exact in64_small this.1 (by omega), in64_small (Int.le_refl _) (by show (0 : Int) ≤ 1000000; decide)⟩
  have P4 := Lib.hid ((BI.block _ hgp).trans P3.out)
  have R4 := Lib.hid (R3.out.keep BI)
  have hgi4 : W3.heap.size < (W3.iter (opLy m) 0).heap.size := (Array.getElem?_eq_some_iff.1 HK.out).1
  have LYP := Lib.hid (fun p hp => ly_part (m := m) (p := p) hm5 hp)
  clear S3 M3 X3 P3 R3 BI u1
  obtain ⟨Rb, Rv, Rk, Rt, Re, hR⟩ : ∃ Rb Rv Rk Rt Re, ((opLy m).data.toList.foldl (stepP LP f) ⟨MC.Z6, 0, [], TT, EE⟩) = ⟨Rb, Rv, Rk, Rt, Re⟩ := ⟨_, _, _, _, _, rfl⟩
  have HR := Lib.hid hR
  rw [hR] at HF
  dsimp only at HF
  clear hR
  generalize opLy m = LY at *
  go_wp2
  clear v1 x0
  generalize W3.heap.size = gi at *
  generalize W3.iter LY 0 = W4 at *
  go_loopw [5] (fun _ wr => ∃ pos : Nat, pos ≤ LY.size ∧ Hid (wr.heap[gi]? = some (.stringIter LY pos)) ∧ Hid (RL N g ge gi (m : Int) ((LY.data.toList.take pos).foldl (stepP LP f) ⟨MC.Z6, 0, [], TT, EE⟩) w wr) ∧ Hid (wr.heap[w.heap.size]? = some (.cells #[.slice A n cp, .pointer (some ⟨g, 0, none⟩)] 60 (0, 0))) ∧ Hid (B9 wr (w.heap.size + 1) (.int .i64 0) (.int .i64 0) (.int .i64 0) (.int .i64 0) (.int .i64 0) (.int .i64 0) (.int .i64 0) (.int .i64 0) (.slice none 0 0)))
    (fun _ wr => LY.size - wr.iterPos gi)
  case atStart => exact ⟨0, Nat.zero_le _, HK, by simpa using RL4, P4, R4⟩
  case round =>
    rename_i _ wr
    obtain ⟨pos, hps, hk, HRL, HP, HB⟩ := hrel
    clear HK RL4 P4 R4 hgi4
    have hmu : ∀ {W : World} {q : Nat}, W.heap[gi]? = some (.stringIter LY q) → W.iterPos gi = q := fun h => by simp [World.iterPos, h]
    have hkk := hk.out
    have hm1 := Lib.hid (hmu hkk)
    by_cases hp : pos < LY.size
    · obtain ⟨hcs, hone⟩ := LYP.out pos hp
      have h128 : (LY[pos]).toNat < 128 := by rcases hcs with q | q | q | q | q | q | q <;> rw [q] <;> decide
      have HFO := Lib.hid (fold_take (F := stepP LP f) hp ⟨MC.Z6, 0, [], TT, EE⟩)
      have hnext : ∀ ty, (Instr.next (.pointer (some ⟨gi, 0, none⟩)) true ty).run Tryz.prog wr = _ := fun ty => Lib.run_next_ascii_at wr gi LY pos ty hkk hp h128
      have hltc := HLT.out pos hp
      obtain ⟨c, hc⟩ : ∃ c, c = LY[pos] := ⟨_, rfl⟩
      rw [← hc] at hnext HFO hcs hone hltc
      have hRL1 := HRL.out.iter hNw (by omega) hgw (by omega) LY (pos + 1)
      have hk1 := Lib.hid (Lib.iterAt_heap wr gi LY pos (pos + 1) hkk)
      have hP1 := Lib.hid ((Lib.iterAt_other wr gi w.heap.size LY (pos + 1) (by omega)).trans HP.out)
      have hB1 : Hid (B9 (wr.iterAt gi LY (pos + 1)) (w.heap.size + 1) (.int .i64 0) (.int .i64 0) (.int .i64 0) (.int .i64 0) (.int .i64 0) (.int .i64 0) (.int .i64 0) (.int .i64 0) (.slice none 0 0)) := Lib.hid (HB.out.same (Lib.iterAt_other wr gi (w.heap.size + 1) LY (pos + 1) (by omega)))
      have hsf := fold_suf LP f (LY.data.toList.take pos) ⟨MC.Z6, 0, [], TT, EE⟩
      have CP := Lib.hid (rl_part A n cp LP N f g ge gi (m : Int) _ w (wr.iterAt gi LY (pos + 1)) c IH.out hRL1 (by omega) (Array.getElem?_eq_some_iff.1 hk1.out).1 hN hNw hgw (by omega) HE.out HC0.out (fun q => Nat.lt_of_le_of_lt hsf.length_le (hltc q)) (by omega) (fun t ht => HNE.out t (hsf.subset ht)) hcs (fun q => fold_ks LP f _ _ (hone q)))
      rw [← HFO.out] at CP
      clear hkk HRL HP HB hc h128 hk hcs hone hltc hRL1 hsf HFO
      obtain ⟨SN, hSN⟩ : ∃ SN, SN = ((LY.data.toList.take (pos + 1)).foldl (stepP LP f) ⟨MC.Z6, 0, [], TT, EE⟩) := ⟨_, rfl⟩
      rw [← hSN] at CP
      have HSN := Lib.hid hSN
      clear hSN
      generalize wr.iterAt gi LY (pos + 1) = W5 at *
      obtain ⟨c0, c1⟩ := px_cells hP1.out
      go_wp2_with fail
      refine CP.out.mono ?_
      rintro ev w5 ⟨rfl, hrl, hmv⟩
      have hk2 := Lib.hid ((hmv.rest gi (Array.getElem?_eq_some_iff.1 hk1.out).1 (by omega) (by omega)).trans hk1.out)
      have hP2 := Lib.hid ((hmv.rest _ (Array.getElem?_eq_some_iff.1 hP1.out).1 (by omega) (by omega)).trans hP1.out)
      have hB2 := Lib.hid (hB1.out.same (hmv.rest _ hB1.out.lt (by omega) (by omega)))
      have hR2 := Lib.hid hrl
      clear hrl hmv CP hk1 hP1 hB1 c0 c1
      go_wp2
      go_roundw
      case rel => exact ⟨pos + 1, by omega, hk2, by rw [← HSN.out]; exact hR2, hP2, hB2⟩
      case measure => rw [hm1.out, hmu hk2.out]; omega
    · have hnext : ∀ ty, (Instr.next (.pointer (some ⟨gi, 0, none⟩)) true ty).run Tryz.prog wr = _ := fun ty => Lib.run_next_end_at wr gi LY pos ty hkk hp
      have e9 : ((LY.data.toList.take pos).foldl (stepP LP f) ⟨MC.Z6, 0, [], TT, EE⟩) = ⟨Rb, Rv, Rk, Rt, Re⟩ := by rw [List.take_of_length_le (by rw [size_list]; omega)]; exact HR.out
      rw [e9] at HRL
      obtain ⟨hsp, ⟨vk, L, ⟨x0, x1, x2, x3, x4, x5, hb, hx⟩, hO, hok, hn, hz, hr⟩, hmv, hb64, hv64⟩ := HRL.out
      dsimp only at hb hx hn hz hb64 hv64 hsp
      subst hb
      obtain ⟨Ar, cr, rfl, hl, hab⟩ := hO.form2 (own_few hO)
      have KD := Lib.hid (own_kids (ok := fun j => gi < j) hl (fun ad e => by subst e; exact hr _ rfl) hok)
      have HX := Lib.hid hx
      have SS := Lib.hid hsp
      have MM := Lib.hid hmv
      have B64 := Lib.hid hb64
      have V64 := Lib.hid hv64
      have EK : Hid (MX.mkF Rk = (FT.of L).f) := Lib.hid (by rw [← hn, ← FT.of_f, MX.mkF_roots])
      have POST := Lib.hid (fun (w' : World) (y : NT) (h1 : y.n = ⟨(m : Int), [x0, x1, x2, x3, x4, x5], Rv, MX.mkF Rk⟩) (h2 : y.Ok w' (fun k => w.heap.size ≤ k)) (h3 : SP (fun k => g ≤ k) w' g Rt Re) (h4 : Mv N g g w w') => FPOST.out (.returned y.val) w' ⟨y, rfl, by rw [HF.out]; exact h1, h2, by rw [HF.out]; exact h3, h4⟩)
      clear hkk HRL HP hk e9 hsp hmv hb64 hv64 hO hok hn hz hr hl hab HR hx FPOST
      obtain ⟨a0, a1, a2, a3, a4, a5, a6, a7, a8⟩ := HX.out.cells
      obtain ⟨r0, r1, r2, r3, r4, r5, r6, r7, r8⟩ := HB.out.cells
      obtain ⟨f0, f1, f2, f3, f4, f5, f6, f7, f8⟩ := HB.out.free
      have hml : In64 (m : Int) := by unfold In64; omega
      go_wp2
      refine bodyPost_ret (read_results _ rfl (by rw [nest_0]; exact HB.out.put _ _ _ _ _ _ _ _ _)) rfl ?_
      rw [nest_0]
      have hgr := grown_setsP (w := wr) (g := w.heap.size + 1) [.int .i64 (m : Int), .int .i64 x0, .int .i64 x1, .int .i64 x2, .int .i64 x3, .int .i64 x4, .int .i64 x5, .int .i64 Rv, .slice Ar L.length cr] 0
      have FIN := POST.out _ ⟨(m : Int), [x0, x1, x2, x3, x4, x5], Rv, Ar, cr, FT.of L⟩ (by
        show (⟨(m : Int), [x0, x1, x2, x3, x4, x5], Rv, (FT.of L).f⟩ : Nd) = _
        rw [← EK.out]) ⟨rfl, hml, V64.out, B64.out, KD.out.keep (fun k q hk => hgr.block k hk (fun e => by have := Option.some.inj e; omega)) hgr.size (fun k q _ => by omega)⟩
        (SS.out.turn hgr (fun k e => ⟨by have := Option.some.inj e; show g ≤ k; omega, by have := Option.some.inj e; omega⟩))
        (MM.out.turn hgr hNw (fun k e => ⟨by have := Option.some.inj e; omega, .inr (.inr (by have := Option.some.inj e; omega))⟩))
      rw [NT.val_lit, FT.of_len] at FIN
      exact FIN
theorem read_any (A : Option Addr) (n cp : Nat) (LP : List Pr) (hc0 : MC.chkL LP = 0) (N : Nat) : ∀ f, ReadOk A n cp LP N f
  | 0 => fun _ _ _ _ h => absurd h (Nat.not_lt_zero _)
  | f + 1 => read_step A n cp LP hc0 N f (read_any A n cp LP hc0 N f)
end Go.Proofs.YtcokplikmjegcaaGreatDoor

/- ECopy, EChange, MathXS, PParse, joined: no claim of its own. -/
import Derived.Test.YtcokplikmjegcaaGreatDoorJX
import Derived.Defers
import Derived.Recover
import Derived.Test.YtcokplikmjegcaaGreatDoorJD
import Derived.Test.YtcokplikmjegcaaGreatDoorJY
import Derived.Test.YtcokplikmjegcaaGreatDoorJP
import Derived.Test.YtcokplikmjegcaaGreatDoorJU
namespace Go.Proofs.YtcokplikmjegcaaGreatDoor
open Go.RowKit
open ME (F Nd)
/-- A function value that keeps no state. -/
def NoI (_ : Unit) (D : Nat → Prop) (_ : World) : Prop := D = fun _ => False
/-- What a call hands back: an expression in new memory. -/
def GivesX (w : World) (z : Nd) (e : Ending) (w' : World) : Prop := ∃ y : NT, e = .returned y.val ∧ y.n = z ∧ y.Rk w' (fun k => w.heap.size ≤ k) ∧ y.Al ∧ Below w.heap.size w w'
theorem below_of_no {w w' : World} {D : Nat → Prop} (h : Kx D w w') (hD : ∀ k, ¬ D k) : Below w.heap.size w w' := ⟨h.os, h.tape, h.output, h.size, fun k hk => h.block k hk (hD k)⟩
end Go.Proofs.YtcokplikmjegcaaGreatDoor
namespace Go.Proofs.YtcokplikmjegcaaGreatDoor
open Go.RowKit
open ME (F Nd)
/-- The first arguments. -/
def FT.take : Nat → FT → FT
  | 0, _ => .nil
  | _ + 1, .nil => .nil
  | n + 1, .cons o b v A c k r => .cons o b v A c k (r.take n)
theorem Lay.take {w : World} {ok : Nat → Prop} : ∀ (n : Nat) (t : FT) {a : Addr}, Lay w ok a t → Lay w ok a (t.take n)
  | 0, _, _, _ => trivial
  | _ + 1, .nil, _, _ => trivial
  | n + 1, .cons o b v A c k r, _, ⟨h1, h2, h3, h4, h5⟩ => ⟨h1, h2, h3, h4, Lay.take n r h5⟩
theorem below_sets {w wr : World} {n g o : Nat} {l : List Value} (h : Below n w wr) (hg : n ≤ g) : Below n w (sets wr g o l) := by
  obtain ⟨e1, e2, e3, e4⟩ := sets_same (g := g) l wr o
  exact ⟨e1.trans h.os, e2.trans h.tape, e3.trans h.output, by rw [e4]; exact h.size, fun j hj => (sets_far (by omega) _ _ _).trans (h.block j hj)⟩
end Go.Proofs.YtcokplikmjegcaaGreatDoor
namespace Go.Proofs.YtcokplikmjegcaaGreatDoor.MX
open MC (Pr isO isM wrongE scanL mkT nmT)
open ME (F Nd)
theorem toksA_ok : ∀ (f k : Nat) (l : List UInt8) (out : List Tk), (∀ t ∈ out, t.text ≠ []) → (∀ t ∈ (toksA f k l out).1, t.text ≠ []) ∧ (toksA f k l out).1.length ≤ out.length + l.length
  | 0, _, _, out, h => ⟨h, Nat.le_add_right _ _⟩
  | f + 1, _, [], out, h => ⟨h, Nat.le_add_right _ _⟩
  | f + 1, k, c :: r, out, h => by
    rw [toksA]
    split
    · obtain ⟨h1, h2⟩ := toksA_ok f (k + 1) r out h
      exact ⟨h1, by rw [List.length_cons]; omega⟩
    · split
      · rename_i h1
        obtain ⟨e1, e2, e3⟩ := oneT_nil_or h1
        obtain ⟨q1, q2⟩ := toksA_ok f (k + (oneT (c :: r)).1.text.length) ((c :: r).drop (oneT (c :: r)).1.text.length) (out ++ [(oneT (c :: r)).1.put k]) (fun t ht => by
          rcases List.mem_append.1 ht with g | g
          · exact h t g
          · rw [List.mem_singleton.1 g]; exact e1)
        refine ⟨q1, Nat.le_trans q2 ?_⟩
        have h0 := (oneT_len h1).1
        rw [List.length_append, List.length_singleton, List.length_drop, List.length_cons]
        rw [List.length_cons] at e3
        omega
      · exact ⟨fun t ht => (by cases ht), Nat.zero_le _⟩
theorem toks_ok (l : List UInt8) : (∀ t ∈ (toks l).1, t.text ≠ []) ∧ (toks l).1.length ≤ 4000 := by
  unfold toks
  split
  · exact ⟨fun t ht => (by cases ht), Nat.zero_le _⟩
  · obtain ⟨h1, h2⟩ := toksA_ok (l.length + 1) 0 l [] (fun t ht => by cases ht)
    exact ⟨h1, by rw [List.length_nil] at h2; omega⟩
theorem mkF_size : ∀ l : List Nd, (mkF l).size = (l.map Nd.size).sum
  | [] => rfl
  | n :: r => by
    rw [mkF, F.size, mkF_size r, List.map_cons, List.sum_cons]
    unfold Nd.size
    omega
theorem rdL_size {rd : List Tk → Int → Nd × List Tk × Int} (h : ∀ ts er, (rd ts er).1.size + 2 * (rd ts er).2.1.length ≤ 2 * ts.length + 1) : ∀ (g : Nat) (ts : List Tk) (er : Int), ((rdL rd g ts er).1.map Nd.size).sum + 2 * (rdL rd g ts er).2.1.length ≤ 2 * ts.length
  | 0, _, _ => Nat.zero_le _
  | g + 1, ts, er => by
    rw [rdL]
    split
    · rename_i hc
      obtain ⟨m, r, rfl, _⟩ := isO_cons hc
      rw [List.drop_succ_cons, List.drop_zero]
      have h1 := h r er
      have h2 := rdL_size h g (rd r er).2.1 (rd r er).2.2
      simp only [List.map_cons, List.sum_cons, List.length_cons]
      omega
    · simp
theorem end_size (n : Nd) (ts : List Tk) (er : Int) : (endP n ts er).1 = n ∧ (endP n ts er).2.1.length ≤ ts.length := ⟨rfl, (nxt_suf _ _).length_le⟩
/-- The nodes are at most twice the tokens, and one. -/
theorem rd_size (L : List Pr) : ∀ (f : Nat) (ts : List Tk) (er : Int), (rdE L f ts er).1.size + 2 * (rdE L f ts er).2.1.length ≤ 2 * ts.length + 1
  | 0, ts, er => by rw [rdE]; unfold Nd.size F.size; simp
  | f + 1, ts, er => by
    rw [rdE]
    split
    · have := (bid_suf L ts er).length_le
      unfold atomR Nd.size F.size
      dsimp only
      omega
    · rename_i hkk
      have hne : 1 ≤ ts.length := by
        cases ts with
        | nil => exact absurd (show MX.hk [] ≠ 1 by simp [MX.hk]) hkk
        | cons t r => simp
      split
      · unfold Nd.size F.size; simp
      · obtain ⟨t1, ht1⟩ : ∃ t1, nxt (ts.drop 1) (exE 40 (ts.drop 1) er) = t1 := ⟨_, rfl⟩
        obtain ⟨e1, he1⟩ : ∃ e1, exE 40 (ts.drop 1) er = e1 := ⟨_, rfl⟩
        have hl1 : t1.length ≤ ts.length - 1 := by
          rw [← ht1]
          have := (nxt_suf (ts.drop 1) (exE 40 (ts.drop 1) er)).length_le
          rw [List.length_drop] at this
          exact this
        rw [ht1, he1]
        have ha := rd_size L f t1 e1
        have hl := rdL_size (fun ts er => rd_size L f ts er) f (rdE L f t1 e1).2.1 (rdE L f t1 e1).2.2
        unfold body
        split
        · obtain ⟨q1, q2⟩ := end_size ⟨opW (hw ts), MC.Z6, 0, mkF ((rdE L f t1 e1).1 :: (rdL (rdE L f) f (rdE L f t1 e1).2.1 (rdE L f t1 e1).2.2).1)⟩ (rdL (rdE L f) f (rdE L f t1 e1).2.1 (rdE L f t1 e1).2.2).2.1 (rdL (rdE L f) f (rdE L f t1 e1).2.1 (rdE L f t1 e1).2.2).2.2
          rw [q1]
          have : Nd.size ⟨opW (hw ts), MC.Z6, 0, mkF ((rdE L f t1 e1).1 :: (rdL (rdE L f) f (rdE L f t1 e1).2.1 (rdE L f t1 e1).2.2).1)⟩ = ((rdE L f t1 e1).1.size + ((rdL (rdE L f) f (rdE L f t1 e1).2.1 (rdE L f t1 e1).2.2).1.map Nd.size).sum) + 1 := by
            show (mkF _).size + 1 = _
            rw [mkF_size, List.map_cons, List.sum_cons]
          omega
        · obtain ⟨t2, ht2⟩ : ∃ t2, nxt (rdE L f t1 e1).2.1 (exE 44 (rdE L f t1 e1).2.1 (rdE L f t1 e1).2.2) = t2 := ⟨_, rfl⟩
          obtain ⟨e2, he2⟩ : ∃ e2, exE 44 (rdE L f t1 e1).2.1 (rdE L f t1 e1).2.2 = e2 := ⟨_, rfl⟩
          have hl2 : t2.length ≤ (rdE L f t1 e1).2.1.length := by rw [← ht2]; exact (nxt_suf _ _).length_le
          rw [ht2, he2]
          have one : ∀ (o : Int) (b : List Int) (v : Int), Nd.size ⟨o, b, v, mkF [(rdE L f t1 e1).1]⟩ = (rdE L f t1 e1).1.size + 1 := fun o b v => by
            show (mkF _).size + 1 = _
            rw [mkF_size, List.map_cons, List.sum_cons, List.map_nil, List.sum_nil]
            omega
          unfold body2
          split
          · obtain ⟨q1, q2⟩ := end_size ⟨4, (bid L t2 e2).1, (bid L t2 e2).2.1, mkF [(rdE L f t1 e1).1]⟩ (bid L t2 e2).2.2.1 (bid L t2 e2).2.2.2
            have := (bid_suf L t2 e2).length_le
            rw [q1, one]
            omega
          · obtain ⟨q1, q2⟩ := end_size ⟨opW (hw ts), MC.Z6, amtV 1000000 t2 e2, mkF [(rdE L f t1 e1).1]⟩ (nxt t2 (amtE 1000000 t2 e2)) (amtE 1000000 t2 e2)
            have := (nxt_suf t2 (amtE 1000000 t2 e2)).length_le
            rw [q1, one]
            omega
end Go.Proofs.YtcokplikmjegcaaGreatDoor.MX
namespace Go.Proofs.YtcokplikmjegcaaGreatDoor
open Go.RowKit
open ME (F Nd)
open MC (Pr)
/-- What Parse hands back: an expression in new memory, and an error. -/
def GivesE (R : Nd × Int) (w : World) (e : Ending) (w' : World) : Prop := ∃ y : NT, e = .returned (.tuple #[y.val, .int .i64 R.2]) ∧ y.n = R.1 ∧ y.Ok w' (fun k => w.heap.size ≤ k) ∧ Below w.heap.size w w'
theorem fresh12 {w : World} {g : Nat} {A : Option Addr} {n c : Nat} {L : List Tk} (hb : w.heap[g]? = some (.cells #[.slice A n c, .int .i64 0] 102 (0, 0))) (ht : Tks w A n c L) (hf : ∀ ad, A = some ad → ad.block < g) : SP (fun k => g ≤ k) w g L 0 :=
  ⟨A, n, c, ⟨hb, ht, fun ad ha hh => by have := hf ad ha; omega, Nat.le_refl _⟩, fun h => absurd rfl h⟩
theorem parse12_results {w : World} {R1 : Nat} {z0 z1 z2 z3 z4 z5 z6 z7 z8 : Value} {q : Value} (tmps : Array Value) (h2 : tmps.getD 4 undef = .pointer (some ⟨R1, 0, none⟩)) (h3 : tmps.getD 5 undef = q) (b1 : B9 w R1 z0 z1 z2 z3 z4 z5 z6 z7 z8) :
    (results Tryz.f10 tmps).run Tryz.prog w = .ok (.tuple #[.agg #[z0, z1, z2, z3, z4, z5, z6, z7, z8], q]) w := by
  have h2' : tmps[4]?.getD undef = .pointer (some ⟨R1, 0, none⟩) := by simpa using h2
  have h3' : tmps[5]?.getD undef = q := by simpa using h3
  obtain ⟨r0, r1, r2, r3, r4, r5, r6, r7, r8⟩ := b1.cells
  simp [results, Tryz.results10, h2', h3', go_sem, r0, r1, r2, r3, r4, r5, r6, r7, r8]
def zeroN : NT := ⟨0, [0, 0, 0, 0, 0, 0], 0, none, 0, .nil⟩
theorem zeroN_ok (w : World) (ok : Nat → Prop) : zeroN.Ok w ok := by
  have i0 : In64 0 := by unfold In64; omega
  exact ⟨rfl, i0, i0, fun q hq => by have : q = 0 := by simpa [zeroN] using hq
                                     rw [this]; exact i0, Kids.nil _ _ _ _⟩
theorem zero_gives {R : Nd × Int} {er : Int} {w w' : World} (h : R = (MX.nd0, er)) (hb : Below w.heap.size w w') : GivesE R w (.returned (.tuple #[.agg #[.int .i64 0, .int .i64 0, .int .i64 0, .int .i64 0, .int .i64 0, .int .i64 0, .int .i64 0, .int .i64 0, .slice none 0 0], .int .i64 er])) w' := ⟨zeroN, by rw [h]; rfl, by rw [h]; rfl, zeroN_ok _ _, hb⟩
set_option maxRecDepth 100000 in
set_option maxHeartbeats 16000000 in
theorem parse12_any (A : Option Addr) (n cp : Nat) (L : List Pr) (s : ByteArray) (hs : s.size ≤ 9223372036854775807) (w : World) (h : Prs w A n cp L) (hops : Ops w) :
    Calls Tryz.prog 10 #[.slice A n cp, .string s] w (GivesE (MX.parseE L s.data.toList) w) := by
  refine (show ∀ (POST0 : Ending → World → Prop), (∀ e w', GivesE (MX.parseE L s.data.toList) w e w' → POST0 e w') → Calls Tryz.prog 10 #[.slice A n cp, .string s] w POST0 from ?_) _ (fun _ _ h => h)
  intro POST0 hpost
  have POST := Lib.hid hpost
  have B0 := Lib.hid (below_new w (.cells #[.int .i64 0, .int .i64 0, .int .i64 0, .int .i64 0, .int .i64 0, .int .i64 0, .int .i64 0, .int .i64 0, .slice none 0 0] 27))
  have R0 : Hid (B9 (w.alloc (.cells #[.int .i64 0, .int .i64 0, .int .i64 0, .int .i64 0, .int .i64 0, .int .i64 0, .int .i64 0, .int .i64 0, .slice none 0 0] 27)) w.heap.size (.int .i64 0) (.int .i64 0) (.int .i64 0) (.int .i64 0) (.int .i64 0) (.int .i64 0) (.int .i64 0) (.int .i64 0) (.slice none 0 0)) := Lib.hid (heap_new w (.cells #[.int .i64 0, .int .i64 0, .int .i64 0, .int .i64 0, .int .i64 0, .int .i64 0, .int .i64 0, .int .i64 0, .slice none 0 0] 27))
  have H := Lib.hid h
  have HQ := Lib.hid hops
  have CK := Lib.hid (fun w' (hb : Below w.heap.size w w') => check_any A n cp L w' (h.keep hb))
  have TK := Lib.hid (fun w' => tokens_any s hs w')
  clear hpost h hops
  obtain ⟨R, hR⟩ : ∃ R, MX.parseE L s.data.toList = R := ⟨_, rfl⟩
  have HRr := Lib.hid hR
  rw [hR] at POST
  clear hR
  go_enter Tryz.func10, Tryz.ntmps10
  go_upto_region 1 with (fail)
  obtain ⟨W0, hW0⟩ : ∃ W0, W0 = w.alloc (.cells #[.int .i64 0, .int .i64 0, .int .i64 0, .int .i64 0, .int .i64 0, .int .i64 0, .int .i64 0, .int .i64 0, .slice none 0 0] 27) := ⟨_, rfl⟩
  rw [← hW0] at B0 R0 ⊢
  clear hW0
  go_wp2_with fail
  refine (CK.out _ B0.out).mono ?_
  rintro q1 w1 ⟨rfl, hb⟩
  have B1 := Lib.hid (B0.out.trans (hb.mono B0.out.size))
  have R1 := Lib.hid (R0.out.keep hb)
  clear hb B0 R0 CK
  by_cases hc : MC.chkL L = 0
  case neg =>
    have hb0 : (MC.chkL L != 0) = true := bne_iff_ne.2 hc
    have HE : Hid (R = (MX.nd0, MC.chkL L)) := Lib.hid (by rw [← HRr.out]; unfold MX.parseE; rw [if_pos hc])
    clear hc HRr TK
    generalize MC.chkL L = er at *
    obtain ⟨r0, r1, r2, r3, r4, r5, r6, r7, r8⟩ := R1.out.cells
    obtain ⟨f0, f1, f2, f3, f4, f5, f6, f7, f8⟩ := R1.out.free
    have hzr := R1.out.lt
    have FB := Lib.hid (below_sets (o := 0) (l := [.int .i64 0, .int .i64 0, .int .i64 0, .int .i64 0, .int .i64 0, .int .i64 0, .int .i64 0, .int .i64 0, .slice none 0 0]) B1.out (Nat.le_refl w.heap.size))
    have FR := Lib.hid (R1.out.put (.int .i64 0) (.int .i64 0) (.int .i64 0) (.int .i64 0) (.int .i64 0) (.int .i64 0) (.int .i64 0) (.int .i64 0) (.slice none 0 0))
    have FP := Lib.hid (fun w' (hb : Below w.heap.size w w') => POST.out (.returned (.tuple #[.agg #[.int .i64 0, .int .i64 0, .int .i64 0, .int .i64 0, .int .i64 0, .int .i64 0, .int .i64 0, .int .i64 0, .slice none 0 0], .int .i64 er])) w' (zero_gives HE.out hb))
    clear B1 R1 POST
    go_wp2
    refine bodyPost_ret (parse12_results _ rfl rfl (by rw [nest_0]; exact FR.out)) rfl ?_
    rw [nest_0]
    exact FP.out _ FB.out
  have hb0 : (MC.chkL L != 0) = false := by rw [hc]; rfl
  have HC := Lib.hid hc
  have HP1 : Hid (R = if (toks s.data.toList).2 ≠ 0 then (MX.nd0, (toks s.data.toList).2) else MX.parse2 (MX.rdE L ((toks s.data.toList).1.length + 1) (toks s.data.toList).1 0)) := Lib.hid (by rw [← HRr.out]; unfold MX.parseE; rw [if_neg (by rw [hc]; decide)])
  have TOK := Lib.hid (MX.toks_ok s.data.toList)
  rw [hc]
  clear hc HRr hb0
  obtain ⟨ts, er, hT⟩ : ∃ ts er, toks s.data.toList = (ts, er) := ⟨_, _, rfl⟩
  rw [hT] at TK HP1 TOK
  dsimp only at HP1 TOK
  clear hT
  go_wp2_with fail
  refine (TK.out _).mono ?_
  rintro q2 w2 ⟨A1, n1, c1, rfl, htk, hb⟩
  dsimp only at htk ⊢
  have B2 := Lib.hid (B1.out.trans (hb.mono B1.out.size))
  have R2 := Lib.hid (R1.out.keep hb)
  have HTK := Lib.hid htk
  clear hb B1 R1 TK htk
  by_cases ht : er = 0
  case neg =>
    have hb0 : (er != 0) = true := bne_iff_ne.2 ht
    have HE : Hid (R = (MX.nd0, er)) := Lib.hid (by rw [HP1.out, if_pos ht])
    clear ht HP1 HTK TOK
    obtain ⟨r0, r1, r2, r3, r4, r5, r6, r7, r8⟩ := R2.out.cells
    obtain ⟨f0, f1, f2, f3, f4, f5, f6, f7, f8⟩ := R2.out.free
    have hzr := R2.out.lt
    have FB := Lib.hid (below_sets (o := 0) (l := [.int .i64 0, .int .i64 0, .int .i64 0, .int .i64 0, .int .i64 0, .int .i64 0, .int .i64 0, .int .i64 0, .slice none 0 0]) B2.out (Nat.le_refl w.heap.size))
    have FR := Lib.hid (R2.out.put (.int .i64 0) (.int .i64 0) (.int .i64 0) (.int .i64 0) (.int .i64 0) (.int .i64 0) (.int .i64 0) (.int .i64 0) (.slice none 0 0))
    have FP := Lib.hid (fun w' (hb : Below w.heap.size w w') => POST.out (.returned (.tuple #[.agg #[.int .i64 0, .int .i64 0, .int .i64 0, .int .i64 0, .int .i64 0, .int .i64 0, .int .i64 0, .int .i64 0, .slice none 0 0], .int .i64 er])) w' (zero_gives HE.out hb))
    clear B2 R2 POST
    go_wp2
    refine bodyPost_ret (parse12_results _ rfl rfl (by rw [nest_0]; exact FR.out)) rfl ?_
    rw [nest_0]
    exact FP.out _ FB.out
  subst ht
  have HP2 : Hid (R = MX.parse2 (MX.rdE L (ts.length + 1) ts 0)) := Lib.hid (by rw [HP1.out, if_neg (by decide)])
  have NW := Lib.hid (new_any A1 n1 c1 ts w2 HTK.out)
  have TOK2 := TOK.out
  obtain ⟨tw, tl⟩ := TOK2
  have TW := Lib.hid (fun t (ht : t ∈ ts) (_ : t.kind = 1) => tw t ht)
  have SZ := Lib.hid (MX.rd_size L (ts.length + 1) ts 0)
  clear HP1 HTK TOK tw
  go_wp2_with fail
  refine NW.out.mono ?_
  rintro q3 w3 ⟨g, A2, n2, c2, rfl, hblk, htk, hfar, hge, hb⟩
  have S3 := Lib.hid (fresh12 hblk htk (fun ad ha => (hfar ad ha).2))
  have B3 := Lib.hid (B2.out.trans (hb.mono B2.out.size))
  have R3 := Lib.hid (R2.out.keep hb)
  have hgw : w.heap.size ≤ g := Nat.le_trans B2.out.size hge
  have hgR : w.heap.size < g := Nat.lt_of_lt_of_le R2.out.lt hge
  clear hblk htk hfar hge hb R2 NW B2
  go_upto_region 8 with (fail)
  have BP := below_new w3 (.cells #[.slice A n cp, .pointer (some ⟨g, 0, none⟩)] 60)
  have X4 : Hid ((w3.alloc (.cells #[.slice A n cp, .pointer (some ⟨g, 0, none⟩)] 60)).heap[w3.heap.size]? = some (.cells #[.slice A n cp, .pointer (some ⟨g, 0, none⟩)] 60 (0, 0))) := Lib.hid (heap_new w3 _)
  have S4 := Lib.hid (S3.out.keep BP)
  have R4 := Lib.hid (R3.out.keep BP)
  have B4 := Lib.hid (B3.out.trans (BP.mono B3.out.size))
  have hpg : g < w3.heap.size := S3.out.lt
  clear BP S3 R3 B3
  obtain ⟨W4, hW4⟩ : ∃ W4, W4 = w3.alloc (.cells #[.slice A n cp, .pointer (some ⟨g, 0, none⟩)] 60) := ⟨_, rfl⟩
  rw [← hW4] at X4 S4 R4 B4 ⊢
  clear hW4
  obtain ⟨gp, hgp⟩ : ∃ gp, gp = w3.heap.size := ⟨_, rfl⟩
  rw [← hgp] at X4 hpg ⊢
  clear hgp w3
  have RD := Lib.hid (read_any A n cp L HC.out w.heap.size (ts.length + 1) g ts 0 W4 (by omega) (by omega) S4.out hgw B4.out.size (fun w' hb => ⟨H.out.keep (B4.out.trans hb), HQ.out.keep (B4.out.trans hb)⟩) TW.out)
  obtain ⟨Rn, Rt, Re, hRR⟩ : ∃ Rn Rt Re, MX.rdE L (ts.length + 1) ts 0 = (Rn, Rt, Re) := ⟨_, _, _, rfl⟩
  rw [hRR] at RD SZ HP2
  dsimp only at RD SZ
  clear hRR TW
  obtain ⟨c0, c1⟩ := px_cells X4.out
  go_wp2_with fail
  refine RD.out.mono ?_
  rintro q4 w4 ⟨y, rfl, hyn, hyo, hsp, hmv⟩
  have X5 := (hmv.rest gp (Array.getElem?_eq_some_iff.1 X4.out).1 (by omega) (by omega)).trans X4.out
  have R5 := R4.out.same (hmv.rest _ R4.out.lt (by omega) (by omega))
  have B5 := B4.out.trans hmv.below
  have hysz : y.size ≤ 2000000 := by
    rw [← NT.size_n, hyn]
    have := SZ.out
    omega
  obtain ⟨oy, byy, vy, Ay, cy, ky⟩ := y
  obtain ⟨q0, q1, q2, q3, q4, q5, rfl⟩ := six hyo.six
  rw [NT.val_lit]
  have BY := below_new w4 (.cells #[.int .i64 oy, .int .i64 q0, .int .i64 q1, .int .i64 q2, .int .i64 q3, .int .i64 q4, .int .i64 q5, .int .i64 vy, .slice Ay ky.len cy] 27)
  have X6 := Lib.hid ((BY.block _ (Array.getElem?_eq_some_iff.1 X5).1).trans X5)
  have R6 := Lib.hid (R5.keep BY)
  have B6 := Lib.hid (B5.trans (BY.mono B5.size))
  have S6 := Lib.hid (hsp.keep BY)
  have YB : Hid (B9 (w4.alloc (.cells #[.int .i64 oy, .int .i64 q0, .int .i64 q1, .int .i64 q2, .int .i64 q3, .int .i64 q4, .int .i64 q5, .int .i64 vy, .slice Ay ky.len cy] 27)) w4.heap.size (.int .i64 oy) (.int .i64 q0) (.int .i64 q1) (.int .i64 q2) (.int .i64 q3) (.int .i64 q4) (.int .i64 q5) (.int .i64 vy) (.slice Ay ky.len cy)) := Lib.hid (heap_new w4 _)
  have OK6 := Lib.hid ((hyo.keep (ok' := fun k => w.heap.size < k) (fun _ _ _ => rfl) (Nat.le_refl _) (fun k q _ => Nat.lt_of_lt_of_le R4.out.lt q)).below BY)
  have HYN := Lib.hid hyn
  have EN := Lib.hid (endU S6.out)
  have HEN : Hid (endE Rt Re = MX.endE Rt Re) := Lib.hid rfl
  rw [HEN.out] at EN
  clear X5 R5 B5 BY hsp hmv hyo hyn X4 S4 R4 B4 RD SZ S6 c0 c1 HEN
  go_upto_region 9 with (fail)
  obtain ⟨W6, hW6⟩ : ∃ W6, W6 = w4.alloc (.cells #[.int .i64 oy, .int .i64 q0, .int .i64 q1, .int .i64 q2, .int .i64 q3, .int .i64 q4, .int .i64 q5, .int .i64 vy, .slice Ay ky.len cy] 27) := ⟨_, rfl⟩
  rw [← hW6] at X6 R6 B6 YB OK6 EN ⊢
  clear hW6
  obtain ⟨gy, hgy⟩ : ∃ gy, gy = w4.heap.size := ⟨_, rfl⟩
  rw [← hgy] at YB ⊢
  clear hgy w4
  obtain ⟨c0, c1⟩ := px_cells X6.out
  go_wp2_with fail
  refine EN.out.mono ?_
  rintro q6 w6 ⟨rfl, rfl⟩
  clear EN X6 c0 c1
  by_cases he : MX.endE Rt Re = 0
  case neg =>
    have hb0 : (MX.endE Rt Re != 0) = true := bne_iff_ne.2 he
    have HE : Hid (R = (MX.nd0, MX.endE Rt Re)) := Lib.hid (by rw [HP2.out]; unfold MX.parse2; rw [if_pos he])
    clear he HP2 HYN OK6 YB
    generalize MX.endE Rt Re = er at *
    obtain ⟨r0, r1, r2, r3, r4, r5, r6, r7, r8⟩ := R6.out.cells
    obtain ⟨f0, f1, f2, f3, f4, f5, f6, f7, f8⟩ := R6.out.free
    have hzr := R6.out.lt
    have FB := Lib.hid (below_sets (o := 0) (l := [.int .i64 0, .int .i64 0, .int .i64 0, .int .i64 0, .int .i64 0, .int .i64 0, .int .i64 0, .int .i64 0, .slice none 0 0]) B6.out (Nat.le_refl w.heap.size))
    have FR := Lib.hid (R6.out.put (.int .i64 0) (.int .i64 0) (.int .i64 0) (.int .i64 0) (.int .i64 0) (.int .i64 0) (.int .i64 0) (.int .i64 0) (.slice none 0 0))
    have FP := Lib.hid (fun w' (hb : Below w.heap.size w w') => POST.out (.returned (.tuple #[.agg #[.int .i64 0, .int .i64 0, .int .i64 0, .int .i64 0, .int .i64 0, .int .i64 0, .int .i64 0, .int .i64 0, .slice none 0 0], .int .i64 er])) w' (zero_gives HE.out hb))
    clear B6 R6 POST
    go_wp2
    refine bodyPost_ret (parse12_results _ rfl rfl (by rw [nest_0]; exact FR.out)) rfl ?_
    rw [nest_0]
    exact FP.out _ FB.out
  have HP3 : Hid (R = if ME.checkE Rn ≠ 0 then (MX.nd0, ME.checkE Rn) else (Rn, 0)) := Lib.hid (by rw [HP2.out]; unfold MX.parse2; rw [if_neg (by rw [he]; decide)])
  rw [he]
  clear he HP2
  have CE := Lib.hid (echeck_any (⟨oy, [q0, q1, q2, q3, q4, q5], vy, Ay, cy, ky⟩ : NT) hysz W6 (fun k => w.heap.size < k) OK6.out)
  rw [HYN.out, NT.val_lit] at CE
  obtain ⟨a0, a1, a2, a3, a4, a5, a6, a7, a8⟩ := YB.out.cells
  go_wp2_with fail
  refine CE.out.mono ?_
  rintro q7 w7 ⟨rfl, hb⟩
  have B7 := Lib.hid (B6.out.trans (hb.mono B6.out.size))
  have R7 := Lib.hid (R6.out.keep hb)
  have Y7 := Lib.hid (YB.out.keep hb)
  have OK7 := Lib.hid (OK6.out.below hb)
  clear hb B6 R6 YB OK6 CE a0 a1 a2 a3 a4 a5 a6 a7 a8
  by_cases he : ME.checkE Rn = 0
  case neg =>
    have hb0 : (ME.checkE Rn != 0) = true := bne_iff_ne.2 he
    have HE : Hid (R = (MX.nd0, ME.checkE Rn)) := Lib.hid (by rw [HP3.out, if_pos he])
    clear he HP3 HYN OK7 Y7
    generalize ME.checkE Rn = er at *
    obtain ⟨r0, r1, r2, r3, r4, r5, r6, r7, r8⟩ := R7.out.cells
    obtain ⟨f0, f1, f2, f3, f4, f5, f6, f7, f8⟩ := R7.out.free
    have hzr := R7.out.lt
    have FB := Lib.hid (below_sets (o := 0) (l := [.int .i64 0, .int .i64 0, .int .i64 0, .int .i64 0, .int .i64 0, .int .i64 0, .int .i64 0, .int .i64 0, .slice none 0 0]) B7.out (Nat.le_refl w.heap.size))
    have FR := Lib.hid (R7.out.put (.int .i64 0) (.int .i64 0) (.int .i64 0) (.int .i64 0) (.int .i64 0) (.int .i64 0) (.int .i64 0) (.int .i64 0) (.slice none 0 0))
    have FP := Lib.hid (fun w' (hb : Below w.heap.size w w') => POST.out (.returned (.tuple #[.agg #[.int .i64 0, .int .i64 0, .int .i64 0, .int .i64 0, .int .i64 0, .int .i64 0, .int .i64 0, .int .i64 0, .slice none 0 0], .int .i64 er])) w' (zero_gives HE.out hb))
    clear B7 R7 POST
    go_wp2
    refine bodyPost_ret (parse12_results _ rfl rfl (by rw [nest_0]; exact FR.out)) rfl ?_
    rw [nest_0]
    exact FP.out _ FB.out
  have HE : Hid (R = (Rn, 0)) := Lib.hid (by rw [HP3.out, if_neg (by rw [he]; decide)])
  rw [he]
  clear he HP3
  obtain ⟨a0, a1, a2, a3, a4, a5, a6, a7, a8⟩ := Y7.out.cells
  obtain ⟨r0, r1, r2, r3, r4, r5, r6, r7, r8⟩ := R7.out.cells
  obtain ⟨f0, f1, f2, f3, f4, f5, f6, f7, f8⟩ := R7.out.free
  have hzr := R7.out.lt
  have FB := Lib.hid (below_sets (o := 0) (l := [.int .i64 oy, .int .i64 q0, .int .i64 q1, .int .i64 q2, .int .i64 q3, .int .i64 q4, .int .i64 q5, .int .i64 vy, .slice Ay ky.len cy]) B7.out (Nat.le_refl w.heap.size))
  have FR := Lib.hid (R7.out.put (.int .i64 oy) (.int .i64 q0) (.int .i64 q1) (.int .i64 q2) (.int .i64 q3) (.int .i64 q4) (.int .i64 q5) (.int .i64 vy) (.slice Ay ky.len cy))
  have hgr := grown_setsP (w := w7) (g := w.heap.size) [.int .i64 oy, .int .i64 q0, .int .i64 q1, .int .i64 q2, .int .i64 q3, .int .i64 q4, .int .i64 q5, .int .i64 vy, .slice Ay ky.len cy] 0
  have OK8 := Lib.hid (OK7.out)
  clear B7 R7 Y7
  go_wp2
  refine bodyPost_ret (parse12_results _ rfl rfl (by rw [nest_0]; exact FR.out)) rfl ?_
  rw [nest_0]
  refine POST.out _ _ ⟨(⟨oy, [q0, q1, q2, q3, q4, q5], vy, Ay, cy, ky⟩ : NT), ?_, ?_, ?_, FB.out⟩
  · rw [HE.out]; rfl
  · rw [HE.out]; exact HYN.out
  · exact OK7.out.keep (fun k q hl => hgr.block k hl (fun e => by have := Option.some.inj e; omega)) hgr.size (fun k q _ => Nat.le_of_lt q)
end Go.Proofs.YtcokplikmjegcaaGreatDoor

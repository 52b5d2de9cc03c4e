/- The contract of timesTenPlus: no claim of its own. -/
import Derived.Test.YtbjkkiehpfnogaaDoorMine
namespace Go.Proofs.YtbjkkiehpfnogaaDoor
open Go.RowKit
/-- What holds after k digits. -/
def TenInv (B n : Nat) (v : Value) (xs : List Nat) (d : Nat) (w : World) (k cy : Nat) (wr : World) : Prop :=
  ∃ cur, Own wr B v cur ∧ cur.length = n ∧ Below B w wr ∧ (∀ j, k ≤ j → cur.getD j 0 = xs.getD j 0) ∧ dval cur + 4294967296 ^ k * cy = dval xs + 9 * dval (xs.take k) + d
theorem ten_math (P D r q x cy V T d S : Nat) (h1 : D + P * cy = V + 9 * T + d) (h2 : S + P * x = D + P * r) (h3 : 4294967296 * q + r = cy + 10 * x) : S + P * 4294967296 * q = V + 9 * (T + P * x) + d := by grind
theorem Own.set {w : World} {B g n c : Nat} {xs : List Nat} (h : Own w B (.slice (some ⟨g, 0, none⟩) n c) xs) (hn : xs.length = n) (k d : Nat) (hd : d < 4294967296) :
    Own (w.setCell ⟨g, k, none⟩ (.int .u32 (d : Int))) B (.slice (some ⟨g, 0, none⟩) n c) (xs.set k d) := by
  subst hn
  exact ⟨by have := (h.own.stored k (.int .u32 (d : Int))).1; simpa [Dg, List.map_set] using this, lt_set h.lt k d hd⟩
theorem Own.base {w : World} {B g n c : Nat} {xs : List Nat} (h : Own w B (.slice (some ⟨g, 0, none⟩) n c) xs) : B ≤ g := (h.own.lt g rfl).1
theorem Own.cell {w : World} {B g n c : Nat} {xs : List Nat} (h : Own w B (.slice (some ⟨g, 0, none⟩) n c) xs) (hn : xs.length = n) {k : Nat} (hk : k < n) : w.cell? ⟨g, k, none⟩ = some (.int .u32 ((xs.getD k 0 : Nat) : Int)) := by
  subst hn
  rw [h.own.cellAt k (by omega), Dg_at xs k hk]
  simp [hk]
theorem TenInv.step {B n g c : Nat} {xs : List Nat} {d : Nat} {w wr : World} {k cy x : Nat} (h : TenInv B n (.slice (some ⟨g, 0, none⟩) n c) xs d w k cy wr) (hk : k < n) (hx : xs.getD k 0 = x) (u : Int) (hu : u = (((cy + 10 * x) % 4294967296 : Nat) : Int)) :
    TenInv B n (.slice (some ⟨g, 0, none⟩) n c) xs d w (k + 1) ((cy + 10 * x) / 4294967296) (wr.setCell ⟨g, k, none⟩ (.int .u32 u)) := by
  subst hu
  obtain ⟨cur, hO, hl, hb, he, hv⟩ := h
  refine ⟨cur.set k ((cy + 10 * x) % 4294967296), hO.set hl _ _ (Nat.mod_lt _ (by decide)), by simpa using hl, hb.setCell hO.base _, fun j hj => ?_, ?_⟩
  · rw [getD_set _ _ _ _ (by omega), if_neg (by omega)]; exact he j (by omega)
  · have h1 := dval_set cur k ((cy + 10 * x) % 4294967296) (by omega)
    rw [he k (Nat.le_refl _), hx] at h1
    rw [dval_take_succ', hx, Nat.pow_succ]
    exact ten_math _ _ _ _ _ _ _ _ _ _ hv h1 (Nat.div_add_mod _ _)
theorem tight_of_ge (xs : List Nat) (hl : ∀ d ∈ xs, d < 4294967296) (h : xs.length = 0 ∨ 4294967296 ^ (xs.length - 1) ≤ dval xs) : Tight xs := by
  rcases h with h | h
  · exact .inl h
  · rcases Nat.eq_zero_or_pos xs.length with h0 | h0
    · exact .inl h0
    · right
      intro hz
      have e : dval (xs.take (xs.length - 1)) = dval xs := dval_take xs _ fun j hj => by
        rcases Nat.lt_or_ge j xs.length with h1 | h1
        · rw [show j = xs.length - 1 by omega]; exact hz
        · rw [List.getD_eq_getElem?_getD, List.getElem?_eq_none h1]; rfl
      have := dval_lt (xs.take (xs.length - 1)) fun d hd => hl d (List.mem_of_mem_take hd)
      rw [e, List.length_take, Nat.min_eq_left (by omega)] at this
      omega
theorem tight_snoc (xs : List Nat) (d : Nat) (hd : d ≠ 0) : Tight (xs ++ [d]) := by
  right; simpa [List.getD_eq_getElem?_getD] using hd
def TenGives (B n a : Nat) (w : World) (e : Ending) (w' : World) : Prop := ∃ v ys, e = .returned v ∧ Own w' B v ys ∧ ys.length ≤ n + 1 ∧ Tight ys ∧ dval ys = a ∧ Below B w w'
theorem TenInv.same {B n : Nat} {v : Value} {xs : List Nat} {d : Nat} {w wr : World} (h : TenInv B n v xs d w n 0 wr) (hn : xs.length = n) (ht : Tight xs) : TenGives B n (10 * dval xs + d) w (.returned v) wr := by
  obtain ⟨cur, hO, hl, hb, he, hv⟩ := h
  rw [List.take_of_length_le (by omega), Nat.mul_zero] at hv
  refine ⟨v, cur, rfl, hO, by omega, tight_of_ge cur hO.lt ?_, by omega, hb⟩
  rcases Nat.eq_zero_or_pos n with h0 | h0
  · left; omega
  · right
    have := dval_pos xs (by omega) ht
    rw [hn] at this
    rw [hl]
    omega
theorem TenInv.more {B n cy : Nat} {v v' : Value} {xs : List Nat} {d : Nat} {w wr w1 : World} {o : Obj} {out : List Nat} (hO : Own wr B v out) (hl : out.length = n) (hb : Below B w wr) (hv : dval out + 4294967296 ^ n * cy = dval xs + 9 * dval (xs.take n) + d) (hn : xs.length = n) (hc : cy ≠ 0) (hc2 : cy < 4294967296) (hs : B ≤ wr.heap.size) (hown : w1.ownsRow B 46 1 v' (out.length + 1) (Dg out ++ [.int .u32 (cy : Int)]))
    (hg : (wr.alloc o).grownBy w1 v.ownBlock) : TenGives B n (10 * dval xs + d) w (.returned v') w1 := by
  have R := hO.app hb hs hown rfl hc2 hg
  rw [List.take_of_length_le (by omega)] at hv
  refine ⟨v', out ++ [cy], rfl, R.1, by simp; omega, tight_snoc _ _ hc, ?_, R.2⟩
  rw [dval_append, hl]
  simp only [dval, Nat.mul_zero, Nat.add_zero]
  omega
set_option maxHeartbeats 2000000 in
theorem timesTen_any (v : Value) (xs : List Nat) (n d B : Nat) (w : World) (h : Own w B v xs) (hn : xs.length = n) (hs : n ≤ 1000000) (ht : Tight xs) (hd : d ≤ 9) (hB : B ≤ w.heap.size) :
    Calls Tryd.prog 58 #[v, .int .u32 d] w (TenGives B n (10 * dval xs + d) w) := by
  obtain ⟨i0, hi0, hz0, hz1, hz2⟩ := info_parts infoU32
  have I0 : Hid (TenInv B n v xs d w 0 d w) := Lib.hid ⟨xs, h, hn, Below.refl _ _, fun _ _ => rfl, by simp [dval]⟩
  have HT := Lib.hid ht
  have HN := Lib.hid hn
  have shape : (v = .slice none 0 0 ∧ n = 0) ∨ ∃ g c, v = .slice (some ⟨g, 0, none⟩) n c := by
    rcases h.own.2 with ⟨h1, h2⟩ | ⟨g, cap, cur, h1, _⟩
    · exact .inl ⟨h1, by omega⟩
    · exact .inr ⟨g, cap, by rw [h1, hn]⟩
  clear h ht hn
  rcases shape with ⟨rfl, rfl⟩ | ⟨g, c, rfl⟩
  all_goals
    go_enter Tryd.func58, Tryd.ntmps58
    go_wp2
  · go_loopw [5, 11] (fun cv i wr => cv = .int .u64 d ∧ i = .int .i64 0 ∧ wr = w) (fun _ _ _ => 0)
    case atStart => exact ⟨rfl, rfl, rfl⟩
    case round =>
      obtain ⟨rfl, rfl, rfl⟩ := hrel
      obtain ⟨out, hO, hl, hb, he, hv⟩ := I0.out
      have HO := Lib.hid hO
      have HL := Lib.hid hl
      have HV := Lib.hid hv
      by_cases h0 : d = 0
      · subst h0
        have F := Lib.hid (I0.out.same HN.out HT.out)
        clear hO hl hb he hv I0
        go_wp2
        go_ret
        exact F.out
      · have hd0 : 0 < d := by omega
        have HD := Lib.hid h0
        clear hO hl hb he hv I0 h0
        go_wp2_with (at_builtin; refine wpList_append_own _ rfl _ _ 23 rfl B 46 i0 (.int .u32 0) 1 4 Tryd.underlying23 hi0 hz0 hz1 hz2 rfl (by decide) _ _ _ rfl (HO.out.own.alloc _) ⟨wr.heap.size, 0, none⟩ 1 1 [.int .u32 (d : Int)] rfl rfl ?c1 ?c2 ?c3 ?c4 ?c5 ?_)
        case c1 =>
          intro j u hj
          match j, hj with
          | 0, hj => simp at hj; subst hj; simp [Addr.add]
        case c2 => intro u hu; simp at hu; subst hu; rfl
        case c3 => have := HL.out; unfold maxLen; omega
        case c4 => have := HL.out; omega
        case c5 => simp; omega
        intro v' w1 hown' hgrow _
        have F := Lib.hid (TenInv.more HO.out HL.out (Below.refl _ _) HV.out HN.out HD.out (by omega) hB hown' hgrow)
        clear hown' hgrow
        go_wp2
        go_ret
        exact F.out
  · go_loopw [5, 11] (fun cv i wr => ∃ k cy : Nat, k ≤ n ∧ cy ≤ 9 ∧ i = .int .i64 k ∧ cv = .int .u64 cy ∧ Hid (TenInv B n (.slice (some ⟨g, 0, none⟩) n c) xs d w k cy wr)) (fun _ i _ => n - (intOf i).toNat)
    case atStart => exact ⟨0, d, by omega, by omega, rfl, rfl, I0⟩
    case round =>
      obtain ⟨k, cy, hk, hcy, rfl, rfl, hi⟩ := hrel
      obtain ⟨out, hO, hl, hb, he, hv⟩ := hi.out
      have hss := hb.size
      by_cases hlt : k < n
      · have hcell := hO.cell hl hlt
        have hfk : wr.frozen? ⟨g, k, none⟩ = false := by
          have hO' := hO.own
          rw [hl] at hO'
          exact hO'.frozenAt k
        have hx := getD_lt_of hO.lt k
        rw [he k (Nat.le_refl _)] at hcell hx
        obtain ⟨x, hxe⟩ : ∃ x, xs.getD k 0 = x := ⟨_, rfl⟩
        have S := Lib.hid (hi.out.step hlt hxe (((cy : Int) + 10 * (x : Int)) % 4294967296) (by omega))
        rw [hxe] at hcell hx
        clear hO hl hb he hv hi I0 hxe
        go_wp2
        go_roundw
        case rel => exact ⟨k + 1, (cy + 10 * x) / 4294967296, by omega, by omega, by go_num, by go_num, S⟩
        case measure => simp [intOf]; omega
      · obtain rfl : k = n := by omega
        have HO := Lib.hid hO
        have HL := Lib.hid hl
        have HV := Lib.hid hv
        have HB := Lib.hid hb
        by_cases h0 : cy = 0
        · subst h0
          have F := Lib.hid (hi.out.same HN.out HT.out)
          clear hO hl hb he hv hi I0
          go_wp2
          go_ret
          exact F.out
        · have hd0 : 0 < cy := by omega
          have HD := Lib.hid h0
          clear hO hl hb he hv hi I0 h0
          go_wp2_with (at_builtin; refine wpList_append_own _ rfl _ _ 23 rfl B 46 i0 (.int .u32 0) 1 4 Tryd.underlying23 hi0 hz0 hz1 hz2 rfl (by decide) _ _ _ rfl (HO.out.own.alloc _) ⟨wr.heap.size, 0, none⟩ 1 1 [.int .u32 (cy : Int)] rfl rfl ?e1 ?e2 ?e3 ?e4 ?e5 ?_)
          case e1 =>
            intro j u hj
            match j, hj with
            | 0, hj => simp at hj; subst hj; simp [Addr.add]
          case e2 => intro u hu; simp at hu; subst hu; rfl
          case e3 => have := HL.out; unfold maxLen; omega
          case e4 => have := HL.out; omega
          case e5 => simp; omega
          intro v' w1 hown' hgrow _
          have F := Lib.hid (TenInv.more HO.out HL.out HB.out HV.out HN.out HD.out (by omega) (by omega) hown' hgrow)
          clear hown' hgrow
          go_wp2
          go_ret
          exact F.out
end Go.Proofs.YtbjkkiehpfnogaaDoor

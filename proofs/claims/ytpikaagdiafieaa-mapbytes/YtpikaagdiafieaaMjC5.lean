/-
  The reference's bytes of a page are the program's.
-/
import Derived.Test.YtpikaagdiafieaaMjC4
import Derived.Test.YtpikaagdiafieaaMjB11
namespace Go.Proofs.Ytpikaagdiafieaa
open Go.RowKit
theorem bn_bit (x s : Nat) : bn (x.testBit s) = x / 2 ^ s % 2 := by
  rw [Nat.testBit_eq_decide_div_mod_eq]
  unfold bn
  by_cases h : x / 2 ^ s % 2 = 1
  · rw [h]; rfl
  · have : x / 2 ^ s % 2 = 0 := by omega
    rw [this]; rfl
theorem getN_8 (xs : List Nat) (hx : ∀ x ∈ xs, x < 256) (p t : Nat) (h : (p + t) % 8 = 0) : getN xs p (t + 8) = 256 * getN xs p t + xs.getD ((p + t) / 8) 0 := by
  have hr := el_range hx ((p + t) / 8)
  unfold el at hr
  have hb : xs.getD ((p + t) / 8) 0 < 256 := by omega
  have e : ∀ k, k < 8 → bitAt xs (p + (t + k)) = (xs.getD ((p + t) / 8) 0).testBit (7 - k) := by
    intro k hk
    unfold bitAt
    rw [show (p + (t + k)) / 8 = (p + t) / 8 by omega, show 7 - (p + (t + k)) % 8 = 7 - k by omega]
  have s : ∀ k, getN xs p (t + k + 1) = 2 * getN xs p (t + k) + bn (bitAt xs (p + (t + k))) := fun k => rfl
  rw [show t + 8 = t + 7 + 1 from rfl, s 7, show t + 7 = t + 6 + 1 from rfl, s 6, show t + 6 = t + 5 + 1 from rfl, s 5, show t + 5 = t + 4 + 1 from rfl, s 4, show t + 4 = t + 3 + 1 from rfl, s 3, show t + 3 = t + 2 + 1 from rfl, s 2, show t + 2 = t + 1 + 1 from rfl, s 1, show getN xs p (t + 1) = 2 * getN xs p t + bn (bitAt xs (p + (t + 0))) from rfl]
  rw [show p + (t + 2 + 1) = p + (t + 3) from rfl, show p + (t + 1 + 1) = p + (t + 2) from rfl]
  rw [e 0 (by decide), e 1 (by decide), e 2 (by decide), e 3 (by decide), e 4 (by decide), e 5 (by decide), e 6 (by decide), e 7 (by decide)]
  simp only [bn_bit]
  generalize xs.getD ((p + t) / 8) 0 = x at *
  generalize getN xs p t = g
  omega
theorem subL_getD {xs : List Nat} {a n i : Nat} (h : i < n) : (subL xs a n).getD i 0 = xs.getD (a + i) 0 := by
  rw [List.getD_eq_getElem?_getD, List.getD_eq_getElem?_getD, subL_at, if_pos h]
theorem getN_bytes (xs : List Nat) (hx : ∀ x ∈ xs, x < 256) (q M : Nat) : ∀ m, m ≤ M → getN xs (8 * q) (8 * m) = numTo (subL xs q M) m
  | 0, _ => rfl
  | m + 1, hm => by
    rw [show 8 * (m + 1) = 8 * m + 8 by omega, getN_8 xs hx (8 * q) (8 * m) (by omega), getN_bytes xs hx q M m (by omega), numTo, subL_getD (by omega), show (8 * q + 8 * m) / 8 = q + m by omega]
    omega
theorem numTo_one (xs : List Nat) : numTo xs 1 = xs.getD 0 0 := by simp [numTo]
theorem getN_one (xs : List Nat) (hx : ∀ x ∈ xs, x < 256) (q : Nat) : getN xs (8 * q) 8 = xs.getD q 0 := by
  have := getN_bytes xs hx q 1 1 (Nat.le_refl _)
  rw [show 8 * 1 = 8 from rfl, numTo_one, subL_getD (by decide)] at this
  exact this
theorem be_getD {m v i : Nat} (h : i < m) : (beL m v).getD i 0 = v / 256 ^ (m - 1 - i) % 256 := by simp [beL, h]
theorem numTo_beK {m v : Nat} (hv : v < 256 ^ m) : ∀ k, k ≤ m → numTo (beL m v) k = v / 256 ^ (m - k)
  | 0, _ => by rw [numTo, Nat.sub_zero, Nat.div_eq_of_lt hv]
  | k + 1, hk => by
    rw [numTo, numTo_beK hv k (by omega), be_getD (by omega), show m - k = (m - 1 - k) + 1 by omega, show m - (k + 1) = m - 1 - k by omega, Nat.pow_succ, ← Nat.div_div_eq_div_mul]
    generalize v / 256 ^ (m - 1 - k) = y
    omega
theorem numTo_be {m v : Nat} (hv : v < 256 ^ m) : numTo (beL m v) m = v := by rw [numTo_beK hv m (Nat.le_refl _), Nat.sub_self]; simp
/-- Fields that fill their bytes: packed bytes are those whose values these are. -/
theorem pack_of {ws : List Int} {vs ys : List Nat} (hy : ∀ x ∈ ys, x < 256) (hw : widthOk ws = true) (hl : ys.length = bytesW ws) (ha : atW ws ws.length = 8 * bytesW ws) (hv : vs.length = ws.length) (h : ∀ i, i < ws.length → fld ws ys i = vs.getD i 0) : packL ws vs = ys := by
  have e : unpackL ws ys = vs := by
    rw [unpackL_al hw hl ha]
    refine eq_list _ _ (by rw [valsTo_length, hv]) fun i hi => ?_
    rw [valsTo_length] at hi
    rw [valsTo_getD ws ys i hi]
    exact h i hi
  have := (andBack hy (unpackE_al hw hl ha)).2
  rw [e] at this
  exact this
theorem pow64 : 256 ^ 8 = 18446744073709551616 := by decide
theorem sub_app_r {A B : List Nat} {a n : Nat} (ha : A.length = a) (hn : B.length = n) : subL (A ++ B) a n = B := by
  unfold subL
  rw [List.drop_append, List.drop_of_length_le (by omega), List.nil_append, ha, Nat.sub_self, List.drop_zero, List.take_of_length_le (by omega)]
theorem pack_head {a b c g : Nat} (ha : a < 256) (hb : b < 256) (hc : c < 256) (hg : g < 18446744073709551616) : packL headW [a, b, c, 0, g] = [a, b, c, 0, 0, 0, 0, 0] ++ beL 8 g := by
  have hy : ∀ x ∈ [a, b, c, 0, 0, 0, 0, 0] ++ beL 8 g, x < 256 := by
    intro x hx
    rcases List.mem_append.1 hx with h | h
    · simp only [List.mem_cons, List.not_mem_nil, or_false] at h; omega
    · exact beL_byte _ _ x h
  refine pack_of hy (by decide) (by rw [List.length_append, beL_length, bytes_head]; rfl) at_head rfl fun i hi => ?_
  have hi' : i < 5 := hi
  have d : ∀ j x, [a, b, c, 0, 0, 0, 0, 0][j]? = some x → ([a, b, c, 0, 0, 0, 0, 0] ++ beL 8 g).getD j 0 = x := by
    intro j x h
    rw [List.getD_eq_getElem?_getD, List.getElem?_append_left ((List.getElem?_eq_some_iff.1 h).1), h]; rfl
  match i, hi' with
  | 0, _ => exact (getN_one _ hy 0).trans (d 0 a rfl)
  | 1, _ => exact (getN_one _ hy 1).trans (d 1 b rfl)
  | 2, _ => exact (getN_one _ hy 2).trans (d 2 c rfl)
  | 3, _ =>
    refine (getN_bytes _ hy 3 5 5 (Nat.le_refl _)).trans ?_
    have e : ∀ k, k < 5 → (subL ([a, b, c, 0, 0, 0, 0, 0] ++ beL 8 g) 3 5).getD k 0 = 0 := by
      intro k hk
      rw [subL_getD hk]
      match k, hk with
      | 0, _ => exact d 3 0 rfl
      | 1, _ => exact d 4 0 rfl
      | 2, _ => exact d 5 0 rfl
      | 3, _ => exact d 6 0 rfl
      | 4, _ => exact d 7 0 rfl
    simp only [numTo]
    rw [e 0 (by decide), e 1 (by decide), e 2 (by decide), e 3 (by decide), e 4 (by decide)]
    rfl
  | 4, _ =>
    refine (getN_bytes _ hy 8 8 8 (Nat.le_refl _)).trans ?_
    rw [sub_app_r (A := [a, b, c, 0, 0, 0, 0, 0]) (a := 8) rfl (beL_length _ _), numTo_be (by rw [pow64]; exact hg)]
    rfl
theorem pack_seq {s : Nat} (hs : s < 18446744073709551616) : packL [64] [s] = beL 8 s := by
  refine pack_of (beL_byte _ _) (by decide) (by rw [beL_length, bytes_seq]) (by decide) rfl fun i hi => ?_
  have hi' : i < 1 := hi
  match i, hi' with
  | 0, _ =>
    refine (getN_bytes _ (beL_byte _ _) 0 8 8 (Nat.le_refl _)).trans ?_
    have e : subL (beL 8 s) 0 8 = beL 8 s := by unfold subL; rw [List.drop_zero, List.take_of_length_le (by rw [beL_length]; exact Nat.le_refl _)]
    rw [e, numTo_be (by rw [pow64]; exact hs)]
    rfl
theorem pack_rec {a b v : Nat} (ha : a < 256) (hb : b < 256) (hv : v < 18446744073709551616) : packL recW [a, b, v] = [a, b] ++ beL 8 v := by
  have hy : ∀ x ∈ [a, b] ++ beL 8 v, x < 256 := by
    intro x hx
    rcases List.mem_append.1 hx with h | h
    · simp only [List.mem_cons, List.not_mem_nil, or_false] at h; omega
    · exact beL_byte _ _ x h
  refine pack_of hy (by decide) (by rw [List.length_append, beL_length, bytes_rec]; rfl) at_rec rfl fun i hi => ?_
  have hi' : i < 3 := hi
  match i, hi' with
  | 0, _ => exact (getN_one _ hy 0).trans rfl
  | 1, _ => exact (getN_one _ hy 1).trans rfl
  | 2, _ =>
    refine (getN_bytes _ hy 2 8 8 (Nat.le_refl _)).trans ?_
    rw [sub_app_r (A := [a, b]) (a := 2) rfl (beL_length _ _), numTo_be (by rw [pow64]; exact hv)]
    rfl
theorem wears_sub (ws : List Int) : ∀ i, i < ws.length → subL (wearsL ws) (3 * i) 3 = beL 3 (eI ws i).toNat := by
  induction ws with
  | nil => intro i hi; cases hi
  | cons x ws ih =>
    intro i hi
    have e : wearsL (x :: ws) = beL 3 x.toNat ++ wearsL ws := rfl
    cases i with
    | zero =>
      rw [e]
      unfold subL
      rw [Nat.mul_zero, List.drop_zero, List.take_append, List.take_of_length_le (by rw [beL_length]; exact Nat.le_refl _), beL_length]
      simp [eI]
    | succ i =>
      have := ih i (by simpa using hi)
      rw [e]
      unfold subL at *
      rw [List.drop_append, List.drop_of_length_le (by rw [beL_length]; omega), List.nil_append, beL_length, show 3 * (i + 1) - 3 = 3 * i by omega, this]
      simp [eI]
theorem wearsL_byte (ws : List Int) : ∀ x ∈ wearsL ws, x < 256 := by
  intro x hx
  obtain ⟨y, _, hy⟩ := List.mem_flatMap.1 hx
  exact beL_byte _ _ x hy
theorem at_rep {n i : Nat} (h : i ≤ n) : atW (List.replicate n 24) i = 8 * (3 * i) := by
  unfold atW
  rw [List.take_replicate, Nat.min_eq_left h, sumW_rep]
  omega
theorem pack_wears {ws : List Int} {n : Nat} (hl : ws.length = n) (hn : n ≤ 64) (h : ∀ j, j < n → 0 ≤ eI ws j ∧ eI ws j ≤ 16777215) : packL (List.replicate n 24) (natsL ws) = wearsL ws := by
  refine pack_of (wearsL_byte _) (widthOk_wear hn) (by rw [wearsL_length, bytes_wear, hl]) (at_wear n) (by simp [natsL, hl]) fun i hi => ?_
  rw [List.length_replicate] at hi
  unfold fld
  rw [at_rep (by omega), eI_rep hi]
  have e2 : (natsL ws).getD i 0 = (eI ws i).toNat := by
    simp only [natsL, eI, List.getD_eq_getElem?_getD, List.getElem?_map]
    cases ws[i]? <;> rfl
  rw [e2]
  refine (getN_bytes _ (wearsL_byte _) (3 * i) 3 3 (Nat.le_refl _)).trans ?_
  have := h i hi
  rw [wears_sub ws i (by omega), numTo_be (by show (eI ws i).toNat < 16777216; omega)]
/-- Bytes laid over zeros stand behind those ahead of them. -/
theorem splice_app {A B : List Nat} {k m : Nat} (hB : B.length = m) (hm : m ≤ k) {a : Nat} (ha : A.length = a) : splice (A ++ List.replicate k 0) a B = (A ++ B) ++ List.replicate (k - m) 0 := by
  unfold splice
  rw [List.take_append, List.take_of_length_le (by omega), ha, Nat.sub_self, List.take_zero, List.append_nil, List.drop_append, List.drop_of_length_le (by omega), List.nil_append, ha, hB, List.drop_replicate, List.append_assoc]
  congr 3
  omega
theorem head_eq {P : MP} (h : okMP P = true) : packL headW (headV P) = hdL P := by
  obtain ⟨hg, hk⟩ := okMP_iff.1 h
  have hg2 := hg.2
  have hb : P.kind.toNat < 256 ∧ P.part.toNat < 256 ∧ P.bad.length + P.recs.length < 256 ∧ P.gen.toNat < 18446744073709551616 := by
    rcases hk with ⟨hk1, hp, hs, hn, hm, hww, hr⟩ | ⟨hk2, hp, hs, hn, hm, hr, hall⟩ <;> omega
  exact pack_head hb.1 hb.2.1 hb.2.2.1 hb.2.2.2
theorem headB_eq {P : MP} (h : okMP P = true) : headB P = hdL P ++ List.replicate 240 0 := by
  unfold headB
  rw [head_eq h]
  have := splice_app (A := []) (B := hdL P) (k := 256) (m := 16) (hdL_length P) (by decide) (a := 0) rfl
  rw [List.nil_append, List.nil_append] at this
  exact this
theorem recsB_eq {P : MP} (h : okMP P = true) (hr : P.recs.length ≤ 24) (hall : P.recs.all okMR = true) : ∀ k, k ≤ P.recs.length → recsB (headB P) P.recs k = (hdL P ++ recsLs (P.recs.take k)) ++ List.replicate (240 - 10 * k) 0
  | 0, _ => by rw [recsB, headB_eq h]; simp [recsLs]
  | k + 1, hk => by
    have hro : okMR (eR P.recs k) = true := by
      have hk' : k < P.recs.length := by omega
      have e : eR P.recs k = P.recs[k] := by simp [eR, hk']
      rw [e]; exact List.all_eq_true.1 hall _ (List.getElem_mem hk')
    have hrf : (eR P.recs k).kind.toNat < 256 ∧ (eR P.recs k).block.toNat < 256 ∧ (eR P.recs k).value.toNat < 18446744073709551616 := by
      rcases okMR_facts hro with ⟨h1, h2, h3, h4⟩ | ⟨h1, h2, h3, h4⟩ | ⟨h1, h2, h3, h4⟩
      · omega
      · rw [okWear_iff] at h4; omega
      · omega
    rw [recsB, recsB_eq h hr hall k (by omega), recsLs_snoc _ _ (by omega)]
    have e : packL recW (recV (eR P.recs k)) = recL (eR P.recs k) := pack_rec hrf.1 hrf.2.1 hrf.2.2
    have hrl : (recL (eR P.recs k)).length = 10 := by simp [recL, beL_length]
    rw [e, splice_app hrl (by omega) (by rw [List.length_append, hdL_length, recsLs_length, List.length_take]; omega), List.append_assoc (hdL P), show 240 - 10 * k - 10 = 240 - 10 * (k + 1) by omega]
/-- The bytes of a page are the reference's. -/
theorem ref_eq {P : MP} (h : okMP P = true) : refL P = writeL P := by
  by_cases hk : P.kind = 1
  · obtain ⟨hp, hs, hn, hm, hww, hr⟩ := okMP_part h hk
    have hw : ∀ j, j < P.bad.length → 0 ≤ eI P.wear j ∧ eI P.wear j ≤ 16777215 := fun j hj => okWear_iff.1 (eI_all.1 hww j (by omega))
    have e : writeL P = partB P (headB P) := by unfold writeL; rw [if_pos hk]
    have hs2 := hs.2
    rw [e]
    unfold partB
    rw [headB_eq h, pack_seq (show P.seq.toNat < 18446744073709551616 by omega), splice_app (beL_length _ _) (by decide) (hdL_length P), splice_app (bitsTo_length _ _) (by decide) (by rw [List.length_append, hdL_length, beL_length]), pack_wears hm hn.2 hw, splice_app (wearsL_length _) (by rw [hm]; omega) (by rw [List.length_append, List.length_append, hdL_length, beL_length, bitsTo_length])]
    unfold refL
    have eb : bodyL P = (hdL P ++ beL 8 P.seq.toNat ++ bitsTo P.bad P.bad.length) ++ wearsL P.wear := by unfold bodyL; rw [if_pos hk]
    rw [eb]
    congr 2
    rw [List.length_append, List.length_append, List.length_append, hdL_length, beL_length, bitsTo_length, wearsL_length]
    omega
  · obtain ⟨hk2, hp, hs, hn, hm, hr, hall⟩ := okMP_recs h hk
    have e : writeL P = recsB (headB P) P.recs P.recs.length := by unfold writeL; rw [if_neg hk]
    rw [e, recsB_eq h hr hall _ (Nat.le_refl _), List.take_length]
    unfold refL
    have eb : bodyL P = hdL P ++ recsLs P.recs := by unfold bodyL; rw [if_neg hk]
    rw [eb]
    congr 2
    rw [List.length_append, hdL_length, recsLs_length]
    omega
set_option linter.unusedSimpArgs false in
set_option maxRecDepth 100000 in
set_option maxHeartbeats 2000000 in
theorem rbytes_any (V : PV) (P : MP) (w : World) (hP : InP w V P) : Calls Try.prog 35 #[V.val P] w (ResB w (bytesR P)) := by
  cases hok : okMP P with
  | false =>
    have hal := below_alloc w (.cells #[.int .i64 P.kind, .int .i64 P.gen, .int .i64 P.part, .int .i64 P.seq, .slice V.pb V.nb V.cb, .slice V.pw V.nw V.cw, .slice V.pr V.nr V.cr] 42)
    have bp : Blk _ _ _ (PV.cells V P) := Blk.new' w 42 #[.int .i64 P.kind, .int .i64 P.gen, .int .i64 P.part, .int .i64 P.seq, .slice V.pb V.nb V.cb, .slice V.pw V.nw V.cw, .slice V.pr V.nr V.cr]
    obtain ⟨z0, z1, z2, z3, z4, z5, z6⟩ := bp.cells7
    have E : Hid (bytesR P = ([], 62)) := bytesR_no hok
    go_enter Try.func35, Try.ntmps35
    go_wp2_with (go_at_call 67; refine (rpage_any V P _ (hP.below hal)).mono ?_; rw [hok]; rintro e w4 ⟨rfl, hb4⟩)
    go_ret2
    rw [E.out]
    exact ⟨none, 0, 0, rfl, In.empty _, bt hal hb4⟩
  | true =>
    rw [bytesR_ok hok, ← ref_eq hok]
    have hby : ∀ x ∈ refL P, x < 256 := by rw [ref_eq hok]; exact writeL_byte P
    by_cases hk : P.kind = 1
    · refine (rbytes_part V P w hP hok hk).mono ?_
      rintro e w' ⟨p, c, rfl, ho, hb⟩
      obtain ⟨p', c', hv, hin⟩ := in_of_owns ho hby (by decide)
      cases hv
      exact ⟨p, 256, c, rfl, hin, hb⟩
    · refine (rbytes_recs V P w hP hok hk).mono ?_
      rintro e w' ⟨p, c, rfl, ho, hb⟩
      obtain ⟨p', c', hv, hin⟩ := in_of_owns ho hby (by decide)
      cases hv
      exact ⟨p, 256, c, rfl, hin, hb⟩
end Go.Proofs.Ytpikaagdiafieaa

/-
  There and back: what is read of the bytes of a page that may be is that page.
-/
import Derived.Test.YtpikaagdiafieaaMjB9
namespace Go.Proofs.Ytpikaagdiafieaa
open Go.RowKit
theorem splice_at {xs ys : List Nat} {k : Nat} (h : k + ys.length ≤ xs.length) (i : Nat) : (splice xs k ys)[i]? = if i < k then xs[i]? else if i < k + ys.length then ys[i - k]? else xs[i]? := by
  unfold splice
  have hl : (xs.take k).length = k := by rw [List.length_take]; omega
  rw [List.getElem?_append, hl]
  by_cases h1 : i < k
  · rw [if_pos h1, if_pos h1, List.getElem?_take_of_lt h1]
  · rw [if_neg h1, if_neg h1, List.getElem?_append]
    by_cases h2 : i < k + ys.length
    · rw [if_pos (by omega), if_pos h2]
    · rw [if_neg (by omega), if_neg h2, List.getElem?_drop]
      congr 1; omega
theorem subL_at {xs : List Nat} {a n i : Nat} : (subL xs a n)[i]? = if i < n then xs[a + i]? else none := by
  unfold subL
  by_cases h : i < n
  · rw [List.getElem?_take_of_lt h, List.getElem?_drop, if_pos h]
  · rw [if_neg h, List.getElem?_take_eq_none (by omega)]
theorem subL_self {xs ys : List Nat} {k n : Nat} (h : k + ys.length ≤ xs.length) (hn : ys.length = n) : subL (splice xs k ys) k n = ys := by
  apply List.ext_getElem?
  intro i
  rw [subL_at, splice_at h]
  by_cases hi : i < n
  · rw [if_pos hi, if_neg (by omega), if_pos (by omega), Nat.add_sub_cancel_left]
  · rw [if_neg hi, List.getElem?_eq_none (by omega)]
theorem subL_other {xs ys : List Nat} {k a n : Nat} (h : k + ys.length ≤ xs.length) (hd : a + n ≤ k ∨ k + ys.length ≤ a) : subL (splice xs k ys) a n = subL xs a n := by
  apply List.ext_getElem?
  intro i
  rw [subL_at, subL_at, splice_at h]
  by_cases hi : i < n
  · rw [if_pos hi, if_pos hi]
    by_cases h1 : a + i < k
    · rw [if_pos h1]
    · rw [if_neg h1, if_neg (by omega)]
  · rw [if_neg hi, if_neg hi]
theorem vals_back {ws : List Int} {vs : List Nat} (h : packOk ws vs = true) : valsTo ws (packL ws vs) ws.length = vs := by
  obtain ⟨h1, h2⟩ := there h
  unfold unpackL at h2
  rw [if_pos h1] at h2
  exact h2
theorem fld_back {ws : List Int} {vs : List Nat} (h : packOk ws vs = true) {i : Nat} (hi : i < ws.length) : fld ws (packL ws vs) i = vs.getD i 0 := by
  unfold fld
  rw [← valsTo_getD ws _ i hi, vals_back h]
theorem orLo_at {xs : List Nat} {k j : Nat} : (orLo xs k).getD j 0 = if j = k / 8 ∧ k / 8 < xs.length then xs.getD j 0 ||| 2 ^ (k % 8) else xs.getD j 0 := by
  unfold orLo
  by_cases h : j = k / 8
  · subst h
    by_cases hl : k / 8 < xs.length
    · rw [if_pos ⟨rfl, hl⟩]; simp [hl]
    · rw [if_neg (fun h => hl h.2), List.set_eq_of_length_le (by omega)]
  · rw [if_neg (fun h' => h h'.1)]
    simp [List.getElem?_set_ne (fun e => h e.symm)]
theorem rep_getD (n j : Nat) : (List.replicate n 0).getD j 0 = 0 := by
  rw [List.getD_eq_getElem?_getD, List.getElem?_replicate]
  split <;> rfl
theorem bitsTo_bit (bad : List Bool) (k : Nat) (hk : k ≤ 64) (i : Nat) (hi : i < 64) : ((bitsTo bad k).getD (i / 8) 0).testBit (i % 8) = (decide (i < k) && eB bad i) := by
  induction k with
  | zero =>
    have e : (List.replicate 8 0).getD (i / 8) 0 = 0 := rep_getD 8 (i / 8)
    rw [bitsTo, e]; simp
  | succ k ih =>
    have ih' := ih (by omega)
    rw [bitsTo]
    cases he : eB bad k with
    | false =>
      rw [if_neg (by simp), ih']
      by_cases h1 : i < k
      · simp [h1, show i < k + 1 by omega]
      · by_cases h2 : i = k
        · subst h2; simp [he]
        · simp [h1, show ¬ i < k + 1 by omega]
    | true =>
      rw [if_pos rfl, orLo_at]
      have hlen := bitsTo_length bad k
      by_cases h2 : i / 8 = k / 8
      · rw [if_pos ⟨h2, by omega⟩, Nat.testBit_or, ih', Nat.testBit_two_pow]
        by_cases h3 : i = k
        · subst h3; simp [he]
        · have h4 : ¬ k % 8 = i % 8 := by omega
          by_cases h1 : i < k
          · simp [h1, h4, show i < k + 1 by omega]
          · simp [h1, h4, show ¬ i < k + 1 by omega]
      · rw [if_neg (fun h => h2 h.1), ih']
        have h3 : ¬ i = k := fun h => h2 (by rw [h])
        by_cases h1 : i < k
        · simp [h1, show i < k + 1 by omega]
        · simp [h1, show ¬ i < k + 1 by omega]
theorem bools_back {bad : List Bool} {n : Nat} (hl : bad.length = n) (hn : n ≤ 64) : boolsL (bitsTo bad n) n = bad := by
  apply List.ext_getElem (by rw [boolsL_length, hl])
  intro i h1 h2
  have hi : i < n := by omega
  have e := bitsTo_bit bad n hn i (by omega)
  simp only [boolsL, List.getElem_map, List.getElem_range]
  rw [e, eB_at h2]
  simp [hi]
theorem ints_back {xs : List Int} {n : Nat} (hl : xs.length = n) (h : ∀ j, j < n → 0 ≤ eI xs j ∧ eI xs j ≤ 16777215) : intsL (natsL xs) = xs := by
  apply List.ext_getElem (by simp [intsL, natsL])
  intro i h1 h2
  have := h i (by omega)
  rw [eI_at h2] at this
  simp only [intsL, natsL, List.getElem_map]
  omega
theorem wI_back {x : Int} (h0 : 0 ≤ x) (h1 : x ≤ 1152921504606846976) : wI x.toNat = x := by
  rw [wI_small (by omega)]; omega
theorem head_sub {P : MP} (h : okMP P = true) : subL (headB P) 0 16 = packL headW (headV P) := by
  unfold headB
  have e := packL_length (headOk h)
  rw [bytes_head] at e
  exact subL_self (by rw [e, List.length_replicate]; omega) e
theorem hd_back {P : MP} (h : okMP P = true) {xs : List Nat} (hx : subL xs 0 16 = packL headW (headV P)) : hd xs 0 = P.kind.toNat ∧ hd xs 1 = P.part.toNat ∧ hd xs 2 = P.bad.length + P.recs.length ∧ hd xs 4 = P.gen.toNat := by
  unfold hd
  rw [hx]
  have hk := headOk h
  exact ⟨fld_back hk (by decide), fld_back hk (by decide), fld_back hk (by decide), fld_back hk (by decide)⟩
theorem read_part {P : MP} (h : okMP P = true) (hk : P.kind = 1) : readP (writeL P) = P := by
  obtain ⟨hp, hs, hn, hm, hww, hr⟩ := okMP_part h hk
  have hg := (okMP_iff.1 h).1
  have hr0 : P.recs = [] := List.eq_nil_of_length_eq_zero hr
  have hw : ∀ j, j < P.bad.length → 0 ≤ eI P.wear j ∧ eI P.wear j ≤ 16777215 := fun j hj => okWear_iff.1 (eI_all.1 hww j (by omega))
  have s1 := packL_length (seqOk hs.2)
  rw [bytes_seq] at s1
  have s2 := bitsTo_length P.bad P.bad.length
  have hwo := wearOk hm hn.2 hw
  have s3 := packL_length hwo
  rw [bytes_wear] at s3
  have l0 := headB_length h
  have e : writeL P = partB P (headB P) := by unfold writeL; rw [if_pos hk]
  have h0 : subL (headB P) 0 16 = packL headW (headV P) := head_sub h
  unfold partB at e
  generalize hX1 : splice (headB P) 16 (packL [64] [P.seq.toNat]) = X1 at e
  have l1 : X1.length = 256 := by rw [← hX1, splice_length (by omega), l0]
  generalize hX2 : splice X1 24 (bitsTo P.bad P.bad.length) = X2 at e
  have l2 : X2.length = 256 := by rw [← hX2, splice_length (by omega), l1]
  generalize hY : packL (List.replicate P.bad.length 24) (natsL P.wear) = Y at e s3
  have d0 : subL (writeL P) 0 16 = packL headW (headV P) := by
    rw [e, subL_other (by omega) (by omega), ← hX2, subL_other (by omega) (by omega), ← hX1, subL_other (by omega) (by omega), h0]
  have d1 : subL (writeL P) 16 8 = packL [64] [P.seq.toNat] := by
    rw [e, subL_other (by omega) (by omega), ← hX2, subL_other (by omega) (by omega), ← hX1, subL_self (by omega) s1]
  have d2 : subL (writeL P) 24 8 = bitsTo P.bad P.bad.length := by
    rw [e, subL_other (by omega) (by omega), ← hX2, subL_self (by omega) s2]
  have d3 : subL (writeL P) 32 (3 * P.bad.length) = Y := by
    rw [e, subL_self (by omega) s3]
  obtain ⟨g0, g1, g2, g4⟩ := hd_back h d0
  have k0 : wI (hd (writeL P) 0) = P.kind := by rw [g0]; exact wI_back (by omega) (by omega)
  have k1 : wI (hd (writeL P) 1) = P.part := by rw [g1]; exact wI_back hp.1 (by omega)
  have k4 : wI (hd (writeL P) 4) = P.gen := by rw [g4]; exact wI_back hg.1 hg.2
  have k2 : min (hd (writeL P) 2) 64 = P.bad.length := by rw [g2, hr]; omega
  have v3 : valsTo (List.replicate P.bad.length 24) Y P.bad.length = natsL P.wear := by
    have := vals_back hwo
    rw [hY, List.length_replicate] at this
    exact this
  have v1 : wI (fld [64] (packL [64] [P.seq.toNat]) 0) = P.seq := by rw [fld_back (seqOk hs.2) (by decide)]; exact wI_back hs.1 hs.2
  unfold readP
  rw [k0, k1, k4, k2, if_pos hk]
  unfold readPartP
  rw [d1, d2, d3, v1, bools_back rfl hn.2, v3, ints_back hm hw]
  rw [← hr0]
theorem recs_sub {X : List Nat} {l : List MR} (hX : X.length = 256) (hl : l.length ≤ 24) (h : l.all okMR = true) : ∀ k, k ≤ l.length → subL (recsB X l k) 0 16 = subL X 0 16 ∧ ∀ i, i < k → subL (recsB X l k) (16 + 10 * i) 10 = packL recW (recV (eR l i))
  | 0, _ => ⟨rfl, fun i hi => by omega⟩
  | k + 1, hk => by
    have hr : okMR (eR l k) = true := by
      have hk' : k < l.length := by omega
      have e : eR l k = l[k] := by simp [eR, hk']
      rw [e]; exact List.all_eq_true.1 h _ (List.getElem_mem hk')
    have s := packL_length (recOk hr)
    rw [bytes_rec] at s
    have lk := recsB_length hX hl h k (by omega)
    obtain ⟨i1, i2⟩ := recs_sub hX hl h k (by omega)
    refine ⟨?_, fun i hi => ?_⟩
    · rw [recsB, subL_other (by omega) (by omega), i1]
    · rw [recsB]
      by_cases hik : i = k
      · subst hik
        rw [subL_self (by omega) s]
      · rw [subL_other (by omega) (by omega), i2 i (by omega)]
theorem read_recs {P : MP} (h : okMP P = true) (hk : ¬ P.kind = 1) : readP (writeL P) = P := by
  obtain ⟨hk2, hp, hs, hn, hm, hr, hall⟩ := okMP_recs h hk
  have hg := (okMP_iff.1 h).1
  have hb0 : P.bad = [] := List.eq_nil_of_length_eq_zero hn
  have hw0 : P.wear = [] := List.eq_nil_of_length_eq_zero hm
  have l0 := headB_length h
  have e : writeL P = recsB (headB P) P.recs P.recs.length := by unfold writeL; rw [if_neg hk]
  obtain ⟨i1, i2⟩ := recs_sub l0 hr hall P.recs.length (Nat.le_refl _)
  rw [← e] at i1 i2
  have d0 : subL (writeL P) 0 16 = packL headW (headV P) := by rw [i1]; exact head_sub h
  obtain ⟨g0, g1, g2, g4⟩ := hd_back h d0
  have k0 : wI (hd (writeL P) 0) = P.kind := by rw [g0]; exact wI_back (by omega) (by omega)
  have k1 : wI (hd (writeL P) 1) = P.part := by rw [g1]; exact wI_back (by omega) (by omega)
  have k4 : wI (hd (writeL P) 4) = P.gen := by rw [g4]; exact wI_back hg.1 hg.2
  have k2 : min (hd (writeL P) 2) 24 = P.recs.length := by rw [g2, hn]; omega
  have hrec : recsL (writeL P) P.recs.length = P.recs := by
    apply List.ext_getElem (by rw [recsL_length])
    intro i h1 h2
    have er : eR P.recs i = P.recs[i] := by simp [eR, h2]
    have hro : okMR P.recs[i] = true := List.all_eq_true.1 hall _ (List.getElem_mem h2)
    simp only [recsL, List.getElem_map, List.getElem_range, recAt]
    rw [i2 i h2, er]
    have ho := recOk hro
    rw [fld_back ho (by decide), fld_back ho (by decide), fld_back ho (by decide)]
    have hrf : 0 ≤ P.recs[i].kind ∧ P.recs[i].kind ≤ 3 ∧ 0 ≤ P.recs[i].block ∧ P.recs[i].block ≤ 255 ∧ 0 ≤ P.recs[i].value ∧ P.recs[i].value ≤ 1152921504606846976 := by
      rcases okMR_facts hro with ⟨h1, h2, h3, h4⟩ | ⟨h1, h2, h3, h4⟩ | ⟨h1, h2, h3, h4⟩
      · omega
      · rw [okWear_iff] at h4; omega
      · omega
    show (⟨wI P.recs[i].kind.toNat, wI P.recs[i].block.toNat, wI P.recs[i].value.toNat⟩ : MR) = P.recs[i]
    rw [wI_back hrf.1 (by omega), wI_back hrf.2.2.1 (by omega), wI_back hrf.2.2.2.2.1 hrf.2.2.2.2.2]
  unfold readP
  rw [k0, k1, k4, k2, if_neg hk, if_pos hk2]
  unfold readRecsP
  rw [hrec, ← hs]
  cases P
  simp only [MP.mk.injEq, true_and, and_true] at *
  exact ⟨hb0.symm, hw0.symm⟩
theorem read_back {P : MP} (h : okMP P = true) : readP (writeL P) = P := by
  by_cases hk : P.kind = 1
  · exact read_part h hk
  · exact read_recs h hk
theorem splice_byte {xs ys : List Nat} {k : Nat} (hx : ∀ x ∈ xs, x < 256) (hy : ∀ y ∈ ys, y < 256) : ∀ x ∈ splice xs k ys, x < 256 := by
  intro x h
  unfold splice at h
  rcases List.mem_append.1 h with h | h
  · exact hx x (List.mem_of_mem_take h)
  · rcases List.mem_append.1 h with h | h
    · exact hy x h
    · exact hx x (List.mem_of_mem_drop h)
theorem rep_byte (n : Nat) : ∀ x ∈ List.replicate n 0, x < 256 := by
  intro x hx
  have := List.eq_of_mem_replicate hx
  omega
theorem packL_byte (ws : List Int) (vs : List Nat) : ∀ x ∈ packL ws vs, x < 256 := by
  unfold packL
  split
  · exact packTo_byte (rep_byte _) _
  · intro x hx; simp at hx
theorem headB_byte (P : MP) : ∀ x ∈ headB P, x < 256 := by unfold headB; exact splice_byte (rep_byte _) (packL_byte _ _)
theorem recsB_byte {X : List Nat} (hX : ∀ x ∈ X, x < 256) (l : List MR) : ∀ k, ∀ x ∈ recsB X l k, x < 256
  | 0 => hX
  | k + 1 => by rw [recsB]; exact splice_byte (recsB_byte hX l k) (packL_byte _ _)
theorem writeL_byte (P : MP) : ∀ x ∈ writeL P, x < 256 := by
  unfold writeL
  split
  · unfold partB; exact splice_byte (splice_byte (splice_byte (headB_byte P) (packL_byte _ _)) (bitsTo_byte _ _)) (packL_byte _ _)
  · exact recsB_byte (headB_byte P) _ _
theorem writeL_length {P : MP} (h : okMP P = true) : (writeL P).length = 256 := by
  have l0 := headB_length h
  unfold writeL
  split
  · rename_i hk
    obtain ⟨hp, hs, hn, hm, hww, hr⟩ := okMP_part h hk
    have hw : ∀ j, j < P.bad.length → 0 ≤ eI P.wear j ∧ eI P.wear j ≤ 16777215 := fun j hj => okWear_iff.1 (eI_all.1 hww j (by omega))
    have s1 := packL_length (seqOk hs.2)
    rw [bytes_seq] at s1
    have s2 := bitsTo_length P.bad P.bad.length
    have s3 := packL_length (wearOk hm hn.2 hw)
    rw [bytes_wear] at s3
    unfold partB
    have l1 : (splice (headB P) 16 (packL [64] [P.seq.toNat])).length = 256 := by rw [splice_length (by omega), l0]
    have l2 : (splice (splice (headB P) 16 (packL [64] [P.seq.toNat])) 24 (bitsTo P.bad P.bad.length)).length = 256 := by rw [splice_length (by omega), l1]
    rw [splice_length (by omega), l2]
  · rename_i hk
    obtain ⟨hk2, hp, hs, hn, hm, hr, hall⟩ := okMP_recs h hk
    exact recsB_length l0 hr hall _ (Nat.le_refl _)
end Go.Proofs.Ytpikaagdiafieaa

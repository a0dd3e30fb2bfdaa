/-
  Plain facts: what is packed is unpacked as it was; what is unpacked packs to the same bytes.
-/
import Derived.Test.YtgeomfgfeemciaaUnpack
namespace Go.Proofs.Ytgeomfgfeemciaa
theorem bitAt_orAt (xs : List Nat) (p j : Nat) (b : Bool) (hp : p / 8 < xs.length) : bitAt (orAt xs p b) j = (bitAt xs j || (decide (j = p) && b)) := by
  unfold bitAt orAt
  by_cases h : j / 8 = p / 8
  · rw [h, show (xs.set (p / 8) (xs.getD (p / 8) 0 ||| if b = true then 2 ^ (7 - p % 8) else 0)).getD (p / 8) 0 = (xs.getD (p / 8) 0 ||| if b = true then 2 ^ (7 - p % 8) else 0) from by simp [hp], Nat.testBit_or]
    congr 1
    cases b with
    | false => simp
    | true =>
      rw [if_pos rfl, Nat.testBit_two_pow, Bool.and_true]
      by_cases e : j = p
      · simp [e]
      · have : ¬ 7 - p % 8 = 7 - j % 8 := by omega
        simp [e, this]
  · have e1 : (xs.set (p / 8) (xs.getD (p / 8) 0 ||| if b = true then 2 ^ (7 - p % 8) else 0)).getD (j / 8) 0 = xs.getD (j / 8) 0 := by
      simp [show ¬ p / 8 = j / 8 by omega]
    have e2 : ¬ j = p := fun e => h (by rw [e])
    rw [e1]; simp [e2]
theorem bitAt_setTo (xs : List Nat) (p w v k j : Nat) (hp : p + k ≤ 8 * xs.length) : bitAt (setTo xs p w v k) j = (bitAt xs j || (decide (p ≤ j) && decide (j < p + k) && v.testBit (w - 1 - (j - p)))) := by
  induction k with
  | zero =>
    have : ¬ (p ≤ j ∧ j < p) := by omega
    by_cases h : p ≤ j
    · have h2 : ¬ j < p := by omega
      simp [setTo, h2]
    · simp [setTo, h]
  | succ k ih =>
    rw [setTo, bitAt_orAt _ _ _ _ (by rw [setTo_length]; omega), ih (by omega)]
    by_cases e : j = p + k
    · subst e
      have h1 : ¬ p + k < p + k := by omega
      simp [show p + k - p = k from by omega]
    · by_cases h1 : p ≤ j
      · by_cases h2 : j < p + k
        · have h3 : j < p + (k + 1) := by omega
          simp [e, h1, h2, h3]
        · have h3 : ¬ j < p + (k + 1) := by omega
          simp [e, h2, h3]
      · simp [e, h1]
theorem bitAt_zeros (n j : Nat) : bitAt (List.replicate n 0) j = false := by
  unfold bitAt
  have : (List.replicate n 0).getD (j / 8) 0 = 0 := by
    by_cases h : j / 8 < n <;> simp [h]
  rw [this, Nat.zero_testBit]
theorem atW_le_bytes {ws : List Int} (h : widthOk ws = true) (k : Nat) (hk : k ≤ ws.length) : atW ws k ≤ 8 * bytesW ws := by
  have := atW_mono h (ws.length - k) k (by omega)
  rw [show k + (ws.length - k) = ws.length from by omega] at this
  unfold bytesW; omega
theorem packTo_bits {ws : List Int} (h : widthOk ws = true) (vs : List Nat) (k : Nat) (hk : k ≤ ws.length) :
    (∀ j, atW ws k ≤ j → bitAt (packTo ws vs (List.replicate (bytesW ws) 0) k) j = false) ∧
    (∀ i, i < k → ∀ t, t < (eI ws i).toNat → bitAt (packTo ws vs (List.replicate (bytesW ws) 0) k) (atW ws i + t) = (vs.getD i 0).testBit ((eI ws i).toNat - 1 - t)) := by
  induction k with
  | zero => exact ⟨fun j _ => bitAt_zeros _ _, fun i hi => by omega⟩
  | succ k ih =>
    obtain ⟨ihA, ihB⟩ := ih (by omega)
    obtain ⟨hs, _, _, _⟩ := atW_succ h k (by omega)
    have hb := atW_le_bytes h (k + 1) hk
    have hlen : (packTo ws vs (List.replicate (bytesW ws) 0) k).length = bytesW ws := by rw [packTo_length, List.length_replicate]
    constructor
    · intro j hj
      rw [packTo, bitAt_setTo _ _ _ _ _ _ (by rw [hlen]; omega), ihA j (by omega)]
      have : ¬ j < atW ws k + (eI ws k).toNat := by omega
      simp [this]
    · intro i hi t ht
      rw [packTo, bitAt_setTo _ _ _ _ _ _ (by rw [hlen]; omega)]
      rcases Nat.lt_succ_iff_lt_or_eq.1 hi with h' | h'
      · have hm := atW_mono h (k - (i + 1)) (i + 1) (by omega)
        rw [show i + 1 + (k - (i + 1)) = k from by omega, (atW_succ h i (by omega)).1] at hm
        rw [ihB i h' t ht]
        have : ¬ atW ws k ≤ atW ws i + t := by omega
        simp [this]
      · subst h'
        rw [ihA _ (by omega)]
        simp [ht]
theorem getN_of_bits (xs : List Nat) (p w v : Nat) (hv : v < 2 ^ w) (h : ∀ t, t < w → bitAt xs (p + t) = v.testBit (w - 1 - t)) : getN xs p w = v := by
  have key : ∀ t, t ≤ w → getN xs p t = v / 2 ^ (w - t) := by
    intro t
    induction t with
    | zero => intro _; rw [getN, Nat.sub_zero, Nat.div_eq_of_lt hv]
    | succ t ih =>
      intro ht
      rw [getN, ih (by omega), h t (by omega), Nat.testBit_eq_decide_div_mod_eq]
      have e1 : w - t = (w - (t + 1)) + 1 := by omega
      have e2 : w - 1 - t = w - (t + 1) := by omega
      rw [e1, e2, Nat.pow_succ, ← Nat.div_div_eq_div_mul]
      generalize v / 2 ^ (w - (t + 1)) = a
      unfold bn
      by_cases ha : a % 2 = 1
      · rw [if_pos (by simpa using ha)]; omega
      · rw [if_neg (by simpa using ha)]; omega
  have := key w (Nat.le_refl _)
  rwa [Nat.sub_self, Nat.pow_zero, Nat.div_one] at this
theorem getN_bit (xs : List Nat) (p w : Nat) : ∀ t, t < w → (getN xs p w).testBit (w - 1 - t) = bitAt xs (p + t) := by
  induction w with
  | zero => intro t ht; omega
  | succ w ih =>
    intro t ht
    have hb := bn_le (bitAt xs (p + w))
    rw [getN]
    by_cases e : t = w
    · subst e
      rw [show t + 1 - 1 - t = 0 from by omega, Nat.testBit_zero]
      cases h : bitAt xs (p + t) with
      | true => rw [show bn true = 1 from rfl]; simp
      | false => rw [show bn false = 0 from rfl]; simp
    · rw [show w + 1 - 1 - t = (w - 1 - t) + 1 from by omega, Nat.testBit_succ, show (2 * getN xs p w + bn (bitAt xs (p + w))) / 2 = getN xs p w from by omega]
      exact ih t (by omega)
theorem bytes_ext {xs ys : List Nat} (hl : xs.length = ys.length) (hx : ∀ x ∈ xs, x < 256) (hy : ∀ x ∈ ys, x < 256) (h : ∀ j, j < 8 * xs.length → bitAt xs j = bitAt ys j) : xs = ys := by
  refine eq_list xs ys hl fun i hi => ?_
  have bx := el_range hx i
  have byte2 := el_range hy i
  unfold el at bx byte2
  apply Nat.eq_of_testBit_eq
  intro s
  by_cases hs : s < 8
  · have := h (8 * i + (7 - s)) (by omega)
    unfold bitAt at this
    rwa [show (8 * i + (7 - s)) / 8 = i from by omega, show 7 - (8 * i + (7 - s)) % 8 = s from by omega] at this
  · have p : 2 ^ 8 ≤ 2 ^ s := Nat.pow_le_pow_right (by decide) (by omega)
    rw [Nat.testBit_lt_two_pow (by omega), Nat.testBit_lt_two_pow (by omega)]
theorem seg {ws : List Int} (h : widthOk ws = true) (k : Nat) (hk : k ≤ ws.length) : ∀ j, j < atW ws k → ∃ i, i < k ∧ ∃ t, t < (eI ws i).toNat ∧ j = atW ws i + t := by
  induction k with
  | zero => intro j hj; rw [atW_zero] at hj; omega
  | succ k ih =>
    intro j hj
    rw [(atW_succ h k (by omega)).1] at hj
    by_cases hlt : j < atW ws k
    · obtain ⟨i, hi, t, ht, e⟩ := ih (by omega) j hlt
      exact ⟨i, by omega, t, ht, e⟩
    · exact ⟨k, by omega, j - atW ws k, by omega, by omega⟩
theorem valsTo_getD (ws : List Int) (xs : List Nat) (i : Nat) (hi : i < ws.length) : (valsTo ws xs ws.length).getD i 0 = getN xs (atW ws i) (eI ws i).toNat := by
  simp [valsTo, hi]
/-- What is packed is unpacked as it was. -/
theorem there {ws : List Int} {vs : List Nat} (h : packOk ws vs = true) : unpackE ws (packL ws vs) = 0 ∧ unpackL ws (packL ws vs) = vs := by
  have hw : widthOk ws = true := by unfold packOk at h; simp only [Bool.and_eq_true] at h; exact h.1
  have hf : fitB ws vs = true := by unfold packOk at h; simp only [Bool.and_eq_true] at h; exact h.2
  obtain ⟨hl, hfit⟩ := (fitB_iff ws vs).1 hf
  have e : packL ws vs = packTo ws vs (List.replicate (bytesW ws) 0) ws.length := by unfold packL; rw [if_pos h]
  obtain ⟨hA, hB⟩ := packTo_bits hw vs ws.length (Nat.le_refl _)
  have hlen : (packTo ws vs (List.replicate (bytesW ws) 0) ws.length).length = bytesW ws := by rw [packTo_length, List.length_replicate]
  rw [e]
  generalize packTo ws vs (List.replicate (bytesW ws) 0) ws.length = X at *
  have ht : tailN ws X = 0 := by
    unfold tailN
    exact getN_of_bits X _ _ 0 (Nat.two_pow_pos _) fun t _ => by rw [hA _ (by omega), Nat.zero_testBit]
  have hE : unpackE ws X = 0 := by
    unfold unpackE
    rw [if_neg (by rw [hw]; simp), if_neg (by rw [hlen]; simp), if_neg (by rw [ht]; simp)]
  refine ⟨hE, ?_⟩
  unfold unpackL
  rw [if_pos hE]
  refine eq_list _ _ (by rw [valsTo_length, hl]) fun i hi => ?_
  rw [valsTo_length] at hi
  rw [valsTo_getD ws X i hi]
  exact getN_of_bits X _ _ _ (hfit i hi) fun t ht => hB i hi t ht
/-- What is unpacked packs to the same bytes. -/
theorem andBack {ws : List Int} {xs : List Nat} (hx : ∀ x ∈ xs, x < 256) (h : unpackE ws xs = 0) : packOk ws (unpackL ws xs) = true ∧ packL ws (unpackL ws xs) = xs := by
  have hw : widthOk ws = true := by
    cases hq : widthOk ws with
    | true => rfl
    | false => unfold unpackE at h; rw [if_pos hq] at h; simp at h
  have hlen : xs.length = bytesW ws := by
    unfold unpackE at h
    rw [if_neg (by rw [hw]; simp)] at h
    by_cases hq : xs.length = bytesW ws
    · exact hq
    · rw [if_pos hq] at h; simp at h
  have ht : tailN ws xs = 0 := by
    unfold unpackE at h
    rw [if_neg (by rw [hw]; simp), if_neg (by rw [hlen]; simp)] at h
    by_cases hq : tailN ws xs = 0
    · exact hq
    · rw [if_pos hq] at h; simp at h
  have e : unpackL ws xs = valsTo ws xs ws.length := by unfold unpackL; rw [if_pos h]
  rw [e]
  have hf : fitB ws (valsTo ws xs ws.length) = true := (fitB_iff _ _).2 ⟨by rw [valsTo_length], fun i hi => by rw [valsTo_getD ws xs i hi]; exact getN_lt _ _ _⟩
  have hok : packOk ws (valsTo ws xs ws.length) = true := by unfold packOk; rw [hw, hf]; rfl
  refine ⟨hok, ?_⟩
  unfold packL
  rw [if_pos hok]
  obtain ⟨hA, hB⟩ := packTo_bits hw (valsTo ws xs ws.length) ws.length (Nat.le_refl _)
  refine bytes_ext (by rw [packTo_length, List.length_replicate, hlen]) (packTo_byte (fun x hx => by rw [List.eq_of_mem_replicate hx]; decide) _) hx fun j hj => ?_
  rw [packTo_length, List.length_replicate] at hj
  by_cases hlt : j < atW ws ws.length
  · obtain ⟨i, hi, t, ht', rfl⟩ := seg hw ws.length (Nat.le_refl _) j hlt
    rw [hB i hi t ht', valsTo_getD ws xs i hi]
    exact getN_bit xs _ _ t ht'
  · rw [hA j (by omega)]
    have := getN_bit xs (atW ws ws.length) (8 * bytesW ws - atW ws ws.length) (j - atW ws ws.length) (by omega)
    unfold tailN at ht
    rw [ht, Nat.zero_testBit, show atW ws ws.length + (j - atW ws ws.length) = j from by omega] at this
    exact this
end Go.Proofs.Ytgeomfgfeemciaa

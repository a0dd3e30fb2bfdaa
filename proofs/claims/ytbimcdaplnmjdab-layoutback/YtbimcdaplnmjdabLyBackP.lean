/-
  There and back, as plain lists.
-/
import Derived.Test.YtbimcdaplnmjdabLyDDec2
namespace Go.Proofs.Ytbimcdaplnmjdab
open Go.RowKit
theorem decOk_factsB {xs : List Nat} (h : decOk xs = true) : xs.length = 256 ∧ supE (rdB xs) (rdJ xs) (rdO xs) (rdM xs) = 0 ∧ supL (rdB xs) (rdJ xs) (rdO xs) (rdC xs) (rdM xs) = xs := by
  unfold decOk at h
  simp only [Bool.and_eq_true, beq_iff_eq] at h
  exact ⟨h.1.1, h.1.2, h.2⟩
theorem supL_sealB {b j o m : Int} {cl : Bool} (h : supE b j o m = 0) : ∃ ys, ys.length = 252 ∧ supL b j o cl m = ys ++ cnt ys := by
  obtain ⟨h1, h2, h3, h4, h5⟩ := supE_zero h
  obtain ⟨g1, g2, g3, g4, -⟩ := okS_iff.1 h1
  have hg := gN_rng g1 g2
  have hl := supB_length (b := b.toNat) (j := j.toNat) (o := o.toNat) (m := m.toNat) cl (by omega) (by omega) (by omega) (by omega)
  refine ⟨_, hl, ?_⟩
  rw [supL_ok h]
  unfold sealL
  rw [hl]
  rfl
theorem fS_pack {b j o m : Nat} {cl : Bool} {tl : List Nat} (hp : packOk wsS (vsS b j cl o m) = true) (i : Nat) (hi : i < 6) : fS (packL wsS (vsS b j cl o m) ++ tl) i = (vsS b j cl o m).getD i 0 := by
  have hl : (packL wsS (vsS b j cl o m)).length = 23 := by rw [packL_length hp, wsS_bytes]
  have ht : (packL wsS (vsS b j cl o m) ++ tl).take 23 = packL wsS (vsS b j cl o m) := by rw [List.take_append_of_le_length (by omega), List.take_of_length_le (by omega)]
  rw [← fS_vals (by rw [List.length_append]; omega) i hi, ht, (there hp).2]
theorem sup_back {b j o m : Int} {cl : Bool} (h : supE b j o m = 0) : decOk (supL b j o cl m) = true ∧ rdB (supL b j o cl m) = b ∧ rdJ (supL b j o cl m) = j ∧ rdO (supL b j o cl m) = o ∧ rdC (supL b j o cl m) = cl ∧ rdM (supL b j o cl m) = m ∧ (supL b j o cl m).length = 256 := by
  obtain ⟨h1, h2, h3, h4, h5⟩ := supE_zero h
  obtain ⟨g1, g2, g3, g4, -⟩ := okS_iff.1 h1
  have hg := gN_rng g1 g2
  have hp := packS_ok (b := b.toNat) (j := j.toNat) (o := o.toNat) (m := m.toNat) cl (by omega) (by omega) (by omega) (by omega)
  have hl := supB_length (b := b.toNat) (j := j.toNat) (o := o.toNat) (m := m.toNat) cl (by omega) (by omega) (by omega) (by omega)
  have e : supL b j o cl m = packL wsS (vsS b.toNat j.toNat cl o.toNat m.toNat) ++ (List.replicate 229 0 ++ cnt (supB b.toNat j.toNat cl o.toNat m.toNat)) := by
    rw [supL_ok h]
    unfold sealL
    rw [if_neg (by rw [hl]; decide), ← List.append_assoc]
    rfl
  have hlen : (supL b j o cl m).length = 256 := by
    rw [supL_ok h]
    unfold sealL
    rw [if_neg (by rw [hl]; decide), List.length_append, hl]
    rfl
  have f1 : rdB (supL b j o cl m) = b := by unfold rdB; rw [e, fS_pack hp 1 (by decide)]; show ((b.toNat : Nat) : Int) = b; omega
  have f2 : rdJ (supL b j o cl m) = j := by unfold rdJ; rw [e, fS_pack hp 2 (by decide)]; show ((j.toNat : Nat) : Int) = j; omega
  have f3 : rdC (supL b j o cl m) = cl := by unfold rdC; rw [e, fS_pack hp 3 (by decide)]; show (((clN cl : Nat) : Int) == 1) = cl; cases cl <;> rfl
  have f4 : rdO (supL b j o cl m) = o := by unfold rdO; rw [e, fS_pack hp 4 (by decide)]; show ((o.toNat : Nat) : Int) = o; omega
  have f5 : rdM (supL b j o cl m) = m := by unfold rdM; rw [e, fS_pack hp 5 (by decide)]; show IntKind.i64.wrap ((m.toNat : Nat) : Int) = m; rw [wrapI _ (by omega)]; omega
  refine ⟨?_, f1, f2, f4, f3, f5, hlen⟩
  unfold decOk
  rw [f1, f2, f3, f4, f5, hlen, h]
  simp
theorem drop_flat {l : List Dsc} {tl : List Nat} (h : ∀ d ∈ l, packOk wsD (vsD d) = true) (i : Nat) (hi : i < l.length) : ((l.flatMap dB ++ tl).drop (i * 16)).take 6 = packL wsD (vsD (eD l i)) := by
  induction l generalizing i with
  | nil => simp at hi
  | cons d l ih =>
    have hd := h d (by simp)
    have h16 := dB_length hd
    have h6 : (packL wsD (vsD d)).length = 6 := by rw [packL_length hd, wsD_bytes]
    rw [List.flatMap_cons, List.append_assoc]
    cases i with
    | zero =>
      rw [Nat.zero_mul, List.drop_zero]
      unfold dB
      rw [List.append_assoc, List.take_append_of_le_length (by omega), List.take_of_length_le (by omega)]
      rfl
    | succ i =>
      rw [List.drop_append, h16, List.drop_of_length_le (by rw [h16]; omega), List.nil_append, show (i + 1) * 16 - 16 = i * 16 from by omega]
      have := ih (fun x hx => h x (by simp [hx])) i (by simpa using hi)
      simpa [eD] using this
theorem rd_edB {l : List Dsc} (hr : ∀ d ∈ l, d.rng) (h : edE l = 0) : rdD (edB l) l.length = l := by
  obtain ⟨h1, h2⟩ := edE_zero.1 h
  have hp : ∀ d ∈ l, packOk wsD (vsD d) = true := fun d hd => by rw [packD_ok (hr d hd)]; exact h2 d hd
  apply List.ext_getElem
  · rw [rdD_length]
  · intro i hi1 hi2
    rw [rdD_length] at hi1
    have hL := edB_length hp h1
    have hd : eD l i = l[i] := by simp [eD, hi2]
    have hok := hp _ (List.getElem_mem hi2)
    have hdk := h2 _ (List.getElem_mem hi2)
    have hv := (fD_vals (xs := edB l) (i := i) (q := i * 16) rfl (by rw [hL]; omega)).1
    have e : ((edB l).drop (i * 16)).take 6 = packL wsD (vsD l[i]) := by
      unfold edB
      rw [drop_flat hp i hi1, hd]
    rw [e, (there hok).2] at hv
    have v0 := hv 0 (by decide)
    have v1 := hv 1 (by decide)
    have v2 := hv 2 (by decide)
    unfold dOk at hdk
    simp only [Bool.and_eq_true] at hdk
    have u0 := uN_id hdk.1.1
    have u1 := uN_id hdk.1.2
    have u2 := uN_id hdk.2
    simp only [rdD, List.getElem_map, List.getElem_range, ← v0, ← v1, ← v2]
    show (⟨((uN l[i].x : Nat) : Int), ((uN l[i].y : Nat) : Int), ((uN l[i].z : Nat) : Int)⟩ : Dsc) = l[i]
    rw [u0, u1, u2]
theorem descs_back {l : List Dsc} (hr : ∀ d ∈ l, d.rng) (h : edE l = 0) : ddE (edL l) (l.length : Int) = 0 ∧ ddL (edL l) (l.length : Int) = l ∧ (edL l).length = 256 := by
  obtain ⟨h1, h2⟩ := edE_zero.1 h
  have hp : ∀ d ∈ l, packOk wsD (vsD d) = true := fun d hd => by rw [packD_ok (hr d hd)]; exact h2 d hd
  have hL := edB_length hp h1
  have e : edL l = edB l := by unfold edL; rw [if_pos h]
  have hrd := rd_edB hr h
  have hok : ddOk (edL l) l.length = true := by
    unfold ddOk
    rw [e, hrd, e, hL]
    simp
  rw [(dd_ok h1 hok).1, (dd_ok h1 hok).2, e]
  exact ⟨rfl, hrd, hL⟩
theorem dd_zero {xs : List Nat} {n : Int} (h : ddE xs n = 0) : edE (ddL xs n) = 0 ∧ edL (ddL xs n) = xs ∧ ∀ d ∈ ddL xs n, d.rng := by
  have hn : 0 ≤ n ∧ n ≤ 16 := by
    by_cases hn : 0 ≤ n ∧ n ≤ 16
    · exact hn
    · rw [(dd_far hn).1] at h; cases h
  obtain ⟨m, rfl⟩ : ∃ m : Nat, n = (m : Int) := ⟨n.toNat, by omega⟩
  have hm : m ≤ 16 := by omega
  cases hok : ddOk xs m with
  | false => rw [(dd_no hm hok).1] at h; cases h
  | true =>
    rw [(dd_ok hm hok).2]
    refine ⟨rdE_zero xs hm, ?_, fun d hd => (rdD_ok xs m d hd).2⟩
    unfold ddOk at hok
    simp only [Bool.and_eq_true, beq_iff_eq] at hok
    exact hok.2
end Go.Proofs.Ytbimcdaplnmjdab

/-
  Plain facts: of two that are sealed, of one length, the one covers the other only if they are the same.
-/
import Derived.Test.YtbimcdaplnmjdaaSeal
import Derived.Test.YtbimcdaplnmjdaaOwn
namespace Go.Proofs.Ytbimcdaplnmjdaa
theorem cov_list : ∀ (a b : List Nat), a.length = b.length → (∀ x ∈ a, x < 256) → (∀ x ∈ b, x < 256) → (∀ i, i < a.length → cov1 (a.getD i 0) (b.getD i 0) = true) →
    zeros a ≤ zeros b ∧ (zeros a = zeros b → a = b)
  | [], [], _, _, _, _ => ⟨Nat.le_refl _, fun _ => rfl⟩
  | [], y :: b, h, _, _, _ => by simp at h
  | x :: a, [], h, _, _, _ => by simp at h
  | x :: a, y :: b, h, ha, hb, hc => by
    have ih := cov_list a b (by simpa using h) (fun z hz => ha z (by simp [hz])) (fun z hz => hb z (by simp [hz])) (fun i hi => by simpa using hc (i + 1) (by simpa using hi))
    have h0 := hc 0 (by simp)
    simp only [List.getD_cons_zero] at h0
    have hz := cov1_zb (ha x (by simp)) (hb y (by simp)) h0
    have ea : zeros (x :: a) = zb x + zeros a := by simp [zeros]
    have eb : zeros (y :: b) = zb y + zeros b := by simp [zeros]
    rw [ea, eb]
    refine ⟨by omega, fun e => ?_⟩
    have e1 : x = y := hz.2 (by omega)
    have e2 : a = b := ih.2 (by omega)
    rw [e1, e2]
theorem covers_zeros {a b : List Nat} (ha : ∀ x ∈ a, x < 256) (hb : ∀ x ∈ b, x < 256) (h : covers a b = true) : zeros a ≤ zeros b :=
  (cov_list a b ((covers_iff a b).1 h).1 ha hb ((covers_iff a b).1 h).2).1
theorem val4 (z : Nat) (h : z < 4294967296) : z = z / 16777216 % 256 * 16777216 + z / 65536 % 256 * 65536 + z / 256 % 256 * 256 + z % 256 := by
  have e1 : z / 65536 = z / 256 / 256 := by rw [Nat.div_div_eq_div_mul]
  have e2 : z / 16777216 = z / 256 / 256 / 256 := by rw [Nat.div_div_eq_div_mul, Nat.div_div_eq_div_mul]
  rw [e1, e2]
  omega
theorem cnt_cov {y x : Nat} (hy : y < 4294967296) (hx : x < 4294967296) (h : ∀ i, i < 4 → cov1 ((cntZ y).getD i 0) ((cntZ x).getD i 0) = true) : x ≤ y := by
  have h0 := cov1_le (h 0 (by decide)); have h1 := cov1_le (h 1 (by decide)); have h2 := cov1_le (h 2 (by decide)); have h3 := cov1_le (h 3 (by decide))
  simp only [cntZ, List.getD_cons_zero, List.getD_cons_succ] at h0 h1 h2 h3
  have e1 := val4 x hx
  have e2 := val4 y hy
  generalize x / 16777216 % 256 = x3 at *
  generalize y / 16777216 % 256 = y3 at *
  generalize x / 65536 % 256 = x2 at *
  generalize y / 65536 % 256 = y2 at *
  generalize x / 256 % 256 = x1 at *
  generalize y / 256 % 256 = y1 at *
  generalize x % 256 = x0 at *
  generalize y % 256 = y0 at *
  omega
theorem seal_cov {xs ys : List Nat} (hl : ys.length = xs.length) (hm : xs.length ≤ 1048576) (hx : ∀ x ∈ xs, x < 256) (hy : ∀ x ∈ ys, x < 256)
    (h : ∀ i, i < xs.length + 4 → cov1 ((ys ++ cnt ys).getD i 0) ((xs ++ cnt xs).getD i 0) = true) : ys = xs := by
  have hp : ∀ i, i < ys.length → cov1 (ys.getD i 0) (xs.getD i 0) = true := by
    intro i hi
    have := h i (by omega)
    have e1 : (ys ++ cnt ys).getD i 0 = ys.getD i 0 := by simp [List.getElem?_append, hi]
    have e2 : (xs ++ cnt xs).getD i 0 = xs.getD i 0 := by simp [List.getElem?_append, show i < xs.length by omega]
    rwa [e1, e2] at this
  have hz := cov_list ys xs hl hy hx hp
  have b1 := zeros_le xs
  have b2 := zeros_le ys
  have hc : zeros xs ≤ zeros ys := by
    refine cnt_cov (by omega) (by omega) fun i hi => ?_
    have := h (xs.length + i) (by omega)
    have e1 : (ys ++ cnt ys).getD (xs.length + i) 0 = (cntZ (zeros ys)).getD i 0 := by
      simp [List.getElem?_append, hl, cnt, show ¬ xs.length + i < xs.length by omega]
    have e2 : (xs ++ cnt xs).getD (xs.length + i) 0 = (cntZ (zeros xs)).getD i 0 := by
      simp [List.getElem?_append, cnt, show ¬ xs.length + i < xs.length by omega]
    rwa [e1, e2] at this
  exact hz.2 (by omega)
theorem cnt_length (xs : List Nat) : (cnt xs).length = 4 := rfl
/-- Of two that are sealed, of one length, and unlike, neither covers the other. -/
theorem unlike {xs ys : List Nat} (hl : ys.length = xs.length) (hm : xs.length ≤ 1048576) (hx : ∀ x ∈ xs, x < 256) (hy : ∀ x ∈ ys, x < 256)
    (h : covers (ys ++ cnt ys) (xs ++ cnt xs) = true) : ys = xs :=
  seal_cov hl hm hx hy fun i hi => ((covers_iff _ _).1 h).2 i (by rw [List.length_append, cnt_length]; omega)
open Go.RowKit in
theorem seal_short (p : Option Addr) (n c : Nat) (xs : List Nat) (w : World) (hx : In w p n c xs) (h : n ≤ 1048576) :
    Calls Try.prog 57 #[.slice p n c] w fun e w' => ∃ p' c', e = .returned (.tuple #[.slice p' (n + 4) c', .int .i64 0]) ∧ In w' p' (n + 4) c' (xs ++ cnt xs) ∧ Below w.heap.size w w' := by
  refine (seal_any p n c xs w hx).mono ?_
  rintro e w1 ⟨p', n', c', rfl, hin, hb⟩
  have hl := hx.len
  rw [show sealL xs = xs ++ cnt xs from by unfold sealL; rw [if_neg (by omega)]] at hin
  have e1 : n' = n + 4 := by have := hin.len; rw [List.length_append, cnt_length] at this; omega
  subst e1
  rw [show sealE xs = 0 from by unfold sealE; rw [if_neg (by omega)]]
  exact ⟨p', c', rfl, hin, hb⟩
end Go.Proofs.Ytbimcdaplnmjdaa

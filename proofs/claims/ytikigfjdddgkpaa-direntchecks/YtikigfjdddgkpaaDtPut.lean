/-
  What dirent.putNumber and lay do.
-/
import Derived.Test.YtikigfjdddgkpaaDtNm
import Derived.Test.YtikigfjdddgkpaaDtSl
namespace Go.Proofs.Ytikigfjdddgkpaa
open Go.RowKit
theorem Turned.refl (w : World) (g : Nat) : Turned w w g := ⟨rfl, rfl, rfl, rfl, fun _ _ => rfl⟩
/-- Bytes with some laid at a place. -/
def spl (xs : List Nat) (o : Nat) (ys : List Nat) : List Nat := xs.take o ++ ys ++ xs.drop (o + ys.length)
theorem spl_length {xs ys : List Nat} {o : Nat} (h : o + ys.length ≤ xs.length) : (spl xs o ys).length = xs.length := by
  simp [spl]; omega
theorem spl_byte {xs ys : List Nat} {o : Nat} (hx : ∀ x ∈ xs, x < 256) (hy : ∀ x ∈ ys, x < 256) : ∀ x ∈ spl xs o ys, x < 256 := by
  intro x h
  rcases List.mem_append.1 h with h | h
  · rcases List.mem_append.1 h with h | h
    · exact hx x (List.mem_of_mem_take h)
    · exact hy x h
  · exact hx x (List.mem_of_mem_drop h)
theorem spl_spl {xs ys zs : List Nat} {o q : Nat} (hq : q = o + ys.length) (h : o + ys.length + zs.length ≤ xs.length) : spl (spl xs o ys) q zs = spl xs o (ys ++ zs) := by
  subst hq
  unfold spl
  have h1 : (xs.take o ++ ys ++ xs.drop (o + ys.length)).take (o + ys.length) = xs.take o ++ ys := by
    rw [List.take_append_of_le_length (by simp; omega)]
    exact List.take_of_length_le (by simp; omega)
  have h2 : (xs.take o ++ ys ++ xs.drop (o + ys.length)).drop (o + ys.length + zs.length) = xs.drop (o + (ys ++ zs).length) := by
    rw [List.drop_append, List.drop_of_length_le (by simp; omega), List.nil_append, List.drop_drop]
    congr 1
    simp
    omega
  rw [h1, h2, List.append_assoc (xs.take o)]
theorem spl_nil (xs : List Nat) (o : Nat) : spl xs o [] = xs := by simp [spl]
theorem spl_set {xs : List Nat} {i : Nat} (x : Nat) (h : i < xs.length) : xs.set i x = spl xs i [x] := by
  unfold spl
  rw [List.set_eq_take_append_cons_drop, if_pos h]
  simp
theorem vals_spl (xs : List Nat) (o : Nat) (ys : List Nat) : vals (spl xs o ys) = (vals xs).take o ++ vals ys ++ (vals xs).drop (o + ys.length) := by
  simp [vals, spl, List.map_take, List.map_drop]
theorem vals_set1 (xs : List Nat) (j x : Nat) : vals (xs.set j x) = (vals xs).set j (.int .u8 (x : Int)) := by simp [vals, List.map_set]
theorem bytesB_cons (j n : Nat) : bytesB (j + 1) n = (n / 256 ^ j % 256) :: bytesB j n := by
  induction j generalizing n with
  | zero => simp [bytesB]
  | succ j ih =>
    rw [bytesB, ih, bytesB, Nat.div_div_eq_div_mul, Nat.pow_succ, Nat.mul_comm 256]
    rfl
/-- A row of bytes with some laid over it. -/
theorem owns_spl {w : World} {B g N C o : Nat} {xs ys : List Nat} {cur : Array Value} (h : w.ownsRow B 5 1 (.slice (some ⟨g, 0, none⟩) N C) N (vals xs)) (hg : w.heap[g]? = some (.cells cur 5 (0, 0))) (ho : o + ys.length ≤ N) :
    (w.setRow g (cur.toList.take o ++ vals ys ++ cur.toList.drop (o + ys.length)).toArray).ownsRow B 5 1 (.slice (some ⟨g, 0, none⟩) N C) N (vals (spl xs o ys)) := by
  have hxl : xs.length = N := by have := h.1; simpa [vals] using this
  rcases h.2 with ⟨hn, _⟩ | ⟨g', cap', cur', hv, hB, hg', hnc, hcm, hcs, ht⟩
  · cases hn
  · cases hv
    rw [hg] at hg'
    cases hg'
    rw [Nat.mul_one] at hcs ht
    have hs : cur.toList.length = C := by rw [Array.length_toList, hcs]
    refine ⟨by rw [vals_length, spl_length (by omega)]; omega, .inr ⟨g, C, _, rfl, hB, setRow_heap w g cur _ 5 _ hg, hnc, hcm, ?_, ?_⟩⟩
    · simp only [List.size_toArray, List.length_append, List.length_take, List.length_drop, vals_length, hs]
      omega
    · rw [vals_spl, ← ht]
      simp only [Nat.mul_one]
      have hA : (cur.toList.take o ++ vals ys).length = o + ys.length := by rw [List.length_append, List.length_take, vals_length, Nat.min_eq_left (by omega)]
      rw [List.take_append, hA, List.take_of_length_le (by rw [hA]; omega)]
      congr 1
      · rw [List.take_take, Nat.min_eq_left (by omega)]
      · rw [List.drop_take]
/-- copy of a string into a row of bytes. -/
theorem copy_str {w : World} {B g N C o m c : Nat} {xs : List Nat} {l : List UInt8} (h : w.ownsRow B 5 1 (.slice (some ⟨g, 0, none⟩) N C) N (vals xs)) (ho : o + l.length ≤ N) (hm : l.length ≤ m) :
    ∃ w', (Builtin.copy_ #[22, 9] 3 #[.slice (some ⟨g, o, none⟩) m c, .string ⟨l.toArray⟩]).run Try.prog w = .ok (.int .i64 (l.length : Int)) w' ∧ w'.ownsRow B 5 1 (.slice (some ⟨g, 0, none⟩) N C) N (vals (spl xs o (ofNm l))) ∧ Turned w w' g := by
  rcases h.2 with ⟨hn, _⟩ | ⟨g', cap', cur, hv, hB, hg, hnc, hcm, hcs, ht⟩
  · cases hn
  · cases hv
    rw [Nat.mul_one] at hcs
    have hst := run_storeCells_at (P := Try.prog) g o 5 (vals (ofNm l)) 0 cur w hg (by simp [vals_length, ofNm_length]; omega) (vals_one _)
    refine ⟨_, ?_, owns_spl h hg (by rw [ofNm_length]; exact ho), Turned.setRow _ _ _⟩
    have hmin : Nat.min l.length m = l.length := Nat.min_eq_left hm
    have hex : List.take l.length (l.map fun b : UInt8 => Value.int .u8 (b.toNat : Int)) = vals (ofNm l) := by
      rw [List.take_of_length_le (by simp)]
      simp [vals, ofNm, Function.comp_def]
    have hvl : (vals (ofNm l)).length = l.length := by rw [vals_length, ofNm_length]
    rw [hvl] at hst
    rw [ofNm_length]
    cases hq : Try.prog.info? 5 with
    | none => have := size5; simp [hq] at this
    | some i =>
      simp [Builtin.copy_, run_underlying Try.underlying22, Builtin.lenOf, Builtin.firstCells, sizeOf, typeInfo, hq, sz, hmin] at hst ⊢
      rw [hex, hst]
      rfl
theorem Turned.trans2 {a b c : World} {g : Nat} (h : Turned a b g) (k : Turned b c g) : Turned a c g := ⟨k.os.trans h.os, k.tape.trans h.tape, k.output.trans h.output, k.size.trans h.size, fun j hj => (k.block j hj).trans (h.block j hj)⟩
theorem putNumber_any (B g N C o k c n : Nat) (xs : List Nat) (w : World) (h : w.ownsRow B 5 1 (.slice (some ⟨g, 0, none⟩) N C) N (vals xs)) (ho : o + k ≤ N) (hN : N ≤ 1000000) (hn : n < 4294967296) :
    Calls Try.prog 59 #[.slice (some ⟨g, o, none⟩) k c, .int .i64 (n : Int)] w fun e w' => e = .returned (.tuple #[]) ∧ w'.ownsRow B 5 1 (.slice (some ⟨g, 0, none⟩) N C) N (vals (spl xs o (bytesB k n))) ∧ Turned w w' g := by
  have hxl : xs.length = N := by have := h.1; simpa [vals] using this
  have HXL : Hid (xs.length = N) := hxl
  clear hxl
  go_enter Try.func59, Try.ntmps59
  go_wp2
  go_loopw [1, 4] (fun v i wr => ∃ m j q : Nat, v = .int .i64 (q : Int) ∧ i = .int .i64 ((m : Int) - 1) ∧ q < 4294967296 ∧ Hid (q = n / 256 ^ j ∧ m + j = k) ∧ m ≤ k ∧ wr.ownsRow B 5 1 (.slice (some ⟨g, 0, none⟩) N C) N (vals (spl xs (o + m) (bytesB j n))) ∧ Turned w wr g) (fun _ i _ => ((intOf i) + 1).toNat)
  case atStart => exact ⟨k, 0, n, rfl, rfl, hn, ⟨by simp, rfl⟩, Nat.le_refl _, by rw [bytesB, spl_nil]; exact h, Turned.refl w g⟩
  case round =>
    clear h
    obtain ⟨m, j, q, rfl, rfl, hq, HQ, hmk, hown, htu⟩ := hrel
    cases m with
    | zero =>
      have HE : Hid (j = k) := by have := HQ.out.2; show _ = _; omega
      go_wp2
      go_end0
      exact ⟨rfl, by rw [Nat.add_zero, HE.out] at hown; exact hown, htu⟩
    | succ m =>
      have hm1 : (((m + 1 : Nat) : Int) - 1) = (m : Int) := by omega
      rw [hm1]
      have hln : (vals (spl xs (o + (m + 1)) (bytesB j n))).length = N := by have := hown.1; omega
      have hcell : ∃ v, wr.cell? ⟨g, o + m, none⟩ = some v := by
        refine ⟨(vals (spl xs (o + (m + 1)) (bytesB j n)))[o + m]'(by omega), ?_⟩
        rw [hown.cellAt _ (by omega), List.getElem?_eq_getElem]
      obtain ⟨v0, hc1⟩ := hcell
      have hf1 : wr.frozen? ⟨g, o + m, none⟩ = false := hown.frozenAt _
      have HQ2 : Hid (q / 256 = n / 256 ^ (j + 1) ∧ m + (j + 1) = k) := by
        refine ⟨?_, by have := HQ.out.2; omega⟩
        rw [HQ.out.1, Nat.div_div_eq_div_mul, Nat.pow_succ]
      have HST : Hid ((wr.setCell ⟨g, o + m, none⟩ (.int .u8 ((q : Int) % 256))).ownsRow B 5 1 (.slice (some ⟨g, 0, none⟩) N C) N (vals (spl xs (o + m) (bytesB (j + 1) n)))) := by
        have hs := (hown.stored (o + m) (.int .u8 ((q : Int) % 256))).1
        have e : ((q : Int) % 256) = ((q % 256 : Nat) : Int) := by omega
        have hsl : (spl xs (o + (m + 1)) (bytesB j n)).length = N := by rw [vals_length] at hln; exact hln
        have hj : (bytesB j n).length = j := bytesB_length j n
        have hb : (bytesB (j + 1) n) = [q % 256] ++ bytesB j n := by rw [bytesB_cons, HQ.out.1]; rfl
        show (wr.setCell _ _).ownsRow _ _ _ _ _ _
        rw [e] at hs ⊢
        rw [← vals_set1, spl_set _ (by rw [hsl]; omega)] at hs
        rw [hb]
        have hk := HQ.out.2
        have key : spl (spl xs (o + (m + 1)) (bytesB j n)) (o + m) [q % 256] = spl xs (o + m) ([q % 256] ++ bytesB j n) := by
          have h3 := HXL.out
          refine List.ext_getElem? fun t => ?_
          unfold spl
          have hA : (xs.take (o + (m + 1))).length = o + (m + 1) := by rw [List.length_take, Nat.min_eq_left (by omega)]
          have hA2 : (xs.take (o + m)).length = o + m := by rw [List.length_take, Nat.min_eq_left (by omega)]
          have h1 : (xs.take (o + (m + 1)) ++ bytesB j n ++ xs.drop (o + (m + 1) + (bytesB j n).length)).take (o + m) = xs.take (o + m) := by
            rw [List.append_assoc, List.take_append_of_le_length (by omega), List.take_take, Nat.min_eq_left (by omega)]
          have h2 : (xs.take (o + (m + 1)) ++ bytesB j n ++ xs.drop (o + (m + 1) + (bytesB j n).length)).drop (o + m + [q % 256].length) = bytesB j n ++ xs.drop (o + (m + 1) + (bytesB j n).length) := by
            rw [List.append_assoc, List.drop_append, List.drop_of_length_le (by rw [hA, List.length_singleton]; omega), hA, List.nil_append, show o + m + [q % 256].length - (o + (m + 1)) = 0 from by rw [List.length_singleton]; omega, List.drop_zero]
          rw [h1, h2, List.append_assoc, List.append_assoc, show o + m + ([q % 256] ++ bytesB j n).length = o + (m + 1) + (bytesB j n).length from by simp; omega, List.append_assoc]
        rw [key] at hs
        exact hs
      have HTU : Hid (Turned w (wr.setCell ⟨g, o + m, none⟩ (.int .u8 ((q : Int) % 256))) g) := htu.trans2 (Turned.setCell wr ⟨g, o + m, none⟩ _)
      clear hown htu hln
      go_wp2
      go_roundw
      case rel => exact ⟨m, j + 1, q / 256, val_int (by omega), rfl, by omega, HQ2.out, by omega, HST.out, HTU.out⟩
      case measure => simp [intOf]
end Go.Proofs.Ytikigfjdddgkpaa

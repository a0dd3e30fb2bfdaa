/-
  What New answers, the program's and the reference's; own.
-/
import Derived.Test.YthpbeppfiinooaaBmC
namespace Go.Proofs.Ythpbeppfiinooaa
open Go.RowKit
/-- Bytes that a call answers beside an error: none with one; else the bits are as f says. -/
def Bmp (er : Int) (f : Nat → Bool) (ys : List Nat) : Prop := (er = 0 → Bm ys f) ∧ (er ≠ 0 → ys = [])
theorem Bmp.ext {er : Int} {f g : Nat → Bool} {a b : List Nat} (ha : Bmp er f a) (hb : Bmp er g b) (h : er = 0 → ∀ i, i < 2048 → f i = g i) : a = b := by
  by_cases e : er = 0
  · exact (ha.1 e).ext (hb.1 e) (h e)
  · rw [ha.2 e, hb.2 e]
/-- A call's bytes and error. -/
def RetB (w : World) (er : Int) (f : Nat → Bool) (e : Ending) (w' : World) : Prop :=
  ∃ p n c ys, e = .returned (.tuple #[.slice p n c, .int .i64 er]) ∧ In w' p n c ys ∧ Bmp er f ys ∧ Below w.heap.size w w'
theorem RetB.err {w w' : World} {er : Int} (f : Nat → Bool) (h : er ≠ 0) (hb : Below w.heap.size w w') : RetB w er f (.returned (.tuple #[.slice none 0 0, .int .i64 er])) w' :=
  ⟨none, 0, 0, [], rfl, In.empty _, ⟨fun e => absurd e h, fun _ => rfl⟩, hb⟩
theorem RetB.ok {w w' : World} {f : Nat → Bool} {g c : Nat} {ys : List Nat} (ho : w'.ownsRow w.heap.size 5 1 (.slice (some ⟨g, 0, none⟩) 256 c) 256 (vals ys)) (hm : Bm ys f) (hb : Below w.heap.size w w') : RetB w 0 f (.returned (.tuple #[.slice (some ⟨g, 0, none⟩) 256 c, .int .i64 0])) w' := by
  obtain ⟨p, c, hv, hin⟩ := in_of_owns ho hm.byte (by decide)
  cases hv
  exact ⟨_, _, _, ys, rfl, hin, ⟨fun _ => hm, fun h => absurd rfl h⟩, hb⟩
theorem zerosV_vals (n : Nat) : zerosV n = vals (List.replicate n 0) := by simp [zerosV, vals]
theorem own_any (p : Option Addr) (c : Nat) (xs : List Nat) (w : World) (hx : In w p 256 c xs) :
    Calls Try.prog 39 #[.slice p 256 c] w fun e w' => e = .returned (.slice (some ⟨w.heap.size, 0, none⟩) 256 256) ∧ w'.ownsRow w.heap.size 5 1 (.slice (some ⟨w.heap.size, 0, none⟩) 256 256) 256 (vals xs) ∧ Below w.heap.size w w' := by
  have HT : Hid (xs.take 256 = xs) := List.take_of_length_le (by rw [hx.len]; exact Nat.le_refl _)
  obtain ⟨i0, hi, hz0, hz1, hz2⟩ := info_parts info5
  go_enter Try.func39, Try.ntmps39
  go_wp2_with (at_make; refine wpList_make_full _ rfl _ _ 22 rfl w.heap.size 5 i0 (.int .u8 0) 1 Try.underlying22 hi hz0 hz1 .i64 .i64 _ _ 256 rfl rfl rfl rfl (by rw [hz2]; omega) (by decide) (Nat.le_refl _) ?_; intro w1 hown1 hgrow1; obtain ⟨w2, hcp, hown2, hbel2⟩ := copy_run (Nat.le_refl _) (made_block hown1) (below_grown0 hgrow1) (hx.below (below_grown0 hgrow1)) (Nat.le_refl 256) (by decide))
  go_ret
  rw [HT.out] at hown2
  exact ⟨rfl, hown2, hbel2⟩
/-- The bits from n up to n + k. -/
def fTo (n k i : Nat) : Bool := decide (n ≤ i) && decide (i < n + k)
theorem fTo_next (n k i : Nat) : (if i = n + k then !fTo n k (n + k) else fTo n k i) = fTo n (k + 1) i := by
  unfold fTo
  split
  · rename_i h; subst h; simp
  · rename_i h
    by_cases h1 : n ≤ i <;> by_cases h2 : i < n + k <;> simp [h1, h2] <;> omega
theorem fTo_or (n k i : Nat) : (if i = n + k then true else fTo n k i) = fTo n (k + 1) i := by
  rw [← fTo_next]
  split
  · simp [fTo]
  · rfl
/-- The bits from n on. -/
def fFrom (n i : Nat) : Bool := decide (n ≤ i)
theorem fTo_all (n k : Nat) (h : n + k = 2048) (i : Nat) (hi : i < 2048) : fTo n k i = fFrom n i := by
  unfold fTo fFrom
  simp; intro _; omega
theorem new_no (n : Int) (w : World) (h : ¬ (0 ≤ n ∧ n ≤ 2048)) (f : Nat → Bool) : Calls Try.prog 8 #[.int .i64 n] w (RetB w 1 f) := by
  have hmh := mayHave_any n w
  rw [show (decide (0 ≤ n) && decide (n ≤ 2048)) = false by simp; omega] at hmh
  go_enter Try.func8, Try.ntmps8
  go_wp2_with (go_at_call 31; refine hmh.mono ?_; rintro e w1 ⟨rfl, hw'⟩; have hw2 := hw'.symm; subst hw2; clear hw')
  go_ret2
  exact RetB.err f (by decide) (Below.refl _ _)
theorem new_ok (n0 : Nat) (w : World) (h : n0 ≤ 2048) : Calls Try.prog 8 #[.int .i64 (n0 : Int)] w (RetB w 0 (fFrom n0)) := by
  have hmh := mayHave_any (n0 : Int) w
  rw [show (decide (0 ≤ (n0 : Int)) && decide ((n0 : Int) ≤ 2048)) = true by simp; omega] at hmh
  obtain ⟨i0, hi, hz0, hz1, hz2⟩ := info_parts info5
  obtain ⟨N, hN⟩ : ∃ N, N = 2048 - n0 := ⟨_, rfl⟩
  have hN1 : IntKind.i64.wrap (2048 - (n0 : Int)) = (N : Int) := by rw [IntKind.wrap_i64]; omega
  have HN : Hid (n0 + N = 2048) := by show _ = _; omega
  have hN2 : (n0 : Int) + (N : Int) ≤ 2048 := by omega
  clear hN h
  go_enter Try.func8, Try.ntmps8
  go_wp2_with (first
    | (go_at_call 31; refine hmh.mono ?_; rintro e w1 ⟨rfl, hw'⟩; have hw2 := hw'.symm; subst hw2; clear hw')
    | (at_make; refine wpList_make_full _ rfl _ _ 22 rfl w.heap.size 5 i0 (.int .u8 0) 1 Try.underlying22 hi hz0 hz1 .i64 .i64 _ _ 256 rfl rfl rfl rfl (by rw [hz2]; omega) (by decide) (Nat.le_refl _) ?_; intro w1 hown1 hgrow1))
  have hb1 := below_grown0 hgrow1
  have ho1 : w1.ownsRow w.heap.size 5 1 (.slice (some ⟨w.heap.size, 0, none⟩) 256 256) 256 (vals (List.replicate 256 0)) := by
    rw [← zerosV_vals]; exact owns_of_block (Nat.le_refl _) (zerosV_length 256) (by decide) (made_block hown1)
  clear hmh hown1 hgrow1
  go_loopw [12] (fun i wr => ∃ k : Nat, k ≤ N ∧ i = .int .i64 k ∧ (∃ ys, wr.ownsRow w.heap.size 5 1 (.slice (some ⟨w.heap.size, 0, none⟩) 256 256) 256 (vals ys) ∧ Bm ys (fTo n0 k)) ∧ Below w.heap.size w wr) (fun i _ => N - (intOf i).toNat)
  case atStart => exact ⟨0, Nat.zero_le _, rfl, ⟨_, ho1, Bm.zero.of fun i _ => by unfold fTo; simp⟩, hb1⟩
  case round =>
    obtain ⟨k, hk, rfl, ⟨ys, ho, hm⟩, hb⟩ := hrel
    clear ho1 hb1
    by_cases hlt : k < N
    · have hnk : n0 + k < 2048 := by have := HN.out; omega
      have ht := turn_any w.heap.size w.heap.size 256 ys (n0 + k) wr (Nat.le_refl _) ho hm.byte (by decide) (by omega)
      have hm2 := (hm.flip hnk).of fun i _ => fTo_next n0 k i
      have HNK : Hid (n0 + k < 2048) := hnk
      clear ho hm hnk
      go_wp2_with (go_at_call 32; refine ht.mono ?_; rintro e w2 ⟨rfl, ho2, hb2⟩)
      go_roundw
      case rel => exact ⟨k + 1, by omega, by go_num, ⟨_, ho2, hm2⟩, hb.trans hb2⟩
      case measure => simp [intOf]; omega
    · obtain rfl : k = N := by omega
      go_wp2
      go_ret2
      exact RetB.ok ho (hm.of fun i hi => fTo_all n0 k HN.out i hi) hb
theorem or_bitL {xs : List Nat} (h : ∀ x ∈ xs, x < 256) (i : Nat) : (vals xs).set (i / 8) (.int .u8 (bits .or .u8 (el xs (i / 8)) (2 ^ (i % 8) % 256))) = vals (orL xs i) := by
  unfold orL
  rw [vals_set, show ((2 : Int) ^ (i % 8) % 256) = 1 * 2 ^ (i % 8) % 256 by rw [Int.one_mul]]
  unfold el
  rw [or_bit _ _ (getD_byte h _) (by omega)]
theorem rnew_no (n : Int) (w : World) (h : ¬ (0 ≤ n ∧ n ≤ 2048)) (f : Nat → Bool) : Calls Try.prog 9 #[.int .i64 n] w (RetB w 1 f) := by
  by_cases h0 : n < 0
  · go_enter Try.func9, Try.ntmps9
    go_wp2
    go_ret2
    exact RetB.err f (by decide) (Below.refl _ _)
  · have h1 : n > 2048 := by omega
    go_enter Try.func9, Try.ntmps9
    go_wp2
    go_ret2
    exact RetB.err f (by decide) (Below.refl _ _)
theorem rnew_own (n0 : Nat) (w : World) (h : n0 ≤ 2048) : Calls Try.prog 9 #[.int .i64 (n0 : Int)] w fun e w' => e = .returned (.tuple #[.slice (some ⟨w.heap.size, 0, none⟩) 256 256, .int .i64 0]) ∧ (∃ ys, w'.ownsRow w.heap.size 5 1 (.slice (some ⟨w.heap.size, 0, none⟩) 256 256) 256 (vals ys) ∧ Bm ys (fFrom n0)) ∧ Below w.heap.size w w' := by
  have h0 : ¬ (n0 : Int) < 0 := by omega
  have h1 : ¬ (n0 : Int) > 2048 := by omega
  obtain ⟨i0, hi, hz0, hz1, hz2⟩ := info_parts info5
  go_enter Try.func9, Try.ntmps9
  go_wp2_with (at_make; refine wpList_make_full _ rfl _ _ 22 rfl w.heap.size 5 i0 (.int .u8 0) 1 Try.underlying22 hi hz0 hz1 .i64 .i64 _ _ 256 rfl rfl rfl rfl (by rw [hz2]; omega) (by decide) (Nat.le_refl _) ?_; intro w1 hown1 hgrow1)
  have hb1 := below_grown0 hgrow1
  have ho1 : w1.ownsRow w.heap.size 5 1 (.slice (some ⟨w.heap.size, 0, none⟩) 256 256) 256 (vals (List.replicate 256 0)) := by
    rw [← zerosV_vals]; exact owns_of_block (Nat.le_refl _) (zerosV_length 256) (by decide) (made_block hown1)
  clear hown1 hgrow1 h0 h1
  go_loopw [5] (fun i wr => ∃ k : Nat, Hid (n0 + k ≤ 2048) ∧ i = .int .i64 ((n0 + k : Nat) : Int) ∧ (∃ ys, wr.ownsRow w.heap.size 5 1 (.slice (some ⟨w.heap.size, 0, none⟩) 256 256) 256 (vals ys) ∧ Bm ys (fTo n0 k)) ∧ Below w.heap.size w wr) (fun i _ => 2048 - (intOf i).toNat)
  case atStart => exact ⟨0, h, rfl, ⟨_, ho1, Bm.zero.of fun i _ => by unfold fTo; simp⟩, hb1⟩
  case round =>
    obtain ⟨k, HK, rfl, ⟨ys, ho, hm⟩, hb⟩ := hrel
    clear ho1 hb1
    by_cases hlt : n0 + k < 2048
    · have hm2 := (hm.or hlt).of fun i _ => fTo_or n0 k i
      obtain ⟨q, hq⟩ : ∃ q, q = n0 + k := ⟨_, rfl⟩
      rw [← hq] at hlt hm2 ⊢
      have hl := hm.len
      have hc1 : wr.cell? ⟨w.heap.size, q / 8, none⟩ = some (.int .u8 (el ys (q / 8))) := by
        rw [ho.cellAt _ (by omega), vals_get _ _ (by omega)]
      have hf1 : wr.frozen? ⟨w.heap.size, q / 8, none⟩ = false := ho.frozenAt _
      have hst := ho.stored (q / 8) (.int .u8 (bits .or .u8 (el ys (q / 8)) (2 ^ (q % 8) % 256)))
      rw [or_bitL hm.byte q] at hst
      have HST : Hid (World.ownsRow _ w.heap.size 5 1 (.slice (some ⟨w.heap.size, 0, none⟩) 256 256) 256 (vals (orL ys q))) := hst.1
      have hq8 : (q : Int) / 8 < 256 := by omega
      have hlt1 : (q : Int) < 2048 := by omega
      have HQ : Hid (q = n0 + k) := hq
      have HLT : Hid (q < 2048) := hlt
      clear hst hl ho hm hq hlt h
      go_wp2
      go_roundw
      case rel => exact ⟨k + 1, by show _ ≤ _; have := HQ.out; have := HLT.out; omega, val_int (by have := HQ.out; omega), ⟨_, HST.out, hm2⟩, hb.setCell (p := ⟨w.heap.size, q / 8, none⟩) (Nat.le_refl _) _⟩
      case measure => have := HLT.out; simp [intOf]; omega
    · have hlt1 : ¬ ((n0 + k : Nat) : Int) < 2048 := by omega
      have hnk : n0 + k = 2048 := by have := HK.out; omega
      have HNK : Hid (n0 + k = 2048) := hnk
      clear hnk hlt h
      generalize ((n0 + k : Nat) : Int) = q at *
      go_wp2
      go_ret2
      exact ⟨rfl, ⟨_, ho, hm.of fun i hi => fTo_all n0 k HNK.out i hi⟩, hb⟩
theorem rnew_ok (n0 : Nat) (w : World) (h : n0 ≤ 2048) : Calls Try.prog 9 #[.int .i64 (n0 : Int)] w (RetB w 0 (fFrom n0)) := by
  refine (rnew_own n0 w h).mono ?_
  rintro e w' ⟨rfl, ⟨ys, ho, hm⟩, hb⟩
  exact RetB.ok ho hm hb
end Go.Proofs.Ythpbeppfiinooaa

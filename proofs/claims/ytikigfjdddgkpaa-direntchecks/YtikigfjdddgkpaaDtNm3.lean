/-
  What strings.IndexAny and ContainsAny answer about the bytes 0 and 47, in any string.
-/
import Derived.Test.YtikigfjdddgkpaaDtNm2
import Derived.Lib.OthersKept
namespace Go.Proofs.Ytikigfjdddgkpaa
open Go.RowKit Go.Shelf Go.Lib
/-- What IndexRune answers for any rune above 127. -/
theorem indexRune_any (r : Int) (w : World) (h : 128 ≤ r) : Calls Try.prog 61 #[.string badS, .int .i32 r] w fun e w' => e = .returned (.int .i64 (-1)) ∧ Below w.heap.size w w' := by
  by_cases he : r = 65533
  · subst he; exact indexRune_err w
  · cases hv : validRune r with
    | false => exact (indexRune_bad r w h he hv).mono fun e w' ⟨h1, h2⟩ => ⟨h1, h2 ▸ Below.refl _ _⟩
    | true => exact (indexRune_high r w h he hv).mono fun e w' ⟨h1, k, h2⟩ => ⟨h1, h2 ▸ below_drewN (Below.refl _ _) k⟩
theorem indexRune_low (r : Int) (w : World) (h0 : 0 ≤ r) (h1 : r < 128) : Calls Try.prog 61 #[.string badS, .int .i32 r] w fun e w' => e = .returned (.int .i64 (Lib.indexByte [0, 47] r.toNat.toUInt8)) ∧ w' = w :=
  Any.strings_IndexRune_ascii { idxAny with } badS r w h0 h1
theorem get_list (s : ByteArray) (j : Nat) (h : j < s.size) : s.get! j = s[j]'h := by have := get_at s j h; simpa using this
/-- A rune of several bytes: all of them are above 127, and it ends within the string. -/
theorem decode_skip (s : ByteArray) (pos : Nat) (h : pos < s.size) (ha : 128 ≤ (s[pos]'h).toNat) :
    pos + (Utf8.decode s pos).2 ≤ s.size ∧ ∀ j, pos ≤ j → j < pos + (Utf8.decode s pos).2 → 128 ≤ (s.get! j).toNat := by
  have hn : ¬ (s[pos]'h).toNat < 128 := by omega
  have g0 := get_list s pos h
  have one : ∀ j, pos ≤ j → j < pos + 1 → 128 ≤ (s.get! j).toNat := fun j h1 h2 => by
    obtain rfl : j = pos := by omega
    rw [g0]; exact ha
  simp only [Utf8.decode, get_at s pos h, hn, if_false]
  split
  · rename_i hc
    simp only [Bool.and_eq_true, decide_eq_true_eq, beq_iff_eq] at hc
    obtain ⟨-, h1, c1⟩ := hc
    split
    · refine ⟨by show pos + 2 ≤ _; omega, fun j h2 h3 => ?_⟩
      have h4 : j < pos + 2 := h3
      rcases (by omega : j = pos ∨ j = pos + 1) with rfl | rfl
      · rw [g0]; exact ha
      · omega
    · exact ⟨by show pos + 1 ≤ _; omega, one⟩
  · split
    · rename_i hc
      simp only [Bool.and_eq_true, decide_eq_true_eq, beq_iff_eq] at hc
      obtain ⟨⟨-, h1, c1⟩, h2, c2⟩ := hc
      split
      · refine ⟨by show pos + 3 ≤ _; omega, fun j h3 h4 => ?_⟩
        have h4 : j < pos + 3 := h4
        rcases (by omega : j = pos ∨ j = pos + 1 ∨ j = pos + 2) with rfl | rfl | rfl
        · rw [g0]; exact ha
        · omega
        · omega
      · exact ⟨by show pos + 1 ≤ _; omega, one⟩
    · split
      · rename_i hc
        simp only [Bool.and_eq_true, decide_eq_true_eq, beq_iff_eq] at hc
        obtain ⟨⟨⟨-, h1, c1⟩, h2, c2⟩, h3, c3⟩ := hc
        split
        · refine ⟨by show pos + 4 ≤ _; omega, fun j h3 h4 => ?_⟩
          have h4 : j < pos + 4 := h4
          rcases (by omega : j = pos ∨ j = pos + 1 ∨ j = pos + 2 ∨ j = pos + 3) with rfl | rfl | rfl | rfl
          · rw [g0]; exact ha
          · omega
          · omega
          · omega
        · exact ⟨by show pos + 1 ≤ _; omega, one⟩
      · exact ⟨by show pos + 1 ≤ _; omega, one⟩
/-- None of the first i bytes is 0 or 47. -/
def NoBad (s : ByteArray) (i : Nat) : Prop := ∀ j, j < i → s.get! j ≠ 0 ∧ s.get! j ≠ 47
theorem bad_no {s : ByteArray} (h : NoBad s s.size) : badB s.data.toList = false := by
  rw [badB, List.any_eq_false]
  intro x hx
  obtain ⟨i, hi, hxi⟩ := List.getElem_of_mem hx
  have hi' : i < s.size := by rw [Array.length_toList] at hi; exact hi
  have := h i hi'
  rw [get_list s i hi'] at this
  have e : s[i] = x := hxi
  rw [e] at this
  simp [this.1, this.2]
theorem bad_yes {s : ByteArray} {i : Nat} (hi : i < s.size) (h : s[i]'hi = 0 ∨ s[i]'hi = 47) : badB s.data.toList = true := by
  rw [badB, List.any_eq_true]
  refine ⟨s[i]'hi, Array.getElem_mem_toList (xs := s.data) hi, ?_⟩
  rcases h with h | h <;> rw [h] <;> decide
theorem idx_bad (x : UInt8) : decide (0 ≤ Lib.indexByte [0, 47] x) = (x == 0 || x == 47) := by
  rw [← Lib.contains_iff_indexByte]
  simp
  rfl
set_option maxHeartbeats 8000000 in
set_option maxRecDepth 1000000 in
theorem indexAny_short (s : ByteArray) (w : World) (h8 : s.size ≤ 8) :
    Calls Try.prog 57 #[.string s, .string badS] w fun e w' => ∃ v, e = .returned (.int .i64 v) ∧ decide (0 ≤ v) = badB s.data.toList ∧ Below w.heap.size w w' := by
  have h8z : decide ((8 : Int) < (s.size : Int)) = false := decide_eq_false (by omega)
  have hus := fun w => Any.strings_shouldUseASCIISet (P := Try.prog) { idxAny with } (s.size : Int) w
  rw [h8z] at hus
  have hemp : badS.toList.isEmpty = false := by rw [ByteArray.toList_eq]; rfl
  go_enter Try.func57, Try.ntmps57
  go_wp2_with (go_at_call 62; refine (hus _).mono ?_; rintro e w' ⟨rfl, hw⟩; rw [hw])
  go_loopg [9, 10] s.size (fun g _ _ wr => ∃ i : Nat, i + g = s.size ∧ wr.heap[w.heap.size]? = some (.stringIter s i) ∧ Below w.heap.size w wr ∧ NoBad s i)
  case atStart => exact ⟨0, by omega, World.iter_heap w s 0, (Below.refl _ _).alloc (Nat.le_refl _) _, fun j hj => absurd hj (Nat.not_lt_zero _)⟩
  case round =>
    obtain ⟨i, hig, hk, hbel, hno⟩ := hrel
    have HN : Hid (NoBad s i) := hno
    clear hno
    have HB : Hid (Below w.heap.size w wr) := hbel
    clear hbel
    cases gk with
    | zero =>
      obtain rfl : i = s.size := by omega
      have hnx := fun ty => run_next_end_at (P := Try.prog) wr w.heap.size s s.size ty hk (by omega)
      go_wp2
      go_ret
      exact ⟨_, rfl, by rw [bad_no HN.out]; rfl, HB.out⟩
    | succ g =>
      have hi : i < s.size := by omega
      by_cases hx128 : (s[i]'hi).toNat < 128
      · have hnx := fun ty => run_next_ascii_at (P := Try.prog) wr w.heap.size s i ty hk hi hx128
        have hk2 := iterAt_heap wr w.heap.size s i (i + 1) hk
        have HB2 : Hid (Below w.heap.size w (wr.iterAt w.heap.size s (i + 1))) := below_iterAt HB.out (Nat.le_refl _) s (i + 1)
        have HS : Hid (((s[i]'hi) == 0 || (s[i]'hi) == 47) = false → NoBad s (i + 1)) := fun h j hj => by
          by_cases e : j = i
          · subst e
            rw [get_list s j hi]
            simpa using h
          · exact HN.out j (by omega)
        have HY : Hid (((s[i]'hi) == 0 || (s[i]'hi) == 47) = true → badB s.data.toList = true) := fun h => bad_yes hi (by simpa using h)
        obtain ⟨x, hx⟩ : ∃ x : UInt8, s[i]'hi = x := ⟨_, rfl⟩
        rw [hx] at hnx hx128 HS HY
        have hcon := idx_bad x
        have hback : ((x.toNat : Int)).toNat.toUInt8 = x := by simp
        generalize hWx : World.iterAt wr w.heap.size s (i + 1) = W at hnx hk2 HB2
        clear hWx hx HB
        cases hin : (x == 0 || x == 47)
        · rw [hin] at hcon
          have hlt : ¬ ((0 : Int) ≤ Lib.indexByte [0, 47] x) := of_decide_eq_false hcon
          have HS1 : Hid (NoBad s (i + 1)) := HS.out hin
          clear hcon hin HS HY
          go_wp2_with (go_at_call 61; refine (indexRune_low _ _ (by omega) (by omega)).mono ?_; rintro e w' ⟨rfl, hw⟩; rw [hw, hback])
          go_roundg g
          case measure => omega
          case rel => exact ⟨i + 1, by omega, hk2, HB2.out, HS1.out⟩
        · rw [hin] at hcon
          have hge : (0 : Int) ≤ Lib.indexByte [0, 47] x := of_decide_eq_true hcon
          have HY1 : Hid (badB s.data.toList = true) := HY.out hin
          clear hcon hin HS HY
          go_wp2_with (go_at_call 61; refine (indexRune_low _ _ (by omega) (by omega)).mono ?_; rintro e w' ⟨rfl, hw⟩; rw [hw, hback])
          go_ret
          exact ⟨_, rfl, by rw [HY1.out, decide_eq_true_eq]; omega, HB2.out⟩
      · obtain ⟨d1, d2⟩ := decode_high s i hi (by omega)
        obtain ⟨d3, d4⟩ := decode_skip s i hi (by omega)
        have hnx := fun ty => run_next_any_at (P := Try.prog) wr w.heap.size s i ty hk hi
        obtain ⟨r, hr⟩ : ∃ r : Nat, (Utf8.decode s i).1 = r := ⟨_, rfl⟩
        obtain ⟨j, hj⟩ : ∃ j : Nat, i + (Utf8.decode s i).2 = j := ⟨_, rfl⟩
        rw [hr] at d1 hnx
        rw [hj] at d3 d4 hnx
        have hij : i < j := by omega
        have hk2 := iterAt_heap wr w.heap.size s i j hk
        have HB2 : Hid (Below w.heap.size w (wr.iterAt w.heap.size s j)) := below_iterAt HB.out (Nat.le_refl _) s j
        have HS1 : Hid (NoBad s j) := fun m hm => by
          by_cases e : m < i
          · exact HN.out m e
          · have := d4 m (by omega) hm
            constructor <;> intro h0 <;> rw [h0] at this <;> exact absurd this (by decide)
        have hri : (128 : Int) ≤ (r : Int) := by omega
        generalize hWx : World.iterAt wr w.heap.size s j = W at hnx hk2 HB2
        have hlt : w.heap.size < W.heap.size := (Array.getElem?_eq_some_iff.1 hk2).1
        clear hWx hr hj d2 d4 HB hx128 HN
        go_wp2_with (go_at_call 61; refine (indexRune_any _ _ hri).mono ?_; rintro e w' ⟨rfl, hw⟩; have hk3 := (hw.block _ hlt).trans hk2; have HB3 : Hid (Below w.heap.size w w') := HB2.out.trans (hw.mono (by omega)))
        go_roundg (s.size - j)
        case measure => omega
        case rel => exact ⟨j, by omega, hk3, HB3.out, HS1.out⟩
end Go.Proofs.Ytikigfjdddgkpaa

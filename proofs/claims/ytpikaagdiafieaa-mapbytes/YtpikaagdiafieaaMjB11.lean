/-
  What Bytes and Parse answer.
-/
import Derived.Test.YtpikaagdiafieaaMjB10
import Derived.Test.YtpikaagdiafieaaMjB6
import Derived.Test.YtpikaagdiafieaaEqual
namespace Go.Proofs.Ytpikaagdiafieaa
open Go.RowKit
/-- What Bytes answers. -/
def bytesR (P : MP) : List Nat × Int := if okMP P then (writeL P, 0) else ([], 62)
theorem bytesR_ok {P : MP} (h : okMP P = true) : bytesR P = (writeL P, 0) := by unfold bytesR; rw [if_pos h]
theorem bytesR_no {P : MP} (h : okMP P = false) : bytesR P = ([], 62) := by unfold bytesR; rw [h]; rfl
def ResB (w : World) (r : List Nat × Int) (e : Ending) (w' : World) : Prop := ∃ p n c, e = .returned (.tuple #[.slice p n c, .int .i64 r.2]) ∧ In w' p n c r.1 ∧ Below w.heap.size w w'
theorem in_of_blk {w : World} {g N : Nat} {xs : List Nat} (h : Blk w g 5 (vals xs)) (hl : xs.length = N) (hb : ∀ x ∈ xs, x < 256) (hN : N ≤ 100000) : In w (some ⟨g, 0, none⟩) N N xs := by
  subst hl
  obtain ⟨p, c, hv, hin⟩ := in_of_owns (owns_of_block (B := 0) (n := xs.length) (Nat.zero_le _) (vals_length xs) (by unfold maxLen; omega) h) hb (by omega)
  cases hv
  exact hin
set_option linter.unusedSimpArgs false in
set_option maxRecDepth 100000 in
set_option maxHeartbeats 2000000 in
theorem bytes_any (V : PV) (P : MP) (w : World) (hP : InP w V P) : Calls Try.prog 34 #[V.val P] w (ResB w (bytesR P)) := by
  have hal := below_alloc w (.cells #[.int .i64 P.kind, .int .i64 P.gen, .int .i64 P.part, .int .i64 P.seq, .slice V.pb V.nb V.cb, .slice V.pw V.nw V.cw, .slice V.pr V.nr V.cr] 42)
  have bp : Blk _ _ _ (PV.cells V P) := Blk.new' w 42 #[.int .i64 P.kind, .int .i64 P.gen, .int .i64 P.part, .int .i64 P.seq, .slice V.pb V.nb V.cb, .slice V.pw V.nw V.cw, .slice V.pr V.nr V.cr]
  obtain ⟨z0, z1, z2, z3, z4, z5, z6⟩ := bp.cells7
  cases hok : okMP P with
  | false =>
    have E : Hid (bytesR P = ([], 62)) := bytesR_no hok
    go_enter Try.func34, Try.ntmps34
    go_wp2_with (go_at_call 65; refine (pageMayBe_any V P _ (hP.below hal)).mono ?_; rw [hok]; rintro e w4 ⟨rfl, hb4⟩)
    go_ret2
    rw [E.out]
    exact ⟨none, 0, 0, rfl, In.empty _, bt hal hb4⟩
  | true =>
    have E : Hid (bytesR P = (writeL P, 0)) := bytesR_ok hok
    have HL : Hid ((writeL P).length = 256) := writeL_length hok
    have HB : Hid (∀ x ∈ writeL P, x < 256) := writeL_byte P
    have HW := fun W (h : InP W V P) => write_any V P W h hok
    have HOK : Hid (okMP P = true) := hok
    generalize writeL P = Y at *
    clear hok
    go_enter Try.func34, Try.ntmps34
    go_wp2_with (first
      | (go_at_call 65; refine (pageMayBe_any V P _ (hP.below hal)).mono ?_; rw [HOK.out]; rintro e w4 ⟨rfl, hb4⟩; have bp4 := bp.kept hb4; obtain ⟨z0, z1, z2, z3, z4, z5, z6⟩ := bp4.cells7)
      | (go_at_call 66; refine (HW _ (hP.below (bt hal hb4))).mono ?_; rintro e w5 ⟨g5, rfl, hg5, hge5, hb5⟩))
    go_ret2
    rw [E.out]
    exact ⟨some ⟨g5, 0, none⟩, 256, 256, rfl, in_of_blk hg5 HL.out HB.out (by decide), bt (bt hal hb4) hb5⟩
/-- What Parse answers. -/
def parseR (xs : List Nat) : MP × Int := if xs.length = 256 ∧ okMP (readP xs) = true ∧ writeL (readP xs) = xs then (readP xs, 0) else (MP.zero, 62)
theorem parseR_back {P : MP} (h : okMP P = true) : parseR (writeL P) = (P, 0) := by
  unfold parseR
  rw [read_back h, if_pos ⟨writeL_length h, h, rfl⟩]
theorem parseR_no {xs : List Nat} (h : ¬ (xs.length = 256 ∧ okMP (readP xs) = true ∧ writeL (readP xs) = xs)) : parseR xs = (MP.zero, 62) := by unfold parseR; rw [if_neg h]
theorem parseR_yes {xs : List Nat} (h : xs.length = 256 ∧ okMP (readP xs) = true ∧ writeL (readP xs) = xs) : parseR xs = (readP xs, 0) := by unfold parseR; rw [if_pos h]
set_option linter.unusedSimpArgs false in
set_option maxRecDepth 100000 in
set_option maxHeartbeats 4000000 in
theorem parse_any (p : Option Addr) (n c : Nat) (xs : List Nat) (w : World) (hb : In w p n c xs) : Calls Try.prog 36 #[.slice p n c] w (ResP w (parseR xs)) := by
  have r0 := Blk.new' w 42 #[.int .i64 0, .int .i64 0, .int .i64 0, .int .i64 0, .slice none 0 0, .slice none 0 0, .slice none 0 0]
  have hb0 := below_alloc w (.cells #[.int .i64 0, .int .i64 0, .int .i64 0, .int .i64 0, .slice none 0 0, .slice none 0 0, .slice none 0 0] 42)
  have HL : Hid (xs.length = n) := hb.len
  by_cases hn : n = 256
  · subst hn
    obtain ⟨gb, ob, rfl, _, _⟩ := hb.at' (by decide)
    have hrd := fun W (h : In W (some ⟨gb, ob, none⟩) 256 c xs) => read_any gb ob c xs W h
    have hy := fun (h1 : okMP (readP xs) = true) (h2 : writeL (readP xs) = xs) => parseR_yes ⟨HL.out, h1, h2⟩
    have hno := fun (h : ¬ (okMP (readP xs) = true ∧ writeL (readP xs) = xs)) => parseR_no (xs := xs) (fun h' => h h'.2)
    generalize readP xs = Q at *
    cases hok : okMP Q with
    | false =>
      have E : Hid (parseR xs = (MP.zero, 62)) := hno (by rw [hok]; simp)
      have HY := fun V W (h : InP W V Q) => bytes_any V Q W h
      rw [bytesR_no hok] at HY
      clear hy hno hok
      go_enter Try.func36, Try.ntmps36
      go_wp2_with (first
        | (go_at_call 69; refine (hrd _ (hb.below hb0)).mono ?_; rintro e w1 ⟨V1, rfl, ho1, hb1⟩; have r1 := (r0.kept hb1).alloc (.cells #[.int .i64 Q.kind, .int .i64 Q.gen, .int .i64 Q.part, .int .i64 Q.seq, .slice V1.pb V1.nb V1.cb, .slice V1.pw V1.nw V1.cw, .slice V1.pr V1.nr V1.cr] 42); have hal := below_alloc w1 (.cells #[.int .i64 Q.kind, .int .i64 Q.gen, .int .i64 Q.part, .int .i64 Q.seq, .slice V1.pb V1.nb V1.cb, .slice V1.pw V1.nw V1.cw, .slice V1.pr V1.nr V1.cr] 42); have bp1 : Blk _ _ _ (PV.cells V1 Q) := Blk.new' w1 42 #[.int .i64 Q.kind, .int .i64 Q.gen, .int .i64 Q.part, .int .i64 Q.seq, .slice V1.pb V1.nb V1.cb, .slice V1.pw V1.nw V1.cw, .slice V1.pr V1.nr V1.cr]; have hB1 := bt (bt hb0 hb1) hal; have hi1 := (ho1.next hal); obtain ⟨z0, z1, z2, z3, z4, z5, z6⟩ := bp1.cells7)
        | (go_at_call 34; refine (HY V1 _ hi1.inP).mono ?_; rintro e w2 ⟨p2, n2, c2, rfl, hin2, hb2⟩; dsimp only; have r2 := r1.kept hb2)
        | (guard_target = wpList _ _ _ (Oper.mk _ (Op.store 42 (Operand.tmp 2) (Operand.tmp 26)) _ _ _ _ :: _) _ _; refine wpList_store_blk rfl 42 (.tmp 2) (.tmp 26) rfl _ _ (PV.cells PV.zero MP.zero) rfl rfl r2 (by show 7 ≤ 7; decide) (mpSize PV.zero MP.zero) (mpOne PV.zero MP.zero) ?_; intro w9 h9 ht9))
      have h9' : Blk w9 w.heap.size 42 (PV.zero.cells MP.zero) := h9
      refine ret_mpE Try.results36 rfl h9' rfl rfl ?_
      rw [E.out]
      exact ⟨PV.zero, rfl, ownP_zero _ _, ht9.below (bt hB1 hb2) (Nat.le_refl _)⟩
    | true =>
      have HY := fun V W (h : InP W V Q) => bytes_any V Q W h
      rw [bytesR_ok hok] at HY
      cases heq : (writeL Q == xs) with
      | false =>
        have E : Hid (parseR xs = (MP.zero, 62)) := hno (fun h => by rw [h.2] at heq; simp at heq)
        clear hy hno hok
        generalize writeL Q = Y at *
        go_enter Try.func36, Try.ntmps36
        go_wp2_with (first
          | (go_at_call 69; refine (hrd _ (hb.below hb0)).mono ?_; rintro e w1 ⟨V1, rfl, ho1, hb1⟩; have r1 := (r0.kept hb1).alloc (.cells #[.int .i64 Q.kind, .int .i64 Q.gen, .int .i64 Q.part, .int .i64 Q.seq, .slice V1.pb V1.nb V1.cb, .slice V1.pw V1.nw V1.cw, .slice V1.pr V1.nr V1.cr] 42); have hal := below_alloc w1 (.cells #[.int .i64 Q.kind, .int .i64 Q.gen, .int .i64 Q.part, .int .i64 Q.seq, .slice V1.pb V1.nb V1.cb, .slice V1.pw V1.nw V1.cw, .slice V1.pr V1.nr V1.cr] 42); have bp1 : Blk _ _ _ (PV.cells V1 Q) := Blk.new' w1 42 #[.int .i64 Q.kind, .int .i64 Q.gen, .int .i64 Q.part, .int .i64 Q.seq, .slice V1.pb V1.nb V1.cb, .slice V1.pw V1.nw V1.cw, .slice V1.pr V1.nr V1.cr]; have hB1 := bt (bt hb0 hb1) hal; have hi1 := (ho1.next hal); obtain ⟨z0, z1, z2, z3, z4, z5, z6⟩ := bp1.cells7)
          | (go_at_call 34; refine (HY V1 _ hi1.inP).mono ?_; rintro e w2 ⟨p2, n2, c2, rfl, hin2, hb2⟩; dsimp only at hin2 ⊢; have r2 := r1.kept hb2; have hB2 := bt hB1 hb2)
          | (go_at_call 38; refine (equal_any p2 _ n2 c2 256 c Y xs _ hin2 (hb.below hB2)).mono ?_; rw [heq]; rintro e w3 ⟨rfl, hw3⟩; have hw4 := hw3.symm; subst hw4; clear hw3)
          | (guard_target = wpList _ _ _ (Oper.mk _ (Op.store 42 (Operand.tmp 2) (Operand.tmp 26)) _ _ _ _ :: _) _ _; refine wpList_store_blk rfl 42 (.tmp 2) (.tmp 26) rfl _ _ (PV.cells PV.zero MP.zero) rfl rfl r2 (by show 7 ≤ 7; decide) (mpSize PV.zero MP.zero) (mpOne PV.zero MP.zero) ?_; intro w9 h9 ht9))
        have h9' : Blk w9 w.heap.size 42 (PV.zero.cells MP.zero) := h9
        refine ret_mpE Try.results36 rfl h9' rfl rfl ?_
        rw [E.out]
        exact ⟨PV.zero, rfl, ownP_zero _ _, ht9.below hB2 (Nat.le_refl _)⟩
      | true =>
        have E : Hid (parseR xs = (Q, 0)) := hy hok (by simpa using heq)
        clear hy hno hok
        generalize writeL Q = Y at *
        go_enter Try.func36, Try.ntmps36
        go_wp2_with (first
          | (go_at_call 69; refine (hrd _ (hb.below hb0)).mono ?_; rintro e w1 ⟨V1, rfl, ho1, hb1⟩; have r1 := (r0.kept hb1).alloc (.cells #[.int .i64 Q.kind, .int .i64 Q.gen, .int .i64 Q.part, .int .i64 Q.seq, .slice V1.pb V1.nb V1.cb, .slice V1.pw V1.nw V1.cw, .slice V1.pr V1.nr V1.cr] 42); have hal := below_alloc w1 (.cells #[.int .i64 Q.kind, .int .i64 Q.gen, .int .i64 Q.part, .int .i64 Q.seq, .slice V1.pb V1.nb V1.cb, .slice V1.pw V1.nw V1.cw, .slice V1.pr V1.nr V1.cr] 42); have bp1 : Blk _ _ _ (PV.cells V1 Q) := Blk.new' w1 42 #[.int .i64 Q.kind, .int .i64 Q.gen, .int .i64 Q.part, .int .i64 Q.seq, .slice V1.pb V1.nb V1.cb, .slice V1.pw V1.nw V1.cw, .slice V1.pr V1.nr V1.cr]; have hB1 := bt (bt hb0 hb1) hal; have hi1 := (ho1.next hal); obtain ⟨z0, z1, z2, z3, z4, z5, z6⟩ := bp1.cells7)
          | (go_at_call 34; refine (HY V1 _ hi1.inP).mono ?_; rintro e w2 ⟨p2, n2, c2, rfl, hin2, hb2⟩; dsimp only at hin2 ⊢; have r2 := r1.kept hb2; have hB2 := bt hB1 hb2; have hi2 := hi1.next hb2; have bp2 := bp1.kept hb2; obtain ⟨z0, z1, z2, z3, z4, z5, z6⟩ := bp2.cells7)
          | (go_at_call 38; refine (equal_any p2 _ n2 c2 256 c Y xs _ hin2 (hb.below hB2)).mono ?_; rw [heq]; rintro e w3 ⟨rfl, hw3⟩; have hw4 := hw3.symm; subst hw4; clear hw3)
          | (guard_target = wpList _ _ _ (Oper.mk _ (Op.store 42 (Operand.tmp 2) (Operand.tmp 27)) _ _ _ _ :: _) _ _; refine wpList_store_blk rfl 42 (.tmp 2) (.tmp 27) rfl _ _ (PV.cells V1 Q) rfl rfl r2 (by show 7 ≤ 7; decide) (mpSize V1 Q) (mpOne V1 Q) ?_; intro w9 h9 ht9))
        have h9' : Blk w9 w.heap.size 42 (V1.cells Q) := h9
        refine ret_mpE Try.results36 rfl h9' rfl rfl ?_
        rw [E.out]
        exact ⟨V1, rfl, (hi2.low (by rw [World.size_alloc]; omega)).turned ht9 r2 (by decide) (by decide) (by decide), ht9.below hB2 (Nat.le_refl _)⟩
  · have hne : ((n : Int) != 256) = true := by rw [bne_iff_ne]; omega
    have E : Hid (parseR xs = (MP.zero, 62)) := parseR_no (fun h => hn (by rw [← HL.out]; exact h.1))
    clear hn
    go_enter Try.func36, Try.ntmps36
    go_wp2_with (guard_target = wpList _ _ _ (Oper.mk _ (Op.store 42 (Operand.tmp 2) (Operand.tmp 10)) _ _ _ _ :: _) _ _; refine wpList_store_blk rfl 42 (.tmp 2) (.tmp 10) rfl _ _ (PV.cells PV.zero MP.zero) rfl rfl r0 (by show 7 ≤ 7; decide) (mpSize PV.zero MP.zero) (mpOne PV.zero MP.zero) ?_; intro w9 h9 ht9)
    have h9' : Blk w9 w.heap.size 42 (PV.zero.cells MP.zero) := h9
    refine ret_mpE Try.results36 rfl h9' rfl rfl ?_
    rw [E.out]
    exact ⟨PV.zero, rfl, ownP_zero _ _, ht9.below hb0 (Nat.le_refl _)⟩
end Go.Proofs.Ytpikaagdiafieaa

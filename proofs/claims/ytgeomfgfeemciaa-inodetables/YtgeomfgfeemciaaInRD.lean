/-
  What the reference's Decode of inodes answers.
-/
import Derived.Test.YtgeomfgfeemciaaInRE
import Derived.Test.YtgeomfgfeemciaaInQ2
import Derived.Test.YtgeomfgfeemciaaInD
import Derived.Test.YtgeomfgfeemciaaInG
import Derived.Test.YtgeomfgfeemciaaLyRFresh
import Derived.Test.YtgeomfgfeemciaaInBk
namespace Go.Proofs.Ytgeomfgfeemciaa
open Go.RowKit
theorem hH_vals {xs : List Nat} (h : 24 ≤ xs.length) : (unpackL hW (xs.take 24)).length = 8 ∧ ∀ i, i < 8 → el (unpackL hW (xs.take 24)) i = (fI xs i : Int) := by
  have := unpack_take (xs := xs) hW_ok h_end (by rw [hW_bytes]; exact h)
  rw [hW_bytes] at this
  rw [this]
  refine ⟨by rw [valsTo_length]; rfl, fun i hi => ?_⟩
  unfold el
  rw [valsTo_getD hW _ i hi, head_field xs i hi]
theorem hR_vals {xs : List Nat} {k : Nat} (hk : k < 4) (h : 24 + 9 * k + 9 ≤ xs.length) : (unpackL rW ((xs.drop (24 + 9 * k)).take 9)).length = 3 ∧ ∀ i, i < 3 → el (unpackL rW ((xs.drop (24 + 9 * k)).take 9)) i = (fI xs (8 + 3 * k + i) : Int) := by
  have := unpack_take (xs := xs.drop (24 + 9 * k)) rW_ok r_end (by rw [rW_bytes, List.length_drop]; omega)
  rw [rW_bytes] at this
  rw [this]
  refine ⟨by rw [valsTo_length]; rfl, fun i hi => ?_⟩
  unfold el
  rw [valsTo_getD rW _ i hi, root_field xs k i hk hi]
def Ch (b o : Nat) (xs : List Nat) (X : World) : Prop := b < X.heap.size ∧ ∀ i, i < 8 → X.cell? ⟨b, o + i, none⟩ = some (.int .u64 (fI xs i : Int))
theorem Ch.below {b o : Nat} {xs : List Nat} {X Y : World} (h : Ch b o xs X) (hb : Below X.heap.size X Y) : Ch b o xs Y :=
  ⟨Nat.lt_of_lt_of_le h.1 hb.size, fun i hi => (hb.cell (p := ⟨b, o + i, none⟩) h.1).trans (h.2 i hi)⟩
theorem Ch.low {b o B : Nat} {xs : List Nat} {X Y : World} (h : Ch b o xs X) (hb : Below B X Y) (hB : b < B) : Ch b o xs Y :=
  ⟨Nat.lt_of_lt_of_le h.1 hb.size, fun i hi => (hb.cell (p := ⟨b, o + i, none⟩) hB).trans (h.2 i hi)⟩
theorem Ch.turned {b o g : Nat} {xs : List Nat} {X Y : World} (h : Ch b o xs X) (ht : Turned X Y g) (hne : b ≠ g) : Ch b o xs Y :=
  ⟨by rw [ht.size]; exact h.1, fun i hi => (World.cell?_of_block (a := ⟨b, o + i, none⟩) (ht.block b hne)).trans (h.2 i hi)⟩
def C3 (b o : Nat) (x y z : Nat) (X : World) : Prop := b < X.heap.size ∧ X.cell? ⟨b, o, none⟩ = some (.int .u64 (x : Int)) ∧ X.cell? ⟨b, o + 1, none⟩ = some (.int .u64 (y : Int)) ∧ X.cell? ⟨b, o + 2, none⟩ = some (.int .u64 (z : Int))
theorem C3.below {b o x y z : Nat} {X Y : World} (h : C3 b o x y z X) (hb : Below X.heap.size X Y) : C3 b o x y z Y :=
  ⟨Nat.lt_of_lt_of_le h.1 hb.size, (hb.cell (p := ⟨b, o, none⟩) h.1).trans h.2.1, (hb.cell (p := ⟨b, o + 1, none⟩) h.1).trans h.2.2.1, (hb.cell (p := ⟨b, o + 2, none⟩) h.1).trans h.2.2.2⟩
theorem C3.grown {b o x y z : Nat} {X Y : World} {row : Option Nat} (h : C3 b o x y z X) (hg : X.grownBy Y row) (hne : some b ≠ row) : C3 b o x y z Y := by
  have hk := fun j => World.cell?_of_block (a := ⟨b, j, none⟩) (hg.block b h.1 hne)
  exact ⟨Nat.lt_of_lt_of_le h.1 hg.size, (hk _).trans h.2.1, (hk _).trans h.2.2.1, (hk _).trans h.2.2.2⟩
theorem C3.turned {b o x y z g : Nat} {X Y : World} (h : C3 b o x y z X) (ht : Turned X Y g) (hne : b ≠ g) : C3 b o x y z Y := by
  have hk := fun j => World.cell?_of_block (a := ⟨b, j, none⟩) (ht.block b hne)
  exact ⟨by rw [ht.size]; exact h.1, (hk _).trans h.2.1, (hk _).trans h.2.2.1, (hk _).trans h.2.2.2⟩
set_option linter.unusedSimpArgs false in
set_option linter.unusedVariables false in
set_option maxRecDepth 100000 in
set_option maxHeartbeats 8000000 in
theorem rdecode14_any (p : Option Addr) (n c : Nat) (xs : List Nat) (w : World) (hx : In w p n c xs) :
    Calls Try.prog 11 #[.slice p n c] w fun e w' => ∃ p' n' c', e = .returned (.tuple #[(decI xs).val p' n' c', .int .i64 (decE xs)]) ∧ InE w' p' n' c' (decI xs).rt ∧ Below w.heap.size w w' ∧ ∀ a, p' = some a → w.heap.size ≤ a.block := by
  have hb0 := below_alloc w (.cells #[.int .i64 0, .int .i64 0, .int .i64 0, .int .i64 0, .int .i64 0, .int .i64 0, .slice none 0 0] 24)
  have r0 := Blk.new' w 24 #[.int .i64 0, .int .i64 0, .int .i64 0, .int .i64 0, .int .i64 0, .int .i64 0, .slice none 0 0]
  have HL : Hid (xs.length = n) := hx.len
  by_cases hn : n = 64
  · subst hn
    have hcap := hx.cap
    obtain ⟨b, o, hpe, hbl, -⟩ := hx.at' (by decide)
    subst hpe
    obtain ⟨hvl, hvs⟩ := hH_vals (xs := xs) (by rw [HL.out]; decide)
    have HVL : Hid _ := hvl
    have HVS : Hid _ := hvs
    have HL3 : Hid _ := fI_lt3 xs
    have HRT : Hid _ := rtL_succ xs
    have HRE : Hid (∀ k, rdE xs k = ⟨(fI xs (8 + 3 * k) : Int), (fI xs (9 + 3 * k) : Int), (fI xs (10 + 3 * k) : Int)⟩) := fun k => rfl
    have HRV : Hid (∀ k, k < 4 → (unpackL rW ((xs.drop (24 + 9 * k)).take 9)).length = 3 ∧ ∀ i, i < 3 → el (unpackL rW ((xs.drop (24 + 9 * k)).take 9)) i = (fI xs (8 + 3 * k + i) : Int)) := fun k hk => hR_vals hk (by rw [HL.out]; omega)
    clear hvl hvs
    obtain ⟨hf0, hf1, hf2, hf4, hf5, hf6, hf7⟩ := fI_lt xs
    have HFAR : Hid (decB xs = true → fI xs 2 ≤ 4 ∧ fI xs 5 ≤ 16777216) := dec_far
    have HRD : Hid (fI xs 2 ≤ 4 → fI xs 5 ≤ 16777216 → rdI xs = ⟨(fI xs 0 : Int), (fI xs 4 : Int), (fI xs 5 : Int), (fI xs 6 : Int), (fI xs 7 : Int), (fI xs 1 : Int), rtL xs (fI xs 2)⟩) := fun h1 h2 => by
      unfold rdI
      rw [Nat.min_eq_left h1, wrapI _ (by omega)]; rfl
    go_enter Try.func11, Try.ntmps11
    go_upto_region 3 with fail
    generalize hWW : w.alloc (.cells #[.int .i64 0, .int .i64 0, .int .i64 0, .int .i64 0, .int .i64 0, .int .i64 0, .slice none 0 0] 24) = W3 at *
    have hx3 := hx.below hb0
    refine wp_region_noPanic ?_
    refine wp_region_held_drew (S := (fun Y => Below W3.heap.size W3 Y)) (by kernel_rfl) (Below.refl _ _).drew (fun hHeld => ?_)
    refine wpAnyH_take (i := 1) (v := ?_) rfl (by kernel_rfl) (by kernel_rfl) (by kernel_rfl) (fun _ _ _ h => h) (Or.inl ⟨by rfl, ?_⟩) hHeld ?_
    rotate_left
    · intro w' hSw; try dsimp only at hSw
      go_simp; try (with_reducible rfl)
    try simp only [Act.put, List.getElem_toArray, List.getElem_cons_succ, List.getElem_cons_zero, List.setIfInBounds_toArray, List.set_cons_zero, List.set_cons_succ]
    refine wpAnyH_take (i := 2) (v := ?_) rfl (by kernel_rfl) (by kernel_rfl) (by kernel_rfl) (fun _ _ _ h => h) (Or.inl ⟨by rfl, ?_⟩) hHeld ?_
    rotate_left
    · intro w' hSw; try dsimp only at hSw
      have hsl : (Instr.slice 25 (.slice (some ⟨b, o, none⟩) 64 c) none (some (.int .i64 24)) none).run Try.prog w' = .ok (.slice (some ⟨b, o, none⟩) 24 c) w' := slice_front (some ⟨b, o, none⟩) 64 c 24 (by omega) hcap w'
      go_simp; try (with_reducible rfl)
    try simp only [Act.put, List.getElem_toArray, List.getElem_cons_succ, List.getElem_cons_zero, List.setIfInBounds_toArray, List.set_cons_zero, List.set_cons_succ]
    refine wpAnyH_ready (rs := [0]) (by kernel_rfl) (by simp) ?_
    refine AllReadyH.cons rfl (fun K hK => ?_) AllReadyH.nil
    go_simp
    refine (headW_any _).mono ?_
    rintro e w3 ⟨p3, rfl, hin3, hb3⟩
    have hS3 := bt hHeld hb3
    refine hK.out _ _ hS3 (fun hHeld => ?_)
    clear hK K
    try simp only [Act.put, List.getElem_toArray, List.getElem_cons_succ, List.getElem_cons_zero, List.setIfInBounds_toArray, List.set_cons_zero, List.set_cons_succ]
    refine wpAnyH_ready (rs := [3]) (by kernel_rfl) (by simp) ?_
    refine AllReadyH.cons rfl (fun K hK => ?_) AllReadyH.nil
    go_simp
    refine (refUnpack_any p3 (some ⟨b, o, none⟩) 8 8 24 c hW (xs.take 24) _ hin3 (((hx.below hb0).front 24 (by omega)).below hHeld)).mono ?_
    rintro e w7 ⟨p7, n7, c7, rfl, hin7, hb7⟩
    have hB7 := bt hHeld hb7
    refine hK.out _ _ hB7 (fun hHeld => ?_)
    clear hK K
    try simp only [Act.put, List.getElem_toArray, List.getElem_cons_succ, List.getElem_cons_zero, List.setIfInBounds_toArray, List.set_cons_zero, List.set_cons_succ]
    refine wpAnyH_take (i := 4) (v := ?_) rfl (by kernel_rfl) (by kernel_rfl) (by kernel_rfl) (fun _ _ _ h => h) (Or.inl ⟨by rfl, ?_⟩) hHeld ?_
    rotate_left
    · intro w' hSw; try dsimp only at hSw
      go_simp; try (with_reducible rfl)
    try simp only [Act.put, List.getElem_toArray, List.getElem_cons_succ, List.getElem_cons_zero, List.setIfInBounds_toArray, List.set_cons_zero, List.set_cons_succ]
    refine wpAnyH_take (i := 5) (v := ?_) rfl (by kernel_rfl) (by kernel_rfl) (by kernel_rfl) (fun _ _ _ h => h) (Or.inl ⟨by rfl, ?_⟩) hHeld ?_
    rotate_left
    · intro w' hSw; try dsimp only at hSw
      go_simp; try (with_reducible rfl)
    try simp only [Act.put, List.getElem_toArray, List.getElem_cons_succ, List.getElem_cons_zero, List.setIfInBounds_toArray, List.set_cons_zero, List.set_cons_succ]
    refine wpAnyH_take (i := 6) (v := ?_) rfl (by kernel_rfl) (by kernel_rfl) (by kernel_rfl) (fun _ _ _ h => h) (Or.inl ⟨by rfl, ?_⟩) hHeld ?_
    rotate_left
    · intro w' hSw; try dsimp only at hSw
      go_simp; try (with_reducible rfl)
    try simp only [Act.put, List.getElem_toArray, List.getElem_cons_succ, List.getElem_cons_zero, List.setIfInBounds_toArray, List.set_cons_zero, List.set_cons_succ]
    refine wpAnyH_take (i := 7) (v := ?_) rfl (by kernel_rfl) (by kernel_rfl) (by kernel_rfl) (fun _ _ _ h => h) (Or.inl ⟨by rfl, ?_⟩) hHeld ?_
    rotate_left
    · intro w' hSw; try dsimp only at hSw
      go_simp; try (with_reducible rfl)
    try simp only [Act.put, List.getElem_toArray, List.getElem_cons_succ, List.getElem_cons_zero, List.setIfInBounds_toArray, List.set_cons_zero, List.set_cons_succ]
    refine wpAnyH_take (i := 8) (v := ?_) rfl (by kernel_rfl) (by kernel_rfl) (by kernel_rfl) (fun _ _ _ h => h) (Or.inl ⟨by rfl, ?_⟩) hHeld ?_
    rotate_left
    · intro w' hSw; try dsimp only at hSw
      go_simp; try (with_reducible rfl)
    try simp only [Act.put, List.getElem_toArray, List.getElem_cons_succ, List.getElem_cons_zero, List.setIfInBounds_toArray, List.set_cons_zero, List.set_cons_succ]
    refine wpAnyH_done (by kernel_rfl) ?_ _
    refine NoPanic.normal ?_
    have hn7 := hin7.len
    rw [HVL.out] at hn7
    subst hn7
    obtain ⟨b5, o5, rfl, hb5, hc5⟩ := hin7.at' (by decide)
    have hcs : Ch b5 o5 xs w7 := ⟨hb5, fun i hi => by rw [hc5 i hi, HVS.out i hi]⟩
    have hz7 := r0.kept hB7
    have hB7 := bt hb0 hB7
    have hx7 := hx.below hB7
    clear hin7 hc5 hb7 r0 hb0 hHeld hx3
    have hq2 : ∀ X, Ch b5 o5 xs X → X.cell? ⟨b5, o5 + 2, none⟩ = some (.int .u64 (fI xs 2 : Int)) := fun X h => h.2 2 (by decide)
    have hqs : ∀ X, Ch b5 o5 xs X → X.cell? ⟨b5, o5, none⟩ = some (.int .u64 (fI xs 0 : Int)) ∧ X.cell? ⟨b5, o5 + 1, none⟩ = some (.int .u64 (fI xs 1 : Int)) ∧ X.cell? ⟨b5, o5 + 4, none⟩ = some (.int .u64 (fI xs 4 : Int)) ∧ X.cell? ⟨b5, o5 + 5, none⟩ = some (.int .u64 (fI xs 5 : Int)) ∧ X.cell? ⟨b5, o5 + 6, none⟩ = some (.int .u64 (fI xs 6 : Int)) ∧ X.cell? ⟨b5, o5 + 7, none⟩ = some (.int .u64 (fI xs 7 : Int)) := fun X h => ⟨h.2 0 (by decide), h.2 1 (by decide), h.2 4 (by decide), h.2 5 (by decide), h.2 6 (by decide), h.2 7 (by decide)⟩
    generalize fI xs 0 = f0 at *
    generalize fI xs 1 = f1 at *
    generalize fI xs 2 = f2 at *
    generalize fI xs 4 = f4 at *
    generalize fI xs 5 = f5 at *
    generalize fI xs 6 = f6 at *
    generalize fI xs 7 = f7 at *
    have hc2 := hq2 _ hcs
    have hc55 := (hqs _ hcs).2.2.2.1
    by_cases hg2 : 4 < f2
    · have hno : decB xs = false := by
        cases h : decB xs with
        | false => rfl
        | true => have := (HFAR.out h).1; omega
      have HD : Hid (decI xs = zeroI ∧ decE xs = 140) := ⟨decI_no hno, decE_no hno⟩
      have hg2' : (f2 : Int) > 4 := by omega
      clear hno
      go_wp2_with (guard_target = wpList _ _ _ (Oper.mk _ (Op.store 24 (Operand.tmp 2) _) _ _ _ _ :: _) _ _; refine wpList_store_blk rfl 24 (.tmp 2) (.tmp 33) rfl _ 0 [.int .i64 0, .int .i64 0, .int .i64 0, .int .i64 0, .int .i64 0, .int .i64 0, .slice none 0 0] rfl rfl hz7 (by simp) size_ino one7 ?_; intro w8 b8 t8)
      have b8 : Blk w8 w.heap.size 24 [.int .i64 0, .int .i64 0, .int .i64 0, .int .i64 0, .int .i64 0, .int .i64 0, .slice none 0 0] := b8
      refine ret_inoE rfl rfl b8 rfl rfl ⟨none, 0, 0, by rw [HD.out.1, HD.out.2]; rfl, by rw [HD.out.1]; exact InE.empty _, t8.below hB7 (Nat.le_refl _), fun a h => by cases h⟩
    have hg2' : ¬ (f2 : Int) > 4 := by omega
    by_cases hg5 : 16777216 < f5
    · have hno : decB xs = false := by
        cases h : decB xs with
        | false => rfl
        | true => have := (HFAR.out h).2; omega
      have HD : Hid (decI xs = zeroI ∧ decE xs = 140) := ⟨decI_no hno, decE_no hno⟩
      have hg5' : (f5 : Int) > 16777216 := by omega
      clear hno
      go_wp2_with (guard_target = wpList _ _ _ (Oper.mk _ (Op.store 24 (Operand.tmp 2) _) _ _ _ _ :: _) _ _; refine wpList_store_blk rfl 24 (.tmp 2) (.tmp 33) rfl _ 0 [.int .i64 0, .int .i64 0, .int .i64 0, .int .i64 0, .int .i64 0, .int .i64 0, .slice none 0 0] rfl rfl hz7 (by simp) size_ino one7 ?_; intro w8 b8 t8)
      have b8 : Blk w8 w.heap.size 24 [.int .i64 0, .int .i64 0, .int .i64 0, .int .i64 0, .int .i64 0, .int .i64 0, .slice none 0 0] := b8
      refine ret_inoE rfl rfl b8 rfl rfl ⟨none, 0, 0, by rw [HD.out.1, HD.out.2]; rfl, by rw [HD.out.1]; exact InE.empty _, t8.below hB7 (Nat.le_refl _), fun a h => by cases h⟩
    have hg5' : ¬ (f5 : Int) > 16777216 := by omega
    have HRX : Hid (rdI xs = ⟨(f0 : Int), (f4 : Int), (f5 : Int), (f6 : Int), (f7 : Int), (f1 : Int), rtL xs f2⟩) := HRD.out (by omega) (by omega)
    have hf24 : f2 ≤ 4 := by omega
    have hv0 : IntKind.i64.wrap (f0 : Int) = (f0 : Int) := wrapI _ (by omega)
    have hv1 : IntKind.i64.wrap (f1 : Int) = (f1 : Int) := wrapI _ (by omega)
    have hv2 : IntKind.i64.wrap (f2 : Int) = (f2 : Int) := wrapI _ (by omega)
    have hv4 : IntKind.i64.wrap (f4 : Int) = (f4 : Int) := wrapI _ (by omega)
    have hv5 : IntKind.i64.wrap (f5 : Int) = (f5 : Int) := wrapI _ (by omega)
    have hv6 : IntKind.i64.wrap (f6 : Int) = (f6 : Int) := wrapI _ (by omega)
    have hv7 : IntKind.i64.wrap (f7 : Int) = (f7 : Int) := wrapI _ (by omega)
    clear HRD HFAR
    go_upto_region 6 with fail
    refine wp_region_noPanic ?_
    refine wp_region_held_drew (S := (Ch b5 o5 xs)) (by kernel_rfl) (hcs.below (Below.refl _ _).drew) (fun hHeld => ?_)
    refine wpAnyH_take (i := 0) (v := ?_) rfl (by kernel_rfl) (by kernel_rfl) (by kernel_rfl) (fun _ _ _ h => h) (Or.inl ⟨by rfl, ?_⟩) hHeld ?_
    rotate_left
    · intro w' hSw; try dsimp only at hSw
      go_simp; try (with_reducible rfl)
    try simp only [Act.put, List.getElem_toArray, List.getElem_cons_succ, List.getElem_cons_zero, List.setIfInBounds_toArray, List.set_cons_zero, List.set_cons_succ]
    refine wpAnyH_take (i := 1) (v := ?_) rfl (by kernel_rfl) (by kernel_rfl) (by kernel_rfl) (fun _ _ _ h => h) (Or.inl ⟨by rfl, ?_⟩) hHeld ?_
    rotate_left
    · intro w' hSw; try dsimp only at hSw
      go_simp; try (with_reducible rfl)
    try simp only [Act.put, List.getElem_toArray, List.getElem_cons_succ, List.getElem_cons_zero, List.setIfInBounds_toArray, List.set_cons_zero, List.set_cons_succ]
    refine wpAnyH_take (i := 2) (v := ?_) rfl (by kernel_rfl) (by kernel_rfl) (by kernel_rfl) (fun _ _ _ h => h) (Or.inl ⟨by rfl, ?_⟩) hHeld ?_
    rotate_left
    · intro w' hSw; try dsimp only at hSw
      obtain ⟨qa, qb, qd, qe, qf, qg⟩ := hqs _ hSw
      go_simp; try (with_reducible rfl)
    try simp only [Act.put, List.getElem_toArray, List.getElem_cons_succ, List.getElem_cons_zero, List.setIfInBounds_toArray, List.set_cons_zero, List.set_cons_succ]
    refine wpAnyH_take (i := 3) (v := ?_) rfl (by kernel_rfl) (by kernel_rfl) (by kernel_rfl) (fun _ _ _ h => h) (Or.inl ⟨by rfl, ?_⟩) hHeld ?_
    rotate_left
    · intro w' hSw; try dsimp only at hSw
      go_simp; try (with_reducible rfl)
    try simp only [Act.put, List.getElem_toArray, List.getElem_cons_succ, List.getElem_cons_zero, List.setIfInBounds_toArray, List.set_cons_zero, List.set_cons_succ]
    refine wpAnyH_take (i := 4) (v := ?_) rfl (by kernel_rfl) (by kernel_rfl) (by kernel_rfl) (fun _ _ _ h => h) (Or.inl ⟨by rfl, ?_⟩) hHeld ?_
    rotate_left
    · intro w' hSw; try dsimp only at hSw
      go_simp; try (with_reducible rfl)
    try simp only [Act.put, List.getElem_toArray, List.getElem_cons_succ, List.getElem_cons_zero, List.setIfInBounds_toArray, List.set_cons_zero, List.set_cons_succ]
    refine wpAnyH_take (i := 5) (v := ?_) rfl (by kernel_rfl) (by kernel_rfl) (by kernel_rfl) (fun _ _ _ h => h) (Or.inl ⟨by rfl, ?_⟩) hHeld ?_
    rotate_left
    · intro w' hSw; try dsimp only at hSw
      go_simp; try (with_reducible rfl)
    try simp only [Act.put, List.getElem_toArray, List.getElem_cons_succ, List.getElem_cons_zero, List.setIfInBounds_toArray, List.set_cons_zero, List.set_cons_succ]
    refine wpAnyH_take (i := 6) (v := ?_) rfl (by kernel_rfl) (by kernel_rfl) (by kernel_rfl) (fun _ _ _ h => h) (Or.inl ⟨by rfl, ?_⟩) hHeld ?_
    rotate_left
    · intro w' hSw; try dsimp only at hSw
      obtain ⟨qa, qb, qd, qe, qf, qg⟩ := hqs _ hSw
      go_simp; try (with_reducible rfl)
    try simp only [Act.put, List.getElem_toArray, List.getElem_cons_succ, List.getElem_cons_zero, List.setIfInBounds_toArray, List.set_cons_zero, List.set_cons_succ]
    refine wpAnyH_take (i := 7) (v := ?_) rfl (by kernel_rfl) (by kernel_rfl) (by kernel_rfl) (fun _ _ _ h => h) (Or.inl ⟨by rfl, ?_⟩) hHeld ?_
    rotate_left
    · intro w' hSw; try dsimp only at hSw
      go_simp; try (with_reducible rfl)
    try simp only [Act.put, List.getElem_toArray, List.getElem_cons_succ, List.getElem_cons_zero, List.setIfInBounds_toArray, List.set_cons_zero, List.set_cons_succ]
    refine wpAnyH_take (i := 8) (v := ?_) rfl (by kernel_rfl) (by kernel_rfl) (by kernel_rfl) (fun _ _ _ h => h) (Or.inl ⟨by rfl, ?_⟩) hHeld ?_
    rotate_left
    · intro w' hSw; try dsimp only at hSw
      go_simp; try (with_reducible rfl)
    try simp only [Act.put, List.getElem_toArray, List.getElem_cons_succ, List.getElem_cons_zero, List.setIfInBounds_toArray, List.set_cons_zero, List.set_cons_succ]
    refine wpAnyH_take (i := 9) (v := ?_) rfl (by kernel_rfl) (by kernel_rfl) (by kernel_rfl) (fun _ _ _ h => h) (Or.inl ⟨by rfl, ?_⟩) hHeld ?_
    rotate_left
    · intro w' hSw; try dsimp only at hSw
      go_simp; try (with_reducible rfl)
    try simp only [Act.put, List.getElem_toArray, List.getElem_cons_succ, List.getElem_cons_zero, List.setIfInBounds_toArray, List.set_cons_zero, List.set_cons_succ]
    refine wpAnyH_take (i := 10) (v := ?_) rfl (by kernel_rfl) (by kernel_rfl) (by kernel_rfl) (fun _ _ _ h => h) (Or.inl ⟨by rfl, ?_⟩) hHeld ?_
    rotate_left
    · intro w' hSw; try dsimp only at hSw
      obtain ⟨qa, qb, qd, qe, qf, qg⟩ := hqs _ hSw
      go_simp; try (with_reducible rfl)
    try simp only [Act.put, List.getElem_toArray, List.getElem_cons_succ, List.getElem_cons_zero, List.setIfInBounds_toArray, List.set_cons_zero, List.set_cons_succ]
    refine wpAnyH_take (i := 11) (v := ?_) rfl (by kernel_rfl) (by kernel_rfl) (by kernel_rfl) (fun _ _ _ h => h) (Or.inl ⟨by rfl, ?_⟩) hHeld ?_
    rotate_left
    · intro w' hSw; try dsimp only at hSw
      go_simp; try (with_reducible rfl)
    try simp only [Act.put, List.getElem_toArray, List.getElem_cons_succ, List.getElem_cons_zero, List.setIfInBounds_toArray, List.set_cons_zero, List.set_cons_succ]
    refine wpAnyH_take (i := 12) (v := ?_) rfl (by kernel_rfl) (by kernel_rfl) (by kernel_rfl) (fun _ _ _ h => h) (Or.inl ⟨by rfl, ?_⟩) hHeld ?_
    rotate_left
    · intro w' hSw; try dsimp only at hSw
      go_simp; try (with_reducible rfl)
    try simp only [Act.put, List.getElem_toArray, List.getElem_cons_succ, List.getElem_cons_zero, List.setIfInBounds_toArray, List.set_cons_zero, List.set_cons_succ]
    refine wpAnyH_take (i := 13) (v := ?_) rfl (by kernel_rfl) (by kernel_rfl) (by kernel_rfl) (fun _ _ _ h => h) (Or.inl ⟨by rfl, ?_⟩) hHeld ?_
    rotate_left
    · intro w' hSw; try dsimp only at hSw
      go_simp; try (with_reducible rfl)
    try simp only [Act.put, List.getElem_toArray, List.getElem_cons_succ, List.getElem_cons_zero, List.setIfInBounds_toArray, List.set_cons_zero, List.set_cons_succ]
    refine wpAnyH_take (i := 14) (v := ?_) rfl (by kernel_rfl) (by kernel_rfl) (by kernel_rfl) (fun _ _ _ h => h) (Or.inl ⟨by rfl, ?_⟩) hHeld ?_
    rotate_left
    · intro w' hSw; try dsimp only at hSw
      obtain ⟨qa, qb, qd, qe, qf, qg⟩ := hqs _ hSw
      go_simp; try (with_reducible rfl)
    try simp only [Act.put, List.getElem_toArray, List.getElem_cons_succ, List.getElem_cons_zero, List.setIfInBounds_toArray, List.set_cons_zero, List.set_cons_succ]
    refine wpAnyH_take (i := 15) (v := ?_) rfl (by kernel_rfl) (by kernel_rfl) (by kernel_rfl) (fun _ _ _ h => h) (Or.inl ⟨by rfl, ?_⟩) hHeld ?_
    rotate_left
    · intro w' hSw; try dsimp only at hSw
      go_simp; try (with_reducible rfl)
    try simp only [Act.put, List.getElem_toArray, List.getElem_cons_succ, List.getElem_cons_zero, List.setIfInBounds_toArray, List.set_cons_zero, List.set_cons_succ]
    refine wpAnyH_take (i := 16) (v := ?_) rfl (by kernel_rfl) (by kernel_rfl) (by kernel_rfl) (fun _ _ _ h => h) (Or.inl ⟨by rfl, ?_⟩) hHeld ?_
    rotate_left
    · intro w' hSw; try dsimp only at hSw
      go_simp; try (with_reducible rfl)
    try simp only [Act.put, List.getElem_toArray, List.getElem_cons_succ, List.getElem_cons_zero, List.setIfInBounds_toArray, List.set_cons_zero, List.set_cons_succ]
    refine wpAnyH_take (i := 17) (v := ?_) rfl (by kernel_rfl) (by kernel_rfl) (by kernel_rfl) (fun _ _ _ h => h) (Or.inl ⟨by rfl, ?_⟩) hHeld ?_
    rotate_left
    · intro w' hSw; try dsimp only at hSw
      go_simp; try (with_reducible rfl)
    try simp only [Act.put, List.getElem_toArray, List.getElem_cons_succ, List.getElem_cons_zero, List.setIfInBounds_toArray, List.set_cons_zero, List.set_cons_succ]
    refine wpAnyH_take (i := 18) (v := ?_) rfl (by kernel_rfl) (by kernel_rfl) (by kernel_rfl) (fun _ _ _ h => h) (Or.inl ⟨by rfl, ?_⟩) hHeld ?_
    rotate_left
    · intro w' hSw; try dsimp only at hSw
      obtain ⟨qa, qb, qd, qe, qf, qg⟩ := hqs _ hSw
      go_simp; try (with_reducible rfl)
    try simp only [Act.put, List.getElem_toArray, List.getElem_cons_succ, List.getElem_cons_zero, List.setIfInBounds_toArray, List.set_cons_zero, List.set_cons_succ]
    refine wpAnyH_take (i := 19) (v := ?_) rfl (by kernel_rfl) (by kernel_rfl) (by kernel_rfl) (fun _ _ _ h => h) (Or.inl ⟨by rfl, ?_⟩) hHeld ?_
    rotate_left
    · intro w' hSw; try dsimp only at hSw
      go_simp; try (with_reducible rfl)
    try simp only [Act.put, List.getElem_toArray, List.getElem_cons_succ, List.getElem_cons_zero, List.setIfInBounds_toArray, List.set_cons_zero, List.set_cons_succ]
    refine wpAnyH_take (i := 20) (v := ?_) rfl (by kernel_rfl) (by kernel_rfl) (by kernel_rfl) (fun _ _ _ h => h) (Or.inl ⟨by rfl, ?_⟩) hHeld ?_
    rotate_left
    · intro w' hSw; try dsimp only at hSw
      go_simp; try (with_reducible rfl)
    try simp only [Act.put, List.getElem_toArray, List.getElem_cons_succ, List.getElem_cons_zero, List.setIfInBounds_toArray, List.set_cons_zero, List.set_cons_succ]
    refine wpAnyH_take (i := 21) (v := ?_) rfl (by kernel_rfl) (by kernel_rfl) (by kernel_rfl) (fun _ _ _ h => h) (Or.inl ⟨by rfl, ?_⟩) hHeld ?_
    rotate_left
    · intro w' hSw; try dsimp only at hSw
      go_simp; try (with_reducible rfl)
    try simp only [Act.put, List.getElem_toArray, List.getElem_cons_succ, List.getElem_cons_zero, List.setIfInBounds_toArray, List.set_cons_zero, List.set_cons_succ]
    refine wpAnyH_take (i := 22) (v := ?_) rfl (by kernel_rfl) (by kernel_rfl) (by kernel_rfl) (fun _ _ _ h => h) (Or.inl ⟨by rfl, ?_⟩) hHeld ?_
    rotate_left
    · intro w' hSw; try dsimp only at hSw
      obtain ⟨qa, qb, qd, qe, qf, qg⟩ := hqs _ hSw
      go_simp; try (with_reducible rfl)
    try simp only [Act.put, List.getElem_toArray, List.getElem_cons_succ, List.getElem_cons_zero, List.setIfInBounds_toArray, List.set_cons_zero, List.set_cons_succ]
    refine wpAnyH_take (i := 23) (v := ?_) rfl (by kernel_rfl) (by kernel_rfl) (by kernel_rfl) (fun _ _ _ h => h) (Or.inl ⟨by rfl, ?_⟩) hHeld ?_
    rotate_left
    · intro w' hSw; try dsimp only at hSw
      go_simp; try (with_reducible rfl)
    try simp only [Act.put, List.getElem_toArray, List.getElem_cons_succ, List.getElem_cons_zero, List.setIfInBounds_toArray, List.set_cons_zero, List.set_cons_succ]
    refine wpAnyH_take (i := 24) (v := ?_) rfl (by kernel_rfl) (by kernel_rfl) (by kernel_rfl) (fun _ _ _ h => h) (Or.inl ⟨by rfl, ?_⟩) hHeld ?_
    rotate_left
    · intro w' hSw; try dsimp only at hSw
      go_simp; try (with_reducible rfl)
    try simp only [Act.put, List.getElem_toArray, List.getElem_cons_succ, List.getElem_cons_zero, List.setIfInBounds_toArray, List.set_cons_zero, List.set_cons_succ]
    refine wpAnyH_ready (rs := [25]) (by kernel_rfl) (by simp) ?_
    refine AllReadyH.cons rfl (fun K hK => ?_) AllReadyH.nil
    go_simp
    have s8 := Blk.new' w7.drew 24 #[.int .i64 0, .int .i64 0, .int .i64 0, .int .i64 0, .int .i64 0, .int .i64 0, .slice none 0 0]
    have hk8 := below_alloc w7.drew (.cells #[.int .i64 0, .int .i64 0, .int .i64 0, .int .i64 0, .int .i64 0, .int .i64 0, .slice none 0 0] 24)
    have hS8 := hHeld.below hk8
    have hB8 := bt hB7.drew hk8
    have hl8 : b5 < w7.drew.heap.size := hHeld.1
    have hz8 := hz7.drew.kept hk8
    have hlz := hz7.lt
    refine hK.out _ _ hS8 (fun hHeld => ?_)
    clear hK K
    try simp only [Act.put, List.getElem_toArray, List.getElem_cons_succ, List.getElem_cons_zero, List.setIfInBounds_toArray, List.set_cons_zero, List.set_cons_succ]
    refine wpAnyH_ready (rs := [26]) (by kernel_rfl) (by simp) ?_
    refine AllReadyH.cons rfl (fun K hK => ?_) AllReadyH.nil
    refine wp_store_blk 24 (.tmp 6) (.tmp 58) rfl _ 0 [.int .i64 (f0 : Int), .int .i64 (f4 : Int), .int .i64 (f5 : Int), .int .i64 (f6 : Int), .int .i64 (f7 : Int), .int .i64 (f1 : Int), .slice none 0 0] rfl rfl s8 (by simp) size_ino one7 ?_
    intro w9 b9 t9
    have hS9 := hHeld.turned t9 (Nat.ne_of_lt hl8)
    refine hK.out _ _ hS9 (fun hHeld => ?_)
    clear hK K
    try simp only [Act.put, List.getElem_toArray, List.getElem_cons_succ, List.getElem_cons_zero, List.setIfInBounds_toArray, List.set_cons_zero, List.set_cons_succ]
    refine wpAnyH_done (by kernel_rfl) ?_ _
    refine NoPanic.normal ?_
    have b9 : Blk w9 w7.heap.size 24 [.int .i64 (f0 : Int), .int .i64 (f4 : Int), .int .i64 (f5 : Int), .int .i64 (f6 : Int), .int .i64 (f7 : Int), .int .i64 (f1 : Int), .slice none 0 0] := b9
    have hB9 := t9.below hB8 (by have := hB7.size; show _ ≤ w7.heap.size; omega)
    have z9 := hz8.turned t9 (Nat.ne_of_lt hlz)
    have hG8 : w.heap.size < w7.heap.size := hlz
    have h5g : b5 < w7.heap.size := hl8
    have h58 : b5 < w9.heap.size := hHeld.1
    have hG9 : w7.heap.size < w9.heap.size := b9.lt
    clear hz7 hz8 hlz hl8 s8 hB7 hB8 t9 hk8 hS8 hS9 hb5 hcs hc2 hc55
    generalize w7.heap.size = g8 at *
    obtain ⟨N0, hN0⟩ : ∃ N0, N0 = w9.heap.size := ⟨_, rfl⟩
    have HWN : Hid (w.heap.size ≤ N0) := by show _ ≤ _; rw [hN0]; exact hB9.size
    have HG8 : Hid (w.heap.size ≤ g8) := Nat.le_of_lt hG8
    have hGG : Hid (g8 < N0 ∧ b5 < N0 ∧ w.heap.size < g8 ∧ b5 < g8) := ⟨by omega, by omega, hG8, h5g⟩
    clear hqs hv0 hv1 hv4 hv5 hv6 hv7 hf0 hf1 hf4 hf5 hf6 hf7 hg2 hg5 hg2' hg5'
    go_wp2
    go_loopw [7] (fun i wr => ∃ (k : Nat) (pl : Option Addr) (cl : Nat), k ≤ f2 ∧ i = .int .i64 (k : Int) ∧ wr.ownsRow N0 51 3 (.slice pl k cl) k (flatE (rtL xs k)) ∧ Blk wr g8 24 [.int .i64 (f0 : Int), .int .i64 (f4 : Int), .int .i64 (f5 : Int), .int .i64 (f6 : Int), .int .i64 (f7 : Int), .int .i64 (f1 : Int), .slice pl k cl] ∧ Blk wr w.heap.size 24 [.int .i64 0, .int .i64 0, .int .i64 0, .int .i64 0, .int .i64 0, .int .i64 0, .slice none 0 0] ∧ Ch b5 o5 xs wr ∧ Below w.heap.size w wr ∧ N0 ≤ wr.heap.size) (fun i _ => f2 - (intOf i).toNat)
    case atStart => exact ⟨0, none, 0, Nat.zero_le _, rfl, ⟨rfl, .inl ⟨rfl, rfl⟩⟩, b9, z9, hHeld, hB9, Nat.le_of_eq hN0⟩
    case round =>
      obtain ⟨k, pl, cl, hk, rfl, hown, hb, hz, hcs, hbel, hN⟩ := hrel
      have hc2 := hq2 _ hcs
      by_cases hlt : k < f2
      · have hki : (k : Int) < (f2 : Int) := by omega
        obtain ⟨u1, u2, u3⟩ := HL3.out k (by omega)
        have hre := HRE.out k
        have hrs := HRT.out k
        rw [hre] at hrs
        have HRS : Hid _ := hrs
        obtain ⟨hv3, hvs3⟩ := HRV.out k (by omega)
        have ha1 := hvs3 0 (by decide)
        have ha2 := hvs3 1 (by decide)
        have ha3 := hvs3 2 (by decide)
        rw [Nat.add_zero] at ha1
        rw [show 8 + 3 * k + 1 = 9 + 3 * k from by omega] at ha2
        rw [show 8 + 3 * k + 2 = 10 + 3 * k from by omega] at ha3
        clear hre hrs hvs3
        obtain ⟨q, hq⟩ : ∃ q : Nat, q = 24 + 9 * k := ⟨_, rfl⟩
        obtain ⟨q2, hq2x⟩ : ∃ q2 : Nat, q2 = q + 9 := ⟨_, rfl⟩
        obtain ⟨m, hm⟩ : ∃ m : Nat, m = 9 * k := ⟨_, rfl⟩
        rw [← hq] at hv3 ha1 ha2 ha3
        have hm' : (9 : Int) * (k : Int) = (m : Int) := by rw [hm]; omega
        have hq' : (24 : Int) + (m : Int) = (q : Int) := by rw [hq, hm]; omega
        have hq'' : (33 : Int) + (m : Int) = (q2 : Int) := by omega
        have hmb : (m : Int) ≤ 36 := by omega
        have hqb : (q : Int) ≤ 51 := by omega
        have hqb2 : (q2 : Int) ≤ 60 := by omega
        have hwm := wrapI m (by omega)
        have hwq := wrapI q (by omega)
        have hwq2 := wrapI q2 (by omega)
        have hsl := fun W => slice_mid b o 64 c q q2 (by omega) (by omega) hcap W
        rw [show q2 - q = 9 from by omega] at hsl
        have hbk := (((hx.below hbel).back q (by omega)).front 9 (by omega))
        have HV3 : Hid _ := hv3
        have HA1 : Hid _ := ha1
        have HA2 : Hid _ := ha2
        have HA3 : Hid _ := ha3
        clear hq hq2x hm hv3 ha1 ha2 ha3
        generalize fI xs (8 + 3 * k) = a1 at *
        generalize fI xs (9 + 3 * k) = a2 at *
        generalize fI xs (10 + 3 * k) = a3 at *
        have v1 : IntKind.i64.wrap (a1 : Int) = (a1 : Int) := wrapI _ (by omega)
        have v2 : IntKind.i64.wrap (a2 : Int) = (a2 : Int) := wrapI _ (by omega)
        have v3 : IntKind.i64.wrap (a3 : Int) = (a3 : Int) := wrapI _ (by omega)
        obtain ⟨hg8, hg5, hgG, h5g⟩ := hGG.out
        go_upto_region 10 with fail
        refine wp_region_noPanic ?_
        refine wp_region_held_drew (S := (fun Y => Below wr.heap.size wr Y)) (by kernel_rfl) (Below.refl _ _).drew (fun hHeld => ?_)
        refine wpAnyH_take (i := 1) (v := ?_) rfl (by kernel_rfl) (by kernel_rfl) (by kernel_rfl) (fun _ _ _ h => h) (Or.inl ⟨by rfl, ?_⟩) hHeld ?_
        rotate_left
        · intro w' hSw; try dsimp only at hSw
          go_simp; try (with_reducible rfl)
        try simp only [Act.put, List.getElem_toArray, List.getElem_cons_succ, List.getElem_cons_zero, List.setIfInBounds_toArray, List.set_cons_zero, List.set_cons_succ]
        refine wpAnyH_take (i := 2) (v := ?_) rfl (by kernel_rfl) (by kernel_rfl) (by kernel_rfl) (fun _ _ _ h => h) (Or.inl ⟨by rfl, ?_⟩) hHeld ?_
        rotate_left
        · intro w' hSw; try dsimp only at hSw
          go_simp; try (with_reducible rfl)
        try simp only [Act.put, List.getElem_toArray, List.getElem_cons_succ, List.getElem_cons_zero, List.setIfInBounds_toArray, List.set_cons_zero, List.set_cons_succ]
        refine wpAnyH_take (i := 3) (v := ?_) rfl (by kernel_rfl) (by kernel_rfl) (by kernel_rfl) (fun _ _ _ h => h) (Or.inl ⟨by rfl, ?_⟩) hHeld ?_
        rotate_left
        · intro w' hSw; try dsimp only at hSw
          go_simp; try (with_reducible rfl)
        try simp only [Act.put, List.getElem_toArray, List.getElem_cons_succ, List.getElem_cons_zero, List.setIfInBounds_toArray, List.set_cons_zero, List.set_cons_succ]
        refine wpAnyH_take (i := 4) (v := ?_) rfl (by kernel_rfl) (by kernel_rfl) (by kernel_rfl) (fun _ _ _ h => h) (Or.inl ⟨by rfl, ?_⟩) hHeld ?_
        rotate_left
        · intro w' hSw; try dsimp only at hSw
          go_simp; try (with_reducible rfl)
        try simp only [Act.put, List.getElem_toArray, List.getElem_cons_succ, List.getElem_cons_zero, List.setIfInBounds_toArray, List.set_cons_zero, List.set_cons_succ]
        refine wpAnyH_take (i := 5) (v := ?_) rfl (by kernel_rfl) (by kernel_rfl) (by kernel_rfl) (fun _ _ _ h => h) (Or.inl ⟨by rfl, ?_⟩) hHeld ?_
        rotate_left
        · intro w' hSw; try dsimp only at hSw
          go_simp; try (with_reducible rfl)
        try simp only [Act.put, List.getElem_toArray, List.getElem_cons_succ, List.getElem_cons_zero, List.setIfInBounds_toArray, List.set_cons_zero, List.set_cons_succ]
        refine wpAnyH_take (i := 6) (v := ?_) rfl (by kernel_rfl) (by kernel_rfl) (by kernel_rfl) (fun _ _ _ h => h) (Or.inl ⟨by rfl, ?_⟩) hHeld ?_
        rotate_left
        · intro w' hSw; try dsimp only at hSw
          go_simp; try (with_reducible rfl)
        try simp only [Act.put, List.getElem_toArray, List.getElem_cons_succ, List.getElem_cons_zero, List.setIfInBounds_toArray, List.set_cons_zero, List.set_cons_succ]
        refine wpAnyH_take (i := 7) (v := ?_) rfl (by kernel_rfl) (by kernel_rfl) (by kernel_rfl) (fun _ _ _ h => h) (Or.inl ⟨by rfl, ?_⟩) hHeld ?_
        rotate_left
        · intro w' hSw; try dsimp only at hSw
          go_simp; try (with_reducible rfl)
        try simp only [Act.put, List.getElem_toArray, List.getElem_cons_succ, List.getElem_cons_zero, List.setIfInBounds_toArray, List.set_cons_zero, List.set_cons_succ]
        refine wpAnyH_take (i := 8) (v := ?_) rfl (by kernel_rfl) (by kernel_rfl) (by kernel_rfl) (fun _ _ _ h => h) (Or.inl ⟨by rfl, ?_⟩) hHeld ?_
        rotate_left
        · intro w' hSw; try dsimp only at hSw
          go_simp; try (with_reducible rfl)
        try simp only [Act.put, List.getElem_toArray, List.getElem_cons_succ, List.getElem_cons_zero, List.setIfInBounds_toArray, List.set_cons_zero, List.set_cons_succ]
        refine wpAnyH_ready (rs := [0]) (by kernel_rfl) (by simp) ?_
        refine AllReadyH.cons rfl (fun K hK => ?_) AllReadyH.nil
        go_simp
        refine (rootW_any _).mono ?_
        rintro e w3 ⟨p3, rfl, hin3, hb3⟩
        have hS3 := bt hHeld hb3
        refine hK.out _ _ hS3 (fun hHeld => ?_)
        clear hK K
        try simp only [Act.put, List.getElem_toArray, List.getElem_cons_succ, List.getElem_cons_zero, List.setIfInBounds_toArray, List.set_cons_zero, List.set_cons_succ]
        refine wpAnyH_ready (rs := [9]) (by kernel_rfl) (by simp) ?_
        refine AllReadyH.cons rfl (fun K hK => ?_) AllReadyH.nil
        go_simp
        refine (refUnpack_fresh p3 (some ⟨b, o + q, none⟩) 3 3 9 (c - q) rW ((xs.drop q).take 9) _ hin3 (hbk.below hHeld)).mono ?_
        rintro e w4 ⟨p9, n9, c9, rfl, hin9, hb9, hf9⟩
        have hB9 := bt hHeld hb9
        have hs9 := hHeld.size
        refine hK.out _ _ hB9 (fun hHeld => ?_)
        clear hK K
        try simp only [Act.put, List.getElem_toArray, List.getElem_cons_succ, List.getElem_cons_zero, List.setIfInBounds_toArray, List.set_cons_zero, List.set_cons_succ]
        refine wpAnyH_take (i := 10) (v := ?_) rfl (by kernel_rfl) (by kernel_rfl) (by kernel_rfl) (fun _ _ _ h => h) (Or.inl ⟨by rfl, ?_⟩) hHeld ?_
        rotate_left
        · intro w' hSw; try dsimp only at hSw
          go_simp; try (with_reducible rfl)
        try simp only [Act.put, List.getElem_toArray, List.getElem_cons_succ, List.getElem_cons_zero, List.setIfInBounds_toArray, List.set_cons_zero, List.set_cons_succ]
        refine wpAnyH_take (i := 11) (v := ?_) rfl (by kernel_rfl) (by kernel_rfl) (by kernel_rfl) (fun _ _ _ h => h) (Or.inl ⟨by rfl, ?_⟩) hHeld ?_
        rotate_left
        · intro w' hSw; try dsimp only at hSw
          go_simp; try (with_reducible rfl)
        try simp only [Act.put, List.getElem_toArray, List.getElem_cons_succ, List.getElem_cons_zero, List.setIfInBounds_toArray, List.set_cons_zero, List.set_cons_succ]
        refine wpAnyH_take (i := 12) (v := ?_) rfl (by kernel_rfl) (by kernel_rfl) (by kernel_rfl) (fun _ _ _ h => h) (Or.inl ⟨by rfl, ?_⟩) hHeld ?_
        rotate_left
        · intro w' hSw; try dsimp only at hSw
          go_simp; try (with_reducible rfl)
        try simp only [Act.put, List.getElem_toArray, List.getElem_cons_succ, List.getElem_cons_zero, List.setIfInBounds_toArray, List.set_cons_zero, List.set_cons_succ]
        refine wpAnyH_take (i := 13) (v := ?_) rfl (by kernel_rfl) (by kernel_rfl) (by kernel_rfl) (fun _ _ _ h => h) (Or.inl ⟨by rfl, ?_⟩) hHeld ?_
        rotate_left
        · intro w' hSw; try dsimp only at hSw
          go_simp; try (with_reducible rfl)
        try simp only [Act.put, List.getElem_toArray, List.getElem_cons_succ, List.getElem_cons_zero, List.setIfInBounds_toArray, List.set_cons_zero, List.set_cons_succ]
        refine wpAnyH_take (i := 14) (v := ?_) rfl (by kernel_rfl) (by kernel_rfl) (by kernel_rfl) (fun _ _ _ h => h) (Or.inl ⟨by rfl, ?_⟩) hHeld ?_
        rotate_left
        · intro w' hSw; try dsimp only at hSw
          go_simp; try (with_reducible rfl)
        try simp only [Act.put, List.getElem_toArray, List.getElem_cons_succ, List.getElem_cons_zero, List.setIfInBounds_toArray, List.set_cons_zero, List.set_cons_succ]
        refine wpAnyH_done (by kernel_rfl) ?_ _
        refine NoPanic.normal ?_
        have hn9 := hin9.len
        rw [HV3.out] at hn9
        subst hn9
        obtain ⟨b9, o9, rfl, hbl9, hc9⟩ := hin9.at' (by decide)
        have hc3 : C3 b9 o9 a1 a2 a3 w4 := ⟨hbl9, by have := hc9 0 (by decide); rw [HA1.out] at this; exact this, by have := hc9 1 (by decide); rw [HA2.out] at this; exact this, by have := hc9 2 (by decide); rw [HA3.out] at this; exact this⟩
        have hf9' := hf9 _ rfl
        dsimp only at hf9'
        have hne9 : ∀ _ : Nat, (Value.slice pl k cl).ownBlock ≠ some b9 := fun _ he => by have := (hown.lt _ he).2; omega
        have hb9g : g8 < b9 := by omega
        replace hown := owns_below hown hB9
        replace hb := hb.kept hB9
        replace hz := hz.kept hB9
        replace hcs := hcs.below hB9
        replace hbel := bt hbel hB9
        replace hN : N0 ≤ w4.heap.size := Nat.le_trans hN hB9.size
        have hcap9 := hin9.cap
        clear hin9 hc9 hb9 hHeld hin3 hb3
        go_upto_region 11 with fail
        refine wp_region_noPanic ?_
        refine wp_region_held_drew (S := (C3 b9 o9 a1 a2 a3)) (by kernel_rfl) (hc3.below (Below.refl _ _).drew) (fun hHeld => ?_)
        replace hown := owns_below hown ((Below.refl w4.heap.size w4).drew)
        replace hb := hb.drew
        replace hz := hz.drew
        replace hcs := hcs.below (Below.refl _ _).drew
        replace hbel := hbel.drew
        replace hN : N0 ≤ w4.drew.heap.size := hN
        clear hc3
        generalize w4.drew = Z0 at *
        refine wpAnyH_take (i := 0) (v := ?_) rfl (by kernel_rfl) (by kernel_rfl) (by kernel_rfl) (fun _ _ _ h => h) (Or.inl ⟨by rfl, ?_⟩) hHeld ?_
        rotate_left
        · intro w' hSw; try dsimp only at hSw
          go_simp; try (with_reducible rfl)
        try simp only [Act.put, List.getElem_toArray, List.getElem_cons_succ, List.getElem_cons_zero, List.setIfInBounds_toArray, List.set_cons_zero, List.set_cons_succ]
        refine wpAnyH_take (i := 2) (v := ?_) rfl (by kernel_rfl) (by kernel_rfl) (by kernel_rfl) (fun _ _ _ h => h) (Or.inl ⟨by rfl, ?_⟩) hHeld ?_
        rotate_left
        · intro w' hSw; try dsimp only at hSw
          go_simp; try (with_reducible rfl)
        try simp only [Act.put, List.getElem_toArray, List.getElem_cons_succ, List.getElem_cons_zero, List.setIfInBounds_toArray, List.set_cons_zero, List.set_cons_succ]
        refine wpAnyH_take (i := 3) (v := ?_) rfl (by kernel_rfl) (by kernel_rfl) (by kernel_rfl) (fun _ _ _ h => h) (Or.inl ⟨by rfl, ?_⟩) hHeld ?_
        rotate_left
        · intro w' hSw; try dsimp only at hSw
          go_simp; try (with_reducible rfl)
        try simp only [Act.put, List.getElem_toArray, List.getElem_cons_succ, List.getElem_cons_zero, List.setIfInBounds_toArray, List.set_cons_zero, List.set_cons_succ]
        refine wpAnyH_take (i := 4) (v := ?_) rfl (by kernel_rfl) (by kernel_rfl) (by kernel_rfl) (fun _ _ _ h => h) (Or.inl ⟨by rfl, ?_⟩) hHeld ?_
        rotate_left
        · intro w' hSw; try dsimp only at hSw
          obtain ⟨_, qa, qb, qc⟩ := hSw
          go_simp; try (with_reducible rfl)
        try simp only [Act.put, List.getElem_toArray, List.getElem_cons_succ, List.getElem_cons_zero, List.setIfInBounds_toArray, List.set_cons_zero, List.set_cons_succ]
        refine wpAnyH_take (i := 5) (v := ?_) rfl (by kernel_rfl) (by kernel_rfl) (by kernel_rfl) (fun _ _ _ h => h) (Or.inl ⟨by rfl, ?_⟩) hHeld ?_
        rotate_left
        · intro w' hSw; try dsimp only at hSw
          go_simp; try (with_reducible rfl)
        try simp only [Act.put, List.getElem_toArray, List.getElem_cons_succ, List.getElem_cons_zero, List.setIfInBounds_toArray, List.set_cons_zero, List.set_cons_succ]
        refine wpAnyH_take (i := 6) (v := ?_) rfl (by kernel_rfl) (by kernel_rfl) (by kernel_rfl) (fun _ _ _ h => h) (Or.inl ⟨by rfl, ?_⟩) hHeld ?_
        rotate_left
        · intro w' hSw; try dsimp only at hSw
          go_simp; try (with_reducible rfl)
        try simp only [Act.put, List.getElem_toArray, List.getElem_cons_succ, List.getElem_cons_zero, List.setIfInBounds_toArray, List.set_cons_zero, List.set_cons_succ]
        refine wpAnyH_take (i := 7) (v := ?_) rfl (by kernel_rfl) (by kernel_rfl) (by kernel_rfl) (fun _ _ _ h => h) (Or.inl ⟨by rfl, ?_⟩) hHeld ?_
        rotate_left
        · intro w' hSw; try dsimp only at hSw
          go_simp; try (with_reducible rfl)
        try simp only [Act.put, List.getElem_toArray, List.getElem_cons_succ, List.getElem_cons_zero, List.setIfInBounds_toArray, List.set_cons_zero, List.set_cons_succ]
        refine wpAnyH_take (i := 8) (v := ?_) rfl (by kernel_rfl) (by kernel_rfl) (by kernel_rfl) (fun _ _ _ h => h) (Or.inl ⟨by rfl, ?_⟩) hHeld ?_
        rotate_left
        · intro w' hSw; try dsimp only at hSw
          obtain ⟨_, qa, qb, qc⟩ := hSw
          go_simp; try (with_reducible rfl)
        try simp only [Act.put, List.getElem_toArray, List.getElem_cons_succ, List.getElem_cons_zero, List.setIfInBounds_toArray, List.set_cons_zero, List.set_cons_succ]
        refine wpAnyH_take (i := 9) (v := ?_) rfl (by kernel_rfl) (by kernel_rfl) (by kernel_rfl) (fun _ _ _ h => h) (Or.inl ⟨by rfl, ?_⟩) hHeld ?_
        rotate_left
        · intro w' hSw; try dsimp only at hSw
          go_simp; try (with_reducible rfl)
        try simp only [Act.put, List.getElem_toArray, List.getElem_cons_succ, List.getElem_cons_zero, List.setIfInBounds_toArray, List.set_cons_zero, List.set_cons_succ]
        refine wpAnyH_take (i := 10) (v := ?_) rfl (by kernel_rfl) (by kernel_rfl) (by kernel_rfl) (fun _ _ _ h => h) (Or.inl ⟨by rfl, ?_⟩) hHeld ?_
        rotate_left
        · intro w' hSw; try dsimp only at hSw
          go_simp; try (with_reducible rfl)
        try simp only [Act.put, List.getElem_toArray, List.getElem_cons_succ, List.getElem_cons_zero, List.setIfInBounds_toArray, List.set_cons_zero, List.set_cons_succ]
        refine wpAnyH_take (i := 11) (v := ?_) rfl (by kernel_rfl) (by kernel_rfl) (by kernel_rfl) (fun _ _ _ h => h) (Or.inl ⟨by rfl, ?_⟩) hHeld ?_
        rotate_left
        · intro w' hSw; try dsimp only at hSw
          go_simp; try (with_reducible rfl)
        try simp only [Act.put, List.getElem_toArray, List.getElem_cons_succ, List.getElem_cons_zero, List.setIfInBounds_toArray, List.set_cons_zero, List.set_cons_succ]
        refine wpAnyH_take (i := 12) (v := ?_) rfl (by kernel_rfl) (by kernel_rfl) (by kernel_rfl) (fun _ _ _ h => h) (Or.inl ⟨by rfl, ?_⟩) hHeld ?_
        rotate_left
        · intro w' hSw; try dsimp only at hSw
          obtain ⟨_, qa, qb, qc⟩ := hSw
          go_simp; try (with_reducible rfl)
        try simp only [Act.put, List.getElem_toArray, List.getElem_cons_succ, List.getElem_cons_zero, List.setIfInBounds_toArray, List.set_cons_zero, List.set_cons_succ]
        refine wpAnyH_take (i := 13) (v := ?_) rfl (by kernel_rfl) (by kernel_rfl) (by kernel_rfl) (fun _ _ _ h => h) (Or.inl ⟨by rfl, ?_⟩) hHeld ?_
        rotate_left
        · intro w' hSw; try dsimp only at hSw
          go_simp; try (with_reducible rfl)
        try simp only [Act.put, List.getElem_toArray, List.getElem_cons_succ, List.getElem_cons_zero, List.setIfInBounds_toArray, List.set_cons_zero, List.set_cons_succ]
        refine wpAnyH_take (i := 14) (v := ?_) rfl (by kernel_rfl) (by kernel_rfl) (by kernel_rfl) (fun _ _ _ h => h) (Or.inl ⟨by rfl, ?_⟩) hHeld ?_
        rotate_left
        · intro w' hSw; try dsimp only at hSw
          go_simp; try (with_reducible rfl)
        try simp only [Act.put, List.getElem_toArray, List.getElem_cons_succ, List.getElem_cons_zero, List.setIfInBounds_toArray, List.set_cons_zero, List.set_cons_succ]
        refine wpAnyH_ready (rs := [1, 15]) (by kernel_rfl) (by simp) ?_
        refine AllReadyH.cons rfl (fun K hK => ?_) ?_
        · have d6 := hb.cell' (i := 6) rfl
          go_simp
          refine hK.out _ _ hHeld (fun hHeld => ?_)
          clear hK K
          try simp only [Act.put, List.getElem_toArray, List.getElem_cons_succ, List.getElem_cons_zero, List.setIfInBounds_toArray, List.set_cons_zero, List.set_cons_succ]
          refine wpAnyH_ready (rs := [15]) (by kernel_rfl) (by simp) ?_
          refine AllReadyH.cons rfl (fun K hK => ?_) AllReadyH.nil
          go_simp
          have s4 := Blk.new' Z0 51 #[.int .i64 (a1 : Int), .int .i64 (a2 : Int), .int .i64 (a3 : Int)]
          have hk4 := below_alloc Z0 (.cells #[.int .i64 (a1 : Int), .int .i64 (a2 : Int), .int .i64 (a3 : Int)] 51)
          have ho4 := owns_below hown hk4
          have b4 := hb.kept hk4
          have z4 := hz.kept hk4
          have ch4 := hcs.below hk4
          have hS4 := hHeld.below hk4
          have hN4 : N0 ≤ (Z0.alloc (.cells #[.int .i64 (a1 : Int), .int .i64 (a2 : Int), .int .i64 (a3 : Int)] 51)).heap.size := Nat.le_trans hN hk4.size
          have hbx := bt hbel hk4
          refine hK.out _ _ hS4 (fun hHeld => ?_)
          clear hK K
          try simp only [Act.put, List.getElem_toArray, List.getElem_cons_succ, List.getElem_cons_zero, List.setIfInBounds_toArray, List.set_cons_zero, List.set_cons_succ]
          refine wpAnyH_ready (rs := [16]) (by kernel_rfl) (by simp) ?_
          refine AllReadyH.cons rfl (fun K hK => ?_) AllReadyH.nil
          refine wp_append_ext (.tmp 81) (.tmp 95) rfl N0 (.slice pl k cl) k (rtL xs k) ⟨(a1 : Int), (a2 : Int), (a3 : Int)⟩ _ _ rfl ho4 rfl s4 (by omega) hN4 ?_
          intro p6 c6 w6 hown6 hgrow6 hb6
          have hS6 := hHeld.grown hgrow6 (fun e => hne9 0 e.symm)
          have b6 := b4.below hb6 hg8
          have z6 := z4.below hb6 (by omega)
          have ch6 := ch4.low hb6 hg5
          have hN6 := Nat.le_trans hN4 hb6.size
          have hby := hbx.trans (hb6.mono HWN.out)
          refine hK.out _ _ hS6 (fun hHeld => ?_)
          clear hK K
          try simp only [Act.put, List.getElem_toArray, List.getElem_cons_succ, List.getElem_cons_zero, List.setIfInBounds_toArray, List.set_cons_zero, List.set_cons_succ]
          refine wpAnyH_take (i := 17) (v := ?_) rfl (by kernel_rfl) (by kernel_rfl) (by kernel_rfl) (fun _ _ _ h => h) (Or.inl ⟨by rfl, ?_⟩) hHeld ?_
          rotate_left
          · intro w' hSw; try dsimp only at hSw
            go_simp; try (with_reducible rfl)
          try simp only [Act.put, List.getElem_toArray, List.getElem_cons_succ, List.getElem_cons_zero, List.setIfInBounds_toArray, List.set_cons_zero, List.set_cons_succ]
          refine wpAnyH_ready (rs := [18]) (by kernel_rfl) (by simp) ?_
          refine AllReadyH.cons rfl (fun K hK => ?_) AllReadyH.nil
          refine wp_store_cell 22 (.tmp 97) (.tmp 96) rfl g8 6 (.slice p6 (k + 1) c6) rfl rfl b6 (by simp) size_exts rfl ?_ rfl
          intro y18 b18 t18
          have z18 := z6.turned t18 (by omega)
          have ch18 := ch6.turned t18 (by omega)
          have hbz := t18.below hby HG8.out
          have hN18 : N0 ≤ y18.heap.size := by rw [t18.size]; exact hN6
          refine hK.out _ _ (hHeld.turned t18 (by omega)) (fun hHeld => ?_)
          clear hK K
          try simp only [Act.put, List.getElem_toArray, List.getElem_cons_succ, List.getElem_cons_zero, List.setIfInBounds_toArray, List.set_cons_zero, List.set_cons_succ]
          refine wpAnyH_done (by kernel_rfl) ?_ _
          refine NoPanic.normal ?_
          go_wp2
          go_roundw
          case rel => exact ⟨k + 1, p6, c6, by omega, by go_num, by rw [HRS.out]; exact owns_turnedE hown6 t18 hg8, b18, z18, ch18, hbz, hN18⟩
          case measure => simp [intOf]; omega
        refine AllReadyH.cons rfl (fun K hK => ?_) AllReadyH.nil
        go_simp
        have s4 := Blk.new' Z0 51 #[.int .i64 (a1 : Int), .int .i64 (a2 : Int), .int .i64 (a3 : Int)]
        have hk4 := below_alloc Z0 (.cells #[.int .i64 (a1 : Int), .int .i64 (a2 : Int), .int .i64 (a3 : Int)] 51)
        have ho4 := owns_below hown hk4
        have b4 := hb.kept hk4
        have z4 := hz.kept hk4
        have ch4 := hcs.below hk4
        have hS4 := hHeld.below hk4
        have hN4 : N0 ≤ (Z0.alloc (.cells #[.int .i64 (a1 : Int), .int .i64 (a2 : Int), .int .i64 (a3 : Int)] 51)).heap.size := Nat.le_trans hN hk4.size
        have hbx := bt hbel hk4
        refine hK.out _ _ hS4 (fun hHeld => ?_)
        clear hK K
        try simp only [Act.put, List.getElem_toArray, List.getElem_cons_succ, List.getElem_cons_zero, List.setIfInBounds_toArray, List.set_cons_zero, List.set_cons_succ]
        refine wpAnyH_ready (rs := [1]) (by kernel_rfl) (by simp) ?_
        refine AllReadyH.cons rfl (fun K hK => ?_) AllReadyH.nil
        have d6 := b4.cell' (i := 6) rfl
        go_simp
        refine hK.out _ _ hHeld (fun hHeld => ?_)
        clear hK K
        try simp only [Act.put, List.getElem_toArray, List.getElem_cons_succ, List.getElem_cons_zero, List.setIfInBounds_toArray, List.set_cons_zero, List.set_cons_succ]
        refine wpAnyH_ready (rs := [16]) (by kernel_rfl) (by simp) ?_
        refine AllReadyH.cons rfl (fun K hK => ?_) AllReadyH.nil
        refine wp_append_ext (.tmp 81) (.tmp 95) rfl N0 (.slice pl k cl) k (rtL xs k) ⟨(a1 : Int), (a2 : Int), (a3 : Int)⟩ _ _ rfl ho4 rfl s4 (by omega) hN4 ?_
        intro p6 c6 w6 hown6 hgrow6 hb6
        have hS6 := hHeld.grown hgrow6 (fun e => hne9 0 e.symm)
        have b6 := b4.below hb6 hg8
        have z6 := z4.below hb6 (by omega)
        have ch6 := ch4.low hb6 hg5
        have hN6 := Nat.le_trans hN4 hb6.size
        have hby := hbx.trans (hb6.mono HWN.out)
        refine hK.out _ _ hS6 (fun hHeld => ?_)
        clear hK K
        try simp only [Act.put, List.getElem_toArray, List.getElem_cons_succ, List.getElem_cons_zero, List.setIfInBounds_toArray, List.set_cons_zero, List.set_cons_succ]
        refine wpAnyH_take (i := 17) (v := ?_) rfl (by kernel_rfl) (by kernel_rfl) (by kernel_rfl) (fun _ _ _ h => h) (Or.inl ⟨by rfl, ?_⟩) hHeld ?_
        rotate_left
        · intro w' hSw; try dsimp only at hSw
          go_simp; try (with_reducible rfl)
        try simp only [Act.put, List.getElem_toArray, List.getElem_cons_succ, List.getElem_cons_zero, List.setIfInBounds_toArray, List.set_cons_zero, List.set_cons_succ]
        refine wpAnyH_ready (rs := [18]) (by kernel_rfl) (by simp) ?_
        refine AllReadyH.cons rfl (fun K hK => ?_) AllReadyH.nil
        refine wp_store_cell 22 (.tmp 97) (.tmp 96) rfl g8 6 (.slice p6 (k + 1) c6) rfl rfl b6 (by simp) size_exts rfl ?_ rfl
        intro y18 b18 t18
        have z18 := z6.turned t18 (by omega)
        have ch18 := ch6.turned t18 (by omega)
        have hbz := t18.below hby HG8.out
        have hN18 : N0 ≤ y18.heap.size := by rw [t18.size]; exact hN6
        refine hK.out _ _ (hHeld.turned t18 (by omega)) (fun hHeld => ?_)
        clear hK K
        try simp only [Act.put, List.getElem_toArray, List.getElem_cons_succ, List.getElem_cons_zero, List.setIfInBounds_toArray, List.set_cons_zero, List.set_cons_succ]
        refine wpAnyH_done (by kernel_rfl) ?_ _
        refine NoPanic.normal ?_
        go_wp2
        go_roundw
        case rel => exact ⟨k + 1, p6, c6, by omega, by go_num, by rw [HRS.out]; exact owns_turnedE hown6 t18 hg8, b18, z18, ch18, hbz, hN18⟩
        case measure => simp [intOf]; omega
      · have hkn : ¬ (k : Int) < (f2 : Int) := by omega
        obtain rfl : k = f2 := by omega
        obtain ⟨hg8, hg5, hgG, h5g⟩ := hGG.out
        have hx' := hx.below hbel
        obtain ⟨p9, c9, hv9, hi9⟩ := in_of_ownsE hown (by omega)
        cases hv9
        have hfr := owns_newP hown
        obtain ⟨d0, d1, d2, d3, d4, d5, d6⟩ := hb.ino7
        have hen := rencode14_any ⟨(f0 : Int), (f4 : Int), (f5 : Int), (f6 : Int), (f7 : Int), (f1 : Int), rtL xs k⟩ pl k cl wr hi9
        have hdd : decB xs = (inoB ⟨(f0 : Int), (f4 : Int), (f5 : Int), (f6 : Int), (f7 : Int), (f1 : Int), rtL xs k⟩ && (encL ⟨(f0 : Int), (f4 : Int), (f5 : Int), (f6 : Int), (f7 : Int), (f1 : Int), rtL xs k⟩ == xs)) := by unfold decB; rw [HRX.out, HL.out]; simp
        cases hm : inoB ⟨(f0 : Int), (f4 : Int), (f5 : Int), (f6 : Int), (f7 : Int), (f1 : Int), rtL xs k⟩ with
        | false =>
          rw [hm, Bool.false_and] at hdd
          have HD : Hid (decI xs = zeroI ∧ decE xs = 140) := ⟨decI_no hdd, decE_no hdd⟩
          rw [inoE_no hm] at hen
          clear hdd hm
          go_wp2_with fail
          refine hen.mono ?_
          rintro e w2 ⟨p2, n2, c2, rfl, hin2, hb2, hf2⟩
          have hz2 := hz.kept hb2
          have hB2 := bt hbel hb2
          clear d0 d1 d2 d3 d4 d5 d6
          go_wp2_with (guard_target = wpList _ _ _ (Oper.mk _ (Op.store 24 (Operand.tmp 2) _) _ _ _ _ :: _) _ _; refine wpList_store_blk rfl 24 (.tmp 2) (.tmp 112) rfl _ 0 [.int .i64 0, .int .i64 0, .int .i64 0, .int .i64 0, .int .i64 0, .int .i64 0, .slice none 0 0] rfl rfl hz2 (by simp) size_ino one7 ?_; intro w8 b8 t8)
          have b8 : Blk w8 w.heap.size 24 [.int .i64 0, .int .i64 0, .int .i64 0, .int .i64 0, .int .i64 0, .int .i64 0, .slice none 0 0] := b8
          refine ret_inoE rfl rfl b8 rfl rfl ⟨none, 0, 0, by rw [HD.out.1, HD.out.2]; rfl, by rw [HD.out.1]; exact InE.empty _, t8.below hB2 (Nat.le_refl _), fun a h => by cases h⟩
        | true =>
          rw [hm, Bool.true_and] at hdd
          rw [inoE_ok hm] at hen
          clear hm
          go_wp2_with fail
          refine hen.mono ?_
          rintro e w2 ⟨p2, n2, c2, rfl, hin2, hb2, hf2⟩
          have hz2 := hz.kept hb2
          have hB2 := bt hbel hb2
          have h1 := conv_in hin2
          have h2 := conv_in (hx'.below hb2)
          have hse := str_eq hin2.byte hx.byte
          clear d0 d1 d2 d3 d4 d5 d6
          cases hq : (encL ⟨(f0 : Int), (f4 : Int), (f5 : Int), (f6 : Int), (f7 : Int), (f1 : Int), rtL xs k⟩ == xs) with
          | false =>
            rw [hq] at hdd hse
            have hsn : ((strOfNums ((encL ⟨(f0 : Int), (f4 : Int), (f5 : Int), (f6 : Int), (f7 : Int), (f1 : Int), rtL xs k⟩).map fun x : Nat => (x : Int))).toList != (strOfNums (xs.map fun x : Nat => (x : Int))).toList) = true := by
              rw [bne, hse]; rfl
            have HD : Hid (decI xs = zeroI ∧ decE xs = 140) := ⟨decI_no hdd, decE_no hdd⟩
            clear hdd hq
            go_wp2_with (guard_target = wpList _ _ _ (Oper.mk _ (Op.store 24 (Operand.tmp 2) _) _ _ _ _ :: _) _ _; refine wpList_store_blk rfl 24 (.tmp 2) (.tmp 112) rfl _ 0 [.int .i64 0, .int .i64 0, .int .i64 0, .int .i64 0, .int .i64 0, .int .i64 0, .slice none 0 0] rfl rfl hz2 (by simp) size_ino one7 ?_; intro w8 b8 t8)
            have b8 : Blk w8 w.heap.size 24 [.int .i64 0, .int .i64 0, .int .i64 0, .int .i64 0, .int .i64 0, .int .i64 0, .slice none 0 0] := b8
            refine ret_inoE rfl rfl b8 rfl rfl ⟨none, 0, 0, by rw [HD.out.1, HD.out.2]; rfl, by rw [HD.out.1]; exact InE.empty _, t8.below hB2 (Nat.le_refl _), fun a h => by cases h⟩
          | true =>
            rw [hq] at hdd hse
            have hsn : ((strOfNums ((encL ⟨(f0 : Int), (f4 : Int), (f5 : Int), (f6 : Int), (f7 : Int), (f1 : Int), rtL xs k⟩).map fun x : Nat => (x : Int))).toList != (strOfNums (xs.map fun x : Nat => (x : Int))).toList) = false := by
              rw [bne, hse]; rfl
            have HD : Hid (decI xs = ⟨(f0 : Int), (f4 : Int), (f5 : Int), (f6 : Int), (f7 : Int), (f1 : Int), rtL xs k⟩ ∧ decE xs = 0) := ⟨(decI_ok hdd).trans HRX.out, decE_ok hdd⟩
            clear hdd hq
            obtain ⟨d0, d1, d2, d3, d4, d5, d6⟩ := (hb.kept hb2).ino7
            go_wp2_with (guard_target = wpList _ _ _ (Oper.mk _ (Op.store 24 (Operand.tmp 2) _) _ _ _ _ :: _) _ _; refine wpList_store_blk rfl 24 (.tmp 2) (.tmp 113) rfl _ 0 [.int .i64 (f0 : Int), .int .i64 (f4 : Int), .int .i64 (f5 : Int), .int .i64 (f6 : Int), .int .i64 (f7 : Int), .int .i64 (f1 : Int), .slice pl k cl] rfl rfl hz2 (by simp) size_ino one7 ?_; intro w8 b8 t8)
            have b8 : Blk w8 w.heap.size 24 [.int .i64 (f0 : Int), .int .i64 (f4 : Int), .int .i64 (f5 : Int), .int .i64 (f6 : Int), .int .i64 (f7 : Int), .int .i64 (f1 : Int), .slice pl k cl] := b8
            refine ret_inoE rfl rfl b8 rfl rfl ⟨pl, k, cl, by rw [HD.out.1, HD.out.2]; rfl, by rw [HD.out.1]; exact (hi9.below hb2).turnedAt t8 (fun _ a h e => by have := hfr a h; omega), t8.below hB2 (Nat.le_refl _), fun a h => by have h1 := HWN.out; have h2 := hfr a h; omega⟩
  · have hnz : ((n : Int) != 64) = true := by rw [bne_iff_ne]; omega
    have hok : decB xs = false := by unfold decB; rw [HL.out, show (n == 64) = false from by rw [beq_eq_false_iff_ne]; exact hn]; rfl
    have HD : Hid (decI xs = zeroI ∧ decE xs = 140) := ⟨decI_no hok, decE_no hok⟩
    clear hok hn
    go_enter Try.func11, Try.ntmps11
    go_wp2_with (guard_target = wpList _ _ _ (Oper.mk _ (Op.store 24 (Operand.tmp 2) _) _ _ _ _ :: _) _ _; refine wpList_store_blk rfl 24 (.tmp 2) (.tmp 15) rfl _ 0 [.int .i64 0, .int .i64 0, .int .i64 0, .int .i64 0, .int .i64 0, .int .i64 0, .slice none 0 0] rfl rfl r0 (by simp) size_ino one7 ?_; intro w8 b8 t8)
    have b8 : Blk w8 w.heap.size 24 [.int .i64 0, .int .i64 0, .int .i64 0, .int .i64 0, .int .i64 0, .int .i64 0, .slice none 0 0] := b8
    refine ret_inoE rfl rfl b8 rfl rfl ⟨none, 0, 0, by rw [HD.out.1, HD.out.2]; rfl, by rw [HD.out.1]; exact InE.empty _, t8.below hb0 (Nat.le_refl _), fun a h => by cases h⟩
end Go.Proofs.Ytgeomfgfeemciaa

namespace Go.Proofs.Ytgeomfgfeemciaa
open Go.RowKit
set_option linter.unusedSimpArgs false in
set_option linter.unusedVariables false in
set_option maxRecDepth 100000 in
set_option maxHeartbeats 8000000 in
theorem there_any (p : Option Addr) (n c : Nat) (xs : List Nat) (s : Int) (w : World) (hx : In w p n c xs) :
    Calls Try.prog 44 #[.slice p n c, .int .i64 s] w fun e w' => e = .returned (.bool (thB xs s)) ∧ w' = w := by
  have HL : Hid (xs.length = n) := hx.len
  by_cases hn : n = 256
  · subst hn
    by_cases h1 : 0 ≤ s
    · by_cases h2 : s < 4
      · have HE : Hid (thB xs s = true) := thB_iff.2 ⟨HL.out, h1, by omega⟩
        have g1 : s ≥ 0 := h1
        go_enter Try.func44, Try.ntmps44
        go_wp2
        go_ret
        exact ⟨ret_bool HE.out.symm, rfl⟩
      · have HE : Hid (thB xs s = false) := by show _ = _; cases h : thB xs s with | false => rfl | true => have := (thB_iff.1 h).2.2; omega
        have g1 : s ≥ 0 := h1
        go_enter Try.func44, Try.ntmps44
        go_wp2
        go_ret
        exact ⟨ret_bool HE.out.symm, rfl⟩
    · have HE : Hid (thB xs s = false) := by show _ = _; cases h : thB xs s with | false => rfl | true => have := (thB_iff.1 h).2.1; omega
      have g1 : ¬ s ≥ 0 := h1
      go_enter Try.func44, Try.ntmps44
      go_wp2
      go_ret
      exact ⟨ret_bool HE.out.symm, rfl⟩
  · have HE : Hid (thB xs s = false) := by show _ = _; cases h : thB xs s with | false => rfl | true => have := (thB_iff.1 h).1; rw [HL.out] at this; omega
    have hnz : ((n : Int) == 256) = false := by rw [beq_eq_false_iff_ne]; omega
    clear hn
    go_enter Try.func44, Try.ntmps44
    go_wp2
    go_ret
    exact ⟨ret_bool HE.out.symm, rfl⟩
set_option linter.unusedSimpArgs false in
set_option linter.unusedVariables false in
set_option maxRecDepth 100000 in
set_option maxHeartbeats 8000000 in
theorem rget_any (p : Option Addr) (n c : Nat) (xs : List Nat) (s : Int) (w : World) (hx : In w p n c xs) :
    Calls Try.prog 23 #[.slice p n c, .int .i64 s] w fun e w' => ∃ p' n' c', e = .returned (.tuple #[(getI xs s).val p' n' c', .int .i64 (getE xs s)]) ∧ InE w' p' n' c' (getI xs s).rt ∧ Below w.heap.size w w' ∧ ∀ a, p' = some a → w.heap.size ≤ a.block := by
  have hb0 := below_alloc w (.cells #[.int .i64 0, .int .i64 0, .int .i64 0, .int .i64 0, .int .i64 0, .int .i64 0, .slice none 0 0] 24)
  have r0 := Blk.new' w 24 #[.int .i64 0, .int .i64 0, .int .i64 0, .int .i64 0, .int .i64 0, .int .i64 0, .slice none 0 0]
  have hx0 := hx.below hb0
  have hlen := hx.len
  cases ht : thB xs s with
  | false =>
    have HD : Hid (getI xs s = zeroI ∧ getE xs s = 1) := by show _ ∧ _; unfold getI getE; rw [ht]; exact ⟨rfl, rfl⟩
    go_enter Try.func23, Try.ntmps23
    go_wp2_with (first
      | (go_at_call 44; refine (there_any p n c xs s _ hx0).mono ?_; rintro e w' ⟨rfl, hw'⟩; have hw2 := hw'.symm; subst hw2; clear hw'; rw [ht])
      | (guard_target = wpList _ _ _ (Oper.mk _ (Op.store 24 (Operand.tmp 4) _) _ _ _ _ :: _) _ _; refine wpList_store_blk rfl 24 (.tmp 4) (.tmp 10) rfl _ 0 [.int .i64 0, .int .i64 0, .int .i64 0, .int .i64 0, .int .i64 0, .int .i64 0, .slice none 0 0] rfl rfl r0 (by simp) size_ino one7 ?_; intro w8 b8 t8))
    refine ret_inoE rfl rfl b8 rfl rfl ⟨none, 0, 0, by rw [HD.out.1, HD.out.2]; rfl, by rw [HD.out.1]; exact InE.empty _, t8.below hb0 (Nat.le_refl _), fun a h => by cases h⟩
  | true =>
    obtain ⟨h1, h2, h3⟩ := thB_iff.1 ht
    have HD : Hid (getI xs s = decI (plL xs s) ∧ getE xs s = decE (plL xs s)) := by show _ ∧ _; unfold getI getE; rw [ht]; exact ⟨rfl, rfl⟩
    have HP : Hid (plL xs s = (xs.drop (64 * s.toNat)).take 64) := by show _ = _; unfold plL; rw [ht]; rfl
    have hdec := fun p n c w h => rdecode14_any p n c (plL xs s) w h
    rw [HP.out] at hdec HD
    have HT : Hid (thB xs s = true) := ht
    clear ht HP
    have hn : n = 256 := hlen.symm.trans h1
    subst hn
    have hcap := hx.cap
    obtain ⟨b, o, hpe, hbl, -⟩ := hx.at' (by decide)
    subst hpe
    obtain ⟨j, hj⟩ := Int.eq_ofNat_of_zero_le h2
    subst hj
    rw [Int.toNat_natCast] at HD hdec
    obtain ⟨k, hk⟩ : ∃ k : Nat, k = 64 * j := ⟨_, rfl⟩
    obtain ⟨m, hm⟩ : ∃ m : Nat, m = k + 64 := ⟨_, rfl⟩
    have hj3 : (j : Int) ≤ 3 := h3
    have hk' : (j : Int) * 64 = (k : Int) := by omega
    have hm' : (k : Int) + 64 = (m : Int) := by omega
    have hk4 : (k : Int) ≤ 192 := by omega
    have hm4 : (m : Int) ≤ 256 := by omega
    have hsl := fun W => slice_mid b o 256 c k m (by omega) (by omega) hcap W
    rw [show m - k = 64 from by omega] at hsl
    have hin := ((hx0.back k (by omega)).front 64 (by omega))
    rw [← hk] at HD hdec
    clear hk hm h1 h2 h3 hlen
    generalize decE (List.take 64 (List.drop k xs)) = ee at HD hdec
    generalize decI (List.take 64 (List.drop k xs)) = x at HD hdec
    obtain ⟨kd, lk, sz, nx, ge, dp, rt⟩ := x
    dsimp only at hdec
    go_enter Try.func23, Try.ntmps23
    go_wp2_with (first
      | (go_at_call 44; refine (there_any (some ⟨b, o, none⟩) 256 c xs (j : Int) _ hx0).mono ?_; rintro e w' ⟨rfl, hw'⟩; have hw2 := hw'.symm; subst hw2; clear hw'; rw [HT.out])
      | (go_at_call 11; refine (hdec _ _ _ _ hin).mono ?_; rintro e w1 ⟨p2, n2, c2, rfl, hi2, hb2, hf2⟩; have r1 := r0.kept hb2; have hB2 := bt hb0 hb2)
      | (guard_target = wpList _ _ _ (Oper.mk _ (Op.store 24 (Operand.tmp 4) _) _ _ _ _ :: _) _ _; refine wpList_store_blk rfl 24 (.tmp 4) (.tmp 19) rfl _ 0 [.int .i64 kd, .int .i64 lk, .int .i64 sz, .int .i64 nx, .int .i64 ge, .int .i64 dp, .slice p2 n2 c2] rfl rfl r1 (by simp) size_ino one7 ?_; intro w8 b8 t8))
    refine ret_inoE rfl rfl b8 rfl rfl ⟨p2, n2, c2, by rw [HD.out.1, HD.out.2]; rfl, by rw [HD.out.1]; exact hi2.turnedAt t8 (fun _ a h e => by have := hf2 a h; rw [World.size_alloc] at this; omega), t8.below hB2 (Nat.le_refl _), fun a h => by have := hf2 a h; rw [World.size_alloc] at this; omega⟩
end Go.Proofs.Ytgeomfgfeemciaa

namespace Go.Proofs.Ytgeomfgfeemciaa
open Go.RowKit
theorem mid3 {α : Type} {A B C : List α} {k m j : Nat} (hA : A.length = k) (hB : B.length = m) : (A ++ B ++ C)[j]? = if j < k then A[j]? else if j < k + m then B[j - k]? else C[j - (k + m)]? := by
  by_cases h1 : j < k
  · rw [if_pos h1, List.append_assoc, List.getElem?_append_left (by omega)]
  · rw [if_neg h1]
    by_cases h2 : j < k + m
    · rw [if_pos h2, List.getElem?_append_left (by rw [List.length_append]; omega), List.getElem?_append_right (by omega), hA]
    · rw [if_neg h2, List.getElem?_append_right (by rw [List.length_append]; omega), List.length_append, hA, hB]
theorem copy64 {w : World} {B g cap k : Nat} {xs ys : List Nat} {p : Option Addr} {c : Nat} (h : w.ownsRow B 5 1 (.slice (some ⟨g, 0, none⟩) 256 cap) 256 (vals xs)) (hx : xs.length = 256) (hb : ∀ x ∈ xs, x < 256) (hk : k + 64 ≤ 256) (hy : In w p 64 c ys) :
    ∃ w', (Builtin.copy_ #[25, 25] 3 #[.slice (some ⟨g, k, none⟩) (256 - k) (cap - k), .slice p 64 c]).run Try.prog w = .ok (.int .i64 64) w' ∧ In w' (some ⟨g, 0, none⟩) 256 cap (xs.take k ++ ys ++ xs.drop (k + 64)) ∧ Turned w w' g := by
  obtain ⟨b, so, rfl, _, hc⟩ := hy.at' (by decide)
  have hl := hy.len
  rcases h.2 with ⟨hn, _⟩ | ⟨g', cap', cur, hv, hB, hg, hnc, hcm, hcs, ht⟩
  · cases hn
  · cases hv
    have hlen : (vals ys).length = 64 := by rw [vals_length, hl]
    have hr := run_copy_row (P := Try.prog) w 25 25 3 5 g k (256 - k) (cap - k) ⟨b, so, none⟩ 64 c cur 5 (vals ys) Try.underlying25 size5 hg (by rw [hlen]; show 64 = min 64 (256 - k); omega)
      (fun j v hj => hy.cells rfl j v hj) (by rw [hlen]; omega) (vals_one _)
    rw [hlen] at hr
    refine ⟨_, hr, ?_, Turned.setRow _ _ _⟩
    have hN : (w.setRow g (cur.toList.take k ++ vals ys ++ cur.toList.drop (k + 64)).toArray).ownsRow B 5 1 (.slice (some ⟨g, 0, none⟩) 256 cap) 256 (vals (xs.take k ++ ys ++ xs.drop (k + 64))) := by
      refine ⟨by rw [vals_length, List.length_append, List.length_append, List.length_take, List.length_drop, hx, hl]; omega, .inr ⟨g, cap, _, rfl, hB, setRow_heap w g cur _ 5 _ hg, hnc, hcm, ?_, ?_⟩⟩
      · simp only [List.size_toArray, List.length_append, List.length_take, List.length_drop, Array.length_toList, hlen]
        omega
      · rw [vals_append, vals_append, vals_take, vals_drop, ← ht]
        simp only [Nat.mul_one]
        refine List.ext_getElem? fun j => ?_
        have hs : cur.toList.length = cap := by rw [Array.length_toList, hcs, Nat.mul_one]
        have hk2 : (cur.toList.take k).length = k := by rw [List.length_take]; omega
        have hk3 : ((cur.toList.take 256).take k).length = k := by rw [List.length_take, List.length_take]; omega
        rcases Nat.lt_or_ge j 256 with hj | hj
        · rw [List.getElem?_take_of_lt hj, mid3 hk2 hlen, mid3 hk3 hlen]
          split
          · rename_i h1
            rw [List.getElem?_take_of_lt h1, List.getElem?_take_of_lt h1, List.getElem?_take_of_lt hj]
          · split
            · rfl
            · rw [List.getElem?_drop, List.getElem?_drop, show k + 64 + (j - (k + 64)) = j from by omega, List.getElem?_take_of_lt hj]
        · rw [List.getElem?_eq_none (by rw [List.length_take]; omega), List.getElem?_eq_none (by rw [List.length_append, List.length_append, hk3, List.length_drop, List.length_take, hlen]; omega)]
    obtain ⟨p', c', hv, hin⟩ := in_of_owns hN (fun x hx' => by
      rcases List.mem_append.1 hx' with h1 | h1
      · rcases List.mem_append.1 h1 with h2 | h2
        · exact hb x (List.mem_of_mem_take h2)
        · exact hy.byte x h2
      · exact hb x (List.mem_of_mem_drop h1)) (by decide)
    cases hv
    exact hin
theorem slice_back0 (b o n c k : Nat) (h : k < n) (hc : n ≤ c) (W : World) :
    (Instr.slice 25 (.slice (some ⟨b, o, none⟩) n c) (some (.int .i64 (k : Int))) none none).run Try.prog W = .ok (.slice (some ⟨b, o + k, none⟩) (n - k) (c - k)) W := slice_back b o n c k h hc W
set_option linter.unusedSimpArgs false in
set_option linter.unusedVariables false in
set_option maxRecDepth 100000 in
set_option maxHeartbeats 8000000 in
theorem iput_any (x : Ino) (p q : Option Addr) (n c m d : Nat) (xs : List Nat) (s : Int) (w : World) (hx : InE w q m d x.rt) (ht : In w p n c xs) :
    Calls Try.prog 24 #[.slice p n c, .int .i64 s, x.val q m d] w fun e w' => ∃ p' n' c', e = .returned (.tuple #[.slice p' n' c', .int .i64 (putE xs s x)]) ∧ In w' p' n' c' (putL xs s x) ∧ Below w.heap.size w w' := by
  obtain ⟨kd, lk, sz, nx, ge, dp, rt⟩ := x
  dsimp only at hx
  have hb0 := below_alloc w (.cells #[.int .i64 kd, .int .i64 lk, .int .i64 sz, .int .i64 nx, .int .i64 ge, .int .i64 dp, .slice q m d] 24)
  have r0 := Blk.new' w 24 #[.int .i64 kd, .int .i64 lk, .int .i64 sz, .int .i64 nx, .int .i64 ge, .int .i64 dp, .slice q m d]
  have hx0 := hx.below hb0
  have ht0 := ht.below hb0
  obtain ⟨a0, a1, a2, a3, a4, a5, a6⟩ := r0.ino7
  cases hth : thB xs s with
  | false =>
    have HE : Hid (plE xs s = 1) := by show _ = _; unfold plE; rw [hth]; rfl
    have HD : Hid (putE xs s ⟨kd, lk, sz, nx, ge, dp, rt⟩ = 1 ∧ putL xs s ⟨kd, lk, sz, nx, ge, dp, rt⟩ = []) := by show _ ∧ _; unfold putE putL; rw [hth]; exact ⟨rfl, rfl⟩
    clear hth
    go_enter Try.func24, Try.ntmps24
    go_wp2_with (go_at_call 43; refine (place_any p n c xs s _ ht0).mono ?_; rintro e w' ⟨p1, n1, c1, rfl, hi1, hw'⟩; have hw2 := hw'.symm; subst hw2; clear hw'; rw [HE.out])
    go_ret2
    exact ⟨none, 0, 0, by rw [HD.out.1]; rfl, by rw [HD.out.2]; exact In.empty _, hb0⟩
  | true =>
    have HE : Hid (plE xs s = 0) := by show _ = _; unfold plE; rw [hth]; rfl
    obtain ⟨h1, h2, h3⟩ := thB_iff.1 hth
    cases hm : inoB ⟨kd, lk, sz, nx, ge, dp, rt⟩ with
    | false =>
      have HM : Hid (inoE ⟨kd, lk, sz, nx, ge, dp, rt⟩ = 140) := inoE_no hm
      have HD : Hid (putE xs s ⟨kd, lk, sz, nx, ge, dp, rt⟩ = 140 ∧ putL xs s ⟨kd, lk, sz, nx, ge, dp, rt⟩ = []) := by show _ ∧ _; unfold putE putL; rw [hth, hm]; exact ⟨inoE_no hm, rfl⟩
      clear hth hm
      go_enter Try.func24, Try.ntmps24
      go_wp2_with (first
        | (go_at_call 43; refine (place_any p n c xs s _ ht0).mono ?_; rintro e w' ⟨p1, n1, c1, rfl, hi1, hw'⟩; have hw2 := hw'.symm; subst hw2; clear hw'; rw [HE.out])
        | (go_at_call 8; refine (iencode_any ⟨kd, lk, sz, nx, ge, dp, rt⟩ q m d _ hx0).mono ?_; rintro e w2 ⟨p2, n2, c2, rfl, hin2, hb2, hf2⟩; rw [HM.out]))
      go_ret2
      exact ⟨none, 0, 0, by rw [HD.out.1]; rfl, by rw [HD.out.2]; exact In.empty _, bt hb0 hb2⟩
    | true =>
      have HM : Hid (inoE ⟨kd, lk, sz, nx, ge, dp, rt⟩ = 0) := inoE_ok hm
      have HD : Hid (putE xs s ⟨kd, lk, sz, nx, ge, dp, rt⟩ = 0 ∧ putL xs s ⟨kd, lk, sz, nx, ge, dp, rt⟩ = xs.take (64 * s.toNat) ++ encL ⟨kd, lk, sz, nx, ge, dp, rt⟩ ++ xs.drop (64 * s.toNat + 64)) := by show _ ∧ _; refine ⟨?_, putL_ok hth hm⟩; unfold putE; rw [hth]; exact inoE_ok hm
      have HL : Hid ((encL ⟨kd, lk, sz, nx, ge, dp, rt⟩).length = 64) := encL_len hm
      obtain ⟨j, hj⟩ := Int.eq_ofNat_of_zero_le h2
      subst hj
      rw [Int.toNat_natCast] at HD
      have hn := ht.len
      rw [h1] at hn
      subst hn
      have HX : Hid (xs.length = 256) := h1
      have hbyte := ht.byte
      obtain ⟨b, o, hpe, hbl, -⟩ := ht.at' (by decide)
      subst hpe
      obtain ⟨k, hk⟩ : ∃ k : Nat, k = 64 * j := ⟨_, rfl⟩
      have hj3 : (j : Int) ≤ 3 := h3
      have hk' : (j : Int) * 64 = (k : Int) := by omega
      have hk4 : (k : Int) ≤ 192 := by omega
      have hkn : k + 64 ≤ 256 := by omega
      rw [← hk] at HD
      clear hk hth hm h1 h2 h3
      go_enter Try.func24, Try.ntmps24
      go_upto_region 8 with (first
        | (go_at_call 43; refine (place_any (some ⟨b, o, none⟩) 256 c xs (j : Int) _ ht0).mono ?_; rintro e w' ⟨p1, n1, c1, rfl, hi1, hw'⟩; have hw2 := hw'.symm; subst hw2; clear hw'; rw [HE.out])
        | (go_at_call 8; refine (iencode_any ⟨kd, lk, sz, nx, ge, dp, rt⟩ q m d _ hx0).mono ?_; rintro e w2 ⟨p2, n2, c2, rfl, hin2, hb2, hf2⟩; rw [HM.out])
        | (go_at_call 21; refine (clone_owns ⟨b, o, none⟩ 256 c xs _ (ht0.below hb2)).mono ?_; rintro e w3 ⟨v3, rfl, hown3, hb3⟩))
      have hn2 := hin2.len
      rw [HL.out] at hn2
      subst hn2
      obtain ⟨p3, c3, rfl⟩ := owns_slice hown3
      obtain ⟨g3, rfl⟩ : ∃ g, p3 = some ⟨g, 0, none⟩ := by
        rcases hown3.2 with ⟨hn, _⟩ | ⟨g, cap, cur, hv, _⟩
        · cases hn
        · cases hv; exact ⟨g, rfl⟩
      have hge := owns_newP hown3 _ rfl
      have hcap3 : 256 ≤ c3 := by
        rcases hown3.2 with ⟨hn, _⟩ | ⟨g, cap, cur, hv, _, _, hc, _⟩
        · cases hn
        · cases hv; exact hc
      obtain ⟨w4, hcp, hin4, ht4⟩ := copy64 (k := k) hown3 HX.out hbyte hkn (hin2.below hb3)
      have hsl := fun W => slice_back g3 0 256 c3 k (by omega) hcap3 W
      rw [Nat.zero_add] at hsl
      have hB2 := bt hb0 hb2
      have hB4 := ht4.below (bt hB2 hb3) (by have := hB2.size; dsimp only at hge; omega)
      clear hown3 hin2 hi1 hge
      generalize 256 - k = L at hcp hsl
      generalize c3 - k = C at hcp hsl
      go_wp2
      go_ret2
      exact ⟨_, _, _, by rw [HD.out.1]; rfl, by rw [HD.out.2]; exact hin4, hB4⟩
end Go.Proofs.Ytgeomfgfeemciaa

namespace Go.Proofs.Ytgeomfgfeemciaa
open Go.RowKit
theorem In.low {w w' : World} {B : Nat} {p : Option Addr} {n c : Nat} {xs : List Nat} (h : In w p n c xs) (hb : Below B w w') (hl : ∀ a, p = some a → a.block < B) : In w' p n c xs :=
  ⟨h.len, h.cap, h.max, h.room, h.byte, fun h0 => by
    obtain ⟨b, o, hp, hlt, hc⟩ := h.at' h0
    exact ⟨b, o, hp, Nat.lt_of_lt_of_le hlt hb.size, fun i hi => (hb.cell (p := ⟨b, o + i, none⟩) (show b < B from hl ⟨b, o, none⟩ hp)).trans (hc i hi)⟩, h.nil⟩
theorem slice_rest (b o n c k : Nat) (h : k ≤ n) (hc : n ≤ c) : ∃ o', (k < n → o' = o + k) ∧ ∀ W,
    (Instr.slice 25 (.slice (some ⟨b, o, none⟩) n c) (some (.int .i64 (k : Int))) none none).run Try.prog W = .ok (.slice (some ⟨b, o', none⟩) (n - k) (c - k)) W := by
  by_cases hk : k < n
  · exact ⟨o + k, fun _ => rfl, fun W => slice_back b o n c k hk hc W⟩
  · have hkn : k = n := by omega
    subst hkn
    by_cases hck : c = k
    · refine ⟨o, fun h => absurd h hk, fun W => ?_⟩
      subst hck
      simp [Instr.slice, Instr.sliceBounds, Instr.sliceBound, run_underlying Try.underlying25, asIntOf]
    · refine ⟨o + k, fun h => absurd h hk, fun W => ?_⟩
      simp [Instr.slice, Instr.sliceBounds, Instr.sliceBound, run_underlying Try.underlying25, asIntOf, hck, addr_add]
set_option linter.unusedSimpArgs false in
set_option linter.unusedVariables false in
set_option maxRecDepth 100000 in
set_option maxHeartbeats 8000000 in
theorem rput_any (x : Ino) (p q : Option Addr) (n c m d : Nat) (xs : List Nat) (s : Int) (w : World) (hx : InE w q m d x.rt) (ht : In w p n c xs) :
    Calls Try.prog 25 #[.slice p n c, .int .i64 s, x.val q m d] w fun e w' => ∃ p' n' c', e = .returned (.tuple #[.slice p' n' c', .int .i64 (putE xs s x)]) ∧ In w' p' n' c' (putL xs s x) ∧ Below w.heap.size w w' := by
  obtain ⟨i0, hi, hz0, hz1, hz2⟩ := info_parts info5
  obtain ⟨kd, lk, sz, nx, ge, dp, rt⟩ := x
  dsimp only at hx
  have hb0 := below_alloc w (.cells #[.int .i64 kd, .int .i64 lk, .int .i64 sz, .int .i64 nx, .int .i64 ge, .int .i64 dp, .slice q m d] 24)
  have r0 := Blk.new' w 24 #[.int .i64 kd, .int .i64 lk, .int .i64 sz, .int .i64 nx, .int .i64 ge, .int .i64 dp, .slice q m d]
  have hx0 := hx.below hb0
  have ht0 := ht.below hb0
  obtain ⟨a0, a1, a2, a3, a4, a5, a6⟩ := r0.ino7
  cases hth : thB xs s with
  | false =>
    have HD : Hid (putE xs s ⟨kd, lk, sz, nx, ge, dp, rt⟩ = 1 ∧ putL xs s ⟨kd, lk, sz, nx, ge, dp, rt⟩ = []) := by show _ ∧ _; unfold putE putL; rw [hth]; exact ⟨rfl, rfl⟩
    go_enter Try.func25, Try.ntmps25
    go_wp2_with (go_at_call 44; refine (there_any p n c xs s _ ht0).mono ?_; rintro e w' ⟨rfl, hw'⟩; have hw2 := hw'.symm; subst hw2; clear hw'; rw [hth])
    go_ret2
    exact ⟨none, 0, 0, by rw [HD.out.1]; rfl, by rw [HD.out.2]; exact In.empty _, hb0⟩
  | true =>
    obtain ⟨h1, h2, h3⟩ := thB_iff.1 hth
    cases hm : inoB ⟨kd, lk, sz, nx, ge, dp, rt⟩ with
    | false =>
      have HM : Hid (inoE ⟨kd, lk, sz, nx, ge, dp, rt⟩ = 140) := inoE_no hm
      have HD : Hid (putE xs s ⟨kd, lk, sz, nx, ge, dp, rt⟩ = 140 ∧ putL xs s ⟨kd, lk, sz, nx, ge, dp, rt⟩ = []) := by show _ ∧ _; unfold putE putL; rw [hth, hm]; exact ⟨inoE_no hm, rfl⟩
      have HT : Hid (thB xs s = true) := hth
      clear hth hm h1 h2 h3
      go_enter Try.func25, Try.ntmps25
      go_wp2_with (first
        | (go_at_call 44; refine (there_any p n c xs s _ ht0).mono ?_; rintro e w' ⟨rfl, hw'⟩; have hw2 := hw'.symm; subst hw2; clear hw'; rw [HT.out])
        | (go_at_call 9; refine (rencode14_any ⟨kd, lk, sz, nx, ge, dp, rt⟩ q m d _ hx0).mono ?_; rintro e w2 ⟨p2, n2, c2, rfl, hin2, hb2, hf2⟩; rw [HM.out]))
      go_ret2
      exact ⟨none, 0, 0, by rw [HD.out.1]; rfl, by rw [HD.out.2]; exact In.empty _, bt hb0 hb2⟩
    | true =>
      have HM : Hid (inoE ⟨kd, lk, sz, nx, ge, dp, rt⟩ = 0) := inoE_ok hm
      have HD : Hid (putE xs s ⟨kd, lk, sz, nx, ge, dp, rt⟩ = 0 ∧ putL xs s ⟨kd, lk, sz, nx, ge, dp, rt⟩ = xs.take (64 * s.toNat) ++ encL ⟨kd, lk, sz, nx, ge, dp, rt⟩ ++ xs.drop (64 * s.toNat + 64)) := by show _ ∧ _; refine ⟨?_, putL_ok hth hm⟩; unfold putE; rw [hth]; exact inoE_ok hm
      have HL : Hid ((encL ⟨kd, lk, sz, nx, ge, dp, rt⟩).length = 64) := encL_len hm
      have HT : Hid (thB xs s = true) := hth
      obtain ⟨j, hj⟩ := Int.eq_ofNat_of_zero_le h2
      subst hj
      rw [Int.toNat_natCast] at HD
      have hn := ht.len
      rw [h1] at hn
      subst hn
      have HX : Hid (xs.length = 256) := h1
      have hbyte := ht.byte
      have hcap := ht.cap
      obtain ⟨b, o, hpe, hbl, -⟩ := ht.at' (by decide)
      subst hpe
      obtain ⟨k, hk⟩ : ∃ k : Nat, k = 64 * j := ⟨_, rfl⟩
      obtain ⟨k2, hk2⟩ : ∃ k2 : Nat, k2 = k + 64 := ⟨_, rfl⟩
      have hj3 : (j : Int) ≤ 3 := h3
      have hk' : (j : Int) * 64 = (k : Int) := by omega
      have hk2' : (k : Int) + 64 = (k2 : Int) := by omega
      have hk4 : (k : Int) ≤ 192 := by omega
      have hk5 : (k2 : Int) ≤ 256 := by omega
      rw [← hk, ← hk2] at HD
      have HK2 : Hid (k2 = k + 64) := hk2
      obtain ⟨o2, ho2, hsl2⟩ := slice_rest b o 256 c k2 (by omega) hcap
      have hsl1 := fun W => slice_front (some ⟨b, o, none⟩) 256 c k (by omega) hcap W
      obtain ⟨R, hR⟩ : ∃ R : Nat, R = 256 - k2 := ⟨_, rfl⟩
      have hRl : (xs.drop k2).length = R := by rw [List.length_drop, HX.out, hR]
      have hTl : (xs.take k).length = k := by rw [List.length_take, HX.out]; omega
      have hR5 : (R : Int) ≤ 256 := by omega
      have HRK : Hid (k + 64 + R = 256) := by show _ = _; omega
      have hE := fun p n c w h => rencode14_any ⟨kd, lk, sz, nx, ge, dp, rt⟩ p n c w h
      rw [HM.out] at hE
      generalize encL ⟨kd, lk, sz, nx, ge, dp, rt⟩ = E at *
      have hcells := fun (W : World) (h : In W (some ⟨b, o, none⟩) 256 c xs) => h.cells rfl
      have hf1 : ∀ (W : World), In W (some ⟨b, o, none⟩) 256 c xs → ∀ j u, (vals (xs.take k))[j]? = some u → W.cell? ((⟨b, o, none⟩ : Addr).add j) = some u := fun W h j u hj => ((h.front k (by omega)).cells rfl) j u hj
      have hf2 : ∀ (W : World), In W (some ⟨b, o, none⟩) 256 c xs → ∀ j u, (vals (xs.drop k2))[j]? = some u → W.cell? ((⟨b, o2, none⟩ : Addr).add j) = some u := fun W h j u hj => by
        by_cases hkn : k2 < 256
        · rw [ho2 hkn]; exact ((h.back k2 (by omega)).cells rfl) j u hj
        · rw [List.drop_eq_nil_of_le (by rw [HX.out]; omega)] at hj; cases hj
      rw [← hR] at hsl2
      generalize 256 - k2 = R' at *
      clear hk hk2 hth hm h1 h2 h3 hcells ho2 hR
      generalize c - k2 = C2 at *
      go_enter Try.func25, Try.ntmps25
      go_upto_region 6 with (first
        | (go_at_call 44; refine (there_any (some ⟨b, o, none⟩) 256 c xs (j : Int) _ ht0).mono ?_; rintro e w' ⟨rfl, hw'⟩; have hw2 := hw'.symm; subst hw2; clear hw'; rw [HT.out])
        | (go_at_call 9; refine (hE q m d _ hx0).mono ?_; rintro e w2 ⟨p2, n2, c2, rfl, hin2, hb2, hfr2⟩))
      have hn2 := hin2.len
      rw [HL.out] at hn2
      subst hn2
      have ht2 := ht0.below hb2
      have hB2 := bt hb0 hb2
      obtain ⟨g2, z2, rfl, hl2, _⟩ := hin2.at' (by decide)
      obtain ⟨B, hB⟩ : ∃ B, B = w2.heap.size := ⟨_, rfl⟩
      have hBs : B ≤ w2.heap.size := by omega
      have hg2 : g2 < B := by rw [hB]; exact hl2
      obtain ⟨_, _, hpe2, hbl2, _⟩ := ht2.at' (by decide)
      cases hpe2
      have hbB : b < B := by rw [hB]; exact hbl2
      have hown0 := World.ownsRow_nil w2 B 5 1
      have hc1 := hf1 _ ht2
      go_upto_region 8 with (at_builtin; refine wpList_append_own _ rfl (.tmp 23) (.tmp 27) 25 rfl B 5 i0 (.int .u8 0) 1 1 Try.underlying25 hi hz0 hz1 hz2 rfl (by decide) (.slice none 0 0) (0) (vals ([])) rfl hown0 ⟨b, o, none⟩ (k) (c) (vals (xs.take k)) rfl (by rw [vals_length, hTl, Nat.mul_one]) hc1 (vals_one _) (by unfold maxLen; omega) (by omega) hBs ?_; intro v3 w3 hown3 hgrow3 _)
      obtain ⟨p3, c3, rfl⟩ := owns_slice hown3
      have b3 : Below B w2 w3 := (Below.refl B w2).grown hgrow3 hBs (fun i hi => by cases hi)
      have b3' : Below w2.heap.size w2 w3 := by rw [← hB]; exact b3
      have hin3 := (hin2.below b3').cells rfl
      have ht3 := ht2.below b3'
      have hs3 : B ≤ w3.heap.size := Nat.le_trans hBs b3.size
      replace hown3 : w3.ownsRow B 5 1 (.slice p3 (0 + k) c3) (0 + k) (vals (xs.take k)) := hown3
      rw [Nat.zero_add] at hown3
      obtain ⟨kk, hkk⟩ : ∃ kk : Nat, kk = k := ⟨_, rfl⟩
      rw [show (0 + k : Nat) = k from Nat.zero_add k]
      clear hc1
      go_upto_region 9 with (at_builtin; refine wpList_append_own _ rfl (.tmp 29) (.tmp 30) 25 rfl B 5 i0 (.int .u8 0) 1 1 Try.underlying25 hi hz0 hz1 hz2 rfl (by decide) (.slice p3 k c3) (k) (vals (xs.take k)) rfl hown3 ⟨g2, z2, none⟩ (64) (c2) (vals (E)) rfl (by rw [vals_length, HL.out]) hin3 (vals_one _) (by unfold maxLen; omega) (by omega) hs3 ?_; intro v4 w4 hown4 hgrow4 _)
      obtain ⟨p4, c4, rfl⟩ := owns_slice hown4
      have b4 : Below B w3 w4 := (Below.refl B w3).grown hgrow4 hs3 (fun i hi => (hown3.lt i hi).1)
      have ht4 : In w4 (some ⟨b, o, none⟩) 256 c xs := ht3.low b4 (fun a h => by cases h; exact hbB)
      have hs4 : B ≤ w4.heap.size := Nat.le_trans hs3 b4.size
      rw [← vals_append] at hown4
      have hc3 := hf2 _ ht4
      go_wp2_with (at_builtin; refine wpList_append_own _ rfl (.tmp 32) (.tmp 37) 25 rfl B 5 i0 (.int .u8 0) 1 1 Try.underlying25 hi hz0 hz1 hz2 rfl (by decide) (.slice p4 (k + 64) c4) (k + 64) (vals (xs.take k ++ E)) rfl hown4 ⟨b, o2, none⟩ (R) (C2) (vals (xs.drop k2)) rfl (by rw [vals_length, hRl, Nat.mul_one]) hc3 (vals_one _) (by unfold maxLen; omega) (by omega) hs4 ?_; intro v5 w5 hown5 hgrow5 _)
      obtain ⟨p5, c5, rfl⟩ := owns_slice hown5
      have b5 : Below B w4 w5 := (Below.refl B w4).grown hgrow5 hs4 (fun i hi => (hown4.lt i hi).1)
      rw [← vals_append] at hown5
      obtain ⟨p9, c9, hv9, hin9⟩ := in_of_owns hown5 (fun x hx => by
        rw [List.mem_append, List.mem_append] at hx
        rcases hx with (h | h) | h
        · exact hbyte _ (List.mem_of_mem_take h)
        · exact hin2.byte _ h
        · exact hbyte _ (List.mem_of_mem_drop h)) (by omega)
      cases hv9
      go_ret2
      exact ⟨_, _, _, by rw [HD.out.1]; rfl, by rw [HD.out.2]; exact hin9, hB2.trans (((b3.trans b4).trans b5).mono (by rw [hB]; exact hB2.size))⟩
end Go.Proofs.Ytgeomfgfeemciaa

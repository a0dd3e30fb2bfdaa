/-
  scan.homes: how many logical blocks have something in each block.
-/
import Derived.Test.YtfgelncfmopibabSnHome
namespace Go.Proofs.Ytfgelncfmopibab
open Go.RowKit Go.Shelf
attribute [local go_sem] Oper.semAt_some
def chunkL (zs : List Pl) (P i : Nat) : List Pl := (zs.drop (i * P)).take P
theorem chunkL_at {zs : List Pl} {P i j : Nat} (h : j < P) : eZ (chunkL zs P i) j = eZ zs (i * P + j) := by
  simp [eZ, chunkL, List.getElem?_take_of_lt h, List.getElem?_drop]
theorem InZ.chunk {w : World} {b o n c P i : Nat} {zs : List Pl} (h : InZ w (some ⟨b, o, none⟩) n c zs) (hi : i * P + P ≤ n) (hP : 1 ≤ P) (hP2 : P ≤ 1000) : InZ w (some ⟨b, o + i * P * 2, none⟩) P P (chunkL zs P i) := by
  have hl := h.len
  obtain ⟨b', o', e, hb, hc⟩ := h.at' (by omega)
  cases e
  refine ⟨by simp [chunkL]; omega, Nat.le_refl _, by unfold maxLen; omega, by omega, fun _ => ⟨b, _, rfl, hb, fun j hj => ?_⟩, fun h => by cases h⟩
  rw [chunkL_at hj]
  have := hc (i * P + j) (by omega)
  rw [show o + i * P * 2 + j * 2 = o + (i * P + j) * 2 by omega]
  exact this
def bump (g : List Int) (x : Nat) : List Int := g.set x (eI g x + 1)
def bumpL (g : List Int) (xs : List Int) : List Int := xs.foldl (fun g x => bump g x.toNat) g
def guestsL (zs : List Pl) (P : Nat) (is : List Nat) : List Int := is.foldl (fun g i => bumpL g (neededL (chunkL zs P i))) (List.replicate 256 0)
theorem bump_length (g : List Int) (x : Nat) : (bump g x).length = g.length := by simp [bump]
/-- No number is below 0 or above b. -/
def Upto (g : List Int) (b : Int) : Prop := g.length = 256 ∧ ∀ j, 0 ≤ eI g j ∧ eI g j ≤ b
theorem upto_bump {g : List Int} {b : Int} (h : Upto g b) (x : Nat) : Upto (bump g x) (b + 1) := by
  refine ⟨by rw [bump_length]; exact h.1, fun j => ?_⟩
  have h0 := h.2 j
  have hx := h.2 x
  by_cases e : j = x
  · subst e
    by_cases hj : j < g.length
    · have : eI (bump g j) j = eI g j + 1 := by simp [eI, bump, hj]
      rw [this]; omega
    · have : eI (bump g j) j = eI g j := by simp [eI, bump, hj]
      rw [this]; omega
  · have : eI (bump g x) j = eI g j := by
      unfold eI bump
      rw [List.getD_eq_getElem?_getD, List.getElem?_set_ne (fun h => e h.symm), ← List.getD_eq_getElem?_getD]
    rw [this]; omega
theorem bumpL_snoc {N : Nat} (g : List Int) (pre : List (IdxT N)) (x : IdxT N) : bumpL g (valsK (pre ++ [x])) = bump (bumpL g (valsK pre)) x.1 := by
  simp [bumpL, valsK]
theorem upto_bumpL {g : List Int} {b : Int} (h : Upto g b) : ∀ xs : List Int, Upto (bumpL g xs) (b + (xs.length : Int)) := by
  intro xs
  induction xs generalizing g b with
  | nil => simpa [bumpL] using h
  | cons x xs ih =>
    have := ih (upto_bump h x.toNat)
    rw [show bumpL g (x :: xs) = bumpL (bump g x.toNat) xs from rfl]
    rw [List.length_cons, show b + ((xs.length + 1 : Nat) : Int) = b + 1 + (xs.length : Int) by omega]
    exact this
/-- A block that two logical blocks have something in is none's own. -/
def oneH (G : List Int) (h : Int) : Int := if h = -1 then -1 else if 1 < eI G h.toNat then -1 else h
def homesL (zs : List Pl) (P : Nat) (G : List Int) (is : List Nat) : List Int := is.map fun i => oneH G (homeP (chunkL zs P i))
theorem homeP_range (zs : List Pl) : homeP zs = -1 ∨ (0 ≤ homeP zs ∧ homeP zs < 256) := by
  unfold homeP
  split
  · rename_i x hx
    split
    · exact .inr (needed_range (zs := zs) (by rw [hx]; simp))
    · exact .inl rfl
  · exact .inl rfl
theorem owns_tn {w w' : World} {B g : Nat} {e : TypeId} {s : Nat} {v : Value} {n : Nat} {xs : List Value} (h : w.ownsRow B e s v n xs) (ht : Turned w w' g) (hg : g < B) : w'.ownsRow B e s v n xs := by
  refine ⟨h.1, ?_⟩
  rcases h.2 with h' | ⟨g', cap, cur, hv', hB', hh, hr'⟩
  · exact .inl h'
  · exact .inr ⟨g', cap, cur, hv', hB', (ht.block g' (by omega)).trans hh, hr'⟩
theorem owns_lo {w : World} {A B : Nat} {e : TypeId} {s : Nat} {v : Value} {n : Nat} {xs : List Value} (h : w.ownsRow B e s v n xs) (hA : A ≤ B) : w.ownsRow A e s v n xs := by
  refine ⟨h.1, ?_⟩
  rcases h.2 with h' | ⟨g', cap, cur, hv', hB', hh, hr'⟩
  · exact .inl h'
  · exact .inr ⟨g', cap, cur, hv', by omega, hh, hr'⟩
theorem row_cells {w : World} {B : Nat} {e : TypeId} {s : Nat} {v : Value} {n : Nat} {xs : List Value} (h : w.ownsRow B e s v n xs) {j : Nat} {ob : Obj} (ej : v.ownBlock = some j) (hj : w.heap[j]? = some ob) : ob.isCells = true := by
  rcases h.2 with ⟨rfl, _⟩ | ⟨g', cap, cur, rfl, _, hh, _⟩
  · simp [Value.ownBlock] at ej
  · simp [Value.ownBlock] at ej
    subst ej
    rw [hh] at hj
    cases hj
    rfl
theorem fin_map (m : Nat) : (List.finRange m).map (fun x => x.1) = List.range m := by
  apply List.ext_getElem <;> simp
theorem zeroHas : Try.zeroCells91 = (valsI (List.replicate 256 0)).toArray := by kernel_rfl
theorem upto_zero : Upto (List.replicate 256 0) 0 := ⟨List.length_replicate, fun j => by unfold eI; rw [List.getD_eq_getElem?_getD, List.getElem?_replicate]; split <;> simp⟩
theorem guestsL_snoc (zs : List Pl) (P : Nat) (is : List Nat) (i : Nat) : guestsL zs P (is ++ [i]) = bumpL (guestsL zs P is) (neededL (chunkL zs P i)) := by unfold guestsL; rw [List.foldl_append]; rfl
theorem compact_le (l : List Int) : (Lib.compact l).length ≤ l.length := Lib.compact_length_le l
theorem needed_le (zs : List Pl) : (neededL zs).length ≤ zs.length := by
  unfold neededL
  refine Nat.le_trans (compact_le _) ?_
  rw [List.length_mergeSort]
  unfold physL
  rw [List.length_map]
  exact List.length_filter_le _ _
theorem chunkL_le (zs : List Pl) (P i : Nat) : (chunkL zs P i).length ≤ P := by simp [chunkL]; omega
theorem upto_mono {g : List Int} {a b : Int} (h : Upto g a) (hab : a ≤ b) : Upto g b := ⟨h.1, fun j => ⟨(h.2 j).1, by have := (h.2 j).2; omega⟩⟩
set_option linter.unusedSimpArgs false in
set_option maxRecDepth 100000 in
set_option maxHeartbeats 8000000 in
theorem homes_in (nf : Nat) (hnf : 8 ≤ nf) (P m : Nat) (b o n c : Nat) (zs : List Pl) (w : World) (hz : InZ w (some ⟨b, o, none⟩) n c zs) (hn : n ≤ 1000000) (HM : Hid (n = m * P)) (hP : 4 ≤ P) (hP2 : P ≤ 32) (hm : 1 ≤ m) :
    CallsIn Fence.wide nf Try.prog 22 #[.int .i64 (P : Int), .slice (some ⟨b, o, none⟩) n c] w fun e w' => ∃ q cq, e = .returned (.slice q m cq) ∧ w'.ownsRow w.heap.size 3 1 (.slice q m cq) m (valsI (homesL zs P (guestsL zs P (List.range m)) (List.range m))) ∧ Below w.heap.size w w' := by
  have h1 : 1 ≤ nf := by omega
  have hn3 : 1 ≤ nf - 1 - 1 := by omega
  have hmn : m ≤ n := by rw [HM.out]; exact Nat.le_mul_of_pos_right m (by omega)
  have gG0 := Blk.new' w 91 Try.zeroCells91
  rw [zeroHas, List.toList_toArray, ← zeroHas] at gG0
  have bG := below_alloc w (.cells Try.zeroCells91 91)
  obtain ⟨b', o', e', hbl, -⟩ := hz.at' (by have := hmn; omega)
  cases e'
  refine callsIn_of_wp_marks Try.func22 rfl trivial ?_ rfl
  simp only [Try.ntmps22, List.size_toArray, List.length_cons, List.length_nil, Nat.reduceAdd, Nat.reduceSub, Array.replicate_succ, Array.replicate_zero, List.push_toArray, List.append_toArray, List.nil_append, List.cons_append]
  gi_wp2_with (refine ⟨trivial, ?_⟩; gi_at_call 48; refine (callsIn_wide.2 (chunk_call P (by omega) _ _ _ _)).mono ?_; rintro e w4 ⟨B1, B2, rfl, hB1, hB2, hq1, hq2, hb4⟩)
  have hG4 := gG0.kept hb4
  have hB4 := bt bG hb4
  rw [World.size_alloc] at hB1 hB2
  have hB1w := hq1.lt
  have hB2w := hq2.lt
  clear gG0 bG hb4
  refine wpIn_rangeFunc_ownH rfl h1 (gf := 62) (lb := #[.pointer (some ⟨B1, 0, none⟩), .pointer (some ⟨B2, 0, none⟩)]) rfl trivial (enters_of Try.func62 (by kernel_rfl) rfl)
    (chunk_stops (nf - 1) (by omega) B1 B2 b o c m P n HM (by omega) (by omega) hn hz.cap w4 hB1w hB2w (hq1.cell' (i := 0) rfl) (hq2.cell' (i := 0) rfl)) (fun h k => h.trans k)
    (fun W' l ob ob' hl _ _ _ => ⟨World.putObj_heap_other (by omega), World.putObj_heap_other (by omega), by simp [World.putObj]⟩) (Below.refl _ _) (fun _ => rfl)
    (fun pre W' => Blk W' w.heap.size 91 (valsI (guestsL zs P (pre.map (·.1)))) ∧ Below w.heap.size w W' ∧ w4.heap.size ≤ W'.heap.size ∧ Upto (guestsL zs P (pre.map (·.1))) ((pre.length : Int) * 32))
    (fun _ _ _ => False)
    (OwnFrom.and (Own.from (blk_own w.heap.size 91 (fun pre : List (Fin m) => valsI (guestsL zs P (pre.map (·.1))))) _) (OwnFrom.and (ownFrom_below (Nat.le_refl _) hB4.size) (OwnFrom.and (fun _ _ _ _ hs hg _ => Nat.le_trans hs hg.size) (fun _ _ _ _ hs _ _ => hs))))
    (fun _ _ _ _ _ hs _ _ => hs)
    ⟨hG4, hB4, Nat.le_refl _, by show Upto (List.replicate 256 0) (((0 : Nat) : Int) * 32); exact upto_zero⟩
    (fun x a' _ => a' = { tmps := #[.int .i64 (P : Int), .slice (some ⟨b, o, none⟩) n c, undef, undef, .slice none 0 0, .pointer (some ⟨w.heap.size, 0, none⟩), .slice (some ⟨b, o + x.1 * P * 2, none⟩) P P, undef, undef, undef, undef, .slice (some ⟨b, o, none⟩) n c, .int .i64 (P : Int), .func (.func 62) #[] #[.pointer (some ⟨B1, 0, none⟩), .pointer (some ⟨B2, 0, none⟩)], .slice (some ⟨b, o + x.1 * P * 2, none⟩) P P, undef, undef, undef, undef, undef, undef, undef, undef, undef, undef, undef, undef, undef, undef, undef, undef, undef, undef, undef, undef, undef, undef, undef, undef, undef, undef, undef], defers := [] })
    (fun _ _ _ _ _ _ hs _ _ => hs)
    ?assign ?body ?done ?stop
  case assign =>
    rintro l pre x W K hi hK
    dsimp only [encC]
    gi_wp2
    exact hK _ _ (KeepsFrom.refl _ _) (KpB.refl _ _ _) hi rfl
  case stop =>
    rintro D c pre W' _ _ h _
    exact h.elim
  case done =>
    rintro D ys W hD rfl ⟨hG, hB, hs4, hU⟩ hK
    rw [fin_map] at hG hU
    obtain ⟨G, hGG⟩ : ∃ G, guestsL zs P (List.range m) = G := ⟨_, rfl⟩
    rw [hGG] at hG hU
    have HGG : Hid (guestsL zs P (List.range m) = G) := hGG
    clear hGG
    gi_wp2_with (refine ⟨trivial, ?_⟩; gi_at_call 48; refine (callsIn_wide.2 (chunk_call P (by omega) _ _ _ _)).mono ?_; rintro e w7 ⟨B3, B4, rfl, hB3, hB4', hq3, hq4, hb7⟩)
    have hG7 := (hG.alloc (.cells #[.slice none 0 0] 29)).kept hb7
    have b8 := Boxed.new W 29 (.slice none 0 0)
    have b87 : Boxed w7 W.heap.size 29 (.slice none 0 0) := (hb7.block _ b8.lt).trans b8
    have hB7 := bt (bt hB (below_alloc W (.cells #[.slice none 0 0] 29))) hb7
    have hDl : D < W.heap.size := (Array.getElem?_eq_some_iff.1 hK).1
    have hD7 : w7.heap[D]? = some (.deferred (some [])) := (hb7.block D (by rw [World.size_alloc]; omega)).trans ((Below.heap_alloc W _ D hDl).trans hK)
    rw [World.size_alloc] at hB3 hB4'
    have hB3w := hq3.lt
    have hB4w := hq4.lt
    have hgG := hG.lt
    have hs7 : W.heap.size + 1 ≤ w7.heap.size := by have := hb7.size; rw [World.size_alloc] at this; exact this
    have hsW := hB.size
    obtain ⟨i0, hi, hz0, hz1, hz2⟩ := info_parts infoI'
    obtain ⟨g8, Hg8⟩ : ∃ g, g = W.heap.size := ⟨_, rfl⟩
    rw [← Hg8] at b87 hB3 hB4' hgG hs7 hDl hsW ⊢
    clear b8 hb7 hK hG hB Hg8 hs4
    refine wpIn_rangeFunc_ownH rfl h1 (gf := 62) (lb := #[.pointer (some ⟨B3, 0, none⟩), .pointer (some ⟨B4, 0, none⟩)]) rfl trivial (enters_of Try.func62 (by kernel_rfl) rfl)
      (chunk_stops (nf - 1) (by omega) B3 B4 b o c m P n HM (by omega) (by omega) hn hz.cap w7 hB3w hB4w (hq3.cell' (i := 0) rfl) (hq4.cell' (i := 0) rfl)) (fun h k => h.trans k)
      (fun W' l ob ob' hl _ _ _ => ⟨World.putObj_heap_other (by omega), World.putObj_heap_other (by omega), by simp [World.putObj]⟩) (Below.refl _ _) (fun _ => rfl)
      (fun pre W' => Blk W' w.heap.size 91 (valsI G) ∧ (∃ v, Boxed W' g8 29 v ∧ W'.ownsRow w7.heap.size 3 1 v pre.length (valsI (homesL zs P G (pre.map (·.1)))) ∧ True) ∧ Below w.heap.size w W' ∧ w7.heap.size ≤ W'.heap.size ∧ W'.heap[D]? = some (.deferred (some [])))
      (fun _ _ _ => False)
      (OwnFrom.and (Own.from (blk_own w.heap.size 91 (fun _ : List (Fin m) => valsI G)) _) (OwnFrom.and (Own.from (holdsRow_own w7.heap.size g8 29 3 1 (fun pre : List (Fin m) => pre.length) (fun pre => valsI (homesL zs P G (pre.map (·.1)))) (fun _ _ => True)) _) (OwnFrom.and (ownFrom_below (Nat.le_refl _) hB7.size) (OwnFrom.and (fun _ _ _ _ hs hg _ => Nat.le_trans hs hg.size) (fun _ A B row hs hg hr => (hg.block D (Array.getElem?_eq_some_iff.1 hs).1 (fun e => by have := (hr D e.symm).1; omega)).trans hs)))))
      (fun _ _ _ _ _ hs _ _ => hs)
      ⟨hG7, ⟨_, b87, World.ownsRow_nil _ _ _ _, trivial⟩, hB7, Nat.le_refl _, hD7⟩
      (fun x a' _ => a' = { tmps := #[.int .i64 (P : Int), .slice (some ⟨b, o, none⟩) n c, undef, undef, .slice none 0 0, .pointer (some ⟨w.heap.size, 0, none⟩), undef, undef, .pointer (some ⟨g8, 0, none⟩), .slice (some ⟨b, o + x.1 * P * 2, none⟩) P P, undef, .slice (some ⟨b, o, none⟩) n c, .int .i64 (P : Int), .func (.func 62) #[] #[.pointer (some ⟨B1, 0, none⟩), .pointer (some ⟨B2, 0, none⟩)], undef, undef, undef, undef, undef, undef, undef, undef, undef, .slice (some ⟨b, o, none⟩) n c, .int .i64 (P : Int), .func (.func 62) #[] #[.pointer (some ⟨B3, 0, none⟩), .pointer (some ⟨B4, 0, none⟩)], .slice (some ⟨b, o + x.1 * P * 2, none⟩) P P, undef, undef, undef, undef, undef, undef, undef, undef, undef, undef, undef, undef, undef, undef, undef], defers := [] })
      (fun _ _ _ _ _ _ hs _ _ => hs)
      ?assign3 ?body3 ?done3 ?stop3
    case assign3 =>
      rintro l pre x W' K hi' hK
      dsimp only [encC]
      gi_wp2
      exact hK _ _ (KeepsFrom.refl _ _) (KpB.refl _ _ _) hi' rfl
    case stop3 =>
      rintro D' c pre W' _ _ h _
      exact h.elim
    case done3 =>
      rintro D2 ys W' hD2 rfl ⟨hG, ⟨v, h5, hrow, _⟩, hB, hs, hD9⟩ hK2
      rw [fin_map, List.length_finRange] at hrow
      obtain ⟨pv, cv, rfl, hinv⟩ := in_of_ownsI hrow (by omega)
      clear hinv
      have g5 := h5.cell
      gi_wp2
      have hDw : w.heap.size ≤ D := Nat.le_trans hB4.size hD
      have hD9' : (W'.putObj D2 (.deferred none)).heap[D]? = some (.deferred (some [])) := (World.putObj_heap_other (by omega)).trans hD9
      refine ⟨by simp, .inl ⟨_, _, rfl, run_takeDeferred hK2, ?_⟩⟩
      refine ⟨by simp, .inl ⟨_, _, rfl, run_takeDeferred hD9', ?_⟩⟩
      have hbD : Below w.heap.size W' (W'.putObj D2 (.deferred none)) := belowK_b (w := w) (Nat.le_refl _) W' D2 _ _ (by omega) hK2 rfl rfl
      have hbE : Below w.heap.size (W'.putObj D2 (.deferred none)) ((W'.putObj D2 (.deferred none)).putObj D (.deferred none)) := belowK_b (w := w) (Nat.le_refl _) _ D _ _ hDw hD9' rfl rfl
      have hrow' := ownsRow_putObj (ownsRow_putObj hrow (.deferred none) hK2 rfl) (.deferred none) hD9' rfl
      exact ⟨_, results_tmp Try.results22 _ _ _, pv, cv, rfl, by rw [HGG.out]; exact owns_lo hrow' (by omega), (hB.trans hbD).trans hbE⟩
    case body3 =>
      rintro l pre x a' W' hl2 ⟨r, hr⟩ ⟨hG, ⟨v, h5, hrow, _⟩, hB, hs, hD9⟩ rfl hlen
      obtain ⟨k, hkk⟩ : ∃ k, pre.length = k := ⟨_, rfl⟩
      have HK : Hid (pre.length = k) := hkk
      rw [hkk] at hrow hlen
      clear hkk
      obtain ⟨pv, cv, rfl, hinv⟩ := in_of_ownsI hrow (by omega)
      clear hinv
      have hxP : x.1 * P + P ≤ n := by rw [HM.out, ← Nat.succ_mul]; exact Nat.mul_le_mul_right P x.2
      have hch := (hz.below hB).chunk hxP (by omega) (by omega)
      have hHM := home_any _ _ _ _ W' hch (by omega)
      have hrg := homeP_range (chunkL zs P x.1)
      have HS : Hid (homesL zs P G ((pre ++ [x]).map (·.1)) = homesL zs P G (pre.map (·.1)) ++ [oneH G (homeP (chunkL zs P x.1))]) := by show _ = _; simp [homesL]
      have l5 := h5.lt
      generalize homeP (chunkL zs P x.1) = h at *
      clear hch
      rcases hrg with hh | ⟨hh0, hh1⟩
      · subst hh
        have HV : Hid (oneH G (-1) = -1) := by show _ = _; simp [oneH]
        gi_wp2_with (first | (refine ⟨trivial, ?_⟩; gi_at_call 50; refine (CallsIn.inRound l (callsIn_wide.2 hHM)).mono ?_; rintro e w8 ⟨rfl, hb8⟩; have h58 : Boxed w8 g8 29 (.slice pv k cv) := (hb8.block _ h5.lt).trans h5; have hrow8 := owns_below hrow hb8; have hG8 := hG.kept hb8; have g58 := h58.cell; have f58 := h58.frozen; have hs8 := hb8.size) | (gi_at_builtin; refine wpListIn_append_own _ rfl (.tmp 37) (.tmp 39) 29 rfl w7.heap.size 3 i0 (.int .i64 0) 1 8 Try.underlying29 hi hz0 hz1 hz2 rfl (by decide) (.slice pv k cv) k _ rfl (hrow8.alloc _) ⟨w8.heap.size, 0, none⟩ 1 1 [.int .i64 (-1)] rfl rfl (new_one w8 _) (by simp [Value.oneCell']) (by unfold maxLen; omega) (by omega) (by rw [World.size_alloc]; omega) ?_; intro v1 w1 hown1 hgrow1 _; obtain ⟨g', cap', rfl⟩ := ownsRow_succ hown1; have hrw : ∀ j, (Value.slice pv k cv).ownBlock = some j → w7.heap.size ≤ j := fun j hj => (hrow8.lt j hj).1; have hkp : ∀ j, j < w7.heap.size → w1.heap[j]? = w8.heap[j]? := fun j hj => (hgrow1.block j (by rw [World.size_alloc]; omega) (fun e => by have := hrw j e.symm; omega)).trans (Below.heap_alloc w8 _ j (by omega)); have hv1 : Boxed w1 g8 29 (.slice pv k cv) := (hkp g8 (by omega)).trans h58; have hc1 := hv1.cell; have hf1 := hv1.frozen))
        have e9 : valsI (homesL zs P G (pre.map (·.1))) ++ [.int .i64 (-1)] = valsI (homesL zs P G ((pre ++ [x]).map (·.1))) := by rw [HS.out, valsI_append, HV.out]; rfl
        rw [e9] at hown1
        have tn := Turned.setCell w1 ⟨g8, 0, none⟩ (.slice (some ⟨g', 0, none⟩) (k + 1) cap')
        dsimp only at tn
        have hkq : ∀ j, j < w7.heap.size → j ≠ g8 → (w1.setCell ⟨g8, 0, none⟩ (.slice (some ⟨g', 0, none⟩) (k + 1) cap')).heap[j]? = W'.heap[j]? := fun j hj hne => (tn.block j hne).trans ((hkp j hj).trans (hb8.block j (by omega)))
        have ko : KeepsOthers W' (w1.setCell ⟨g8, 0, none⟩ (.slice (some ⟨g', 0, none⟩) (k + 1) cap')) := (((KeepsOthers.of_below hb8).trans (KeepsOthers.alloc w8 _)).trans (KeepsOthers.of_grownBy hgrow1 (fun j ob ej hj => row_cells (hrow8.alloc _) ej hj))).trans (KeepsOthers.setCell _ _ _)
        have hbz : Below w.heap.size w w1 := (bt (bt hB hb8) (below_alloc w8 _)).grown hgrow1 (by rw [World.size_alloc]; omega) (fun j hj => by have := hrw j hj; omega)
        have hsz := hgrow1.size
        rw [World.size_alloc] at hsz
        refine ⟨ko.from _, ⟨hkq _ (by omega) (by omega), hkq _ (by omega) (by omega), by rw [tn.size]; omega⟩, (hkq _ (by omega) (by omega)).trans hG, ⟨_, hv1.set _, by rw [List.length_append, HK.out]; exact owns_tn hown1 tn (by omega), trivial⟩, tn.below hbz (by omega), by rw [tn.size]; omega, (hkq D (by omega) (by omega)).trans hD9⟩
      · obtain ⟨hh, rfl⟩ : ∃ hh : Nat, h = (hh : Int) := ⟨h.toNat, by omega⟩
        have hne : ((hh : Int) != -1) = true := by rw [bne_iff_ne]; omega
        have hhl : hh < G.length := by rw [hU.1]; omega
        have hcg := valsI_get G hh hhl
        have HV0 : Hid (oneH G (hh : Int) = if 1 < eI G hh then -1 else (hh : Int)) := by show _ = _; unfold oneH; rw [if_neg (by omega), Int.toNat_natCast]
        generalize eI G hh = gv at *
        by_cases hgt : 1 < gv
        · have HV : Hid (oneH G (hh : Int) = -1) := by show _ = _; rw [HV0.out, if_pos hgt]
          clear HV0
          gi_wp2_with (first | (refine ⟨trivial, ?_⟩; gi_at_call 50; refine (CallsIn.inRound l (callsIn_wide.2 hHM)).mono ?_; rintro e w8 ⟨rfl, hb8⟩; have h58 : Boxed w8 g8 29 (.slice pv k cv) := (hb8.block _ h5.lt).trans h5; have hrow8 := owns_below hrow hb8; have hG8 := hG.kept hb8; have g58 := h58.cell; have f58 := h58.frozen; have hs8 := hb8.size; have cg := hG8.cell' hcg) | (gi_at_builtin; refine wpListIn_append_own _ rfl (.tmp 37) (.tmp 39) 29 rfl w7.heap.size 3 i0 (.int .i64 0) 1 8 Try.underlying29 hi hz0 hz1 hz2 rfl (by decide) (.slice pv k cv) k _ rfl (hrow8.alloc _) ⟨w8.heap.size, 0, none⟩ 1 1 [.int .i64 (-1)] rfl rfl (new_one w8 _) (by simp [Value.oneCell']) (by unfold maxLen; omega) (by omega) (by rw [World.size_alloc]; omega) ?_; intro v1 w1 hown1 hgrow1 _; obtain ⟨g', cap', rfl⟩ := ownsRow_succ hown1; have hrw : ∀ j, (Value.slice pv k cv).ownBlock = some j → w7.heap.size ≤ j := fun j hj => (hrow8.lt j hj).1; have hkp : ∀ j, j < w7.heap.size → w1.heap[j]? = w8.heap[j]? := fun j hj => (hgrow1.block j (by rw [World.size_alloc]; omega) (fun e => by have := hrw j e.symm; omega)).trans (Below.heap_alloc w8 _ j (by omega)); have hv1 : Boxed w1 g8 29 (.slice pv k cv) := (hkp g8 (by omega)).trans h58; have hc1 := hv1.cell; have hf1 := hv1.frozen))
          have e9 : valsI (homesL zs P G (pre.map (·.1))) ++ [.int .i64 (-1)] = valsI (homesL zs P G ((pre ++ [x]).map (·.1))) := by rw [HS.out, valsI_append, HV.out]; rfl
          rw [e9] at hown1
          have tn := Turned.setCell w1 ⟨g8, 0, none⟩ (.slice (some ⟨g', 0, none⟩) (k + 1) cap')
          dsimp only at tn
          have hkq : ∀ j, j < w7.heap.size → j ≠ g8 → (w1.setCell ⟨g8, 0, none⟩ (.slice (some ⟨g', 0, none⟩) (k + 1) cap')).heap[j]? = W'.heap[j]? := fun j hj hne => (tn.block j hne).trans ((hkp j hj).trans (hb8.block j (by omega)))
          have ko : KeepsOthers W' (w1.setCell ⟨g8, 0, none⟩ (.slice (some ⟨g', 0, none⟩) (k + 1) cap')) := (((KeepsOthers.of_below hb8).trans (KeepsOthers.alloc w8 _)).trans (KeepsOthers.of_grownBy hgrow1 (fun j ob ej hj => row_cells (hrow8.alloc _) ej hj))).trans (KeepsOthers.setCell _ _ _)
          have hbz : Below w.heap.size w w1 := (bt (bt hB hb8) (below_alloc w8 _)).grown hgrow1 (by rw [World.size_alloc]; omega) (fun j hj => by have := hrw j hj; omega)
          have hsz := hgrow1.size
          rw [World.size_alloc] at hsz
          refine ⟨ko.from _, ⟨hkq _ (by omega) (by omega), hkq _ (by omega) (by omega), by rw [tn.size]; omega⟩, (hkq _ (by omega) (by omega)).trans hG, ⟨_, hv1.set _, by rw [List.length_append, HK.out]; exact owns_tn hown1 tn (by omega), trivial⟩, tn.below hbz (by omega), by rw [tn.size]; omega, (hkq D (by omega) (by omega)).trans hD9⟩
        · have HV : Hid (oneH G (hh : Int) = (hh : Int)) := by show _ = _; rw [HV0.out, if_neg hgt]
          clear HV0
          gi_wp2_with (first | (refine ⟨trivial, ?_⟩; gi_at_call 50; refine (CallsIn.inRound l (callsIn_wide.2 hHM)).mono ?_; rintro e w8 ⟨rfl, hb8⟩; have h58 : Boxed w8 g8 29 (.slice pv k cv) := (hb8.block _ h5.lt).trans h5; have hrow8 := owns_below hrow hb8; have hG8 := hG.kept hb8; have g58 := h58.cell; have f58 := h58.frozen; have hs8 := hb8.size; have cg := hG8.cell' hcg) | (gi_at_builtin; refine wpListIn_append_own _ rfl (.tmp 37) (.tmp 39) 29 rfl w7.heap.size 3 i0 (.int .i64 0) 1 8 Try.underlying29 hi hz0 hz1 hz2 rfl (by decide) (.slice pv k cv) k _ rfl (hrow8.alloc _) ⟨w8.heap.size, 0, none⟩ 1 1 [.int .i64 (hh : Int)] rfl rfl (new_one w8 _) (by simp [Value.oneCell']) (by unfold maxLen; omega) (by omega) (by rw [World.size_alloc]; omega) ?_; intro v1 w1 hown1 hgrow1 _; obtain ⟨g', cap', rfl⟩ := ownsRow_succ hown1; have hrw : ∀ j, (Value.slice pv k cv).ownBlock = some j → w7.heap.size ≤ j := fun j hj => (hrow8.lt j hj).1; have hkp : ∀ j, j < w7.heap.size → w1.heap[j]? = w8.heap[j]? := fun j hj => (hgrow1.block j (by rw [World.size_alloc]; omega) (fun e => by have := hrw j e.symm; omega)).trans (Below.heap_alloc w8 _ j (by omega)); have hv1 : Boxed w1 g8 29 (.slice pv k cv) := (hkp g8 (by omega)).trans h58; have hc1 := hv1.cell; have hf1 := hv1.frozen))
          have e9 : valsI (homesL zs P G (pre.map (·.1))) ++ [.int .i64 (hh : Int)] = valsI (homesL zs P G ((pre ++ [x]).map (·.1))) := by rw [HS.out, valsI_append, HV.out]; rfl
          rw [e9] at hown1
          have tn := Turned.setCell w1 ⟨g8, 0, none⟩ (.slice (some ⟨g', 0, none⟩) (k + 1) cap')
          dsimp only at tn
          have hkq : ∀ j, j < w7.heap.size → j ≠ g8 → (w1.setCell ⟨g8, 0, none⟩ (.slice (some ⟨g', 0, none⟩) (k + 1) cap')).heap[j]? = W'.heap[j]? := fun j hj hne => (tn.block j hne).trans ((hkp j hj).trans (hb8.block j (by omega)))
          have ko : KeepsOthers W' (w1.setCell ⟨g8, 0, none⟩ (.slice (some ⟨g', 0, none⟩) (k + 1) cap')) := (((KeepsOthers.of_below hb8).trans (KeepsOthers.alloc w8 _)).trans (KeepsOthers.of_grownBy hgrow1 (fun j ob ej hj => row_cells (hrow8.alloc _) ej hj))).trans (KeepsOthers.setCell _ _ _)
          have hbz : Below w.heap.size w w1 := (bt (bt hB hb8) (below_alloc w8 _)).grown hgrow1 (by rw [World.size_alloc]; omega) (fun j hj => by have := hrw j hj; omega)
          have hsz := hgrow1.size
          rw [World.size_alloc] at hsz
          refine ⟨ko.from _, ⟨hkq _ (by omega) (by omega), hkq _ (by omega) (by omega), by rw [tn.size]; omega⟩, (hkq _ (by omega) (by omega)).trans hG, ⟨_, hv1.set _, by rw [List.length_append, HK.out]; exact owns_tn hown1 tn (by omega), trivial⟩, tn.below hbz (by omega), by rw [tn.size]; omega, (hkq D (by omega) (by omega)).trans hD9⟩
  case body =>
    rintro l pre x a' W hl2 ⟨r, hr⟩ ⟨hG, hB, hs4, hU⟩ rfl hlen
    have hxP : x.1 * P + P ≤ n := by rw [HM.out, ← Nat.succ_mul]; exact Nat.mul_le_mul_right P x.2
    have hch := (hz.below hB).chunk hxP (by omega) (by omega)
    have HS : Hid (guestsL zs P ((pre ++ [x]).map (·.1)) = bumpL (guestsL zs P (pre.map (·.1))) (neededL (chunkL zs P x.1))) := by show _ = _; rw [List.map_append, List.map_singleton, guestsL_snoc]
    have hle : (neededL (chunkL zs P x.1)).length ≤ 32 := Nat.le_trans (needed_le _) (Nat.le_trans (chunkL_le zs P x.1) hP2)
    generalize guestsL zs P (pre.map (·.1)) = G at *
    obtain ⟨ks, hks⟩ := idx_of (N := 256) (neededL (chunkL zs P x.1)) (fun x hx => needed_range hx)
    have hND := needed_any _ _ _ _ W hch (by omega)
    rw [← hks] at hND HS hle
    have hl4 : (pre.length : Int) ≤ 1000000 := by have := hlen; omega
    clear hks hch
    gi_wp2_with (refine ⟨trivial, ?_⟩; gi_at_call 49; refine (CallsIn.inRound l (callsIn_wide.2 hND)).mono ?_; rintro e w5 ⟨Bs, q, cl, cq, rfl, hBs, hbx, hH, hcl, hlow, hb5⟩)
    have hHl := hH.len
    rw [valsK_length] at hHl
    subst hHl
    have hI5 := hH.inI (by omega)
    have hG5 := hG.kept hb5
    have hr5 : w5.heap[l]? = some (.loop r) := (hb5.block l (Array.getElem?_eq_some_iff.1 hr).1).trans hr
    have hsW := hb5.size
    have hsB := hB.size
    have hgW := hG.lt
    have hlW := (Array.getElem?_eq_some_iff.1 hr).1
    have hbsl := hbx.lt
    have ksz : ∀ W', Turned W' W' 0 := fun W' => ⟨rfl, rfl, rfl, rfl, fun _ _ => rfl⟩
    clear ksz hND
    refine wpIn_rangeFunc_ownN (l₀ := l) (r₀ := r) rfl hr5 hn3 (gf := 79) (lb := #[.pointer (some ⟨Bs, 0, none⟩)]) rfl trivial (enters_of Try.func79 (by kernel_rfl) rfl)
      ((values_stops Fence.wide (nf - 1 - 1 - 1) trivial rfl (by omega) Bs cq q ks w5 hbsl (hbx.cell' (i := 0) rfl) hI5).inRound l) (fun h k => h.trans k)
      (fun W' l' ob ob' hl' _ _ _ => ⟨⟨World.putObj_heap_other (by omega), by simp [World.putObj]⟩, fun a e => World.putObj_heap_other (by have := (hlow a e).2; omega)⟩) (Below.refl _ _) (fun _ => rfl)
      (fun pre' W' => Blk W' w.heap.size 91 (valsI (bumpL G (valsK pre'))) ∧ KpB B1 B2 W W' ∧ KeepsFrom w4.heap.size W W' ∧ Below w.heap.size w W' ∧ Upto (bumpL G (valsK pre')) ((pre.length : Int) * 32 + (pre'.length : Int)))
      (fun _ _ _ => False)
      (OwnFrom.and (Own.from (blk_own w.heap.size 91 (fun pre' : List (IdxT 256) => valsI (bumpL G (valsK pre')))) _) (OwnFrom.and (fun _ A B row hs hg hr => ⟨(hg.block _ (Nat.lt_of_lt_of_le (by omega) hs.2.2) (fun e => by have := (hr _ e.symm).1; omega)).trans hs.1, (hg.block _ (Nat.lt_of_lt_of_le (by omega) hs.2.2) (fun e => by have := (hr _ e.symm).1; omega)).trans hs.2.1, Nat.le_trans hs.2.2 hg.size⟩) (OwnFrom.and (ownFrom_keepsFrom (by omega)) (OwnFrom.and (ownFrom_below (Nat.le_refl _) (by omega)) (fun _ _ _ _ hs _ _ => hs)))))
      (fun _ _ _ _ _ hs _ _ => hs)
      ⟨hG5, ⟨hb5.block _ (by omega), hb5.block _ (by omega), hb5.size⟩, (KeepsOthers.of_below hb5).from _, bt hB hb5, by simpa [bumpL, valsK] using hU⟩
      (fun y a'' _ => a'' = { tmps := #[.int .i64 (P : Int), .slice (some ⟨b, o, none⟩) n c, undef, undef, .slice none 0 0, .pointer (some ⟨w.heap.size, 0, none⟩), .slice (some ⟨b, o + x.1 * P * 2, none⟩) P P, .int .i64 (y.1 : Int), undef, undef, undef, .slice (some ⟨b, o, none⟩) n c, .int .i64 (P : Int), .func (.func 62) #[] #[.pointer (some ⟨B1, 0, none⟩), .pointer (some ⟨B2, 0, none⟩)], .slice (some ⟨b, o + x.1 * P * 2, none⟩) P P, .slice (some ⟨b, o + x.1 * P * 2, none⟩) P P, .func (.func 79) #[] #[.pointer (some ⟨Bs, 0, none⟩)], .int .i64 (y.1 : Int), undef, undef, undef, undef, undef, undef, undef, undef, undef, undef, undef, undef, undef, undef, undef, undef, undef, undef, undef, undef, undef, undef, undef, undef], defers := [] })
      (fun _ _ _ _ _ _ hs _ _ => hs)
      ?assign2 ?body2 ?done2 ?stop2
    case assign2 =>
      rintro l2 pre' y W' K hi hK
      dsimp only [encK]
      gi_wp2
      exact hK _ _ (KeepsFrom.refl _ _) (KpK.refl _ _ _) hi rfl
    case stop2 =>
      rintro c pre W' _ h
      exact h.elim
    case done2 =>
      rintro ys W' rfl ⟨k1, k2, k3, k4, k5⟩
      gi_wp2
      refine ⟨k3, k2, by rw [HS.out]; exact k1, k4, by have := k2.2.2; omega, by rw [HS.out]; exact upto_mono k5 (by rw [List.length_append, List.length_singleton]; omega)⟩
    case body2 =>
      rintro l2 pre' y a'' W' hl3 ⟨r2, hr2⟩ ⟨k1, k2, k3, k4, k5⟩ rfl hlen2
      have HB : Hid (bumpL G (valsK (pre' ++ [y])) = bump (bumpL G (valsK pre')) y.1) := bumpL_snoc _ _ _
      have hyl : y.1 < (bumpL G (valsK pre')).length := by rw [k5.1]; exact y.2
      have hyI : ((y.1 : Nat) : Int) < 256 := by have := y.2; omega
      have ky := k5.2 y.1
      have hc := k1.cell' (valsI_get _ y.1 hyl)
      have hf := k1.frozen y.1
      have k6 := upto_bump k5 y.1
      generalize bumpL G (valsK pre') = T at *
      have hval : Hid (valsI (bump T y.1) = (valsI T).set y.1 (.int .i64 (eI T y.1 + 1))) := (valsI_set T y.1 _).symm
      have hp2 : (pre'.length : Int) ≤ 32 := by omega
      obtain ⟨hy0, hy1⟩ := ky
      have hyb : eI T y.1 ≤ 40000000 := by omega
      generalize eI T y.1 = v at *
      gi_wp2
      have mt := Turned.setCell W' ⟨w.heap.size, y.1, none⟩ (.int .i64 (v + 1))
      dsimp only at mt
      have ko := KeepsOthers.of_turned mt k1
      refine ⟨ko.from _, ⟨⟨mt.block Bs (by omega), Nat.le_of_eq mt.size.symm⟩, fun a e => mt.block _ (by have := (hlow a e).1; omega)⟩, ?_, ⟨(mt.block _ (by omega)).trans k2.1, (mt.block _ (by omega)).trans k2.2.1, by rw [mt.size]; exact k2.2.2⟩, k3.trans (ko.from _), mt.below k4 (Nat.le_refl _), ?_⟩
      · rw [HB.out, hval.out]; exact k1.set y.1 (.int .i64 (v + 1))
      · rw [HB.out]; exact upto_mono k6 (by rw [List.length_append, List.length_singleton]; omega)
end Go.Proofs.Ytfgelncfmopibab

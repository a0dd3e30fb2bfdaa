/-
  Whether a random log has a page that the sequential one has.
-/
import Derived.Test.YthibaefoioeghaaPlMay2
namespace Go.Proofs.Ythibaefoioeghaa
open Go.RowKit
def hitOne (T : Tab) (P : Nat) (x : Int) : Bool := isOfP P x T.sl && decide (x % (P : Int) < T.su)
def over (T : Tab) (P : Nat) : Bool := T.logs.any fun l => l.pages.any fun x => hitOne T P x
/-- All pages of all logs are gone, or numbers. -/
def PgOk (T : Tab) : Prop := ∀ (n : Nat) (l : LogS), T.logs[n]? = some l → ∀ i, i < l.pages.length → eI l.pages i = -1 ∨ (0 ≤ eI l.pages i ∧ eI l.pages i ≤ 100000000)
theorem any_hit {xs : List Int} {f : Int → Bool} {i : Nat} (hi : i < xs.length) (h : f (eI xs i) = true) : xs.any f = true := by
  rw [List.any_eq_true]
  refine ⟨eI xs i, ?_, h⟩
  have : eI xs i = xs[i] := by simp [eI, hi]
  rw [this]; exact List.getElem_mem hi
theorem any_none {xs : List Int} {f : Int → Bool} (h : ∀ i, i < xs.length → f (eI xs i) = false) : xs.any f = false := by
  rw [List.any_eq_false]
  intro x hx
  obtain ⟨i, hi, rfl⟩ := List.getElem_of_mem hx
  have := h i hi
  rw [show eI xs i = xs[i] from by simp [eI, hi]] at this
  rw [this]; exact Bool.false_ne_true
theorem over_yes {T : Tab} {P n : Nat} {l : LogS} (hl : T.logs[n]? = some l) (h : (l.pages.any fun x => hitOne T P x) = true) : over T P = true := by
  unfold over
  rw [List.any_eq_true]
  exact ⟨l, List.mem_of_getElem? hl, h⟩
theorem over_no {T : Tab} {P : Nat} (h : ∀ (n : Nat) (l : LogS), T.logs[n]? = some l → (l.pages.any fun x => hitOne T P x) = false) : over T P = false := by
  unfold over
  rw [List.any_eq_false]
  intro l hl
  obtain ⟨i, hi, rfl⟩ := List.getElem_of_mem hl
  rw [h i _ (List.getElem?_eq_getElem hi)]
  exact Bool.false_ne_true
set_option linter.unusedSimpArgs false in
set_option maxRecDepth 100000 in
set_option maxHeartbeats 8000000 in
theorem isOvertaken_any (V : TabV) (T : Tab) (P : Nat) (w : World) (h : TabIn w V T) (hP : T.pages = P) (hP0 : 4 ≤ P ∧ P ≤ 32) (hpg : PgOk T) :
    Calls Try.prog 58 #[.agg (tabA V T)] w fun e w' => e = .returned (.bool (over T P)) ∧ Below w.heap.size w w' := by
  have hb0 := below_alloc w (.cells (tabA V T) 28)
  have b0 := Blk.new' w 28 (tabA V T)
  have hlt0 := b0.lt
  have hT := h.below hb0
  have hof := fun x hx w => isOf_any V T P x T.sl w hP hP0 hx
  unfold tabA at hb0 b0 hT hlt0 hof ⊢
  have HLL : Hid (T.logs.length = V.nl) := hT.logs.len
  have HR47 : Hid (V.nl ≤ 140737488355328) := hT.logs.room
  rw [hP] at hb0 b0 hT hlt0 hof ⊢
  have HPO : Hid (PgOk T) := hpg
  have hPn : ¬ P = 0 := by omega
  clear h hP hP0 hpg
  go_enter Try.func58, Try.ntmps58
  go_upto_region 1 with fail
  generalize hW : w.alloc (.cells #[.int .i64 (P : Int), .int .i64 T.logical, .int .i64 T.k, .slice V.pd V.nd V.cd, .slice V.ph V.nh V.ch, .int .i64 T.sp, .int .i64 T.sl, .int .i64 T.su, .slice V.pl V.nl V.cl] 28) = W at *
  clear hW
  have z8 := b0.cell' (i := 8) rfl
  go_wp2_with fail
  have HWS : Hid (w.heap.size ≤ W.heap.size) := hb0.size
  generalize hB0 : W.heap.size = B0 at *
  go_loopw [10] (fun i wr => ∃ (k : Nat), k ≤ V.nl ∧ i = .int .i64 k ∧ Below B0 W wr ∧ ∀ (n : Nat) (l : LogS), n < k → T.logs[n]? = some l → (l.pages.any fun x => hitOne T P x) = false) (fun i _ => V.nl - (intOf i).toNat)
  case atStart => exact ⟨0, Nat.zero_le _, rfl, Below.refl _ _, fun n l h => by omega⟩
  case round =>
    clear z8
    obtain ⟨k, hk, rfl, hbk, hall⟩ := hrel
    have HA : Hid (∀ (n : Nat) (l : LogS), n < k → T.logs[n]? = some l → (l.pages.any fun x => hitOne T P x) = false) := hall
    clear hall
    have hr47 := HR47.out
    by_cases hlt : k < V.nl
    · obtain ⟨bp, op, hp, hltp, hcp⟩ := hT.logs.at' (by omega)
      rw [hB0] at hltp
      obtain ⟨l, hl⟩ : ∃ l, T.logs[k]? = some l := ⟨_, List.getElem?_eq_getElem (by rw [HLL.out]; exact hlt)⟩
      obtain ⟨q, m, d, c0W, c1W, hin⟩ := hcp k l hl
      have c0 := (hbk.cell (p := ⟨bp, op + k * 2, none⟩) hltp).trans c0W
      have c1 := (hbk.cell (p := ⟨bp, op + k * 2 + 1, none⟩) hltp).trans c1W
      have HLk : Hid (T.logs[k]? = some l) := hl
      have HLm : Hid (l.pages.length = m) := hin.len
      have hm47 := hin.room
      have hk1 : (k : Int) < (V.nl : Int) := Int.ofNat_lt.2 hlt
      have b1 := b0.below hbk (by omega)
      have hA := below_alloc wr (.cells #[.int .i64 l.phys, .slice q m d] 61)
      have bl := Blk.new' wr 61 #[.int .i64 l.phys, .slice q m d]
      have b2 := b1.kept hA
      have hbA : Below B0 W (wr.alloc (.cells #[.int .i64 l.phys, .slice q m d] 61)) := hbk.trans (hA.mono (by have := hbk.size; omega))
      rw [hp]
      clear hp hcp hl c0W c1W
      generalize l.phys = lp at *
      go_upto_region 4 with fail
      generalize wr.alloc (.cells #[.int .i64 lp, .slice q m d] 61) = WA at *
      generalize wr.heap.size = O at *
      have l1 := bl.cell' (i := 1) rfl
      clear c0 c1
      go_wp2_with fail
      go_loopw [17] (fun i wr => ∃ (j : Nat), j ≤ m ∧ i = .int .i64 j ∧ Below B0 W wr ∧ ∀ i, i < j → hitOne T P (eI l.pages i) = false) (fun i _ => m - (intOf i).toNat)
      case atStart => exact ⟨0, Nat.zero_le _, rfl, hbA, fun i h => by omega⟩
      case round =>
        clear hbA l1 b2 bl b1 hA hbk
        obtain ⟨j, hj, rfl, hbj, hpall⟩ := hrel
        have HPA : Hid (∀ i, i < j → hitOne T P (eI l.pages i) = false) := hpall
        clear hpall
        by_cases hjm : j < m
        · have hinj := hin.below (hbj.mono (Nat.le_of_eq hB0))
          obtain ⟨bq, oq, hq, _, hcq⟩ := hinj.at' (by omega)
          have cj := hcq j hjm
          have hj1 : (j : Int) < (m : Int) := Int.ofNat_lt.2 hjm
          have HJm : Hid (j < l.pages.length) := by show _ < _; rw [HLm.out]; exact hjm
          rw [hq]
          clear hq hcq hinj
          have b3 := b0.below hbj (by omega)
          have hxo := HPO.out k l HLk.out j HJm.out
          have ho := hof (eI l.pages j) hxo
          cases hof1 : isOfP P (eI l.pages j) T.sl with
          | false =>
            have HX : Hid (∀ i, i = j → hitOne T P (eI l.pages i) = false) := fun i hi => by rw [hi]; unfold hitOne; rw [hof1]; rfl
            rw [hof1] at ho
            clear hof1 hof hxo
            generalize eI l.pages j = x at *
            go_upto_region 7 with fail
            refine wp_region_noPanic ?_
            refine wp_region_held_drew (S := fun W' => Below wr.heap.size wr W') (by kernel_rfl) ((Below.refl _ _).drew) (fun hHeld => ?_)
            refine wpAnyH_take (i := 0) (v := ?_) rfl (by kernel_rfl) (by kernel_rfl) (by kernel_rfl) (fun _ _ _ h => h) (Or.inl ⟨by rfl, ?_⟩) hHeld ?_
            rotate_left
            · intro w' hSw; try dsimp only at hSw
              have bw := b3.kept hSw
              have z0 := bw.cell' (i := 0) rfl; have z1 := bw.cell' (i := 1) rfl; have z2 := bw.cell' (i := 2) rfl; have z3 := bw.cell' (i := 3) rfl; have z4 := bw.cell' (i := 4) rfl; have z5 := bw.cell' (i := 5) rfl; have z6 := bw.cell' (i := 6) rfl; have z7 := bw.cell' (i := 7) rfl; have z8 := bw.cell' (i := 8) rfl
              go_simp; try (with_reducible rfl)
            try simp only [Act.put, List.getElem_toArray, List.getElem_cons_succ, List.getElem_cons_zero, List.setIfInBounds_toArray, List.set_cons_zero, List.set_cons_succ]
            refine wpAnyH_take (i := 1) (v := ?_) rfl (by kernel_rfl) (by kernel_rfl) (by kernel_rfl) (fun _ _ _ h => h) (Or.inl ⟨by rfl, ?_⟩) hHeld ?_
            rotate_left
            · intro w' hSw; try dsimp only at hSw
              have bw := b3.kept hSw
              have z0 := bw.cell' (i := 0) rfl; have z1 := bw.cell' (i := 1) rfl; have z2 := bw.cell' (i := 2) rfl; have z3 := bw.cell' (i := 3) rfl; have z4 := bw.cell' (i := 4) rfl; have z5 := bw.cell' (i := 5) rfl; have z6 := bw.cell' (i := 6) rfl; have z7 := bw.cell' (i := 7) rfl; have z8 := bw.cell' (i := 8) rfl
              go_simp; try (with_reducible rfl)
            try simp only [Act.put, List.getElem_toArray, List.getElem_cons_succ, List.getElem_cons_zero, List.setIfInBounds_toArray, List.set_cons_zero, List.set_cons_succ]
            refine wpAnyH_take (i := 2) (v := ?_) rfl (by kernel_rfl) (by kernel_rfl) (by kernel_rfl) (fun _ _ _ h => h) (Or.inl ⟨by rfl, ?_⟩) hHeld ?_
            rotate_left
            · intro w' hSw; try dsimp only at hSw
              have bw := b3.kept hSw
              have z0 := bw.cell' (i := 0) rfl; have z1 := bw.cell' (i := 1) rfl; have z2 := bw.cell' (i := 2) rfl; have z3 := bw.cell' (i := 3) rfl; have z4 := bw.cell' (i := 4) rfl; have z5 := bw.cell' (i := 5) rfl; have z6 := bw.cell' (i := 6) rfl; have z7 := bw.cell' (i := 7) rfl; have z8 := bw.cell' (i := 8) rfl
              go_simp; try (with_reducible rfl)
            try simp only [Act.put, List.getElem_toArray, List.getElem_cons_succ, List.getElem_cons_zero, List.setIfInBounds_toArray, List.set_cons_zero, List.set_cons_succ]
            refine wpAnyH_take (i := 3) (v := ?_) rfl (by kernel_rfl) (by kernel_rfl) (by kernel_rfl) (fun _ _ _ h => h) (Or.inl ⟨by rfl, ?_⟩) hHeld ?_
            rotate_left
            · intro w' hSw; try dsimp only at hSw
              have bw := b3.kept hSw
              have z0 := bw.cell' (i := 0) rfl; have z1 := bw.cell' (i := 1) rfl; have z2 := bw.cell' (i := 2) rfl; have z3 := bw.cell' (i := 3) rfl; have z4 := bw.cell' (i := 4) rfl; have z5 := bw.cell' (i := 5) rfl; have z6 := bw.cell' (i := 6) rfl; have z7 := bw.cell' (i := 7) rfl; have z8 := bw.cell' (i := 8) rfl
              go_simp; try (with_reducible rfl)
            try simp only [Act.put, List.getElem_toArray, List.getElem_cons_succ, List.getElem_cons_zero, List.setIfInBounds_toArray, List.set_cons_zero, List.set_cons_succ]
            refine wpAnyH_take (i := 4) (v := ?_) rfl (by kernel_rfl) (by kernel_rfl) (by kernel_rfl) (fun _ _ _ h => h) (Or.inl ⟨by rfl, ?_⟩) hHeld ?_
            rotate_left
            · intro w' hSw; try dsimp only at hSw
              have bw := b3.kept hSw
              have z0 := bw.cell' (i := 0) rfl; have z1 := bw.cell' (i := 1) rfl; have z2 := bw.cell' (i := 2) rfl; have z3 := bw.cell' (i := 3) rfl; have z4 := bw.cell' (i := 4) rfl; have z5 := bw.cell' (i := 5) rfl; have z6 := bw.cell' (i := 6) rfl; have z7 := bw.cell' (i := 7) rfl; have z8 := bw.cell' (i := 8) rfl
              go_simp; try (with_reducible rfl)
            try simp only [Act.put, List.getElem_toArray, List.getElem_cons_succ, List.getElem_cons_zero, List.setIfInBounds_toArray, List.set_cons_zero, List.set_cons_succ]
            refine wpAnyH_ready (rs := [5]) (by kernel_rfl) (by simp) ?_
            refine AllReadyH.cons rfl (fun K hK => ?_) AllReadyH.nil
            go_simp
            refine (ho _).mono ?_
            rintro e W1 ⟨rfl, k1⟩
            try go_wp2_with fail
            refine hK.out _ _ (bt hHeld k1) (fun hHeld => ?_)
            clear hK K
            try simp only [Act.put, List.getElem_toArray, List.getElem_cons_succ, List.getElem_cons_zero, List.setIfInBounds_toArray, List.set_cons_zero, List.set_cons_succ]
            refine wpAnyH_take (i := 6) (v := ?_) rfl (by kernel_rfl) (by kernel_rfl) (by kernel_rfl) (fun _ _ _ h => h) (Or.inl ⟨by rfl, ?_⟩) hHeld ?_
            rotate_left
            · intro w' hSw; try dsimp only at hSw
              have bw := b3.kept hSw
              have z0 := bw.cell' (i := 0) rfl; have z1 := bw.cell' (i := 1) rfl; have z2 := bw.cell' (i := 2) rfl; have z3 := bw.cell' (i := 3) rfl; have z4 := bw.cell' (i := 4) rfl; have z5 := bw.cell' (i := 5) rfl; have z6 := bw.cell' (i := 6) rfl; have z7 := bw.cell' (i := 7) rfl; have z8 := bw.cell' (i := 8) rfl
              go_simp; try (with_reducible rfl)
            try simp only [Act.put, List.getElem_toArray, List.getElem_cons_succ, List.getElem_cons_zero, List.setIfInBounds_toArray, List.set_cons_zero, List.set_cons_succ]
            refine wpAnyH_take (i := 7) (v := undef) rfl (by kernel_rfl) (by kernel_rfl) (by kernel_rfl) (fun _ _ _ h => h) (Or.inr ⟨by rfl, rfl⟩) hHeld ?_
            try simp only [Act.put, List.getElem_toArray, List.getElem_cons_succ, List.getElem_cons_zero, List.setIfInBounds_toArray, List.set_cons_zero, List.set_cons_succ]
            refine wpAnyH_take (i := 8) (v := undef) rfl (by kernel_rfl) (by kernel_rfl) (by kernel_rfl) (fun _ _ _ h => h) (Or.inr ⟨by rfl, rfl⟩) hHeld ?_
            try simp only [Act.put, List.getElem_toArray, List.getElem_cons_succ, List.getElem_cons_zero, List.setIfInBounds_toArray, List.set_cons_zero, List.set_cons_succ]
            refine wpAnyH_take (i := 9) (v := undef) rfl (by kernel_rfl) (by kernel_rfl) (by kernel_rfl) (fun _ _ _ h => h) (Or.inr ⟨by rfl, rfl⟩) hHeld ?_
            try simp only [Act.put, List.getElem_toArray, List.getElem_cons_succ, List.getElem_cons_zero, List.setIfInBounds_toArray, List.set_cons_zero, List.set_cons_succ]
            refine wpAnyH_take (i := 10) (v := undef) rfl (by kernel_rfl) (by kernel_rfl) (by kernel_rfl) (fun _ _ _ h => h) (Or.inr ⟨by rfl, rfl⟩) hHeld ?_
            try simp only [Act.put, List.getElem_toArray, List.getElem_cons_succ, List.getElem_cons_zero, List.setIfInBounds_toArray, List.set_cons_zero, List.set_cons_succ]
            refine wpAnyH_take (i := 11) (v := undef) rfl (by kernel_rfl) (by kernel_rfl) (by kernel_rfl) (fun _ _ _ h => h) (Or.inr ⟨by rfl, rfl⟩) hHeld ?_
            try simp only [Act.put, List.getElem_toArray, List.getElem_cons_succ, List.getElem_cons_zero, List.setIfInBounds_toArray, List.set_cons_zero, List.set_cons_succ]
            refine wpAnyH_take (i := 12) (v := undef) rfl (by kernel_rfl) (by kernel_rfl) (by kernel_rfl) (fun _ _ _ h => h) (Or.inr ⟨by rfl, rfl⟩) hHeld ?_
            try simp only [Act.put, List.getElem_toArray, List.getElem_cons_succ, List.getElem_cons_zero, List.setIfInBounds_toArray, List.set_cons_zero, List.set_cons_succ]
            refine wpAnyH_take (i := 13) (v := undef) rfl (by kernel_rfl) (by kernel_rfl) (by kernel_rfl) (fun _ _ _ h => h) (Or.inr ⟨by rfl, rfl⟩) hHeld ?_
            try simp only [Act.put, List.getElem_toArray, List.getElem_cons_succ, List.getElem_cons_zero, List.setIfInBounds_toArray, List.set_cons_zero, List.set_cons_succ]
            refine wpAnyH_take (i := 14) (v := undef) rfl (by kernel_rfl) (by kernel_rfl) (by kernel_rfl) (fun _ _ _ h => h) (Or.inr ⟨by rfl, rfl⟩) hHeld ?_
            try simp only [Act.put, List.getElem_toArray, List.getElem_cons_succ, List.getElem_cons_zero, List.setIfInBounds_toArray, List.set_cons_zero, List.set_cons_succ]
            refine wpAnyH_take (i := 15) (v := ?_) rfl (by kernel_rfl) (by kernel_rfl) (by kernel_rfl) (fun _ _ _ h => h) (Or.inl ⟨by rfl, ?_⟩) hHeld ?_
            rotate_left
            · intro w' hSw; try dsimp only at hSw
              have bw := b3.kept hSw
              have z0 := bw.cell' (i := 0) rfl; have z1 := bw.cell' (i := 1) rfl; have z2 := bw.cell' (i := 2) rfl; have z3 := bw.cell' (i := 3) rfl; have z4 := bw.cell' (i := 4) rfl; have z5 := bw.cell' (i := 5) rfl; have z6 := bw.cell' (i := 6) rfl; have z7 := bw.cell' (i := 7) rfl; have z8 := bw.cell' (i := 8) rfl
              go_simp; try (with_reducible rfl)
            try simp only [Act.put, List.getElem_toArray, List.getElem_cons_succ, List.getElem_cons_zero, List.setIfInBounds_toArray, List.set_cons_zero, List.set_cons_succ]
            refine wpAnyH_done (by kernel_rfl) ?_ _
            refine NoPanic.normal ?_
            go_wp2_with fail
            have hbn : Below B0 W _ := hbj.trans (hHeld.mono (by have := hbj.size; omega))
            go_roundw
            case rel =>
              refine ⟨j + 1, by omega, by go_num, hbn, fun i hi => ?_⟩
              rcases Nat.lt_succ_iff_lt_or_eq.1 hi with h' | h'
              · exact HPA.out i h'
              · exact HX.out i h'
            case measure => simp [intOf]; omega
          | true =>
            have hxn : 0 ≤ eI l.pages j ∧ eI l.pages j ≤ 100000000 := by
              rcases hxo with hx | hx
              · rw [hx] at hof1; exact absurd hof1 (by simp [isOfP])
              · exact hx
            obtain ⟨kx, hkx⟩ : ∃ kx : Nat, eI l.pages j = (kx : Int) := ⟨(eI l.pages j).toNat, by omega⟩
            obtain ⟨r, hr⟩ : ∃ r, kx % P = r := ⟨_, rfl⟩
            have hr0 : (kx : Int).tmod (P : Int) = (r : Int) := by rw [Int.tmod_eq_emod_of_nonneg (by omega), ← Int.natCast_emod, hr]
            have HH : Hid (hitOne T P (eI l.pages j) = decide ((r : Int) < T.su)) := by show _ = _; unfold hitOne; rw [hof1, hkx, ← Int.natCast_emod, hr]; rfl
            rw [hof1] at ho
            by_cases hs : (r : Int) < T.su
            · have HY : Hid (over T P = true) := over_yes HLk.out (any_hit HJm.out (by rw [HH.out]; simp [hs]))
              rw [hkx] at ho cj
              clear hof1 hof hxo hxn hr hkx
              go_upto_region 7 with fail
              refine wp_region_noPanic ?_
              refine wp_region_held_drew (S := fun W' => Below wr.heap.size wr W') (by kernel_rfl) ((Below.refl _ _).drew) (fun hHeld => ?_)
              refine wpAnyH_take (i := 0) (v := ?_) rfl (by kernel_rfl) (by kernel_rfl) (by kernel_rfl) (fun _ _ _ h => h) (Or.inl ⟨by rfl, ?_⟩) hHeld ?_
              rotate_left
              · intro w' hSw; try dsimp only at hSw
                have bw := b3.kept hSw
                have z0 := bw.cell' (i := 0) rfl; have z1 := bw.cell' (i := 1) rfl; have z2 := bw.cell' (i := 2) rfl; have z3 := bw.cell' (i := 3) rfl; have z4 := bw.cell' (i := 4) rfl; have z5 := bw.cell' (i := 5) rfl; have z6 := bw.cell' (i := 6) rfl; have z7 := bw.cell' (i := 7) rfl; have z8 := bw.cell' (i := 8) rfl
                go_simp; try (with_reducible rfl)
              try simp only [Act.put, List.getElem_toArray, List.getElem_cons_succ, List.getElem_cons_zero, List.setIfInBounds_toArray, List.set_cons_zero, List.set_cons_succ]
              refine wpAnyH_take (i := 1) (v := ?_) rfl (by kernel_rfl) (by kernel_rfl) (by kernel_rfl) (fun _ _ _ h => h) (Or.inl ⟨by rfl, ?_⟩) hHeld ?_
              rotate_left
              · intro w' hSw; try dsimp only at hSw
                have bw := b3.kept hSw
                have z0 := bw.cell' (i := 0) rfl; have z1 := bw.cell' (i := 1) rfl; have z2 := bw.cell' (i := 2) rfl; have z3 := bw.cell' (i := 3) rfl; have z4 := bw.cell' (i := 4) rfl; have z5 := bw.cell' (i := 5) rfl; have z6 := bw.cell' (i := 6) rfl; have z7 := bw.cell' (i := 7) rfl; have z8 := bw.cell' (i := 8) rfl
                go_simp; try (with_reducible rfl)
              try simp only [Act.put, List.getElem_toArray, List.getElem_cons_succ, List.getElem_cons_zero, List.setIfInBounds_toArray, List.set_cons_zero, List.set_cons_succ]
              refine wpAnyH_take (i := 2) (v := ?_) rfl (by kernel_rfl) (by kernel_rfl) (by kernel_rfl) (fun _ _ _ h => h) (Or.inl ⟨by rfl, ?_⟩) hHeld ?_
              rotate_left
              · intro w' hSw; try dsimp only at hSw
                have bw := b3.kept hSw
                have z0 := bw.cell' (i := 0) rfl; have z1 := bw.cell' (i := 1) rfl; have z2 := bw.cell' (i := 2) rfl; have z3 := bw.cell' (i := 3) rfl; have z4 := bw.cell' (i := 4) rfl; have z5 := bw.cell' (i := 5) rfl; have z6 := bw.cell' (i := 6) rfl; have z7 := bw.cell' (i := 7) rfl; have z8 := bw.cell' (i := 8) rfl
                go_simp; try (with_reducible rfl)
              try simp only [Act.put, List.getElem_toArray, List.getElem_cons_succ, List.getElem_cons_zero, List.setIfInBounds_toArray, List.set_cons_zero, List.set_cons_succ]
              refine wpAnyH_take (i := 3) (v := ?_) rfl (by kernel_rfl) (by kernel_rfl) (by kernel_rfl) (fun _ _ _ h => h) (Or.inl ⟨by rfl, ?_⟩) hHeld ?_
              rotate_left
              · intro w' hSw; try dsimp only at hSw
                have bw := b3.kept hSw
                have z0 := bw.cell' (i := 0) rfl; have z1 := bw.cell' (i := 1) rfl; have z2 := bw.cell' (i := 2) rfl; have z3 := bw.cell' (i := 3) rfl; have z4 := bw.cell' (i := 4) rfl; have z5 := bw.cell' (i := 5) rfl; have z6 := bw.cell' (i := 6) rfl; have z7 := bw.cell' (i := 7) rfl; have z8 := bw.cell' (i := 8) rfl
                go_simp; try (with_reducible rfl)
              try simp only [Act.put, List.getElem_toArray, List.getElem_cons_succ, List.getElem_cons_zero, List.setIfInBounds_toArray, List.set_cons_zero, List.set_cons_succ]
              refine wpAnyH_take (i := 4) (v := ?_) rfl (by kernel_rfl) (by kernel_rfl) (by kernel_rfl) (fun _ _ _ h => h) (Or.inl ⟨by rfl, ?_⟩) hHeld ?_
              rotate_left
              · intro w' hSw; try dsimp only at hSw
                have bw := b3.kept hSw
                have z0 := bw.cell' (i := 0) rfl; have z1 := bw.cell' (i := 1) rfl; have z2 := bw.cell' (i := 2) rfl; have z3 := bw.cell' (i := 3) rfl; have z4 := bw.cell' (i := 4) rfl; have z5 := bw.cell' (i := 5) rfl; have z6 := bw.cell' (i := 6) rfl; have z7 := bw.cell' (i := 7) rfl; have z8 := bw.cell' (i := 8) rfl
                go_simp; try (with_reducible rfl)
              try simp only [Act.put, List.getElem_toArray, List.getElem_cons_succ, List.getElem_cons_zero, List.setIfInBounds_toArray, List.set_cons_zero, List.set_cons_succ]
              refine wpAnyH_ready (rs := [5]) (by kernel_rfl) (by simp) ?_
              refine AllReadyH.cons rfl (fun K hK => ?_) AllReadyH.nil
              go_simp
              refine (ho _).mono ?_
              rintro e W1 ⟨rfl, k1⟩
              try go_wp2_with fail
              refine hK.out _ _ (bt hHeld k1) (fun hHeld => ?_)
              clear hK K
              try simp only [Act.put, List.getElem_toArray, List.getElem_cons_succ, List.getElem_cons_zero, List.setIfInBounds_toArray, List.set_cons_zero, List.set_cons_succ]
              refine wpAnyH_take (i := 6) (v := ?_) rfl (by kernel_rfl) (by kernel_rfl) (by kernel_rfl) (fun _ _ _ h => h) (Or.inl ⟨by rfl, ?_⟩) hHeld ?_
              rotate_left
              · intro w' hSw; try dsimp only at hSw
                have bw := b3.kept hSw
                have z0 := bw.cell' (i := 0) rfl; have z1 := bw.cell' (i := 1) rfl; have z2 := bw.cell' (i := 2) rfl; have z3 := bw.cell' (i := 3) rfl; have z4 := bw.cell' (i := 4) rfl; have z5 := bw.cell' (i := 5) rfl; have z6 := bw.cell' (i := 6) rfl; have z7 := bw.cell' (i := 7) rfl; have z8 := bw.cell' (i := 8) rfl
                go_simp; try (with_reducible rfl)
              try simp only [Act.put, List.getElem_toArray, List.getElem_cons_succ, List.getElem_cons_zero, List.setIfInBounds_toArray, List.set_cons_zero, List.set_cons_succ]
              refine wpAnyH_take (i := 7) (v := ?_) rfl (by kernel_rfl) (by kernel_rfl) (by kernel_rfl) (fun _ _ _ h => h) (Or.inl ⟨by rfl, ?_⟩) hHeld ?_
              rotate_left
              · intro w' hSw; try dsimp only at hSw
                have bw := b3.kept hSw
                have z0 := bw.cell' (i := 0) rfl; have z1 := bw.cell' (i := 1) rfl; have z2 := bw.cell' (i := 2) rfl; have z3 := bw.cell' (i := 3) rfl; have z4 := bw.cell' (i := 4) rfl; have z5 := bw.cell' (i := 5) rfl; have z6 := bw.cell' (i := 6) rfl; have z7 := bw.cell' (i := 7) rfl; have z8 := bw.cell' (i := 8) rfl
                go_simp; try (with_reducible rfl)
              try simp only [Act.put, List.getElem_toArray, List.getElem_cons_succ, List.getElem_cons_zero, List.setIfInBounds_toArray, List.set_cons_zero, List.set_cons_succ]
              refine wpAnyH_take (i := 8) (v := ?_) rfl (by kernel_rfl) (by kernel_rfl) (by kernel_rfl) (fun _ _ _ h => h) (Or.inl ⟨by rfl, ?_⟩) hHeld ?_
              rotate_left
              · intro w' hSw; try dsimp only at hSw
                have bw := b3.kept hSw
                have z0 := bw.cell' (i := 0) rfl; have z1 := bw.cell' (i := 1) rfl; have z2 := bw.cell' (i := 2) rfl; have z3 := bw.cell' (i := 3) rfl; have z4 := bw.cell' (i := 4) rfl; have z5 := bw.cell' (i := 5) rfl; have z6 := bw.cell' (i := 6) rfl; have z7 := bw.cell' (i := 7) rfl; have z8 := bw.cell' (i := 8) rfl
                go_simp; try (with_reducible rfl)
              try simp only [Act.put, List.getElem_toArray, List.getElem_cons_succ, List.getElem_cons_zero, List.setIfInBounds_toArray, List.set_cons_zero, List.set_cons_succ]
              refine wpAnyH_take (i := 9) (v := ?_) rfl (by kernel_rfl) (by kernel_rfl) (by kernel_rfl) (fun _ _ _ h => h) (Or.inl ⟨by rfl, ?_⟩) hHeld ?_
              rotate_left
              · intro w' hSw; try dsimp only at hSw
                have bw := b3.kept hSw
                have z0 := bw.cell' (i := 0) rfl; have z1 := bw.cell' (i := 1) rfl; have z2 := bw.cell' (i := 2) rfl; have z3 := bw.cell' (i := 3) rfl; have z4 := bw.cell' (i := 4) rfl; have z5 := bw.cell' (i := 5) rfl; have z6 := bw.cell' (i := 6) rfl; have z7 := bw.cell' (i := 7) rfl; have z8 := bw.cell' (i := 8) rfl
                go_simp; try (with_reducible rfl)
              try simp only [Act.put, List.getElem_toArray, List.getElem_cons_succ, List.getElem_cons_zero, List.setIfInBounds_toArray, List.set_cons_zero, List.set_cons_succ]
              refine wpAnyH_take (i := 10) (v := ?_) rfl (by kernel_rfl) (by kernel_rfl) (by kernel_rfl) (fun _ _ _ h => h) (Or.inl ⟨by rfl, ?_⟩) hHeld ?_
              rotate_left
              · intro w' hSw; try dsimp only at hSw
                have bw := b3.kept hSw
                have z0 := bw.cell' (i := 0) rfl; have z1 := bw.cell' (i := 1) rfl; have z2 := bw.cell' (i := 2) rfl; have z3 := bw.cell' (i := 3) rfl; have z4 := bw.cell' (i := 4) rfl; have z5 := bw.cell' (i := 5) rfl; have z6 := bw.cell' (i := 6) rfl; have z7 := bw.cell' (i := 7) rfl; have z8 := bw.cell' (i := 8) rfl
                go_simp; try (with_reducible rfl)
              try simp only [Act.put, List.getElem_toArray, List.getElem_cons_succ, List.getElem_cons_zero, List.setIfInBounds_toArray, List.set_cons_zero, List.set_cons_succ]
              refine wpAnyH_take (i := 11) (v := ?_) rfl (by kernel_rfl) (by kernel_rfl) (by kernel_rfl) (fun _ _ _ h => h) (Or.inl ⟨by rfl, ?_⟩) hHeld ?_
              rotate_left
              · intro w' hSw; try dsimp only at hSw
                have bw := b3.kept hSw
                have z0 := bw.cell' (i := 0) rfl; have z1 := bw.cell' (i := 1) rfl; have z2 := bw.cell' (i := 2) rfl; have z3 := bw.cell' (i := 3) rfl; have z4 := bw.cell' (i := 4) rfl; have z5 := bw.cell' (i := 5) rfl; have z6 := bw.cell' (i := 6) rfl; have z7 := bw.cell' (i := 7) rfl; have z8 := bw.cell' (i := 8) rfl
                go_simp; try (with_reducible rfl)
              try simp only [Act.put, List.getElem_toArray, List.getElem_cons_succ, List.getElem_cons_zero, List.setIfInBounds_toArray, List.set_cons_zero, List.set_cons_succ]
              refine wpAnyH_take (i := 12) (v := ?_) rfl (by kernel_rfl) (by kernel_rfl) (by kernel_rfl) (fun _ _ _ h => h) (Or.inl ⟨by rfl, ?_⟩) hHeld ?_
              rotate_left
              · intro w' hSw; try dsimp only at hSw
                have bw := b3.kept hSw
                have z0 := bw.cell' (i := 0) rfl; have z1 := bw.cell' (i := 1) rfl; have z2 := bw.cell' (i := 2) rfl; have z3 := bw.cell' (i := 3) rfl; have z4 := bw.cell' (i := 4) rfl; have z5 := bw.cell' (i := 5) rfl; have z6 := bw.cell' (i := 6) rfl; have z7 := bw.cell' (i := 7) rfl; have z8 := bw.cell' (i := 8) rfl
                go_simp; try (with_reducible rfl)
              try simp only [Act.put, List.getElem_toArray, List.getElem_cons_succ, List.getElem_cons_zero, List.setIfInBounds_toArray, List.set_cons_zero, List.set_cons_succ]
              refine wpAnyH_take (i := 13) (v := ?_) rfl (by kernel_rfl) (by kernel_rfl) (by kernel_rfl) (fun _ _ _ h => h) (Or.inl ⟨by rfl, ?_⟩) hHeld ?_
              rotate_left
              · intro w' hSw; try dsimp only at hSw
                have bw := b3.kept hSw
                have z0 := bw.cell' (i := 0) rfl; have z1 := bw.cell' (i := 1) rfl; have z2 := bw.cell' (i := 2) rfl; have z3 := bw.cell' (i := 3) rfl; have z4 := bw.cell' (i := 4) rfl; have z5 := bw.cell' (i := 5) rfl; have z6 := bw.cell' (i := 6) rfl; have z7 := bw.cell' (i := 7) rfl; have z8 := bw.cell' (i := 8) rfl
                go_simp; try (with_reducible rfl)
              try simp only [Act.put, List.getElem_toArray, List.getElem_cons_succ, List.getElem_cons_zero, List.setIfInBounds_toArray, List.set_cons_zero, List.set_cons_succ]
              refine wpAnyH_take (i := 14) (v := ?_) rfl (by kernel_rfl) (by kernel_rfl) (by kernel_rfl) (fun _ _ _ h => h) (Or.inl ⟨by rfl, ?_⟩) hHeld ?_
              rotate_left
              · intro w' hSw; try dsimp only at hSw
                have bw := b3.kept hSw
                have z0 := bw.cell' (i := 0) rfl; have z1 := bw.cell' (i := 1) rfl; have z2 := bw.cell' (i := 2) rfl; have z3 := bw.cell' (i := 3) rfl; have z4 := bw.cell' (i := 4) rfl; have z5 := bw.cell' (i := 5) rfl; have z6 := bw.cell' (i := 6) rfl; have z7 := bw.cell' (i := 7) rfl; have z8 := bw.cell' (i := 8) rfl
                go_simp; try (with_reducible rfl)
              try simp only [Act.put, List.getElem_toArray, List.getElem_cons_succ, List.getElem_cons_zero, List.setIfInBounds_toArray, List.set_cons_zero, List.set_cons_succ]
              refine wpAnyH_take (i := 15) (v := ?_) rfl (by kernel_rfl) (by kernel_rfl) (by kernel_rfl) (fun _ _ _ h => h) (Or.inl ⟨by rfl, ?_⟩) hHeld ?_
              rotate_left
              · intro w' hSw; try dsimp only at hSw
                have bw := b3.kept hSw
                have z0 := bw.cell' (i := 0) rfl; have z1 := bw.cell' (i := 1) rfl; have z2 := bw.cell' (i := 2) rfl; have z3 := bw.cell' (i := 3) rfl; have z4 := bw.cell' (i := 4) rfl; have z5 := bw.cell' (i := 5) rfl; have z6 := bw.cell' (i := 6) rfl; have z7 := bw.cell' (i := 7) rfl; have z8 := bw.cell' (i := 8) rfl
                go_simp; try (with_reducible rfl)
              try simp only [Act.put, List.getElem_toArray, List.getElem_cons_succ, List.getElem_cons_zero, List.setIfInBounds_toArray, List.set_cons_zero, List.set_cons_succ]
              refine wpAnyH_done (by kernel_rfl) ?_ _
              refine NoPanic.normal ?_
              go_wp2_with fail
              go_ret
              exact ⟨ret_bool HY.out.symm, hb0.trans ((hbj.trans (hHeld.mono (by have := hbj.size; omega))).mono (by omega))⟩
            · have HX : Hid (∀ i, i = j → hitOne T P (eI l.pages i) = false) := fun i hi => by rw [hi, HH.out]; simp [hs]
              rw [hkx] at ho cj
              clear hof1 hof hxo hxn hr hkx
              go_upto_region 7 with fail
              refine wp_region_noPanic ?_
              refine wp_region_held_drew (S := fun W' => Below wr.heap.size wr W') (by kernel_rfl) ((Below.refl _ _).drew) (fun hHeld => ?_)
              refine wpAnyH_take (i := 0) (v := ?_) rfl (by kernel_rfl) (by kernel_rfl) (by kernel_rfl) (fun _ _ _ h => h) (Or.inl ⟨by rfl, ?_⟩) hHeld ?_
              rotate_left
              · intro w' hSw; try dsimp only at hSw
                have bw := b3.kept hSw
                have z0 := bw.cell' (i := 0) rfl; have z1 := bw.cell' (i := 1) rfl; have z2 := bw.cell' (i := 2) rfl; have z3 := bw.cell' (i := 3) rfl; have z4 := bw.cell' (i := 4) rfl; have z5 := bw.cell' (i := 5) rfl; have z6 := bw.cell' (i := 6) rfl; have z7 := bw.cell' (i := 7) rfl; have z8 := bw.cell' (i := 8) rfl
                go_simp; try (with_reducible rfl)
              try simp only [Act.put, List.getElem_toArray, List.getElem_cons_succ, List.getElem_cons_zero, List.setIfInBounds_toArray, List.set_cons_zero, List.set_cons_succ]
              refine wpAnyH_take (i := 1) (v := ?_) rfl (by kernel_rfl) (by kernel_rfl) (by kernel_rfl) (fun _ _ _ h => h) (Or.inl ⟨by rfl, ?_⟩) hHeld ?_
              rotate_left
              · intro w' hSw; try dsimp only at hSw
                have bw := b3.kept hSw
                have z0 := bw.cell' (i := 0) rfl; have z1 := bw.cell' (i := 1) rfl; have z2 := bw.cell' (i := 2) rfl; have z3 := bw.cell' (i := 3) rfl; have z4 := bw.cell' (i := 4) rfl; have z5 := bw.cell' (i := 5) rfl; have z6 := bw.cell' (i := 6) rfl; have z7 := bw.cell' (i := 7) rfl; have z8 := bw.cell' (i := 8) rfl
                go_simp; try (with_reducible rfl)
              try simp only [Act.put, List.getElem_toArray, List.getElem_cons_succ, List.getElem_cons_zero, List.setIfInBounds_toArray, List.set_cons_zero, List.set_cons_succ]
              refine wpAnyH_take (i := 2) (v := ?_) rfl (by kernel_rfl) (by kernel_rfl) (by kernel_rfl) (fun _ _ _ h => h) (Or.inl ⟨by rfl, ?_⟩) hHeld ?_
              rotate_left
              · intro w' hSw; try dsimp only at hSw
                have bw := b3.kept hSw
                have z0 := bw.cell' (i := 0) rfl; have z1 := bw.cell' (i := 1) rfl; have z2 := bw.cell' (i := 2) rfl; have z3 := bw.cell' (i := 3) rfl; have z4 := bw.cell' (i := 4) rfl; have z5 := bw.cell' (i := 5) rfl; have z6 := bw.cell' (i := 6) rfl; have z7 := bw.cell' (i := 7) rfl; have z8 := bw.cell' (i := 8) rfl
                go_simp; try (with_reducible rfl)
              try simp only [Act.put, List.getElem_toArray, List.getElem_cons_succ, List.getElem_cons_zero, List.setIfInBounds_toArray, List.set_cons_zero, List.set_cons_succ]
              refine wpAnyH_take (i := 3) (v := ?_) rfl (by kernel_rfl) (by kernel_rfl) (by kernel_rfl) (fun _ _ _ h => h) (Or.inl ⟨by rfl, ?_⟩) hHeld ?_
              rotate_left
              · intro w' hSw; try dsimp only at hSw
                have bw := b3.kept hSw
                have z0 := bw.cell' (i := 0) rfl; have z1 := bw.cell' (i := 1) rfl; have z2 := bw.cell' (i := 2) rfl; have z3 := bw.cell' (i := 3) rfl; have z4 := bw.cell' (i := 4) rfl; have z5 := bw.cell' (i := 5) rfl; have z6 := bw.cell' (i := 6) rfl; have z7 := bw.cell' (i := 7) rfl; have z8 := bw.cell' (i := 8) rfl
                go_simp; try (with_reducible rfl)
              try simp only [Act.put, List.getElem_toArray, List.getElem_cons_succ, List.getElem_cons_zero, List.setIfInBounds_toArray, List.set_cons_zero, List.set_cons_succ]
              refine wpAnyH_take (i := 4) (v := ?_) rfl (by kernel_rfl) (by kernel_rfl) (by kernel_rfl) (fun _ _ _ h => h) (Or.inl ⟨by rfl, ?_⟩) hHeld ?_
              rotate_left
              · intro w' hSw; try dsimp only at hSw
                have bw := b3.kept hSw
                have z0 := bw.cell' (i := 0) rfl; have z1 := bw.cell' (i := 1) rfl; have z2 := bw.cell' (i := 2) rfl; have z3 := bw.cell' (i := 3) rfl; have z4 := bw.cell' (i := 4) rfl; have z5 := bw.cell' (i := 5) rfl; have z6 := bw.cell' (i := 6) rfl; have z7 := bw.cell' (i := 7) rfl; have z8 := bw.cell' (i := 8) rfl
                go_simp; try (with_reducible rfl)
              try simp only [Act.put, List.getElem_toArray, List.getElem_cons_succ, List.getElem_cons_zero, List.setIfInBounds_toArray, List.set_cons_zero, List.set_cons_succ]
              refine wpAnyH_ready (rs := [5]) (by kernel_rfl) (by simp) ?_
              refine AllReadyH.cons rfl (fun K hK => ?_) AllReadyH.nil
              go_simp
              refine (ho _).mono ?_
              rintro e W1 ⟨rfl, k1⟩
              try go_wp2_with fail
              refine hK.out _ _ (bt hHeld k1) (fun hHeld => ?_)
              clear hK K
              try simp only [Act.put, List.getElem_toArray, List.getElem_cons_succ, List.getElem_cons_zero, List.setIfInBounds_toArray, List.set_cons_zero, List.set_cons_succ]
              refine wpAnyH_take (i := 6) (v := ?_) rfl (by kernel_rfl) (by kernel_rfl) (by kernel_rfl) (fun _ _ _ h => h) (Or.inl ⟨by rfl, ?_⟩) hHeld ?_
              rotate_left
              · intro w' hSw; try dsimp only at hSw
                have bw := b3.kept hSw
                have z0 := bw.cell' (i := 0) rfl; have z1 := bw.cell' (i := 1) rfl; have z2 := bw.cell' (i := 2) rfl; have z3 := bw.cell' (i := 3) rfl; have z4 := bw.cell' (i := 4) rfl; have z5 := bw.cell' (i := 5) rfl; have z6 := bw.cell' (i := 6) rfl; have z7 := bw.cell' (i := 7) rfl; have z8 := bw.cell' (i := 8) rfl
                go_simp; try (with_reducible rfl)
              try simp only [Act.put, List.getElem_toArray, List.getElem_cons_succ, List.getElem_cons_zero, List.setIfInBounds_toArray, List.set_cons_zero, List.set_cons_succ]
              refine wpAnyH_take (i := 7) (v := ?_) rfl (by kernel_rfl) (by kernel_rfl) (by kernel_rfl) (fun _ _ _ h => h) (Or.inl ⟨by rfl, ?_⟩) hHeld ?_
              rotate_left
              · intro w' hSw; try dsimp only at hSw
                have bw := b3.kept hSw
                have z0 := bw.cell' (i := 0) rfl; have z1 := bw.cell' (i := 1) rfl; have z2 := bw.cell' (i := 2) rfl; have z3 := bw.cell' (i := 3) rfl; have z4 := bw.cell' (i := 4) rfl; have z5 := bw.cell' (i := 5) rfl; have z6 := bw.cell' (i := 6) rfl; have z7 := bw.cell' (i := 7) rfl; have z8 := bw.cell' (i := 8) rfl
                go_simp; try (with_reducible rfl)
              try simp only [Act.put, List.getElem_toArray, List.getElem_cons_succ, List.getElem_cons_zero, List.setIfInBounds_toArray, List.set_cons_zero, List.set_cons_succ]
              refine wpAnyH_take (i := 8) (v := ?_) rfl (by kernel_rfl) (by kernel_rfl) (by kernel_rfl) (fun _ _ _ h => h) (Or.inl ⟨by rfl, ?_⟩) hHeld ?_
              rotate_left
              · intro w' hSw; try dsimp only at hSw
                have bw := b3.kept hSw
                have z0 := bw.cell' (i := 0) rfl; have z1 := bw.cell' (i := 1) rfl; have z2 := bw.cell' (i := 2) rfl; have z3 := bw.cell' (i := 3) rfl; have z4 := bw.cell' (i := 4) rfl; have z5 := bw.cell' (i := 5) rfl; have z6 := bw.cell' (i := 6) rfl; have z7 := bw.cell' (i := 7) rfl; have z8 := bw.cell' (i := 8) rfl
                go_simp; try (with_reducible rfl)
              try simp only [Act.put, List.getElem_toArray, List.getElem_cons_succ, List.getElem_cons_zero, List.setIfInBounds_toArray, List.set_cons_zero, List.set_cons_succ]
              refine wpAnyH_take (i := 9) (v := ?_) rfl (by kernel_rfl) (by kernel_rfl) (by kernel_rfl) (fun _ _ _ h => h) (Or.inl ⟨by rfl, ?_⟩) hHeld ?_
              rotate_left
              · intro w' hSw; try dsimp only at hSw
                have bw := b3.kept hSw
                have z0 := bw.cell' (i := 0) rfl; have z1 := bw.cell' (i := 1) rfl; have z2 := bw.cell' (i := 2) rfl; have z3 := bw.cell' (i := 3) rfl; have z4 := bw.cell' (i := 4) rfl; have z5 := bw.cell' (i := 5) rfl; have z6 := bw.cell' (i := 6) rfl; have z7 := bw.cell' (i := 7) rfl; have z8 := bw.cell' (i := 8) rfl
                go_simp; try (with_reducible rfl)
              try simp only [Act.put, List.getElem_toArray, List.getElem_cons_succ, List.getElem_cons_zero, List.setIfInBounds_toArray, List.set_cons_zero, List.set_cons_succ]
              refine wpAnyH_take (i := 10) (v := ?_) rfl (by kernel_rfl) (by kernel_rfl) (by kernel_rfl) (fun _ _ _ h => h) (Or.inl ⟨by rfl, ?_⟩) hHeld ?_
              rotate_left
              · intro w' hSw; try dsimp only at hSw
                have bw := b3.kept hSw
                have z0 := bw.cell' (i := 0) rfl; have z1 := bw.cell' (i := 1) rfl; have z2 := bw.cell' (i := 2) rfl; have z3 := bw.cell' (i := 3) rfl; have z4 := bw.cell' (i := 4) rfl; have z5 := bw.cell' (i := 5) rfl; have z6 := bw.cell' (i := 6) rfl; have z7 := bw.cell' (i := 7) rfl; have z8 := bw.cell' (i := 8) rfl
                go_simp; try (with_reducible rfl)
              try simp only [Act.put, List.getElem_toArray, List.getElem_cons_succ, List.getElem_cons_zero, List.setIfInBounds_toArray, List.set_cons_zero, List.set_cons_succ]
              refine wpAnyH_take (i := 11) (v := ?_) rfl (by kernel_rfl) (by kernel_rfl) (by kernel_rfl) (fun _ _ _ h => h) (Or.inl ⟨by rfl, ?_⟩) hHeld ?_
              rotate_left
              · intro w' hSw; try dsimp only at hSw
                have bw := b3.kept hSw
                have z0 := bw.cell' (i := 0) rfl; have z1 := bw.cell' (i := 1) rfl; have z2 := bw.cell' (i := 2) rfl; have z3 := bw.cell' (i := 3) rfl; have z4 := bw.cell' (i := 4) rfl; have z5 := bw.cell' (i := 5) rfl; have z6 := bw.cell' (i := 6) rfl; have z7 := bw.cell' (i := 7) rfl; have z8 := bw.cell' (i := 8) rfl
                go_simp; try (with_reducible rfl)
              try simp only [Act.put, List.getElem_toArray, List.getElem_cons_succ, List.getElem_cons_zero, List.setIfInBounds_toArray, List.set_cons_zero, List.set_cons_succ]
              refine wpAnyH_take (i := 12) (v := ?_) rfl (by kernel_rfl) (by kernel_rfl) (by kernel_rfl) (fun _ _ _ h => h) (Or.inl ⟨by rfl, ?_⟩) hHeld ?_
              rotate_left
              · intro w' hSw; try dsimp only at hSw
                have bw := b3.kept hSw
                have z0 := bw.cell' (i := 0) rfl; have z1 := bw.cell' (i := 1) rfl; have z2 := bw.cell' (i := 2) rfl; have z3 := bw.cell' (i := 3) rfl; have z4 := bw.cell' (i := 4) rfl; have z5 := bw.cell' (i := 5) rfl; have z6 := bw.cell' (i := 6) rfl; have z7 := bw.cell' (i := 7) rfl; have z8 := bw.cell' (i := 8) rfl
                go_simp; try (with_reducible rfl)
              try simp only [Act.put, List.getElem_toArray, List.getElem_cons_succ, List.getElem_cons_zero, List.setIfInBounds_toArray, List.set_cons_zero, List.set_cons_succ]
              refine wpAnyH_take (i := 13) (v := ?_) rfl (by kernel_rfl) (by kernel_rfl) (by kernel_rfl) (fun _ _ _ h => h) (Or.inl ⟨by rfl, ?_⟩) hHeld ?_
              rotate_left
              · intro w' hSw; try dsimp only at hSw
                have bw := b3.kept hSw
                have z0 := bw.cell' (i := 0) rfl; have z1 := bw.cell' (i := 1) rfl; have z2 := bw.cell' (i := 2) rfl; have z3 := bw.cell' (i := 3) rfl; have z4 := bw.cell' (i := 4) rfl; have z5 := bw.cell' (i := 5) rfl; have z6 := bw.cell' (i := 6) rfl; have z7 := bw.cell' (i := 7) rfl; have z8 := bw.cell' (i := 8) rfl
                go_simp; try (with_reducible rfl)
              try simp only [Act.put, List.getElem_toArray, List.getElem_cons_succ, List.getElem_cons_zero, List.setIfInBounds_toArray, List.set_cons_zero, List.set_cons_succ]
              refine wpAnyH_take (i := 14) (v := ?_) rfl (by kernel_rfl) (by kernel_rfl) (by kernel_rfl) (fun _ _ _ h => h) (Or.inl ⟨by rfl, ?_⟩) hHeld ?_
              rotate_left
              · intro w' hSw; try dsimp only at hSw
                have bw := b3.kept hSw
                have z0 := bw.cell' (i := 0) rfl; have z1 := bw.cell' (i := 1) rfl; have z2 := bw.cell' (i := 2) rfl; have z3 := bw.cell' (i := 3) rfl; have z4 := bw.cell' (i := 4) rfl; have z5 := bw.cell' (i := 5) rfl; have z6 := bw.cell' (i := 6) rfl; have z7 := bw.cell' (i := 7) rfl; have z8 := bw.cell' (i := 8) rfl
                go_simp; try (with_reducible rfl)
              try simp only [Act.put, List.getElem_toArray, List.getElem_cons_succ, List.getElem_cons_zero, List.setIfInBounds_toArray, List.set_cons_zero, List.set_cons_succ]
              refine wpAnyH_take (i := 15) (v := ?_) rfl (by kernel_rfl) (by kernel_rfl) (by kernel_rfl) (fun _ _ _ h => h) (Or.inl ⟨by rfl, ?_⟩) hHeld ?_
              rotate_left
              · intro w' hSw; try dsimp only at hSw
                have bw := b3.kept hSw
                have z0 := bw.cell' (i := 0) rfl; have z1 := bw.cell' (i := 1) rfl; have z2 := bw.cell' (i := 2) rfl; have z3 := bw.cell' (i := 3) rfl; have z4 := bw.cell' (i := 4) rfl; have z5 := bw.cell' (i := 5) rfl; have z6 := bw.cell' (i := 6) rfl; have z7 := bw.cell' (i := 7) rfl; have z8 := bw.cell' (i := 8) rfl
                go_simp; try (with_reducible rfl)
              try simp only [Act.put, List.getElem_toArray, List.getElem_cons_succ, List.getElem_cons_zero, List.setIfInBounds_toArray, List.set_cons_zero, List.set_cons_succ]
              refine wpAnyH_done (by kernel_rfl) ?_ _
              refine NoPanic.normal ?_
              go_wp2_with fail
              have hbn : Below B0 W _ := hbj.trans (hHeld.mono (by have := hbj.size; omega))
              go_roundw
              case rel =>
                refine ⟨j + 1, by omega, by go_num, hbn, fun i hi => ?_⟩
                rcases Nat.lt_succ_iff_lt_or_eq.1 hi with h' | h'
                · exact HPA.out i h'
                · exact HX.out i h'
              case measure => simp [intOf]; omega
        · obtain rfl : j = m := by omega
          have HL1 : Hid ((l.pages.any fun x => hitOne T P x) = false) := any_none (fun i hi => HPA.out i (by rw [HLm.out] at hi; exact hi))
          go_wp2_with fail
          go_roundw
          case rel =>
            refine ⟨k + 1, by omega, by go_num, hbj, fun n l' hn hl' => ?_⟩
            rcases Nat.lt_succ_iff_lt_or_eq.1 hn with h' | h'
            · exact HA.out n l' h' hl'
            · subst h'; rw [HLk.out] at hl'; cases hl'; exact HL1.out
          case measure => simp [intOf]; omega
    · obtain rfl : k = V.nl := by omega
      have HN : Hid (over T P = false) := over_no (fun n l hl => HA.out n l (by rw [← HLL.out]; exact (List.getElem?_eq_some_iff.1 hl).1) hl)
      go_wp2_with fail
      go_ret
      exact ⟨ret_bool HN.out.symm, hb0.trans (hbk.mono (by omega))⟩
end Go.Proofs.Ythibaefoioeghaa

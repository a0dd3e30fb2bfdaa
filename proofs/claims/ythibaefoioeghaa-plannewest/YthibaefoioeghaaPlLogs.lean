/-
  Whether the logs of a table may be.
-/
import Derived.Test.YthibaefoioeghaaPlHave
namespace Go.Proofs.Ythibaefoioeghaa
open Go.RowKit
/-- The pages of the first k logs that are newest copies. -/
def flatTo (L : List LogS) (k : Nat) : List Int := ((L.take k).map (·.pages)).flatten.filter fun x => x != -1
theorem flatTo_succ {L : List LogS} {k : Nat} {l : LogS} (h : L[k]? = some l) : flatTo L (k + 1) = flatTo L k ++ l.pages.filter fun x => x != -1 := by
  have hk := (List.getElem?_eq_some_iff.1 h)
  unfold flatTo
  rw [List.take_succ_eq_append_getElem hk.1, hk.2]
  simp
/-- Whether the n-th of so many logs may be. -/
def okOne (T : Tab) (P n N : Nat) (l : LogS) : Bool := decide (l.pages.length ≤ P) && (decide (P ≤ l.pages.length) || decide (n + 1 = N)) && l.pages.all fun p => p == -1 || hasPg T p
def okAll (T : Tab) (P : Nat) : Bool := (List.range T.logs.length).all fun n => match T.logs[n]? with | some l => okOne T P n T.logs.length l | none => true
def okLogs (T : Tab) (P : Nat) : Bool := okAll T P && !twice (flatTo T.logs T.logs.length)
theorem okAll_iff {T : Tab} {P : Nat} : okAll T P = true ↔ ∀ n l, T.logs[n]? = some l → okOne T P n T.logs.length l = true := by
  unfold okAll
  rw [List.all_eq_true]
  constructor
  · intro h n l hl
    have := h n (List.mem_range.2 (List.getElem?_eq_some_iff.1 hl).1)
    rw [hl] at this
    exact this
  · intro h n hn
    cases hl : T.logs[n]? with
    | none => rfl
    | some l => exact h n l hl
theorem okLogs_no {T : Tab} {P n : Nat} {l : LogS} (hl : T.logs[n]? = some l) (h : okOne T P n T.logs.length l = false) : okLogs T P = false := by
  have : okAll T P = false := by
    cases hq : okAll T P with
    | false => rfl
    | true => rw [okAll_iff.1 hq n l hl] at h; cases h
  unfold okLogs
  rw [this]; rfl
set_option linter.unusedSimpArgs false in
set_option maxRecDepth 100000 in
set_option maxHeartbeats 8000000 in
theorem logsMayBe_any (V : TabV) (T : Tab) (P : Nat) (w : World) (h : TabIn w V T) (hP : T.pages = P) (hP0 : 4 ≤ P ∧ P ≤ 32) (hlo : 1 ≤ T.logical ∧ T.logical ≤ 256) (hnl : V.nl ≤ 8) :
    Calls Try.prog 51 #[.agg (tabA V T)] w fun e w' => e = .returned (.bool (okLogs T P)) ∧ Below w.heap.size w w' := by
  obtain ⟨i0, hi, hz0, hz1, hz2⟩ := info_parts info3
  have hb0 := below_alloc w (.cells (tabA V T) 28)
  have b0 := Blk.new' w 28 (tabA V T)
  have hlt0 := b0.lt
  have hT := h.below hb0
  have hlp : -100000000 ≤ T.logical * T.pages ∧ T.logical * T.pages ≤ 100000000 := by
    rw [hP]
    have h1 : 0 ≤ T.logical * (P : Int) := Int.mul_nonneg (by omega) (by omega)
    have h2 : T.logical * (P : Int) ≤ 256 * 32 := Int.mul_le_mul (by omega) (by omega) (by omega) (by omega)
    exact ⟨by omega, by omega⟩
  have hpg := fun p w => hasPage_any V T p w hlp
  unfold tabA at hb0 b0 hT hlt0 hpg ⊢
  have HLL : Hid (T.logs.length = V.nl) := hT.logs.len
  have HPP : Hid (T.pages = (P : Int)) := hP
  clear hlp hlo h hP
  go_enter Try.func51, Try.ntmps51
  go_upto_region 2 with fail
  generalize hW : w.alloc (.cells #[.int .i64 T.pages, .int .i64 T.logical, .int .i64 T.k, .slice V.pd V.nd V.cd, .slice V.ph V.nh V.ch, .int .i64 T.sp, .int .i64 T.sl, .int .i64 T.su, .slice V.pl V.nl V.cl] 28) = W at *
  clear hW
  have z8 := b0.cell' (i := 8) rfl
  go_wp2_with fail
  have HWS : Hid (w.heap.size ≤ W.heap.size) := hb0.size
  generalize hB0 : W.heap.size = B0 at *
  go_loopw [3, 12] (fun v i wr => ∃ (k : Nat) (pv : Option Addr) (cv : Nat), k ≤ V.nl ∧ i = .int .i64 k ∧ v = .slice pv (flatTo T.logs k).length cv ∧ wr.ownsRow B0 3 1 (.slice pv (flatTo T.logs k).length cv) (flatTo T.logs k).length (valsI (flatTo T.logs k)) ∧ Below B0 W wr ∧ (flatTo T.logs k).length ≤ 32 * k ∧ ∀ n l, n < k → T.logs[n]? = some l → okOne T P n T.logs.length l = true) (fun _ i _ => V.nl - (intOf i).toNat)
  case atStart => exact ⟨0, none, 0, Nat.zero_le _, rfl, rfl, World.ownsRow_nil _ _ _ _, Below.refl _ _, Nat.le_refl _, fun n l h => by omega⟩
  case round =>
    clear z8
    obtain ⟨k, pv, cv, hk, rfl, rfl, hown, hbk, hfl, hall⟩ := hrel
    have HA : Hid (∀ n l, n < k → T.logs[n]? = some l → okOne T P n T.logs.length l = true) := hall
    clear hall
    by_cases hlt : k < V.nl
    · obtain ⟨bp, op, hp, hltp, hcp⟩ := hT.logs.at' (by omega)
      rw [hB0] at hltp
      obtain ⟨l, hl⟩ : ∃ l, T.logs[k]? = some l := ⟨_, List.getElem?_eq_getElem (by rw [HLL.out]; exact hlt)⟩
      obtain ⟨q, m, d, c0W, c1W, hin⟩ := hcp k l hl
      have c0 := (hbk.cell (p := ⟨bp, op + k * 2, none⟩) hltp).trans c0W
      have c1 := (hbk.cell (p := ⟨bp, op + k * 2 + 1, none⟩) hltp).trans c1W
      have HI : Hid (flatTo T.logs (k + 1) = flatTo T.logs k ++ l.pages.filter fun x => x != -1) := flatTo_succ hl
      have HLk : Hid (T.logs[k]? = some l) := hl
      have HLm : Hid (l.pages.length = m) := hin.len
      have HON : Hid (okOne T P k T.logs.length l = (decide (m ≤ P) && (decide (P ≤ m) || decide (k + 1 = V.nl)) && l.pages.all fun p => p == -1 || hasPg T p)) := by show _ = _; unfold okOne; rw [HLm.out, HLL.out]
      have hk1 : (k : Int) < (V.nl : Int) := Int.ofNat_lt.2 hlt
      have b1 := b0.below hbk (by omega)
      have hA := below_alloc wr (.cells #[.int .i64 l.phys, .slice q m d] 61)
      have bl := Blk.new' wr 61 #[.int .i64 l.phys, .slice q m d]
      have b2 := b1.kept hA
      have hown2 := owns_below hown hA
      have hbA : Below B0 W (wr.alloc (.cells #[.int .i64 l.phys, .slice q m d] 61)) := hbk.trans (hA.mono (by have := hbk.size; omega))
      have g8 := b1.cell' (i := 8) rfl
      have g9 := b2.cell' (i := 8) rfl
      have hn1 : IntKind.i64.wrap ((V.nl : Int) - 1) = ((V.nl - 1 : Nat) : Int) := by rw [show (V.nl : Int) - 1 = ((V.nl - 1 : Nat) : Int) from by omega]; exact wrapN _ (by omega)
      have hn2 : wrap64 ((V.nl : Int) - 1) = ((V.nl - 1 : Nat) : Int) := (IntWalk.i64_left _).symm.trans hn1
      rw [hp] at g8 g9 ⊢
      clear hp hcp hl c0W c1W
      generalize l.phys = lp at *
      go_upto_region 6 with fail
      clear hn1 hn2
      generalize wr.alloc (.cells #[.int .i64 lp, .slice q m d] 61) = WA at *
      generalize wr.heap.size = O at *
      have l1 := bl.cell' (i := 1) rfl
      have y0 := b2.cell' (i := 0) rfl
      rw [HPP.out] at y0
      clear g8 g9 hown c0 c1
      by_cases hmP : m ≤ P
      · have hmP1 : ¬ ((P : Int) < (m : Int)) := by omega
        by_cases hbadl : m < P ∧ ¬ (k + 1 = V.nl)
        · have hc1 : (m : Int) < (P : Int) := by omega
          have hc2 : ((k : Int) == ((V.nl - 1 : Nat) : Int)) = false := by rw [beq_eq_false_iff_ne]; omega
          have HN : Hid (okLogs T P = false) := okLogs_no HLk.out (by rw [HON.out]; simp; omega)
          clear hbadl
          go_wp2_with fail
          go_ret
          exact ⟨ret_bool HN.out.symm, hb0.trans (hbA.mono (by omega))⟩
        · have HOK : Hid ((decide (m ≤ P) && (decide (P ≤ m) || decide (k + 1 = V.nl))) = true) := by show _ = _; simp only [Bool.and_eq_true, Bool.or_eq_true, decide_eq_true_eq]; omega
          have hcc : (m < P ∧ ((k : Int) == ((V.nl - 1 : Nat) : Int)) = true) ∨ ¬ m < P := by
            by_cases hx : m < P
            · refine .inl ⟨hx, ?_⟩
              rw [beq_iff_eq]; omega
            · exact .inr hx
          clear hbadl
          go_cut [6, 40] from 13 to 59 (fun _ v wc => v = .bool false ∧ wc = WA)
          case first =>
            rcases hcc with ⟨hx, hy⟩ | hx
            · have hc1 : (m : Int) < (P : Int) := by omega
              go_wp2_with fail
              go_meet
              case rel => exact ⟨rfl, rfl⟩
            · have hc1 : ¬ (m : Int) < (P : Int) := by omega
              go_wp2_with fail
              go_meet
              case rel => exact ⟨rfl, rfl⟩
          case rest =>
            obtain ⟨rfl, rfl⟩ := hcut
            have l1 := bl.cell' (i := 1) rfl
            go_wp2_with fail
            go_loopw [3, 44] (fun v i wr => ∃ (j : Nat) (pv : Option Addr) (cv : Nat), j ≤ m ∧ i = .int .i64 j ∧ v = .slice pv (flatTo T.logs k ++ dataTo l.pages j).length cv ∧ wr.ownsRow B0 3 1 (.slice pv (flatTo T.logs k ++ dataTo l.pages j).length cv) (flatTo T.logs k ++ dataTo l.pages j).length (valsI (flatTo T.logs k ++ dataTo l.pages j)) ∧ Below B0 W wr ∧ ∀ i, i < j → (eI l.pages i == -1 || hasPg T (eI l.pages i)) = true) (fun _ i _ => m - (intOf i).toNat)
            case atStart => exact ⟨0, pv, cv, Nat.zero_le _, rfl, by simp [dataTo], by simpa [dataTo] using hown2, hbA, fun i h => by omega⟩
            case round =>
              clear hown2 hbA l1 y0
              obtain ⟨j, pv, cv, hj, rfl, rfl, hown, hbj, hpall⟩ := hrel
              have HPA : Hid (∀ i, i < j → (eI l.pages i == -1 || hasPg T (eI l.pages i)) = true) := hpall
              clear hpall
              have hle := dataTo_le l.pages j
              obtain ⟨FL, hFL⟩ : ∃ FL, flatTo T.logs k ++ dataTo l.pages j = FL := ⟨_, rfl⟩
              obtain ⟨L, hL⟩ : ∃ L, FL.length = L := ⟨_, rfl⟩
              rw [hFL] at hown ⊢
              rw [hL] at hown ⊢
              have hLn : L ≤ 1000 := by rw [← hL, ← hFL, List.length_append]; omega
              have HFL : Hid (flatTo T.logs k ++ dataTo l.pages j = FL ∧ FL.length = L) := ⟨hFL, hL⟩
              clear hFL hL hle
              by_cases hjm : j < m
              · have hinj := hin.below (hbj.mono (Nat.le_of_eq hB0))
                obtain ⟨bq, oq, hq, _, hcq⟩ := hinj.at' (by omega)
                have cj := hcq j hjm
                have hj1 : (j : Int) < (m : Int) := Int.ofNat_lt.2 hjm
                have HJm : Hid (j < l.pages.length) := by show _ < _; rw [HLm.out]; exact hjm
                rw [hq]
                clear hq hcq hinj
                have b3 := b0.below hbj (by omega)
                by_cases hx : eI l.pages j = -1
                · have HD : Hid (dataTo l.pages (j + 1) = dataTo l.pages j) := dataTo_no HJm.out hx
                  have HX : Hid ((eI l.pages j == -1 || hasPg T (eI l.pages j)) = true) := by show _ = _; rw [hx]; rfl
                  rw [hx] at cj
                  clear hx
                  go_wp2_with fail
                  go_roundw
                  case rel =>
                    refine ⟨j + 1, pv, cv, by omega, by go_num, by rw [HD.out, HFL.out.1, HFL.out.2], by rw [HD.out, HFL.out.1, HFL.out.2]; exact hown, hbj, fun i hi => ?_⟩
                    rcases Nat.lt_succ_iff_lt_or_eq.1 hi with h' | h'
                    · exact HPA.out i h'
                    · rw [h']; exact HX.out
                  case measure => simp [intOf]; omega
                · have HD : Hid (dataTo l.pages (j + 1) = dataTo l.pages j ++ [eI l.pages j]) := dataTo_yes HJm.out hx
                  have hx' : (eI l.pages j == -1) = false := by simpa using hx
                  have hpj := hpg (eI l.pages j)
                  have y0 := b3.cell' (i := 0) rfl; have y1 := b3.cell' (i := 1) rfl; have y2 := b3.cell' (i := 2) rfl; have y3 := b3.cell' (i := 3) rfl; have y4 := b3.cell' (i := 4) rfl; have y5 := b3.cell' (i := 5) rfl; have y6 := b3.cell' (i := 6) rfl; have y7 := b3.cell' (i := 7) rfl; have y8 := b3.cell' (i := 8) rfl
                  cases hq : hasPg T (eI l.pages j) with
                  | false =>
                    have HN : Hid (okLogs T P = false) := okLogs_no HLk.out (by
                      rw [HON.out, all_of_not (f := fun p => p == -1 || hasPg T p) HJm.out (by rw [hx', hq]; rfl), Bool.and_false])
                    rw [hq] at hpj
                    clear hx hq
                    generalize eI l.pages j = x at *
                    go_wp2_with (go_at_call 55; refine (hpj _).mono ?_; rintro e w3 ⟨rfl, hb3⟩)
                    go_ret
                    exact ⟨ret_bool HN.out.symm, hb0.trans ((hbj.trans (hb3.mono (by have := hbj.size; omega))).mono (by omega))⟩
                  | true =>
                    have HX : Hid (∀ i, i = j → (eI l.pages i == -1 || hasPg T (eI l.pages i)) = true) := fun i hi => by rw [hi, hq]; simp
                    rw [hq] at hpj
                    clear hx hq
                    generalize eI l.pages j = x at *
                    go_wp2_with (first | (go_at_call 55; refine (hpj _).mono ?_; rintro e w3 ⟨rfl, hb3⟩; have hown3 := owns_below hown hb3; have hsz3 : B0 ≤ w3.heap.size := Nat.le_trans (by have := hbj.size; omega) hb3.size) | (at_builtin; refine wpList_append_own _ rfl (.tmp 54) (.tmp 56) 22 rfl B0 3 i0 (.int .i64 0) 1 8 Try.underlying22 hi hz0 hz1 hz2 rfl (by decide) (.slice pv L cv) L (valsI FL) rfl (hown3.alloc _) ⟨w3.heap.size, 0, none⟩ 1 1 [.int .i64 x] rfl rfl (new_one _ _) (by simp [Value.oneCell']) (by unfold maxLen; omega) (by omega) (by rw [World.size_alloc]; omega) ?_; intro v1 w4 hown4 hgrow4 _; obtain ⟨p4, c4, rfl⟩ := snoc_form hown4 (by omega)))
                    have hbn : Below B0 W w4 := ((hbj.trans (hb3.mono (by have := hbj.size; omega))).alloc hsz3 _).grown hgrow4 (by rw [World.size_alloc]; omega) (fun j hj => (hown.lt j hj).1)
                    rw [valsI_snoc] at hown4
                    have HE : Hid (flatTo T.logs k ++ dataTo l.pages (j + 1) = FL ++ [x] ∧ (FL ++ [x]).length = L + 1) := ⟨by rw [HD.out, ← List.append_assoc, HFL.out.1], by rw [List.length_append, HFL.out.2]; rfl⟩
                    go_roundw
                    case rel =>
                      refine ⟨j + 1, p4, c4, by omega, by go_num, by rw [HE.out.1, HE.out.2], by rw [HE.out.1, HE.out.2]; exact hown4, hbn, fun i hi => ?_⟩
                      rcases Nat.lt_succ_iff_lt_or_eq.1 hi with h' | h'
                      · exact HPA.out i h'
                      · exact HX.out i h'
                    case measure => simp [intOf]; omega
              · obtain rfl : j = m := by omega
                have HF : Hid (flatTo T.logs (k + 1) = FL) := by show _ = _; rw [HI.out, ← HFL.out.1, dataTo_all (by rw [HLm.out]; exact Nat.le_refl _)]
                have HO1 : Hid (okOne T P k T.logs.length l = true) := by
                  show _ = _
                  rw [HON.out, HOK.out, Bool.true_and]
                  exact eI_all.2 (fun i hi => HPA.out i (by rw [HLm.out] at hi; exact hi))
                have hLk : L ≤ 32 * (k + 1) := by rw [← HFL.out.2, ← HFL.out.1, List.length_append]; have := dataTo_le l.pages j; omega
                go_wp2_with fail
                go_roundw
                case rel =>
                  refine ⟨k + 1, pv, cv, by omega, by go_num, by rw [HF.out, HFL.out.2], by rw [HF.out, HFL.out.2]; exact hown, hbj, by rw [HF.out, HFL.out.2]; exact hLk, fun n l' hn hl' => ?_⟩
                  rcases Nat.lt_succ_iff_lt_or_eq.1 hn with h' | h'
                  · exact HA.out n l' h' hl'
                  · subst h'; rw [HLk.out] at hl'; cases hl'; exact HO1.out
                case measure => simp [intOf]; omega
      · have hmP1 : (P : Int) < (m : Int) := by omega
        have HN : Hid (okLogs T P = false) := okLogs_no HLk.out (by rw [HON.out]; simp [hmP])
        clear hmP
        go_wp2_with fail
        go_ret
        exact ⟨ret_bool HN.out.symm, hb0.trans (hbA.mono (by omega))⟩
    · obtain rfl : k = V.nl := by omega
      have HN : Hid (okLogs T P = !twice (flatTo T.logs V.nl)) := by
        show _ = _
        unfold okLogs
        rw [HLL.out, okAll_iff.2 (fun n l hl => HA.out n l (by rw [← HLL.out]; exact (List.getElem?_eq_some_iff.1 hl).1) hl)]; rfl
      have htw := hasTwice_any B0 pv _ cv (flatTo T.logs V.nl) wr hown (by omega) (by have := hbk.size; omega)
      generalize flatTo T.logs V.nl = FF at *
      go_wp2_with (go_at_call 75; refine htw.mono ?_; rintro e w2 ⟨rfl, hb2⟩)
      go_ret
      exact ⟨ret_bool HN.out.symm, hb0.trans ((hbk.trans hb2).mono (by omega))⟩
end Go.Proofs.Ythibaefoioeghaa

/-
  What the reference's Records answers.
-/
import Derived.Test.YtikigfjdddgkpaaDtRecs
import Derived.Deep.Cut
import Derived.Test.YtikigfjdddgkpaaDtR2
namespace Go.Proofs.Ytikigfjdddgkpaa
open Go.RowKit
theorem infoQ : (Try.prog.info? 62).map (fun i => (i.zero, i.size, i.bytes)) = some (some (.agg #[.int .i64 0, .int .i64 0, .string ⟨#[]⟩, .int .i64 0, .int .i64 0]), 5, 48) := by kernel_rfl
theorem new_fiveQ (W : World) (x y z u v : Value) : ∀ j i, [x, y, z, u, v][j]? = some i → (W.alloc (.cells #[x, y, z, u, v] 62)).cell? ((⟨W.heap.size, 0, none⟩ : Addr).add j) = some i := by
  intro j i hi
  rw [addr_add, Nat.zero_add]
  exact (Blk.new' W 62 #[x, y, z, u, v]).cell' hi
theorem row_atQ {w : World} {B : Nat} {v : Value} {l : List Rc} (h : w.ownsRow B 62 5 v l.length (flatR l)) (h0 : 0 < l.length) : ∃ g cap, v = .slice (some ⟨g, 0, none⟩) l.length cap ∧ g < w.heap.size ∧ ∀ k, k < l.length → w.cell? ⟨g, k * 5 + 2, none⟩ = some (.string ⟨(eR l k).nm.toArray⟩) ∧ w.cell? ⟨g, k * 5 + 3, none⟩ = some (.int .i64 (eR l k).ino) := by
  obtain ⟨g, cap, hv⟩ : ∃ g cap, v = .slice (some ⟨g, 0, none⟩) l.length cap := by
    rcases h.2 with ⟨_, h0'⟩ | ⟨g, cap, cur, hv, _⟩
    · omega
    · exact ⟨g, cap, hv⟩
  subst hv
  refine ⟨g, cap, rfl, own_lt h _ rfl, fun k hk => ?_⟩
  obtain ⟨f0, f1, f2, f3, f4⟩ := flatR_at (l := l) (k := k) hk
  exact ⟨(World.ownsRow.cellAt h (k * 5 + 2) (by omega)).trans f2, (World.ownsRow.cellAt h (k * 5 + 3) (by omega)).trans f3⟩
/-- What Records answers. -/
def RRecsAns (xs : List Nat) (w w' : World) (e : Ending) : Prop := ∃ v n, e = .returned (.tuple #[v, .bool (recsO xs).isSome]) ∧ w'.ownsRow w.heap.size 62 5 v n (flatR (recsL xs)) ∧ Below w.heap.size w w'
theorem rrecs_no {xs : List Nat} (h : recsO xs = none) {w w' : World} (hb : Below w.heap.size w w') : RRecsAns xs w w' (.returned (.tuple #[.slice none 0 0, .bool false])) := by
  refine ⟨.slice none 0 0, 0, ?_, ?_, hb⟩
  · rw [h]; rfl
  · rw [show recsL xs = [] from by simp [recsL, h]]
    exact ⟨rfl, .inl ⟨rfl, rfl⟩⟩
theorem rrecs_yes {xs : List Nat} {l : List Rc} (h : recsO xs = some l) {w w' : World} (hb : Below w.heap.size w w') {v : Value} {n : Nat} (ho : w'.ownsRow w.heap.size 62 5 v n (flatR l)) : RRecsAns xs w w' (.returned (.tuple #[v, .bool true])) := by
  refine ⟨v, n, ?_, ?_, hb⟩
  · rw [h]; rfl
  · rw [show recsL xs = l from by simp [recsL, h]]
    exact ho
theorem has_nm {xs : List Nat} {a : Nat} {r : Rc} (h : recAt xs a = some r) : (r.has = true → r.nm ≠ []) ∧ (r.has = false → r.nm = []) := by
  have h6 := (recAt_some h).2.2.2.2.2
  constructor
  · intro hh hn
    rw [hh, if_pos rfl, Bool.and_eq_true] at h6
    have := (nmOk_len h6.1).1
    rw [hn] at this
    simp at this
  · intro hh
    rw [hh, if_neg Bool.false_ne_true, Bool.and_eq_true] at h6
    exact beq_iff_eq.1 h6.1
/-- None of the records so far has the name. -/
theorem place_none {acc : List Rc} {r : Rc} (h1 : ∀ y ∈ acc, y.has = true → y.nm ≠ []) (h2 : r.has = false → r.nm = []) (h3 : ∀ y ∈ acc, (r.has && isNm r.nm y) = false) : ¬ 0 ≤ placeE acc r.nm := by
  have : placeE acc r.nm = -1 := by
    unfold placeE
    refine idxOf_none _ _ _ fun y hy => ?_
    cases hh : r.has with
    | true => have := h3 y hy; rw [hh, Bool.true_and] at this; exact this
    | false =>
      rw [h2 hh]
      unfold isNm
      cases hy2 : y.has with
      | false => rfl
      | true => rw [Bool.true_and, beq_eq_false_iff_ne]; exact h1 y hy hy2
  omega
theorem place_some {acc : List Rc} {r : Rc} {k : Nat} (hk : k < acc.length) (h3 : ∀ j y, j < k → acc[j]? = some y → (r.has && isNm r.nm y) = false) (hr : r.has = true) (hy : isNm r.nm (eR acc k) = true) : 0 ≤ placeE acc r.nm := by
  have : placeE acc r.nm = ((0 + k : Nat) : Int) := idxOf_hit _ _ 0 k (eR acc k) (fun j y hj h => by have := h3 j y hj h; rw [hr, Bool.true_and] at this; exact this) (by simp [eR, hk]) hy
  omega
set_option linter.unusedSimpArgs false in
set_option linter.unusedVariables false in
set_option maxRecDepth 100000 in
set_option maxHeartbeats 8000000 in
theorem rrecords_any (p : Option Addr) (n c : Nat) (xs : List Nat) (w : World) (hx : In w p n c xs) :
    Calls Try.prog 36 #[.slice p n c] w fun e w' => RRecsAns xs w w' e := by
  have HL : Hid (xs.length = n) := hx.len
  by_cases hn : n = 256
  · subst hn
    obtain ⟨b, o, hpe, -, -⟩ := hx.at' (by decide)
    subst hpe
    obtain ⟨i0, hi, hz0, hz1, hz2⟩ := info_parts infoQ
    go_enter Try.func36, Try.ntmps36
    go_wp2
    go_loopw [4, 5] (fun v t wr => ∃ (a f : Nat) (acc : List Rc), t = .int .i64 (a : Int) ∧ wr.ownsRow w.heap.size 62 5 v acc.length (flatR acc) ∧ Below w.heap.size w wr ∧ a ≤ 256 ∧ Hid (8 * acc.length ≤ a ∧ 257 ≤ f + a ∧ recsFrom xs f a acc = recsO xs ∧ ∀ y ∈ acc, y.has = true → y.nm ≠ [])) (fun _ t _ => 257 - (intOf t).toNat)
    case atStart => exact ⟨0, 257, [], rfl, ⟨rfl, .inl ⟨rfl, rfl⟩⟩, Below.refl _ _, Nat.zero_le _, ⟨by simp, by omega, by unfold recsO; rw [HL.out, if_pos rfl], fun y hy => by simp at hy⟩⟩
    case round =>
      obtain ⟨a, f, acc, rfl, hown, hbel, ha, HI⟩ := hrel
      obtain ⟨pv, cv, hpv⟩ := owns_slice hown
      subst hpv
      by_cases hlt : a < 256
      · have hki : (a : Int) < 256 := by omega
        have hra := one_any b o c a xs wr (hx.below hbel) hlt
        go_wp2_with fail
        refine hra.mono ?_
        rintro e1 w1 ⟨r, v, rfl, hrv, hb1⟩
        have hown1 := owns_below hown hb1
        have hbel1 := hbel.trans (hb1.mono hbel.size)
        cases v with
        | false =>
          have HF : Hid (recsO xs = none) := by show _ = _; rw [← HI.out.2.2.1]; exact recsFrom_bad (by rw [HL.out]; exact hlt) hrv
          clear hown hrv hra
          go_wp2
          go_ret2
          exact rrecs_no HF.out (hbel1.alloc (by have := hbel1.size; omega) _)
        | true =>
          clear hown hra
          obtain ⟨l8, lle, -⟩ := recAt_ln hrv
          rw [HL.out] at lle
          have hal : acc.length ≤ 32 := by have := HI.out.1; omega
          have HHN : Hid ((r.has = true → r.nm ≠ []) ∧ (r.has = false → r.nm = [])) := has_nm hrv
          have HF1 : Hid (0 ≤ placeE acc r.nm → recsO xs = none) := fun hp => by rw [← HI.out.2.2.1]; exact recsFrom_twice (by rw [HL.out]; exact hlt) hrv hp
          have HF2 : Hid (¬ 0 ≤ placeE acc r.nm → recsFrom xs (f - 1) (a + r.ln.toNat) (acc ++ [r]) = recsO xs) := fun hp => by rw [← HI.out.2.2.1]; exact (recsFrom_next (by rw [HL.out]; exact hlt) hrv hp (by have := HI.out.2.1; omega)).symm
          have k6 := Blk.new' w1 62 #[.int .i64 r.pl, .int .i64 r.ln, .string ⟨r.nm.toArray⟩, .int .i64 r.ino, .int .i64 r.kd]
          have hown3 := owns_below hown1 (below_alloc w1 (.cells #[.int .i64 r.pl, .int .i64 r.ln, .string ⟨r.nm.toArray⟩, .int .i64 r.ino, .int .i64 r.kd] 62))
          have hbel3 := hbel1.trans ((below_alloc w1 (.cells #[.int .i64 r.pl, .int .i64 r.ln, .string ⟨r.nm.toArray⟩, .int .i64 r.ino, .int .i64 r.kd] 62)).mono hbel1.size)
          clear hrv
          go_wp2
          generalize World.alloc w1 _ = W3 at k6 hown3 hbel3 ⊢
          go_loopw [8] (fun i wr2 => ∃ k : Nat, k ≤ acc.length ∧ i = .int .i64 k ∧ Below W3.heap.size W3 wr2 ∧ Hid (∀ j y, j < k → acc[j]? = some y → (r.has && isNm r.nm y) = false)) (fun i _ => acc.length - (intOf i).toNat)
          case atStart => exact ⟨0, Nat.zero_le _, rfl, Below.refl _ _, fun j y hj => absurd hj (Nat.not_lt_zero _)⟩
          case round =>
            obtain ⟨k, hk, rfl, hbw, HT⟩ := hrel
            have k7 := k6.kept hbw
            by_cases hlt : k < acc.length
            · have hki : (k : Int) < (acc.length : Int) := by omega
              have e2 := k7.cell' (i := 2) rfl
              have e3 := k7.cell' (i := 3) rfl
              obtain ⟨g, cap, he, hgl, hat⟩ := row_atQ (owns_below hown3 hbw) (by omega)
              cases he
              obtain ⟨c2, c3⟩ := hat k hlt
              clear hat k7
              cases hh : r.has with
              | false =>
                have HN : Hid (∀ j y, j < k + 1 → acc[j]? = some y → (r.has && isNm r.nm y) = false) := fun j y hj hz => by
                  rcases Nat.lt_succ_iff_lt_or_eq.1 hj with h' | h'
                  · exact HT.out j y h' hz
                  · subst h'
                    obtain rfl : y = eR acc j := by rw [List.getElem?_eq_getElem hlt] at hz; cases hz; simp [eR, hlt]
                    rw [hh]; rfl
                have q1 : (r.ino != 0) = false := hh
                go_upto_region 12 with fail
                go_quiet (fail)
                go_wp2
                go_roundw
                case rel => exact ⟨k + 1, by omega, by go_num, below_drewN hbw _, fun j y hj hz => by have := HN.out j y hj hz; rw [hh] at this; exact this⟩
                case measure => simp [intOf]; omega
              | true =>
                have q1 : (r.ino != 0) = true := hh
                cases hh2 : (eR acc k).has with
                | false =>
                  have HN : Hid (∀ j y, j < k + 1 → acc[j]? = some y → (r.has && isNm r.nm y) = false) := fun j y hj hz => by
                    rcases Nat.lt_succ_iff_lt_or_eq.1 hj with h' | h'
                    · exact HT.out j y h' hz
                    · subst h'
                      obtain rfl : y = eR acc j := by rw [List.getElem?_eq_getElem hlt] at hz; cases hz; simp [eR, hlt]
                      unfold isNm; rw [hh2]; simp
                  have q2 : ((eR acc k).ino != 0) = false := hh2
                  go_upto_region 12 with fail
                  go_quiet (fail)
                  go_wp2
                  go_roundw
                  case rel => exact ⟨k + 1, by omega, by go_num, below_drewN hbw _, fun j y hj hz => by have := HN.out j y hj hz; rw [hh] at this; exact this⟩
                  case measure => simp [intOf]; omega
                | true =>
                  have q2 : ((eR acc k).ino != 0) = true := hh2
                  cases hh3 : ((eR acc k).nm == r.nm) with
                  | false =>
                    have HN : Hid (∀ j y, j < k + 1 → acc[j]? = some y → (r.has && isNm r.nm y) = false) := fun j y hj hz => by
                      rcases Nat.lt_succ_iff_lt_or_eq.1 hj with h' | h'
                      · exact HT.out j y h' hz
                      · subst h'
                        obtain rfl : y = eR acc j := by rw [List.getElem?_eq_getElem hlt] at hz; cases hz; simp [eR, hlt]
                        unfold isNm; rw [hh3]; simp
                    have q3 : ¬ (eR acc k).nm = r.nm := by rw [beq_eq_false_iff_ne] at hh3; exact hh3
                    go_upto_region 12 with fail
                    go_quiet (fail)
                    go_wp2
                    go_roundw
                    case rel => exact ⟨k + 1, by omega, by go_num, below_drewN hbw _, fun j y hj hz => by have := HN.out j y hj hz; rw [hh] at this; exact this⟩
                    case measure => simp [intOf]; omega
                  | true =>
                    have HF : Hid (recsO xs = none) := HF1.out (place_some hlt HT.out hh (by unfold isNm; rw [hh2, hh3]; rfl))
                    have q3 : (eR acc k).nm = r.nm := by rw [beq_iff_eq] at hh3; exact hh3
                    rw [q3] at c2
                    go_upto_region 12 with fail
                    go_quiet (fail)
                    go_wp2
                    go_ret2
                    exact rrecs_no HF.out (below_drewN (hbel3.trans (hbw.mono hbel3.size)) _)
            · have hkn : ¬ (k : Int) < (acc.length : Int) := by omega
              have HF : Hid (recsFrom xs (f - 1) (a + r.ln.toNat) (acc ++ [r]) = recsO xs) := HF2.out (by
                have := place_none HI.out.2.2.2 HHN.out.2 (fun y hy => by
                  obtain ⟨j, hj, rfl⟩ := List.mem_iff_getElem.1 hy
                  exact HT.out j _ (by omega) (List.getElem?_eq_getElem hj))
                omega)
              have HY : Hid (∀ y ∈ acc ++ [r], y.has = true → y.nm ≠ []) := fun y hy => by
                rcases List.mem_append.1 hy with h | h
                · exact HI.out.2.2.2 y h
                · rw [List.mem_singleton] at h; subst h; exact HHN.out.1
              have hown2 := owns_below hown3 hbw
              have hbel2 := hbel3.trans (hbw.mono hbel3.size)
              have hsz2 := hbel2.size
              have d0 := k7.cell' (i := 0) rfl
              have d1 := k7.cell' (i := 1) rfl
              have d2 := k7.cell' (i := 2) rfl
              have d3 := k7.cell' (i := 3) rfl
              have d4 := k7.cell' (i := 4) rfl
              clear hown3 hbel3 HF1 HF2
              go_wp2_with (at_builtin; refine wpList_append_own _ rfl (.tmp 55) (.tmp 57) 58 rfl w.heap.size 62 i0 (.agg #[.int .i64 0, .int .i64 0, .string ⟨#[]⟩, .int .i64 0, .int .i64 0]) 5 48 Try.underlying58 hi hz0 hz1 hz2 rfl (by decide) _ acc.length _ rfl (owns_below hown2 (below_alloc _ _)) ⟨_, 0, none⟩ 1 1 [.int .i64 r.pl, .int .i64 r.ln, .string ⟨r.nm.toArray⟩, .int .i64 r.ino, .int .i64 r.kd] rfl rfl (new_fiveQ _ _ _ _ _ _) (by simp [Value.oneCell']) (by unfold maxLen; omega) (by omega) (by simp; omega) ?_; intro v1 w5 hown5 hgrow5 _; have k8 := (k7.alloc _).grown hgrow5 (fun he => by have := own_lt hown1 _ he.symm; omega); have d15 := k8.cell' (i := 1) rfl)
              go_roundw
              case rel =>
                rw [flatR_snoc] at hown5
                refine ⟨a + r.ln.toNat, f - 1, acc ++ [r], val_int (by omega), by rw [List.length_append, List.length_singleton]; exact hown5, below_appP hbel2 (Nat.le_refl _) hown2 hgrow5, by omega, ⟨by rw [List.length_append, List.length_singleton]; have := HI.out.1; omega, by have := HI.out.2.1; omega, HF.out, HY.out⟩⟩
              case measure => simp [intOf]; omega
      · have hki : ¬ (a : Int) < 256 := by omega
        have HF : Hid (recsO xs = some acc) := by show _ = _; rw [← HI.out.2.2.1]; exact recsFrom_end (by rw [HL.out]; exact hlt) (by have := HI.out.2.1; omega)
        go_wp2
        go_ret2
        exact rrecs_yes HF.out hbel hown
  · have HR : Hid (recsO xs = none) := by show _ = _; unfold recsO; rw [HL.out, if_neg hn]
    have hne : ((n : Int) != 256) = true := by rw [bne_iff_ne]; omega
    go_enter Try.func36, Try.ntmps36
    go_wp2
    go_ret2
    exact rrecs_no HR.out (Below.refl _ _)
end Go.Proofs.Ytikigfjdddgkpaa

/-
  What New makes where blocks are bad.
-/
import Derived.Test.YthafcnilhloldaaNBadP
namespace Go.Proofs.Ythafcnilhloldaa
open Go.RowKit
def eI (xs : List Int) (i : Nat) : Int := xs.getD i 0
structure InI (w : World) (p : Option Addr) (n c : Nat) (xs : List Int) : Prop where
  len : xs.length = n
  cap : n ≤ c
  max : c ≤ maxLen
  room : n ≤ 140737488355328
  at' : 0 < n → ∃ b o, p = some ⟨b, o, none⟩ ∧ b < w.heap.size ∧ ∀ i, i < n → w.cell? ⟨b, o + i, none⟩ = some (.int .i64 (eI xs i))
  nil : p = none → c = 0
theorem InI.below {w w' p n c xs} (h : InI w p n c xs) (hb : Below w.heap.size w w') : InI w' p n c xs :=
  ⟨h.len, h.cap, h.max, h.room, fun h0 => by
    obtain ⟨b, o, hp, hlt, hc⟩ := h.at' h0
    exact ⟨b, o, hp, Nat.lt_of_lt_of_le hlt hb.size, fun i hi => (hb.cell (p := ⟨b, o + i, none⟩) hlt).trans (hc i hi)⟩, h.nil⟩
theorem InI.empty (w : World) : InI w none 0 0 [] := ⟨rfl, Nat.le_refl _, Nat.zero_le _, Nat.zero_le _, fun h => by omega, fun _ => rfl⟩
theorem eI_some {xs : List Int} {i : Nat} (h : i < xs.length) : xs[i]? = some (eI xs i) := by
  unfold eI; rw [List.getD_eq_getElem?_getD, List.getElem?_eq_getElem h]; rfl
open Classical in
set_option linter.unusedSimpArgs false in
set_option linter.unusedVariables false in
set_option maxRecDepth 100000 in
set_option maxHeartbeats 8000000 in
theorem nnew_geo (gb gp : Int) (q : Option Addr) (m d : Nat) (p : Option Addr) (n c : Nat) (w : World) (hg : ¬ GeoOk gb gp) :
    Calls Try.prog 9 #[.agg #[.int .i64 gb, .int .i64 gp], .slice q m d, .slice p n c] w fun e w' => e = .returned (.tuple #[.pointer none, .int .i64 20]) ∧ Below w.heap.size w w' := by
  have hb0 := below_alloc w (.cells #[.int .i64 gb, .int .i64 gp] 23)
  have hm := mayBe_any gb gp (w.alloc (.cells #[.int .i64 gb, .int .i64 gp] 23))
  rw [decide_eq_false hg] at hm
  have hG := Blk.new' w 23 #[.int .i64 gb, .int .i64 gp]
  have hg0 := hG.cell' (i := 0) rfl
  have hg1 := hG.cell' (i := 1) rfl
  go_enter Try.func9, Try.ntmps9
  go_wp2_with (go_at_call 28; refine hm.mono ?_; rintro e w1 ⟨rfl, hb1⟩)
  go_ret2
  exact ⟨rfl, bt hb0 hb1⟩
open Classical in
set_option linter.unusedSimpArgs false in
set_option linter.unusedVariables false in
set_option maxRecDepth 100000 in
set_option maxHeartbeats 8000000 in
theorem nnew_place (nb np : Nat) (q : Option Addr) (m d : Nat) (bs : List Int) (p : Option Addr) (n c : Nat) (es : List Ev) (f : Nat → Option Addr × Nat × Nat) (w : World) (hi : InI w q m d bs) (hx : EvSrc w p n c es f) (hg : GeoOk nb np) (hbad : markL nb bs (List.replicate nb false) = none) :
    Calls Try.prog 9 #[.agg #[.int .i64 (nb : Int), .int .i64 (np : Int)], .slice q m d, .slice p n c] w fun e w' => Below w.heap.size w w' ∧ e = .returned (.tuple #[.pointer none, .int .i64 22]) := by
  obtain ⟨i0, hif, hz0, hz1, hz2⟩ := info_parts infoBlk
  have hb0 := below_alloc w (.cells #[.int .i64 (nb : Int), .int .i64 (np : Int)] 23)
  have hm := mayBe_any nb np (w.alloc (.cells #[.int .i64 (nb : Int), .int .i64 (np : Int)] 23))
  rw [decide_eq_true hg] at hm
  have hnb : nb ≤ 256 := by unfold GeoOk at hg; omega
  have HG : Hid (GeoOk nb np) := hg
  clear hg
  have HBL : Hid (bs.length = m) := hi.len
  have hroom := hi.room
  have hG := Blk.new' w 23 #[.int .i64 (nb : Int), .int .i64 (np : Int)]
  go_enter Try.func9, Try.ntmps9
  go_wp2_with (first
    | (go_at_call 28; refine hm.mono ?_; rintro e w1 ⟨rfl, hb1⟩; have hG1 := hG.kept hb1; have hg0 := hG1.cell' (i := 0) rfl; have hg1 := hG1.cell' (i := 1) rfl)
    | (at_make; refine wpList_make_full _ rfl _ _ 76 rfl 0 78 i0 _ 4 Try.underlying76 hif hz0 hz1 .i64 .i64 _ _ nb rfl rfl rfl rfl (by rw [hz2]; omega) (by unfold maxLen; omega) (Nat.zero_le _) ?_; intro w2 hown2 hgrow2))
  have hB2 : Blk w2 w1.heap.size 78 (bcOf (List.replicate nb false)) := by
    rw [← bcOf_new]
    rcases hown2.2 with ⟨h', _⟩ | ⟨g, cap, cur, h', _, hh, _, _, hs, ht⟩
    · simp at h'
    · simp only [Value.slice.injEq, Option.some.injEq, Addr.mk.injEq, and_true, true_and] at h'
      obtain ⟨rfl, rfl⟩ := h'
      rw [List.take_of_length_le (by simp [hs])] at ht
      rw [Blk, hh, ← ht]
  have hb2 := below_grown0 hgrow2
  have hw2 : Below w.heap.size w w2 := bt (bt hb0 hb1) hb2
  have hx0 := hx
  have hi0 := hi
  have hG2 := hG1.kept hb2
  have hlt1 := hB2.lt
  have hlw : w.heap.size < w1.heap.size := hG1.lt
  clear hm hown2 hgrow2 hg0 hg1 hz0 hz1 hz2 hif hx hi
  obtain ⟨g1, hg1⟩ : ∃ g1, w1.heap.size = g1 := ⟨_, rfl⟩
  rw [hg1] at hB2 hlw ⊢
  clear hb0 hb1 hb2 hG hG1 hg1
  go_loopw [21] (fun i wr => ∃ (k : Nat) (mk : List Bool), k ≤ m ∧ i = .int .i64 (k : Int) ∧ Hid (mk.length = nb) ∧ Hid (markL nb bs (List.replicate nb false) = markL nb (bs.drop k) mk) ∧ Blk wr g1 78 (bcOf mk) ∧ Blk wr w.heap.size 23 [.int .i64 (nb : Int), .int .i64 (np : Int)] ∧ Below w.heap.size w wr) (fun i _ => m - (intOf i).toNat)
  case atStart => exact ⟨0, _, Nat.zero_le _, rfl, List.length_replicate, rfl, hB2, hG2, hw2⟩
  case round =>
    obtain ⟨k, mk, hk, rfl, HML, HMK, hB, hG, hw⟩ := hrel
    have hx := hx0.below hw
    have hi := hi0.below hw
    by_cases hlt : k < m
    · have hki : (k : Int) < (m : Int) := by omega
      obtain ⟨bb, oo, hpe, hbl, hc⟩ := hi.at' (by omega)
      subst hpe
      have e0 := hc k hlt
      have hks : bs[k]? = some (eI bs k) := eI_some (by rw [HBL.out]; exact hlt)
      have HNo : Hid (markOk nb mk (eI bs k) = false → markL nb (bs.drop k) mk = none) := fun h => markL_no hks h
      have HYes : Hid (markOk nb mk (eI bs k) = true → markL nb (bs.drop k) mk = markL nb (bs.drop (k + 1)) (mk.set (eI bs k).toNat true)) := fun h => markL_yes hks h
      clear hc hks
      generalize eI bs k = b at *
      cases hok : markOk nb mk b with
      | false =>
        have HN : Hid (markL nb bs (List.replicate nb false) = none) := HMK.out.trans (HNo.out hok)
        by_cases h0 : b < 0
        · go_wp2
          go_ret2
          exact ⟨hw, rfl⟩
        · by_cases h1 : (nb : Int) ≤ b
          · have h1' : b ≥ (nb : Int) := h1
            go_wp2
            go_ret2
            exact ⟨hw, rfl⟩
          · obtain ⟨i, hib⟩ := Int.eq_ofNat_of_zero_le (show 0 ≤ b by omega)
            subst hib
            have hil : i < mk.length := by rw [HML.out]; omega
            obtain ⟨bv, hbv⟩ : ∃ bv, mk[i]? = some bv := ⟨_, List.getElem?_eq_getElem hil⟩
            have hbt : bv = true := by
              cases bv with
              | true => rfl
              | false => rw [(markOk_iff HML.out).2 ⟨i, rfl, by omega, hbv⟩] at hok; cases hok
            subst hbt
            obtain ⟨_, _, _, c3⟩ := bcOf_at hbv
            have hcc := hB.cell' c3
            have hiI : (i : Int) < (nb : Int) := by omega
            clear HNo HYes hok c3 hil hbv h0 h1
            go_wp2
            go_ret2
            exact ⟨hw, rfl⟩
      | true =>
        obtain ⟨i, rfl, hin, hmi⟩ := (markOk_iff HML.out).1 hok
        have hil : i < mk.length := by rw [HML.out]; exact hin
        obtain ⟨_, _, _, c3⟩ := bcOf_at hmi
        have hcc := hB.cell' c3
        have hff := hB.frozen (i * 4 + 3)
        have hB' := hB.set (i * 4 + 3) (.bool true)
        rw [bcOf_set hil] at hB'
        have tX := Turned.setCell wr ⟨g1, i * 4 + 3, none⟩ (.bool true)
        have hiI : (i : Int) < (nb : Int) := by omega
        have HM' : Hid (markL nb bs (List.replicate nb false) = markL nb (bs.drop (k + 1)) (mk.set i true)) := HMK.out.trans (HYes.out hok)
        have HL' : Hid ((mk.set i true).length = nb) := by show _ = _; rw [List.length_set]; exact HML.out
        have HKM : Hid (k < m) := hlt
        have hG' := hG.turned tX (show w.heap.size ≠ g1 by omega)
        have hw' := tX.below hw (show w.heap.size ≤ g1 by omega)
        clear HNo HYes hok hmi c3 hil hin
        go_wp2
        go_roundw
        case rel => exact ⟨k + 1, _, HKM.out, by go_num, HL', HM', hB', hG', hw'⟩
        case measure => simp [intOf]; have := HKM.out; omega
    · obtain rfl : k = m := by omega
      have hkn : ¬ (k : Int) < (k : Int) := by omega
      have hbd := HMK.out
      rw [hbad, List.drop_eq_nil_of_le (by rw [HBL.out]; exact Nat.le_refl _)] at hbd
      cases hbd
theorem keep_no {e : Ending} {n : Nat} {es : List Ev} {S : Nat → Prop} {w' : World} (h : (okEvs 0 es = false ∧ e = .returned (.tuple #[.slice none 0 0, .int .i64 21])) ∨
      (okEvs 0 es = true ∧ ∃ p' c', e = .returned (.tuple #[.slice p' n c', .int .i64 0]) ∧ EvsIn S w' p' n c' es)) (hok : okEvs 0 es = false) : e = .returned (.tuple #[.slice none 0 0, .int .i64 21]) := by
  rcases h with ⟨_, h⟩ | ⟨h, _⟩
  · exact h
  · rw [hok] at h; cases h
open Classical in
set_option linter.unusedSimpArgs false in
set_option linter.unusedVariables false in
set_option maxRecDepth 100000 in
set_option maxHeartbeats 8000000 in
theorem nnew_ev (nb np : Nat) (q : Option Addr) (m d : Nat) (bs : List Int) (p : Option Addr) (n c : Nat) (es : List Ev) (f : Nat → Option Addr × Nat × Nat) (w : World) (hi : InI w q m d bs) (hx : EvSrc w p n c es f) (hg : GeoOk nb np) (mk0 : List Bool) (hgood : markL nb bs (List.replicate nb false) = some mk0) (hok0 : okEvs 0 es = false) :
    Calls Try.prog 9 #[.agg #[.int .i64 (nb : Int), .int .i64 (np : Int)], .slice q m d, .slice p n c] w fun e w' => Below w.heap.size w w' ∧ e = .returned (.tuple #[.pointer none, .int .i64 21]) := by
  obtain ⟨i0, hif, hz0, hz1, hz2⟩ := info_parts infoBlk
  have hb0 := below_alloc w (.cells #[.int .i64 (nb : Int), .int .i64 (np : Int)] 23)
  have hm := mayBe_any nb np (w.alloc (.cells #[.int .i64 (nb : Int), .int .i64 (np : Int)] 23))
  rw [decide_eq_true hg] at hm
  have hnb : nb ≤ 256 := by unfold GeoOk at hg; omega
  have HG : Hid (GeoOk nb np) := hg
  clear hg
  have HBL : Hid (bs.length = m) := hi.len
  have hroom := hi.room
  have hG := Blk.new' w 23 #[.int .i64 (nb : Int), .int .i64 (np : Int)]
  go_enter Try.func9, Try.ntmps9
  go_wp2_with (first
    | (go_at_call 28; refine hm.mono ?_; rintro e w1 ⟨rfl, hb1⟩; have hG1 := hG.kept hb1; have hg0 := hG1.cell' (i := 0) rfl; have hg1 := hG1.cell' (i := 1) rfl)
    | (at_make; refine wpList_make_full _ rfl _ _ 76 rfl 0 78 i0 _ 4 Try.underlying76 hif hz0 hz1 .i64 .i64 _ _ nb rfl rfl rfl rfl (by rw [hz2]; omega) (by unfold maxLen; omega) (Nat.zero_le _) ?_; intro w2 hown2 hgrow2))
  have hB2 : Blk w2 w1.heap.size 78 (bcOf (List.replicate nb false)) := by
    rw [← bcOf_new]
    rcases hown2.2 with ⟨h', _⟩ | ⟨g, cap, cur, h', _, hh, _, _, hs, ht⟩
    · simp at h'
    · simp only [Value.slice.injEq, Option.some.injEq, Addr.mk.injEq, and_true, true_and] at h'
      obtain ⟨rfl, rfl⟩ := h'
      rw [List.take_of_length_le (by simp [hs])] at ht
      rw [Blk, hh, ← ht]
  have hb2 := below_grown0 hgrow2
  have hw2 : Below w.heap.size w w2 := bt (bt hb0 hb1) hb2
  have hx0 := hx
  have hi0 := hi
  have hG2 := hG1.kept hb2
  have hlt1 := hB2.lt
  have hlw : w.heap.size < w1.heap.size := hG1.lt
  clear hm hown2 hgrow2 hg0 hg1 hz0 hz1 hz2 hif hx hi
  obtain ⟨g1, hg1⟩ : ∃ g1, w1.heap.size = g1 := ⟨_, rfl⟩
  rw [hg1] at hB2 hlw ⊢
  clear hb0 hb1 hb2 hG hG1 hg1
  go_loopw [21] (fun i wr => ∃ (k : Nat) (mk : List Bool), k ≤ m ∧ i = .int .i64 (k : Int) ∧ Hid (mk.length = nb) ∧ Hid (markL nb bs (List.replicate nb false) = markL nb (bs.drop k) mk) ∧ Blk wr g1 78 (bcOf mk) ∧ Blk wr w.heap.size 23 [.int .i64 (nb : Int), .int .i64 (np : Int)] ∧ Below w.heap.size w wr) (fun i _ => m - (intOf i).toNat)
  case atStart => exact ⟨0, _, Nat.zero_le _, rfl, List.length_replicate, rfl, hB2, hG2, hw2⟩
  case round =>
    obtain ⟨k, mk, hk, rfl, HML, HMK, hB, hG, hw⟩ := hrel
    have hx := hx0.below hw
    have hi := hi0.below hw
    by_cases hlt : k < m
    · have hki : (k : Int) < (m : Int) := by omega
      obtain ⟨bb, oo, hpe, hbl, hc⟩ := hi.at' (by omega)
      subst hpe
      have e0 := hc k hlt
      have hks : bs[k]? = some (eI bs k) := eI_some (by rw [HBL.out]; exact hlt)
      have HNo : Hid (markOk nb mk (eI bs k) = false → markL nb (bs.drop k) mk = none) := fun h => markL_no hks h
      have HYes : Hid (markOk nb mk (eI bs k) = true → markL nb (bs.drop k) mk = markL nb (bs.drop (k + 1)) (mk.set (eI bs k).toNat true)) := fun h => markL_yes hks h
      clear hc hks
      generalize eI bs k = b at *
      cases hok : markOk nb mk b with
      | false =>
        have HN : Hid (markL nb bs (List.replicate nb false) = none) := HMK.out.trans (HNo.out hok)
        exfalso
        have := HN.out
        rw [hgood] at this
        cases this
      | true =>
        obtain ⟨i, rfl, hin, hmi⟩ := (markOk_iff HML.out).1 hok
        have hil : i < mk.length := by rw [HML.out]; exact hin
        obtain ⟨_, _, _, c3⟩ := bcOf_at hmi
        have hcc := hB.cell' c3
        have hff := hB.frozen (i * 4 + 3)
        have hB' := hB.set (i * 4 + 3) (.bool true)
        rw [bcOf_set hil] at hB'
        have tX := Turned.setCell wr ⟨g1, i * 4 + 3, none⟩ (.bool true)
        have hiI : (i : Int) < (nb : Int) := by omega
        have HM' : Hid (markL nb bs (List.replicate nb false) = markL nb (bs.drop (k + 1)) (mk.set i true)) := HMK.out.trans (HYes.out hok)
        have HL' : Hid ((mk.set i true).length = nb) := by show _ = _; rw [List.length_set]; exact HML.out
        have HKM : Hid (k < m) := hlt
        have hG' := hG.turned tX (show w.heap.size ≠ g1 by omega)
        have hw' := tX.below hw (show w.heap.size ≤ g1 by omega)
        clear HNo HYes hok hmi c3 hil hin
        go_wp2
        go_roundw
        case rel => exact ⟨k + 1, _, HKM.out, by go_num, HL', HM', hB', hG', hw'⟩
        case measure => simp [intOf]; have := HKM.out; omega
    · obtain rfl : k = m := by omega
      have hkn : ¬ (k : Int) < (k : Int) := by omega
      have hmk : mk = mk0 := by
        have hbd := HMK.out
        rw [hgood, List.drop_eq_nil_of_le (by rw [HBL.out]; exact Nat.le_refl _)] at hbd
        exact (Option.some.inj hbd).symm
      subst hmk
      have HOE : Hid (okEvs 0 es = false) := hok0
      clear HMK hok0
      have hs0 := hw.size
      go_wp2_with (go_at_call 29; refine (keep_any p n c es f _ hx).mono ?_; rintro e w3 ⟨hb3, hk3⟩; obtain rfl := keep_no hk3 HOE.out)
      go_ret2
      exact ⟨bt hw hb3, rfl⟩
open Classical in
set_option linter.unusedSimpArgs false in
set_option linter.unusedVariables false in
set_option maxRecDepth 100000 in
set_option maxHeartbeats 8000000 in
theorem nnew_ok (nb np : Nat) (q : Option Addr) (m d : Nat) (bs : List Int) (p : Option Addr) (n c : Nat) (es : List Ev) (f : Nat → Option Addr × Nat × Nat) (w : World) (hi : InI w q m d bs) (hx : EvSrc w p n c es f) (hg : GeoOk nb np) (mk0 : List Bool) (hgood : markL nb bs (List.replicate nb false) = some mk0) (hok0 : okEvs 0 es = true) :
    Calls Try.prog 9 #[.agg #[.int .i64 (nb : Int), .int .i64 (np : Int)], .slice q m d, .slice p n c] w fun e w' => Below w.heap.size w w' ∧ ∃ ch bb, e = .returned (.tuple #[.pointer (some ⟨ch, 0, none⟩), .int .i64 0]) ∧ w.heap.size ≤ ch ∧ w.heap.size ≤ bb ∧ ChipIn w' ch { newStB nb np es mk0 with z := fun k => k < w.heap.size } bb (fun _ => .slice none 0 0) := by
  obtain ⟨i0, hif, hz0, hz1, hz2⟩ := info_parts infoBlk
  have hb0 := below_alloc w (.cells #[.int .i64 (nb : Int), .int .i64 (np : Int)] 23)
  have hm := mayBe_any nb np (w.alloc (.cells #[.int .i64 (nb : Int), .int .i64 (np : Int)] 23))
  rw [decide_eq_true hg] at hm
  have hnb : nb ≤ 256 := by unfold GeoOk at hg; omega
  have HG : Hid (GeoOk nb np) := hg
  clear hg
  have HBL : Hid (bs.length = m) := hi.len
  have hroom := hi.room
  have hG := Blk.new' w 23 #[.int .i64 (nb : Int), .int .i64 (np : Int)]
  go_enter Try.func9, Try.ntmps9
  go_wp2_with (first
    | (go_at_call 28; refine hm.mono ?_; rintro e w1 ⟨rfl, hb1⟩; have hG1 := hG.kept hb1; have hg0 := hG1.cell' (i := 0) rfl; have hg1 := hG1.cell' (i := 1) rfl)
    | (at_make; refine wpList_make_full _ rfl _ _ 76 rfl 0 78 i0 _ 4 Try.underlying76 hif hz0 hz1 .i64 .i64 _ _ nb rfl rfl rfl rfl (by rw [hz2]; omega) (by unfold maxLen; omega) (Nat.zero_le _) ?_; intro w2 hown2 hgrow2))
  have hB2 : Blk w2 w1.heap.size 78 (bcOf (List.replicate nb false)) := by
    rw [← bcOf_new]
    rcases hown2.2 with ⟨h', _⟩ | ⟨g, cap, cur, h', _, hh, _, _, hs, ht⟩
    · simp at h'
    · simp only [Value.slice.injEq, Option.some.injEq, Addr.mk.injEq, and_true, true_and] at h'
      obtain ⟨rfl, rfl⟩ := h'
      rw [List.take_of_length_le (by simp [hs])] at ht
      rw [Blk, hh, ← ht]
  have hb2 := below_grown0 hgrow2
  have hw2 : Below w.heap.size w w2 := bt (bt hb0 hb1) hb2
  have hx0 := hx
  have hi0 := hi
  have hG2 := hG1.kept hb2
  have hlt1 := hB2.lt
  have hlw : w.heap.size < w1.heap.size := hG1.lt
  clear hm hown2 hgrow2 hg0 hg1 hz0 hz1 hz2 hif hx hi
  obtain ⟨g1, hg1⟩ : ∃ g1, w1.heap.size = g1 := ⟨_, rfl⟩
  rw [hg1] at hB2 hlw ⊢
  clear hb0 hb1 hb2 hG hG1 hg1
  go_loopw [21] (fun i wr => ∃ (k : Nat) (mk : List Bool), k ≤ m ∧ i = .int .i64 (k : Int) ∧ Hid (mk.length = nb) ∧ Hid (markL nb bs (List.replicate nb false) = markL nb (bs.drop k) mk) ∧ Blk wr g1 78 (bcOf mk) ∧ Blk wr w.heap.size 23 [.int .i64 (nb : Int), .int .i64 (np : Int)] ∧ Below w.heap.size w wr) (fun i _ => m - (intOf i).toNat)
  case atStart => exact ⟨0, _, Nat.zero_le _, rfl, List.length_replicate, rfl, hB2, hG2, hw2⟩
  case round =>
    obtain ⟨k, mk, hk, rfl, HML, HMK, hB, hG, hw⟩ := hrel
    have hx := hx0.below hw
    have hi := hi0.below hw
    by_cases hlt : k < m
    · have hki : (k : Int) < (m : Int) := by omega
      obtain ⟨bb, oo, hpe, hbl, hc⟩ := hi.at' (by omega)
      subst hpe
      have e0 := hc k hlt
      have hks : bs[k]? = some (eI bs k) := eI_some (by rw [HBL.out]; exact hlt)
      have HNo : Hid (markOk nb mk (eI bs k) = false → markL nb (bs.drop k) mk = none) := fun h => markL_no hks h
      have HYes : Hid (markOk nb mk (eI bs k) = true → markL nb (bs.drop k) mk = markL nb (bs.drop (k + 1)) (mk.set (eI bs k).toNat true)) := fun h => markL_yes hks h
      clear hc hks
      generalize eI bs k = b at *
      cases hok : markOk nb mk b with
      | false =>
        have HN : Hid (markL nb bs (List.replicate nb false) = none) := HMK.out.trans (HNo.out hok)
        exfalso
        have := HN.out
        rw [hgood] at this
        cases this
      | true =>
        obtain ⟨i, rfl, hin, hmi⟩ := (markOk_iff HML.out).1 hok
        have hil : i < mk.length := by rw [HML.out]; exact hin
        obtain ⟨_, _, _, c3⟩ := bcOf_at hmi
        have hcc := hB.cell' c3
        have hff := hB.frozen (i * 4 + 3)
        have hB' := hB.set (i * 4 + 3) (.bool true)
        rw [bcOf_set hil] at hB'
        have tX := Turned.setCell wr ⟨g1, i * 4 + 3, none⟩ (.bool true)
        have hiI : (i : Int) < (nb : Int) := by omega
        have HM' : Hid (markL nb bs (List.replicate nb false) = markL nb (bs.drop (k + 1)) (mk.set i true)) := HMK.out.trans (HYes.out hok)
        have HL' : Hid ((mk.set i true).length = nb) := by show _ = _; rw [List.length_set]; exact HML.out
        have HKM : Hid (k < m) := hlt
        have hG' := hG.turned tX (show w.heap.size ≠ g1 by omega)
        have hw' := tX.below hw (show w.heap.size ≤ g1 by omega)
        clear HNo HYes hok hmi c3 hil hin
        go_wp2
        go_roundw
        case rel => exact ⟨k + 1, _, HKM.out, by go_num, HL', HM', hB', hG', hw'⟩
        case measure => simp [intOf]; have := HKM.out; omega
    · obtain rfl : k = m := by omega
      have hkn : ¬ (k : Int) < (k : Int) := by omega
      have hmk : mk = mk0 := by
        have hbd := HMK.out
        rw [hgood, List.drop_eq_nil_of_le (by rw [HBL.out]; exact Nat.le_refl _)] at hbd
        exact (Option.some.inj hbd).symm
      subst hmk
      have HOE : Hid (okEvs 0 es = true) := hok0
      clear HMK hok0
      have hs0 := hw.size
      go_wp2_with (go_at_call 29; refine (keep_any p n c es f _ hx).mono ?_; rintro e w3 ⟨hb3, hk3⟩; obtain ⟨p3, c3, rfl, hE3⟩ := keep_ok hk3 HOE.out; have hG3 := hG.kept hb3; have hg0 := hG3.cell' (i := 0) rfl; have hg1 := hG3.cell' (i := 1) rfl)
      go_ret2
      have hs3 := hb3.size
      have hgl := hB.lt
      have hb4 := below_alloc w3 (.cells #[.int .i64 (nb : Int), .int .i64 (np : Int), .slice (some ⟨g1, 0, none⟩) nb nb, .slice p3 n c3, .int .i64 0, .bool true] 82)
      have hB4 := (hB.kept hb3).kept hb4
      have hE4 := (hE3.mono (T := fun k => k = w3.heap.size ∨ k = g1 ∨ k < w.heap.size) (fun k hk e => by rcases e with e | e | e <;> omega)).keep (T := fun _ => False) (Keep.of_below hb4) (fun _ _ e => e.elim)
      exact ⟨bt (bt hw hb3) hb4, w3.heap.size, g1, rfl, by omega, by omega, newChipB HG.out HML.out (Blk.new' w3 82 _) hB4 hE4 (by omega)⟩
end Go.Proofs.Ythafcnilhloldaa

/-
  Pages; which records and pages may be.
-/
import Derived.Test.YtpikaagdiafieaaMjRec
namespace Go.Proofs.Ytpikaagdiafieaa
open Go.RowKit
/-- A page of the map, as plain data. -/
structure MP where
  kind : Int
  gen : Int
  part : Int
  seq : Int
  bad : List Bool
  wear : List Int
  recs : List MR
/-- Where a page's rows lie. -/
structure PV where
  pb : Option Addr
  nb : Nat
  cb : Nat
  pw : Option Addr
  nw : Nat
  cw : Nat
  pr : Option Addr
  nr : Nat
  cr : Nat
def PV.cells (V : PV) (P : MP) : List Value := [.int .i64 P.kind, .int .i64 P.gen, .int .i64 P.part, .int .i64 P.seq, .slice V.pb V.nb V.cb, .slice V.pw V.nw V.cw, .slice V.pr V.nr V.cr]
abbrev PV.val (V : PV) (P : MP) : Value := .agg #[.int .i64 P.kind, .int .i64 P.gen, .int .i64 P.part, .int .i64 P.seq, .slice V.pb V.nb V.cb, .slice V.pw V.nw V.cw, .slice V.pr V.nr V.cr]
structure InP (w : World) (V : PV) (P : MP) : Prop where
  b : InB w V.pb V.nb V.cb P.bad
  v : InI w V.pw V.nw V.cw P.wear
  r : InR w V.pr V.nr V.cr P.recs
theorem InP.below {w w' : World} {V : PV} {P : MP} (h : InP w V P) (hb : Below w.heap.size w w') : InP w' V P := ⟨h.b.below hb, h.v.below hb, h.r.below hb⟩
theorem Blk.cells7 {w : World} {g : Nat} {t : TypeId} {V : PV} {P : MP} (h : Blk w g t (V.cells P)) : w.cell? ⟨g, 0, none⟩ = some (.int .i64 P.kind) ∧ w.cell? ⟨g, 1, none⟩ = some (.int .i64 P.gen) ∧ w.cell? ⟨g, 2, none⟩ = some (.int .i64 P.part) ∧ w.cell? ⟨g, 3, none⟩ = some (.int .i64 P.seq) ∧ w.cell? ⟨g, 4, none⟩ = some (.slice V.pb V.nb V.cb) ∧ w.cell? ⟨g, 5, none⟩ = some (.slice V.pw V.nw V.cw) ∧ w.cell? ⟨g, 6, none⟩ = some (.slice V.pr V.nr V.cr) :=
  ⟨h.cell' rfl, h.cell' rfl, h.cell' rfl, h.cell' rfl, h.cell' rfl, h.cell' rfl, h.cell' rfl⟩
abbrev okGen (x : Int) : Prop := 0 ≤ x ∧ x ≤ 1152921504606846976
abbrev okPart (P : MP) : Prop := (0 ≤ P.part ∧ P.part ≤ 3) ∧ okGen P.seq ∧ (1 ≤ P.bad.length ∧ P.bad.length ≤ 64) ∧ P.wear.length = P.bad.length ∧ P.wear.all okWear = true ∧ P.recs.length = 0
abbrev okRecs (P : MP) : Prop := P.part = 0 ∧ P.seq = 0 ∧ P.bad.length = 0 ∧ P.wear.length = 0 ∧ P.recs.length ≤ 24 ∧ P.recs.all okMR = true
/-- Pages that may be. -/
def okMP (P : MP) : Bool := decide (okGen P.gen ∧ ((P.kind = 1 ∧ okPart P) ∨ (P.kind = 2 ∧ okRecs P)))
theorem okMP_iff {P : MP} : okMP P = true ↔ okGen P.gen ∧ ((P.kind = 1 ∧ okPart P) ∨ (P.kind = 2 ∧ okRecs P)) := by unfold okMP; exact decide_eq_true_iff
theorem okMP_no {P : MP} (h : ¬ (okGen P.gen ∧ ((P.kind = 1 ∧ okPart P) ∨ (P.kind = 2 ∧ okRecs P)))) : okMP P = false := by unfold okMP; exact decide_eq_false h
theorem rec1_any (r : MR) (w : World) : Calls Try.prog 78 #[r.val] w fun e w' => e = .returned (.bool (!okMR r)) ∧ Below w.heap.size w w' := by
  have hbl := below_alloc w (.cells #[.int .i64 r.kind, .int .i64 r.block, .int .i64 r.value] 65)
  go_enter Try.func78, Try.ntmps78
  go_wp2_with (go_at_call 56; refine (recordMayBe_any r _).mono ?_; rintro e w1 ⟨rfl, hb1⟩)
  go_ret
  exact ⟨rfl, bt hbl hb1⟩
theorem indexR_any (q : Option Addr) (m d : Nat) (l : List MR) (w : World) (hl : InR w q m d l) :
    Calls Try.prog 90 #[.slice q m d, .func (.func 78) #[] #[]] w fun e w' => (∃ k : Int, e = .returned (.int .i64 k) ∧ decide (0 ≤ k) = !l.all okMR) ∧ Below w.heap.size w w' := by
  have hroom := hl.room
  have HX : Hid (l.length = m) := hl.len
  go_enter Try.func90, Try.ntmps90
  go_wp2
  go_loopw [8] (fun i wr => ∃ k : Nat, k ≤ m ∧ i = .int .i64 k ∧ Below w.heap.size w wr ∧ ∀ j, j < k → okMR (eR l j) = true) (fun i _ => m - (intOf i).toNat)
  case atStart => exact ⟨0, Nat.zero_le _, rfl, Below.refl _ _, fun j h => by omega⟩
  case round =>
    obtain ⟨k, hk, rfl, hbel, hall⟩ := hrel
    have HA : Hid (∀ j, j < k → okMR (eR l j) = true) := hall
    clear hall
    by_cases hlt : k < m
    · obtain ⟨b, o, rfl, hb', hc⟩ := (hl.below hbel).at' (by omega)
      obtain ⟨c0, c1, c2⟩ := hc k hlt
      clear hc
      cases hok : okMR (eR l k) with
      | true =>
        have HO : Hid (okMR (eR l k) = true) := hok
        go_wp2_with (go_at_call 78; refine (rec1_any (eR l k) _).mono ?_; rintro e w1 ⟨rfl, hb1⟩; rw [hok])
        go_roundw
        case rel =>
          refine ⟨k + 1, by omega, by go_num, bt hbel hb1, fun j hj => ?_⟩
          rcases Nat.lt_succ_iff_lt_or_eq.1 hj with h | h
          · exact HA.out j h
          · rw [h]; exact HO.out
        case measure => simp [intOf]; omega
      | false =>
        have E1 : Hid (l.all okMR = false) := allR_not (by rw [HX.out]; exact hlt) hok
        go_wp2_with (go_at_call 78; refine (rec1_any (eR l k) _).mono ?_; rintro e w1 ⟨rfl, hb1⟩; rw [hok])
        go_ret
        exact ⟨⟨k, rfl, by rw [E1.out]; simp⟩, bt hbel hb1⟩
    · have E1 : Hid (l.all okMR = true) := eR_all.2 fun j hj => HA.out j (by have := HX.out; omega)
      go_wp2
      go_ret
      exact ⟨⟨-1, rfl, by rw [E1.out]; rfl⟩, hbel⟩
theorem containsR_any (q : Option Addr) (m d : Nat) (l : List MR) (w : World) (hl : InR w q m d l) :
    Calls Try.prog 77 #[.slice q m d, .func (.func 78) #[] #[]] w fun e w' => e = .returned (.bool (!l.all okMR)) ∧ Below w.heap.size w w' := by
  go_enter Try.func77, Try.ntmps77
  go_wp2_with (go_at_call 90; refine (indexR_any q m d l _ hl).mono ?_; rintro e w1 ⟨⟨k, rfl, hk⟩, hb1⟩)
  go_ret
  exact ⟨ret_bool rfl, hb1⟩
theorem recsMayBe_any (q : Option Addr) (m d : Nat) (l : List MR) (w : World) (hl : InR w q m d l) :
    Calls Try.prog 63 #[.slice q m d] w fun e w' => e = .returned (.bool (l.all okMR)) ∧ Below w.heap.size w w' := by
  go_enter Try.func63, Try.ntmps63
  go_wp2_with (go_at_call 77; refine (containsR_any q m d l _ hl).mono ?_; rintro e w1 ⟨rfl, hb1⟩)
  go_ret
  exact ⟨ret_bool (by simp), hb1⟩
set_option maxHeartbeats 2000000 in
theorem pageMayBe_any (V : PV) (P : MP) (w : World) (h : InP w V P) : Calls Try.prog 65 #[V.val P] w fun e w' => e = .returned (.bool (okMP P)) ∧ Below w.heap.size w w' := by
  have hbl := below_alloc w (.cells #[.int .i64 P.kind, .int .i64 P.gen, .int .i64 P.part, .int .i64 P.seq, .slice V.pb V.nb V.cb, .slice V.pw V.nw V.cw, .slice V.pr V.nr V.cr] 42)
  have HB : Hid (P.bad.length = V.nb) := h.b.len
  have HW : Hid (P.wear.length = V.nw) := h.v.len
  have HR : Hid (P.recs.length = V.nr) := h.r.len
  have hWb := h.v.below hbl
  have hRb := h.r.below hbl
  clear h
  by_cases hg : 0 ≤ P.gen ∧ P.gen ≤ 1152921504606846976
  · by_cases hk1 : P.kind = 1
    · have bk1 : (P.kind == 1) = true := by simpa using hk1
      by_cases hp : 0 ≤ P.part ∧ P.part ≤ 3
      · by_cases hs : 0 ≤ P.seq ∧ P.seq ≤ 1152921504606846976
        · by_cases hn : 1 ≤ (V.nb : Int) ∧ (V.nb : Int) ≤ 64
          · by_cases hm : V.nw = V.nb
            · have bm : ((V.nw : Int) == (V.nb : Int)) = true := by rw [hm]; simp
              cases hww : P.wear.all okWear with
              | true =>
                have E : Hid (okMP P = ((V.nr : Int) == 0)) := by show _ = _; (have e1 : P.recs.length = V.nr := HR.out); (have e2 : P.bad.length = V.nb := HB.out); (have e3 : P.wear.length = V.nw := HW.out); (by_cases hz : V.nr = 0); (rw [okMP_iff.2 ⟨hg, .inl ⟨hk1, hp, hs, by omega, by omega, hww, by omega⟩⟩, hz]; rfl); (rw [okMP_no (fun h => by rcases h.2 with h | h; (have := h.2.2.2.2.2.2; omega); (have := h.1; omega))]; (have : ((V.nr : Int) == 0) = false := by rw [beq_eq_false_iff_ne]; omega); rw [this])
                clear hm hk1
                go_enter Try.func65, Try.ntmps65
                go_wp2_with (first | (go_at_call 53; refine (withinL_yes _ hg.1 hg.2).mono ?_; rintro e w' ⟨rfl, hw'⟩; have hw2 := hw'.symm; subst hw2; clear hw'; clear hg) | (go_at_call 44; refine (within_yes _ hp.1 hp.2).mono ?_; rintro e w' ⟨rfl, hw'⟩; have hw2 := hw'.symm; subst hw2; clear hw'; clear hp) | (go_at_call 53; refine (withinL_yes _ hs.1 hs.2).mono ?_; rintro e w' ⟨rfl, hw'⟩; have hw2 := hw'.symm; subst hw2; clear hw'; clear hs) | (go_at_call 44; refine (within_yes _ hn.1 hn.2).mono ?_; rintro e w' ⟨rfl, hw'⟩; have hw2 := hw'.symm; subst hw2; clear hw'; clear hn) | (go_at_call 52; refine (wearsMayBe_any _ _ _ P.wear _ hWb).mono ?_; rintro e w' ⟨rfl, hw'⟩; have hw2 := hw'.symm; subst hw2; clear hw'; rw [hww]))
                go_ret
                exact ⟨ret_bool E.out.symm, hbl⟩
              | false =>
                have E : Hid (okMP P = false) := by show _ = _; exact okMP_no (fun h => by rcases h.2 with h | h; (rw [h.2.2.2.2.2.1] at hww; cases hww); (have := h.1; omega))
                clear hm hk1
                go_enter Try.func65, Try.ntmps65
                go_wp2_with (first | (go_at_call 53; refine (withinL_yes _ hg.1 hg.2).mono ?_; rintro e w' ⟨rfl, hw'⟩; have hw2 := hw'.symm; subst hw2; clear hw'; clear hg) | (go_at_call 44; refine (within_yes _ hp.1 hp.2).mono ?_; rintro e w' ⟨rfl, hw'⟩; have hw2 := hw'.symm; subst hw2; clear hw'; clear hp) | (go_at_call 53; refine (withinL_yes _ hs.1 hs.2).mono ?_; rintro e w' ⟨rfl, hw'⟩; have hw2 := hw'.symm; subst hw2; clear hw'; clear hs) | (go_at_call 44; refine (within_yes _ hn.1 hn.2).mono ?_; rintro e w' ⟨rfl, hw'⟩; have hw2 := hw'.symm; subst hw2; clear hw'; clear hn) | (go_at_call 52; refine (wearsMayBe_any _ _ _ P.wear _ hWb).mono ?_; rintro e w' ⟨rfl, hw'⟩; have hw2 := hw'.symm; subst hw2; clear hw'; rw [hww]))
                go_ret
                exact ⟨ret_bool E.out.symm, hbl⟩
            · have bm : ((V.nw : Int) == (V.nb : Int)) = false := by rw [beq_eq_false_iff_ne]; omega
              have E : Hid (okMP P = false) := by show _ = _; exact okMP_no (fun h => by rcases h.2 with h | h; (have := h.2.2.2.2.1; rw [HB.out, HW.out] at this; omega); (have := h.1; omega))
              clear hm hk1
              go_enter Try.func65, Try.ntmps65
              go_wp2_with (first | (go_at_call 53; refine (withinL_yes _ hg.1 hg.2).mono ?_; rintro e w' ⟨rfl, hw'⟩; have hw2 := hw'.symm; subst hw2; clear hw'; clear hg) | (go_at_call 44; refine (within_yes _ hp.1 hp.2).mono ?_; rintro e w' ⟨rfl, hw'⟩; have hw2 := hw'.symm; subst hw2; clear hw'; clear hp) | (go_at_call 53; refine (withinL_yes _ hs.1 hs.2).mono ?_; rintro e w' ⟨rfl, hw'⟩; have hw2 := hw'.symm; subst hw2; clear hw'; clear hs) | (go_at_call 44; refine (within_yes _ hn.1 hn.2).mono ?_; rintro e w' ⟨rfl, hw'⟩; have hw2 := hw'.symm; subst hw2; clear hw'; clear hn))
              go_ret
              exact ⟨ret_bool E.out.symm, hbl⟩
          · skip
            have E : Hid (okMP P = false) := by show _ = _; exact okMP_no (fun h => by rcases h.2 with h | h; (have := h.2.2.2.1; rw [HB.out] at this; omega); (have := h.1; omega))
            clear hk1
            go_enter Try.func65, Try.ntmps65
            go_wp2_with (first | (go_at_call 53; refine (withinL_yes _ hg.1 hg.2).mono ?_; rintro e w' ⟨rfl, hw'⟩; have hw2 := hw'.symm; subst hw2; clear hw'; clear hg) | (go_at_call 44; refine (within_yes _ hp.1 hp.2).mono ?_; rintro e w' ⟨rfl, hw'⟩; have hw2 := hw'.symm; subst hw2; clear hw'; clear hp) | (go_at_call 53; refine (withinL_yes _ hs.1 hs.2).mono ?_; rintro e w' ⟨rfl, hw'⟩; have hw2 := hw'.symm; subst hw2; clear hw'; clear hs) | (go_at_call 44; refine (within_no _ hn).mono ?_; rintro e w' ⟨rfl, hw'⟩; have hw2 := hw'.symm; subst hw2; clear hw'))
            go_ret
            exact ⟨ret_bool E.out.symm, hbl⟩
        · skip
          have E : Hid (okMP P = false) := by show _ = _; exact okMP_no (fun h => by rcases h.2 with h | h; (exact hs h.2.2.1); (have := h.1; omega))
          clear hk1
          go_enter Try.func65, Try.ntmps65
          go_wp2_with (first | (go_at_call 53; refine (withinL_yes _ hg.1 hg.2).mono ?_; rintro e w' ⟨rfl, hw'⟩; have hw2 := hw'.symm; subst hw2; clear hw'; clear hg) | (go_at_call 44; refine (within_yes _ hp.1 hp.2).mono ?_; rintro e w' ⟨rfl, hw'⟩; have hw2 := hw'.symm; subst hw2; clear hw'; clear hp) | (go_at_call 53; refine (withinL_no _ hs).mono ?_; rintro e w' ⟨rfl, hw'⟩; have hw2 := hw'.symm; subst hw2; clear hw'))
          go_ret
          exact ⟨ret_bool E.out.symm, hbl⟩
      · skip
        have E : Hid (okMP P = false) := by show _ = _; exact okMP_no (fun h => by rcases h.2 with h | h; (exact hp h.2.1); (have := h.1; omega))
        clear hk1
        go_enter Try.func65, Try.ntmps65
        go_wp2_with (first | (go_at_call 53; refine (withinL_yes _ hg.1 hg.2).mono ?_; rintro e w' ⟨rfl, hw'⟩; have hw2 := hw'.symm; subst hw2; clear hw'; clear hg) | (go_at_call 44; refine (within_no _ hp).mono ?_; rintro e w' ⟨rfl, hw'⟩; have hw2 := hw'.symm; subst hw2; clear hw'))
        go_ret
        exact ⟨ret_bool E.out.symm, hbl⟩
    · have bk1 : (P.kind == 1) = false := by simpa using hk1
      by_cases hk2 : P.kind = 2
      · have bk2 : (P.kind == 2) = true := by simpa using hk2
        by_cases hp : P.part = 0
        · have bp : (P.part == 0) = true := by simpa using hp
          by_cases hs : P.seq = 0
          · have bs : (P.seq == 0) = true := by simpa using hs
            by_cases hn : V.nb = 0
            · have bn : ((V.nb : Int) == 0) = true := by rw [hn]; rfl
              by_cases hm : V.nw = 0
              · have bm : ((V.nw : Int) == 0) = true := by rw [hm]; rfl
                by_cases hr : (V.nr : Int) ≤ 24
                · skip
                  have E : Hid (okMP P = P.recs.all okMR) := by show _ = _; (have e1 : P.recs.length = V.nr := HR.out); (have e2 : P.bad.length = V.nb := HB.out); (have e3 : P.wear.length = V.nw := HW.out); (cases hq : P.recs.all okMR); (exact okMP_no (fun h => by rcases h.2 with h | h; (have := h.1; omega); (rw [h.2.2.2.2.2.2] at hq; cases hq))); (exact okMP_iff.2 ⟨hg, .inr ⟨hk2, hp, hs, by omega, by omega, by omega, hq⟩⟩)
                  clear hk1 hk2 hp hs hn hm
                  go_enter Try.func65, Try.ntmps65
                  go_wp2_with (first | (go_at_call 53; refine (withinL_yes _ hg.1 hg.2).mono ?_; rintro e w' ⟨rfl, hw'⟩; have hw2 := hw'.symm; subst hw2; clear hw'; clear hg) | (go_at_call 63; refine (recsMayBe_any _ _ _ P.recs _ hRb).mono ?_; rintro e w1 ⟨rfl, hb1⟩))
                  go_ret
                  exact ⟨ret_bool E.out.symm, (bt hbl hb1)⟩
                · skip
                  have E : Hid (okMP P = false) := by show _ = _; exact okMP_no (fun h => by rcases h.2 with h | h; (have := h.1; omega); (have := h.2.2.2.2.2.1; rw [HR.out] at this; omega))
                  clear hk1 hk2 hp hs hn hm
                  go_enter Try.func65, Try.ntmps65
                  go_wp2_with (go_at_call 53; refine (withinL_yes _ hg.1 hg.2).mono ?_; rintro e w' ⟨rfl, hw'⟩; have hw2 := hw'.symm; subst hw2; clear hw'; clear hg)
                  go_ret
                  exact ⟨ret_bool E.out.symm, hbl⟩
              · have bm : ((V.nw : Int) == 0) = false := by rw [beq_eq_false_iff_ne]; omega
                have E : Hid (okMP P = false) := by show _ = _; exact okMP_no (fun h => by rcases h.2 with h | h; (have := h.1; omega); (have := h.2.2.2.2.1; rw [HW.out] at this; omega))
                clear hk1 hk2 hp hs hn hm
                go_enter Try.func65, Try.ntmps65
                go_wp2_with (go_at_call 53; refine (withinL_yes _ hg.1 hg.2).mono ?_; rintro e w' ⟨rfl, hw'⟩; have hw2 := hw'.symm; subst hw2; clear hw'; clear hg)
                go_ret
                exact ⟨ret_bool E.out.symm, hbl⟩
            · have bn : ((V.nb : Int) == 0) = false := by rw [beq_eq_false_iff_ne]; omega
              have E : Hid (okMP P = false) := by show _ = _; exact okMP_no (fun h => by rcases h.2 with h | h; (have := h.1; omega); (have := h.2.2.2.1; rw [HB.out] at this; omega))
              clear hk1 hk2 hp hs hn
              go_enter Try.func65, Try.ntmps65
              go_wp2_with (go_at_call 53; refine (withinL_yes _ hg.1 hg.2).mono ?_; rintro e w' ⟨rfl, hw'⟩; have hw2 := hw'.symm; subst hw2; clear hw'; clear hg)
              go_ret
              exact ⟨ret_bool E.out.symm, hbl⟩
          · have bs : (P.seq == 0) = false := by simpa using hs
            have E : Hid (okMP P = false) := by show _ = _; exact okMP_no (fun h => by rcases h.2 with h | h; (have := h.1; omega); (exact hs h.2.2.1))
            clear hk1 hk2 hp hs
            go_enter Try.func65, Try.ntmps65
            go_wp2_with (go_at_call 53; refine (withinL_yes _ hg.1 hg.2).mono ?_; rintro e w' ⟨rfl, hw'⟩; have hw2 := hw'.symm; subst hw2; clear hw'; clear hg)
            go_ret
            exact ⟨ret_bool E.out.symm, hbl⟩
        · have bp : (P.part == 0) = false := by simpa using hp
          have E : Hid (okMP P = false) := by show _ = _; exact okMP_no (fun h => by rcases h.2 with h | h; (have := h.1; omega); (exact hp h.2.1))
          clear hk1 hk2 hp
          go_enter Try.func65, Try.ntmps65
          go_wp2_with (go_at_call 53; refine (withinL_yes _ hg.1 hg.2).mono ?_; rintro e w' ⟨rfl, hw'⟩; have hw2 := hw'.symm; subst hw2; clear hw'; clear hg)
          go_ret
          exact ⟨ret_bool E.out.symm, hbl⟩
      · have bk2 : (P.kind == 2) = false := by simpa using hk2
        have E : Hid (okMP P = false) := by show _ = _; exact okMP_no (fun h => by rcases h.2 with h | h; (exact hk1 h.1); (exact hk2 h.1))
        clear hk1 hk2
        go_enter Try.func65, Try.ntmps65
        go_wp2_with (go_at_call 53; refine (withinL_yes _ hg.1 hg.2).mono ?_; rintro e w' ⟨rfl, hw'⟩; have hw2 := hw'.symm; subst hw2; clear hw'; clear hg)
        go_ret
        exact ⟨ret_bool E.out.symm, hbl⟩
  · skip
    have E : Hid (okMP P = false) := by show _ = _; exact okMP_no (fun h => hg h.1)
    go_enter Try.func65, Try.ntmps65
    go_wp2_with (go_at_call 53; refine (withinL_no _ hg).mono ?_; rintro e w' ⟨rfl, hw'⟩; have hw2 := hw'.symm; subst hw2; clear hw')
    go_ret
    exact ⟨ret_bool E.out.symm, hbl⟩
end Go.Proofs.Ytpikaagdiafieaa

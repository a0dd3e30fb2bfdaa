/-
  What the reference's know answers: what a state learns of a page that may be.
-/
import Derived.Test.YtpikaagdiafieaaMjOneK
import Derived.Test.YtpikaagdiafieaaMjLearnP
import Derived.Test.YtpikaagdiafieaaMjRecs
namespace Go.Proofs.Ytpikaagdiafieaa
open Go.RowKit
theorem upB_over {B : List Bool} {f k : Nat} {b : List Bool} (h : B.length ≤ f + k) : upB B f k b = upB B f (k + 1) b := by
  apply List.ext_getElem (by rw [upB_length, upB_length])
  intro j h1 h2
  rw [upB_length] at h2
  rw [upB_get h2, upB_get h2]
  have a1 : j < f + k := by omega
  have a2 : j < f + (k + 1) := by omega
  simp [a1, a2]
theorem upW_over {B : List Int} {f k : Nat} {b : List Int} (h : B.length ≤ f + k) : upW B f k b = upW B f (k + 1) b := by
  apply List.ext_getElem (by rw [upW_length, upW_length])
  intro j h1 h2
  rw [upW_length] at h2
  rw [upW_get h2, upW_get h2]
  by_cases hf : f ≤ j
  · rw [if_pos (by omega), if_pos (by omega)]
  · rw [if_neg (by omega), if_neg (by omega)]
theorem upB_min {B : List Bool} {f k : Nat} {b : List Bool} : upB B f k b = upB B f (min k (B.length - f)) b := by
  apply List.ext_getElem (by rw [upB_length, upB_length])
  intro j h1 h2
  rw [upB_length] at h2
  rw [upB_get h2, upB_get h2]
  by_cases hf : f ≤ j
  · by_cases hk : j < f + k
    · have : j < f + min k (B.length - f) := by omega
      simp [hk, this]
    · have : ¬ j < f + min k (B.length - f) := by omega
      simp [hk, this]
  · simp [hf]
theorem upW_min {B : List Int} {f k : Nat} {b : List Int} : upW B f k b = upW B f (min k (B.length - f)) b := by
  apply List.ext_getElem (by rw [upW_length, upW_length])
  intro j h1 h2
  rw [upW_length] at h2
  rw [upW_get h2, upW_get h2]
  by_cases hf : f ≤ j ∧ j < f + k
  · rw [if_pos hf, if_pos (by omega)]
  · rw [if_neg hf, if_neg (by omega)]
/-- What the reference makes of a page is what the document says of it. -/
theorem know_learn {s : MS} {P : MP} {n f : Nat} (hb : s.bad.length = n) (hw : s.wear.length = n) (hs : 0 ≤ s.seq) (hok : okMP P = true) (hf : P.part * 64 = (f : Int)) :
    recsN n ⟨upB s.bad f P.bad.length P.bad, upW s.wear f P.bad.length P.wear, max s.seq P.seq⟩ P.recs = learnP n s P := by
  obtain ⟨hg, hk⟩ := okMP_iff.1 hok
  unfold learnP
  rcases hk with ⟨hk1, hp⟩ | ⟨hk2, hp⟩
  · rw [if_pos hk1, hf, Int.toNat_natCast, List.eq_nil_of_length_eq_zero hp.2.2.2.2.2]
    show (⟨_, _, _⟩ : MS) = _
    rw [upB_min, upW_min, hb, hw]
  · rw [if_neg (by omega), hp.2.2.1, hp.2.1, upB_zero, upW_zero, Int.max_eq_left hs]
theorem Fr.trans2 {B g g' : Nat} {V : SV} {a b c : World} (h : Fr B g V a b) (k : Fr B g' V b c) (hg : a.heap.size ≤ g') : Fr B g V a c :=
  ⟨h.bel.trans k.bel, fun j hj h1 h2 h3 => (k.keep j (Nat.lt_of_lt_of_le hj h.bel.size) (by omega) h2 h3).trans (h.keep j hj h1 h2 h3)⟩
theorem Blk.frK {B k : Nat} {V : SV} {s : MS} {t : TypeId} {cs : List Value} {w w' : World} (h : Blk w k t cs) (hf : Fr B w.heap.size V w w') (hx : OwnS B w V s) (h4 : t ≠ 4) (h2 : t ≠ 2) : Blk w' k t cs :=
  (hf.keep k h.lt (Nat.ne_of_lt h.lt) (owns_blk_ne (fun e => h4 e.symm) hx.b h) (owns_blk_ne (fun e => h2 e.symm) hx.v h)).trans h
set_option linter.unusedSimpArgs false in
set_option maxRecDepth 100000 in
set_option maxHeartbeats 8000000 in
theorem know_raw (B : Nat) (p : Option Addr) (n c : Nat) (q : Option Addr) (d : Nat) (s : MS) (pb : Option Addr) (nb cb : Nat) (pw : Option Addr) (cw : Nat) (pr : Option Addr) (nr cr : Nat) (P : MP) (f : Nat) (w : World) (h : OwnS B w ⟨p, n, c, q, n, d⟩ s) (hB : B ≤ w.heap.size) (hf : P.part * 64 = (f : Int)) (hfb : f ≤ 1000) (hnb : nb ≤ 1000) (hn : n ≤ 1000) (hrec : ∀ r ∈ P.recs, okMR r = true)
    (hP : ∀ W, Below B w W → InP W ⟨pb, nb, cb, pw, nb, cw, pr, nr, cr⟩ P) :
    Calls Try.prog 72 #[SV.val ⟨p, n, c, q, n, d⟩ s, PV.val ⟨pb, nb, cb, pw, nb, cw, pr, nr, cr⟩ P] w fun e w' => e = .returned (SV.val ⟨p, n, c, q, n, d⟩ (recsN n ⟨upB s.bad f nb P.bad, upW s.wear f nb P.wear, max s.seq P.seq⟩ P.recs)) ∧ OwnS B w' ⟨p, n, c, q, n, d⟩ (recsN n ⟨upB s.bad f nb P.bad, upW s.wear f nb P.wear, max s.seq P.seq⟩ P.recs) ∧ Fr B w.heap.size ⟨p, n, c, q, n, d⟩ w w' := by
  have hal := bt (bt (below_alloc w (.cells #[.slice p n c, .slice q n d, .int .i64 s.seq] 25)) (below_alloc _ (.cells #[.int .i64 P.kind, .int .i64 P.gen, .int .i64 P.part, .int .i64 P.seq, .slice pb nb cb, .slice pw nb cw, .slice pr nr cr] 42))) (below_alloc _ (.cells #[.slice none 0 0, .slice none 0 0, .int .i64 0] 25))
  have bs : Blk _ _ _ (SV.cells ⟨p, n, c, q, n, d⟩ s) := ((Blk.new' w 25 #[.slice p n c, .slice q n d, .int .i64 s.seq]).alloc (.cells #[.int .i64 P.kind, .int .i64 P.gen, .int .i64 P.part, .int .i64 P.seq, .slice pb nb cb, .slice pw nb cw, .slice pr nr cr] 42)).alloc (.cells #[.slice none 0 0, .slice none 0 0, .int .i64 0] 25)
  have bp : Blk _ _ _ (PV.cells ⟨pb, nb, cb, pw, nb, cw, pr, nr, cr⟩ P) := (Blk.new' (w.alloc (.cells #[.slice p n c, .slice q n d, .int .i64 s.seq] 25)) 42 #[.int .i64 P.kind, .int .i64 P.gen, .int .i64 P.part, .int .i64 P.seq, .slice pb nb cb, .slice pw nb cw, .slice pr nr cr]).alloc (.cells #[.slice none 0 0, .slice none 0 0, .int .i64 0] 25)
  have br := Blk.new' ((w.alloc (.cells #[.slice p n c, .slice q n d, .int .i64 s.seq] 25)).alloc (.cells #[.int .i64 P.kind, .int .i64 P.gen, .int .i64 P.part, .int .i64 P.seq, .slice pb nb cb, .slice pw nb cw, .slice pr nr cr] 42)) 25 #[.slice none 0 0, .slice none 0 0, .int .i64 0]
  simp only [World.size_alloc] at bp br
  have ho := h.next hal
  have hx : BoxS B _ w.heap.size ⟨p, n, c, q, n, d⟩ s := ⟨bs, ho, hB⟩
  have HL : Hid (s.bad.length = n) := h.inS.b.len
  have HW : Hid (s.wear.length = n) := h.inS.v.len
  have HPB : Hid (P.bad.length = nb) := (hP w (Below.refl _ _)).b.len
  have HPR : Hid (P.recs.length = nr) := (hP w (Below.refl _ _)).r.len
  have hnr : nr ≤ 140737488355328 := (hP w (Below.refl _ _)).r.room
  have hbl := hal.mono hB
  have hfw : Fr B w.heap.size ⟨p, n, c, q, n, d⟩ w _ := Fr.of_below hal hB
  have hw1 : IntKind.i64.wrap (P.part * 64) = (f : Int) := by rw [hf]; exact wrapN f (by omega)
  have hw2 : wrap64 (P.part * 64) = (f : Int) := (IntWalk.i64_left _).symm.trans hw1
  have HREC : Hid (∀ r ∈ P.recs, okMR r = true) := hrec
  clear h hf hrec
  dsimp only [SV.val, PV.val] at *
  generalize hWW : (((w.alloc (.cells #[.slice p n c, .slice q n d, .int .i64 s.seq] 25)).alloc (.cells #[.int .i64 P.kind, .int .i64 P.gen, .int .i64 P.part, .int .i64 P.seq, .slice pb nb cb, .slice pw nb cw, .slice pr nr cr] 42)).alloc (.cells #[.slice none 0 0, .slice none 0 0, .int .i64 0] 25)) = W at *
  have hszW : w.heap.size + 1 + 1 < W.heap.size := br.lt
  have HP2 : Hid (∀ X, Below B W X → InP X ⟨pb, nb, cb, pw, nb, cw, pr, nr, cr⟩ P) := fun X hX => hP X (hbl.trans hX)
  clear hP
  go_enter Try.func72, Try.ntmps72
  go_upto_region 1 with (fail)
  go_wp2
  clear hWW hal
  go_loopw [5] (fun i wr => ∃ k : Nat, k ≤ nb ∧ i = .int .i64 k ∧ BoxS B wr w.heap.size ⟨p, n, c, q, n, d⟩ ⟨upB s.bad f k P.bad, upW s.wear f k P.wear, s.seq⟩ ∧ Fr B w.heap.size ⟨p, n, c, q, n, d⟩ W wr) (fun i _ => nb - (intOf i).toNat)
  case atStart => exact ⟨0, Nat.zero_le _, rfl, by rw [upB_zero, upW_zero]; exact hx, Fr.refl _ _ _ _⟩
  case round =>
    obtain ⟨k, hk, rfl, hxr, hfr⟩ := hrel
    have bpr := bp.fr hfr hx (by omega) (by decide) (by decide)
    obtain ⟨x0, x1, x2⟩ := hxr.box.cells3
    obtain ⟨y0, y1, y2, y3, y4, y5, y6⟩ := bpr.cells7
    by_cases hltk : k < nb
    · have hki : (k : Int) < (nb : Int) := by omega
      obtain ⟨fk, HF⟩ : ∃ fk : Nat, Hid (fk = f + k) := ⟨f + k, (rfl : f + k = f + k)⟩
      have hF : (f : Int) + (k : Int) = (fk : Int) := by rw [HF.out]; omega
      by_cases hin : fk < n
      · have hini : (fk : Int) < (n : Int) := by omega
        obtain ⟨gbb, obb, hpb, gbbl, cbb⟩ := (HP2.out W (Below.refl _ _)).b.at' (by dsimp only; omega)
        obtain ⟨gbw, obw, hpw, gbwl, cbw⟩ := (HP2.out W (Below.refl _ _)).v.at' (by dsimp only; omega)
        dsimp only at hpb hpw cbb cbw
        subst hpb
        subst hpw
        have HR2 : Hid (∀ X, Below B W X → ∀ j, j < nb → X.cell? ⟨gbb, obb + j, none⟩ = some (.bool (eB P.bad j)) ∧ X.cell? ⟨gbw, obw + j, none⟩ = some (.int .i64 (eI P.wear j))) := fun X hX j hj => by
          obtain ⟨b1, o1, e1, _, k1⟩ := (HP2.out X hX).b.at' (by dsimp only; omega)
          obtain ⟨b2, o2, e2, _, k2⟩ := (HP2.out X hX).v.at' (by dsimp only; omega)
          cases e1; cases e2
          exact ⟨k1 j hj, k2 j hj⟩
        clear cbb cbw gbbl gbwl
        have f1 := (HR2.out wr hfr.bel k hltk).1
        obtain ⟨gp, hp0, hgp, hgpl⟩ := owns_at hxr.own.b (by dsimp only; omega)
        dsimp only at hp0
        subst hp0
        have c1 := hxr.own.b.cellAt fk (by dsimp only; omega)
        rw [valsB_get _ _ (by rw [upB_length]; have := HL.out; omega)] at c1
        have cf := hxr.own.b.frozenAt fk
        have EB : eB (upB s.bad f k P.bad) fk = eB s.bad fk := by
          rw [HF.out]
          by_cases hh : f + k < s.bad.length
          · rw [eB_at (by rw [upB_length]; exact hh), upB_get hh, eB_at hh]
            simp
          · have := HL.out; omega
        rw [EB] at c1
        clear EB
        have key : ∀ z : Bool, z = (eB s.bad fk || eB P.bad k) → BoxS B (wr.setCell ⟨gp, fk, none⟩ (.bool z)).drew w.heap.size ⟨some ⟨gp, 0, none⟩, n, c, q, n, d⟩ ⟨upB s.bad f (k + 1) P.bad, upW s.wear f k P.wear, s.seq⟩ ∧ Fr B w.heap.size ⟨some ⟨gp, 0, none⟩, n, c, q, n, d⟩ W (wr.setCell ⟨gp, fk, none⟩ (.bool z)).drew ∧ Blk (wr.setCell ⟨gp, fk, none⟩ (.bool z)).drew (w.heap.size + 1) 42 (PV.cells ⟨some ⟨gbb, obb, none⟩, nb, cb, some ⟨gbw, obw, none⟩, nb, cw, pr, nr, cr⟩ P) := fun z hz => by
          have hs := (hxr.own.b.stored fk (.bool z)).1
          have ES : (upB s.bad f k P.bad).set fk z = upB s.bad f (k + 1) P.bad := by
            rw [hz, HF.out]
            cases hq : eB P.bad k with
            | true => rw [Bool.or_true]; exact upB_yes hq
            | false =>
              rw [Bool.or_false, ← upB_no hq]
              apply List.ext_getElem (by rw [List.length_set])
              intro j h1 h2
              rw [List.getElem_set]
              by_cases e : f + k = j
              · subst e
                rw [upB_length] at h2
                rw [if_pos rfl, upB_get h2, eB_at h2]
                simp
              · rw [if_neg e]
          rw [show (valsB (upB s.bad f k P.bad)).set fk (.bool z) = valsB (upB s.bad f (k + 1) P.bad) by rw [← ES]; simp [valsB, List.map_set]] at hs
          exact ⟨(hxr.setBad rfl (Turned.setCell _ ⟨gp, fk, none⟩ _) hs).drew, (hfr.of (Turned.setCell _ ⟨gp, fk, none⟩ _) hgp (.inr (.inl ⟨_, rfl, rfl⟩))).drew, (bpr.turned (Turned.setCell wr ⟨gp, fk, none⟩ _) (fun e => owns_blk_ne (by decide) hxr.own.b bpr _ rfl e.symm)).drew⟩
        cases hq1 : eB s.bad fk with
        | true =>
          rw [hq1] at c1
          obtain ⟨K1, K2, K3⟩ := key true (by rw [hq1]; rfl)
          clear key hq1
          go_upto_region 6 with (fail)
          go_region
          all_goals (try (go_upto_region 7 with (fail)))
          all_goals
            obtain ⟨gq, hq, hgq, hgql⟩ := owns_at K1.own.v (by dsimp only; omega)
            dsimp only at hq
            subst hq
            obtain ⟨x0, x1, x2⟩ := K1.box.cells3
            have bp2 := K3
            obtain ⟨y0, y1, y2, y3, y4, y5, y6⟩ := bp2.cells7
            have d1 := K1.own.v.cellAt fk (by dsimp only; rw [HF.out]; omega)
            rw [valsI_get _ _ (by rw [HF.out, upW_length]; have := HW.out; omega), HF.out, upW_old, ← HF.out] at d1
            have df := K1.own.v.frozenAt fk
            have e1 := (HR2.out _ K2.bel k hltk).2
            have key2 : ∀ z : Int, z = max (eI s.wear fk) (eI P.wear k) → ∀ X, X = (wr.setCell ⟨gp, fk, none⟩ (.bool true)).drew → BoxS B (X.setCell ⟨gq, fk, none⟩ (.int .i64 z)).drew w.heap.size ⟨some ⟨gp, 0, none⟩, n, c, some ⟨gq, 0, none⟩, n, d⟩ ⟨upB s.bad f (k + 1) P.bad, upW s.wear f (k + 1) P.wear, s.seq⟩ ∧ Fr B w.heap.size ⟨some ⟨gp, 0, none⟩, n, c, some ⟨gq, 0, none⟩, n, d⟩ W (X.setCell ⟨gq, fk, none⟩ (.int .i64 z)).drew := fun z hz X hX => by
              subst hX
              have hs := (K1.own.v.stored fk (.int .i64 z)).1
              rw [valsI_set, show (upW s.wear f k P.wear).set fk z = upW s.wear f (k + 1) P.wear by rw [hz, HF.out]; exact upW_next] at hs
              exact ⟨(K1.setWear rfl (Turned.setCell _ _ _) hs).drew, (K2.of (Turned.setCell _ ⟨gq, fk, none⟩ _) hgq (.inr (.inr ⟨_, rfl, rfl⟩))).drew⟩
            by_cases hgt : eI P.wear k > eI s.wear fk
            · obtain ⟨L1, L2⟩ := key2 (eI P.wear k) (Int.max_eq_right (by omega)).symm _ rfl
              clear key2 HR2
              go_wp2
              go_region
              all_goals (try go_wp2)
              all_goals
                go_roundw
                case rel => exact ⟨k + 1, by omega, by go_num, L1, L2⟩
                case measure => simp [intOf]; omega
            · obtain ⟨L1, L2⟩ := key2 (eI s.wear fk) (Int.max_eq_left (by omega)).symm _ rfl
              clear key2 HR2
              go_wp2
              go_region
              all_goals (try go_wp2)
              all_goals
                go_roundw
                case rel => exact ⟨k + 1, by omega, by go_num, L1, L2⟩
                case measure => simp [intOf]; omega
        | false =>
          rw [hq1] at c1
          obtain ⟨K1, K2, K3⟩ := key (eB P.bad k) (by rw [hq1]; rfl)
          clear key hq1
          go_upto_region 6 with (fail)
          go_region
          all_goals (try (go_upto_region 7 with (fail)))
          all_goals
            obtain ⟨gq, hq, hgq, hgql⟩ := owns_at K1.own.v (by dsimp only; omega)
            dsimp only at hq
            subst hq
            obtain ⟨x0, x1, x2⟩ := K1.box.cells3
            have bp2 := K3
            obtain ⟨y0, y1, y2, y3, y4, y5, y6⟩ := bp2.cells7
            have d1 := K1.own.v.cellAt fk (by dsimp only; rw [HF.out]; omega)
            rw [valsI_get _ _ (by rw [HF.out, upW_length]; have := HW.out; omega), HF.out, upW_old, ← HF.out] at d1
            have df := K1.own.v.frozenAt fk
            have e1 := (HR2.out _ K2.bel k hltk).2
            have key2 : ∀ z : Int, z = max (eI s.wear fk) (eI P.wear k) → ∀ X, X = (wr.setCell ⟨gp, fk, none⟩ (.bool (eB P.bad k))).drew → BoxS B (X.setCell ⟨gq, fk, none⟩ (.int .i64 z)).drew w.heap.size ⟨some ⟨gp, 0, none⟩, n, c, some ⟨gq, 0, none⟩, n, d⟩ ⟨upB s.bad f (k + 1) P.bad, upW s.wear f (k + 1) P.wear, s.seq⟩ ∧ Fr B w.heap.size ⟨some ⟨gp, 0, none⟩, n, c, some ⟨gq, 0, none⟩, n, d⟩ W (X.setCell ⟨gq, fk, none⟩ (.int .i64 z)).drew := fun z hz X hX => by
              subst hX
              have hs := (K1.own.v.stored fk (.int .i64 z)).1
              rw [valsI_set, show (upW s.wear f k P.wear).set fk z = upW s.wear f (k + 1) P.wear by rw [hz, HF.out]; exact upW_next] at hs
              exact ⟨(K1.setWear rfl (Turned.setCell _ _ _) hs).drew, (K2.of (Turned.setCell _ ⟨gq, fk, none⟩ _) hgq (.inr (.inr ⟨_, rfl, rfl⟩))).drew⟩
            by_cases hgt : eI P.wear k > eI s.wear fk
            · obtain ⟨L1, L2⟩ := key2 (eI P.wear k) (Int.max_eq_right (by omega)).symm _ rfl
              clear key2 HR2
              go_wp2
              go_region
              all_goals (try go_wp2)
              all_goals
                go_roundw
                case rel => exact ⟨k + 1, by omega, by go_num, L1, L2⟩
                case measure => simp [intOf]; omega
            · obtain ⟨L1, L2⟩ := key2 (eI s.wear fk) (Int.max_eq_left (by omega)).symm _ rfl
              clear key2 HR2
              go_wp2
              go_region
              all_goals (try go_wp2)
              all_goals
                go_roundw
                case rel => exact ⟨k + 1, by omega, by go_num, L1, L2⟩
                case measure => simp [intOf]; omega
      · have hini : ¬ (fk : Int) < (n : Int) := by omega
        have E1 := upB_over (B := s.bad) (f := f) (k := k) (b := P.bad) (by have := HL.out; have := HF.out; omega)
        have E2 := upW_over (B := s.wear) (f := f) (k := k) (b := P.wear) (by have := HW.out; have := HF.out; omega)
        rw [E1, E2] at hxr
        clear E1 E2
        go_wp2
        go_roundw
        case rel => exact ⟨k + 1, by omega, by go_num, hxr, hfr⟩
        case measure => simp [intOf]; omega
    · have hkn : k = nb := by omega
      subst hkn
      have hfz := hxr.box.frozen 2
      have key : ∀ z : Int, z = max s.seq P.seq → BoxS B (wr.setCell ⟨w.heap.size, 2, none⟩ (.int .i64 z)) w.heap.size ⟨p, n, c, q, n, d⟩ ⟨upB s.bad f k P.bad, upW s.wear f k P.wear, max s.seq P.seq⟩ ∧ Fr B w.heap.size ⟨p, n, c, q, n, d⟩ W (wr.setCell ⟨w.heap.size, 2, none⟩ (.int .i64 z)) := fun z hz => by
        have := hxr.setSeq (Turned.setCell wr ⟨w.heap.size, 2, none⟩ (.int .i64 z)) z (hxr.box.set 2 (.int .i64 z))
        dsimp only at this
        rw [hz] at this ⊢
        exact ⟨this, hfr.of (Turned.setCell _ _ _) hB (.inl rfl)⟩
      by_cases hgt : P.seq > s.seq
      · obtain ⟨K1, K2⟩ := key P.seq (Int.max_eq_right (by omega)).symm
        clear key
        go_wp2
        generalize hT0 : (⟨upB s.bad f k P.bad, upW s.wear f k P.wear, max s.seq P.seq⟩ : MS) = T0 at *
        have HT0 : Hid ((⟨upB s.bad f k P.bad, upW s.wear f k P.wear, max s.seq P.seq⟩ : MS) = T0) := hT0
        clear hT0
        go_loopw [7] (fun i wr => ∃ j : Nat, j ≤ nr ∧ i = .int .i64 j ∧ BoxS B wr w.heap.size ⟨p, n, c, q, n, d⟩ (recsN n T0 (P.recs.take j)) ∧ Fr B w.heap.size ⟨p, n, c, q, n, d⟩ W wr) (fun i _ => nr - (intOf i).toNat)
        case atStart => exact ⟨0, Nat.zero_le _, rfl, K1, K2⟩
        case round =>
          obtain ⟨j, hj, rfl, hxr, hfr⟩ := hrel
          have bpr := bp.fr hfr hx (by omega) (by decide) (by decide)
          have hszw : W.heap.size ≤ wr.heap.size := hfr.bel.size
          have hszr : B ≤ wr.heap.size := by omega
          obtain ⟨x0, x1, x2⟩ := hxr.box.cells3
          obtain ⟨y0, y1, y2, y3, y4, y5, y6⟩ := bpr.cells7
          clear K1 K2
          by_cases hlt : j < nr
          · obtain ⟨gr, orr, hpr, hgr, hcr⟩ := (HP2.out wr hfr.bel).r.at' (by dsimp only; omega)
            dsimp only at hpr
            subst hpr
            clear hcr hgr
            have HRC : Hid (∀ X, Below B W X → X.cell? ⟨gr, orr + j * 3, none⟩ = some (.int .i64 (eR P.recs j).kind) ∧ X.cell? ⟨gr, orr + j * 3 + 1, none⟩ = some (.int .i64 (eR P.recs j).block) ∧ X.cell? ⟨gr, orr + j * 3 + 2, none⟩ = some (.int .i64 (eR P.recs j).value)) := fun X hX => by
              obtain ⟨b1, o1, e1, _, k1⟩ := (HP2.out X hX).r.at' (by dsimp only; omega)
              cases e1
              exact k1 j hlt
            have hlt' : (j : Int) < (nr : Int) := by omega
            have hokr := HREC.out _ (eR_mem (l := P.recs) (k := j) (by rw [HPR.out]; exact hlt))
            have h0b := okMR_block hokr
            have ES : Hid (recsN n T0 (P.recs.take (j + 1)) = if (eR P.recs j).block < (n : Int) then learnR (recsN n T0 (P.recs.take j)) (eR P.recs j) else recsN n T0 (P.recs.take j)) := by
              show _ = _
              rw [takeR_succ P.recs j (by rw [HPR.out]; exact hlt), recsN_snoc]
            clear hokr
            by_cases hin : (eR P.recs j).block < (n : Int)
            · rw [if_pos hin] at ES
              generalize recsN n T0 (P.recs.take j) = T at *
              go_upto_region 12 with (fail)
              refine wp_region_noPanic ?_
              refine wp_region_held_drew (S := Below wr.heap.size wr) (by kernel_rfl) (Below.refl _ _).drew (fun hHeld => ?_)
              refine wpAnyH_take (i := 0) (v := ?_) rfl (by kernel_rfl) (by kernel_rfl) (by kernel_rfl) (fun _ _ _ h => h) (Or.inl ⟨by rfl, ?_⟩) hHeld ?_
              rotate_left
              · intro w' hSw; try dsimp only at hSw
                go_simp; try (with_reducible rfl)
              try simp only [Act.put, List.getElem_toArray, List.getElem_cons_succ, List.getElem_cons_zero, List.setIfInBounds_toArray, List.set_cons_zero, List.set_cons_succ]
              refine wpAnyH_take (i := 1) (v := ?_) rfl (by kernel_rfl) (by kernel_rfl) (by kernel_rfl) (fun _ _ _ h => h) (Or.inl ⟨by rfl, ?_⟩) hHeld ?_
              rotate_left
              · intro w' hSw; try dsimp only at hSw
                obtain ⟨u0, u1, u2, u3, u4, u5, u6⟩ := (bpr.kept hSw).cells7
                go_simp; try (with_reducible rfl)
              try simp only [Act.put, List.getElem_toArray, List.getElem_cons_succ, List.getElem_cons_zero, List.setIfInBounds_toArray, List.set_cons_zero, List.set_cons_succ]
              refine wpAnyH_take (i := 2) (v := ?_) rfl (by kernel_rfl) (by kernel_rfl) (by kernel_rfl) (fun _ _ _ h => h) (Or.inl ⟨by rfl, ?_⟩) hHeld ?_
              rotate_left
              · intro w' hSw; try dsimp only at hSw
                go_simp; try (with_reducible rfl)
              try simp only [Act.put, List.getElem_toArray, List.getElem_cons_succ, List.getElem_cons_zero, List.setIfInBounds_toArray, List.set_cons_zero, List.set_cons_succ]
              refine wpAnyH_take (i := 3) (v := ?_) rfl (by kernel_rfl) (by kernel_rfl) (by kernel_rfl) (fun _ _ _ h => h) (Or.inl ⟨by rfl, ?_⟩) hHeld ?_
              rotate_left
              · intro w' hSw; try dsimp only at hSw
                go_simp; try (with_reducible rfl)
              try simp only [Act.put, List.getElem_toArray, List.getElem_cons_succ, List.getElem_cons_zero, List.setIfInBounds_toArray, List.set_cons_zero, List.set_cons_succ]
              refine wpAnyH_take (i := 4) (v := ?_) rfl (by kernel_rfl) (by kernel_rfl) (by kernel_rfl) (fun _ _ _ h => h) (Or.inl ⟨by rfl, ?_⟩) hHeld ?_
              rotate_left
              · intro w' hSw; try dsimp only at hSw
                go_simp; try (with_reducible rfl)
              try simp only [Act.put, List.getElem_toArray, List.getElem_cons_succ, List.getElem_cons_zero, List.setIfInBounds_toArray, List.set_cons_zero, List.set_cons_succ]
              refine wpAnyH_take (i := 5) (v := ?_) rfl (by kernel_rfl) (by kernel_rfl) (by kernel_rfl) (fun _ _ _ h => h) (Or.inl ⟨by rfl, ?_⟩) hHeld ?_
              rotate_left
              · intro w' hSw; try dsimp only at hSw
                obtain ⟨s0, s1, s2⟩ := HRC.out _ (hfr.bel.trans (hSw.mono hszr))
                go_simp; try (with_reducible rfl)
              try simp only [Act.put, List.getElem_toArray, List.getElem_cons_succ, List.getElem_cons_zero, List.setIfInBounds_toArray, List.set_cons_zero, List.set_cons_succ]
              refine wpAnyH_take (i := 6) (v := ?_) rfl (by kernel_rfl) (by kernel_rfl) (by kernel_rfl) (fun _ _ _ h => h) (Or.inl ⟨by rfl, ?_⟩) hHeld ?_
              rotate_left
              · intro w' hSw; try dsimp only at hSw
                go_simp; try (with_reducible rfl)
              try simp only [Act.put, List.getElem_toArray, List.getElem_cons_succ, List.getElem_cons_zero, List.setIfInBounds_toArray, List.set_cons_zero, List.set_cons_succ]
              refine wpAnyH_take (i := 7) (v := ?_) rfl (by kernel_rfl) (by kernel_rfl) (by kernel_rfl) (fun _ _ _ h => h) (Or.inl ⟨by rfl, ?_⟩) hHeld ?_
              rotate_left
              · intro w' hSw; try dsimp only at hSw
                obtain ⟨u0, u1, u2⟩ := (hxr.next hSw).box.cells3
                go_simp; try (with_reducible rfl)
              try simp only [Act.put, List.getElem_toArray, List.getElem_cons_succ, List.getElem_cons_zero, List.setIfInBounds_toArray, List.set_cons_zero, List.set_cons_succ]
              refine wpAnyH_take (i := 8) (v := ?_) rfl (by kernel_rfl) (by kernel_rfl) (by kernel_rfl) (fun _ _ _ h => h) (Or.inl ⟨by rfl, ?_⟩) hHeld ?_
              rotate_left
              · intro w' hSw; try dsimp only at hSw
                go_simp; try (with_reducible rfl)
              try simp only [Act.put, List.getElem_toArray, List.getElem_cons_succ, List.getElem_cons_zero, List.setIfInBounds_toArray, List.set_cons_zero, List.set_cons_succ]
              refine wpAnyH_take (i := 9) (v := ?_) rfl (by kernel_rfl) (by kernel_rfl) (by kernel_rfl) (fun _ _ _ h => h) (Or.inl ⟨by rfl, ?_⟩) hHeld ?_
              rotate_left
              · intro w' hSw; try dsimp only at hSw
                go_simp; try (with_reducible rfl)
              try simp only [Act.put, List.getElem_toArray, List.getElem_cons_succ, List.getElem_cons_zero, List.setIfInBounds_toArray, List.set_cons_zero, List.set_cons_succ]
              refine wpAnyH_done (by kernel_rfl) ?_ _
              refine NoPanic.normal ?_
              go_upto_region 13 with (fail)
              refine wp_region_noPanic ?_
              refine wp_region_held_drew (S := fun X => Below B W X ∧ Blk X (w.heap.size + 1) 42 (PV.cells ⟨pb, k, cb, pw, k, cw, some ⟨gr, orr, none⟩, nr, cr⟩ P)) (by kernel_rfl) ⟨hfr.bel.drew.drew, bpr⟩ (fun hHeld => ?_)
              refine wpAnyH_take (i := 1) (v := ?_) rfl (by kernel_rfl) (by kernel_rfl) (by kernel_rfl) (fun _ _ _ h => h) (Or.inl ⟨by rfl, ?_⟩) hHeld ?_
              rotate_left
              · intro w' hSw; try dsimp only at hSw
                go_simp; try (with_reducible rfl)
              try simp only [Act.put, List.getElem_toArray, List.getElem_cons_succ, List.getElem_cons_zero, List.setIfInBounds_toArray, List.set_cons_zero, List.set_cons_succ]
              refine wpAnyH_take (i := 2) (v := ?_) rfl (by kernel_rfl) (by kernel_rfl) (by kernel_rfl) (fun _ _ _ h => h) (Or.inl ⟨by rfl, ?_⟩) hHeld ?_
              rotate_left
              · intro w' hSw; try dsimp only at hSw
                obtain ⟨u0, u1, u2, u3, u4, u5, u6⟩ := hSw.2.cells7
                go_simp; try (with_reducible rfl)
              try simp only [Act.put, List.getElem_toArray, List.getElem_cons_succ, List.getElem_cons_zero, List.setIfInBounds_toArray, List.set_cons_zero, List.set_cons_succ]
              refine wpAnyH_take (i := 3) (v := ?_) rfl (by kernel_rfl) (by kernel_rfl) (by kernel_rfl) (fun _ _ _ h => h) (Or.inl ⟨by rfl, ?_⟩) hHeld ?_
              rotate_left
              · intro w' hSw; try dsimp only at hSw
                go_simp; try (with_reducible rfl)
              try simp only [Act.put, List.getElem_toArray, List.getElem_cons_succ, List.getElem_cons_zero, List.setIfInBounds_toArray, List.set_cons_zero, List.set_cons_succ]
              refine wpAnyH_take (i := 4) (v := ?_) rfl (by kernel_rfl) (by kernel_rfl) (by kernel_rfl) (fun _ _ _ h => h) (Or.inl ⟨by rfl, ?_⟩) hHeld ?_
              rotate_left
              · intro w' hSw; try dsimp only at hSw
                go_simp; try (with_reducible rfl)
              try simp only [Act.put, List.getElem_toArray, List.getElem_cons_succ, List.getElem_cons_zero, List.setIfInBounds_toArray, List.set_cons_zero, List.set_cons_succ]
              refine wpAnyH_take (i := 5) (v := ?_) rfl (by kernel_rfl) (by kernel_rfl) (by kernel_rfl) (fun _ _ _ h => h) (Or.inl ⟨by rfl, ?_⟩) hHeld ?_
              rotate_left
              · intro w' hSw; try dsimp only at hSw
                obtain ⟨s0, s1, s2⟩ := HRC.out _ hSw.1
                go_simp; try (with_reducible rfl)
              try simp only [Act.put, List.getElem_toArray, List.getElem_cons_succ, List.getElem_cons_zero, List.setIfInBounds_toArray, List.set_cons_zero, List.set_cons_succ]
              refine wpAnyH_ready (rs := [0]) (by kernel_rfl) (by simp) ?_
              refine AllReadyH.cons rfl (fun K hK => ?_) AllReadyH.nil
              obtain ⟨u0, u1, u2⟩ := hxr.drew.drew.box.cells3
              go_simp
              refine hK.out _ _ hHeld (fun hHeld => ?_)
              clear hK K
              try simp only [Act.put, List.getElem_toArray, List.getElem_cons_succ, List.getElem_cons_zero, List.setIfInBounds_toArray, List.set_cons_zero, List.set_cons_succ]
              refine wpAnyH_ready (rs := [6]) (by kernel_rfl) (by simp) ?_
              refine AllReadyH.cons rfl (fun K hK => ?_) AllReadyH.nil
              go_simp
              refine (roneK B ⟨p, n, c, q, n, d⟩ _ (eR P.recs j) _ (hxr.drew.drew.own) rfl hszr h0b hin).mono ?_
              rintro e w6 ⟨rfl, hx6, hf6⟩
              try go_wp2_with fail
              have hf6' := hfr.drew.drew.trans2 hf6 hszw
              refine hK.out _ _ ⟨hf6'.bel, hHeld.2.frK hf6 hxr.drew.drew.own (by decide) (by decide)⟩ (fun hHeld => ?_)
              clear hK K
              try simp only [Act.put, List.getElem_toArray, List.getElem_cons_succ, List.getElem_cons_zero, List.setIfInBounds_toArray, List.set_cons_zero, List.set_cons_succ]
              refine wpAnyH_ready (rs := [7]) (by kernel_rfl) (by simp) ?_
              refine AllReadyH.cons rfl (fun K hK => ?_) AllReadyH.nil
              have hbx6 := hxr.drew.drew.box.frK hf6 hxr.drew.drew.own (by decide) (by decide)
              rw [if_pos (by rfl)]
              refine wp_store_blk 25 (.tmp 2) _ rfl _ _ [.slice p n c, .slice q n d, .int .i64 (learnR T (eR P.recs j)).seq] rfl rfl hbx6 (by exact Nat.le_refl _) (msSize ⟨p, n, c, q, n, d⟩ (learnR T (eR P.recs j))) (msOne ⟨p, n, c, q, n, d⟩ (learnR T (eR P.recs j))) ?_
              intro w7 h7 ht7
              refine hK.out _ _ ⟨ht7.below hHeld.1 hB, hHeld.2.turned ht7 (by omega)⟩ (fun hHeld => ?_)
              clear hK K
              try simp only [Act.put, List.getElem_toArray, List.getElem_cons_succ, List.getElem_cons_zero, List.setIfInBounds_toArray, List.set_cons_zero, List.set_cons_succ]
              refine wpAnyH_done (by kernel_rfl) ?_ _
              refine NoPanic.normal ?_
              replace h7 : Blk w7 w.heap.size 25 (SV.cells ⟨p, n, c, q, n, d⟩ (learnR T (eR P.recs j))) := h7
              have hx7 : BoxS B w7 w.heap.size ⟨p, n, c, q, n, d⟩ (learnR T (eR P.recs j)) := ⟨h7, hx6.turned ht7 (owns_blk_ne (by decide) hx6.b hbx6) (owns_blk_ne (by decide) hx6.v hbx6), hB⟩
              have hf7 := hf6'.of ht7 hB (.inl rfl)
              go_wp2_with fail
              go_roundw
              case rel => exact ⟨j + 1, by omega, by go_num, by rw [ES.out]; exact hx7, hf7⟩
              case measure => simp [intOf]; omega
            · rw [if_neg hin] at ES
              go_upto_region 12 with (fail)
              refine wp_region_noPanic ?_
              refine wp_region_held_drew (S := Below wr.heap.size wr) (by kernel_rfl) (Below.refl _ _).drew (fun hHeld => ?_)
              refine wpAnyH_take (i := 0) (v := ?_) rfl (by kernel_rfl) (by kernel_rfl) (by kernel_rfl) (fun _ _ _ h => h) (Or.inl ⟨by rfl, ?_⟩) hHeld ?_
              rotate_left
              · intro w' hSw; try dsimp only at hSw
                go_simp; try (with_reducible rfl)
              try simp only [Act.put, List.getElem_toArray, List.getElem_cons_succ, List.getElem_cons_zero, List.setIfInBounds_toArray, List.set_cons_zero, List.set_cons_succ]
              refine wpAnyH_take (i := 1) (v := ?_) rfl (by kernel_rfl) (by kernel_rfl) (by kernel_rfl) (fun _ _ _ h => h) (Or.inl ⟨by rfl, ?_⟩) hHeld ?_
              rotate_left
              · intro w' hSw; try dsimp only at hSw
                obtain ⟨u0, u1, u2, u3, u4, u5, u6⟩ := (bpr.kept hSw).cells7
                go_simp; try (with_reducible rfl)
              try simp only [Act.put, List.getElem_toArray, List.getElem_cons_succ, List.getElem_cons_zero, List.setIfInBounds_toArray, List.set_cons_zero, List.set_cons_succ]
              refine wpAnyH_take (i := 2) (v := ?_) rfl (by kernel_rfl) (by kernel_rfl) (by kernel_rfl) (fun _ _ _ h => h) (Or.inl ⟨by rfl, ?_⟩) hHeld ?_
              rotate_left
              · intro w' hSw; try dsimp only at hSw
                go_simp; try (with_reducible rfl)
              try simp only [Act.put, List.getElem_toArray, List.getElem_cons_succ, List.getElem_cons_zero, List.setIfInBounds_toArray, List.set_cons_zero, List.set_cons_succ]
              refine wpAnyH_take (i := 3) (v := ?_) rfl (by kernel_rfl) (by kernel_rfl) (by kernel_rfl) (fun _ _ _ h => h) (Or.inl ⟨by rfl, ?_⟩) hHeld ?_
              rotate_left
              · intro w' hSw; try dsimp only at hSw
                go_simp; try (with_reducible rfl)
              try simp only [Act.put, List.getElem_toArray, List.getElem_cons_succ, List.getElem_cons_zero, List.setIfInBounds_toArray, List.set_cons_zero, List.set_cons_succ]
              refine wpAnyH_take (i := 4) (v := ?_) rfl (by kernel_rfl) (by kernel_rfl) (by kernel_rfl) (fun _ _ _ h => h) (Or.inl ⟨by rfl, ?_⟩) hHeld ?_
              rotate_left
              · intro w' hSw; try dsimp only at hSw
                go_simp; try (with_reducible rfl)
              try simp only [Act.put, List.getElem_toArray, List.getElem_cons_succ, List.getElem_cons_zero, List.setIfInBounds_toArray, List.set_cons_zero, List.set_cons_succ]
              refine wpAnyH_take (i := 5) (v := ?_) rfl (by kernel_rfl) (by kernel_rfl) (by kernel_rfl) (fun _ _ _ h => h) (Or.inl ⟨by rfl, ?_⟩) hHeld ?_
              rotate_left
              · intro w' hSw; try dsimp only at hSw
                obtain ⟨s0, s1, s2⟩ := HRC.out _ (hfr.bel.trans (hSw.mono hszr))
                go_simp; try (with_reducible rfl)
              try simp only [Act.put, List.getElem_toArray, List.getElem_cons_succ, List.getElem_cons_zero, List.setIfInBounds_toArray, List.set_cons_zero, List.set_cons_succ]
              refine wpAnyH_take (i := 6) (v := ?_) rfl (by kernel_rfl) (by kernel_rfl) (by kernel_rfl) (fun _ _ _ h => h) (Or.inl ⟨by rfl, ?_⟩) hHeld ?_
              rotate_left
              · intro w' hSw; try dsimp only at hSw
                go_simp; try (with_reducible rfl)
              try simp only [Act.put, List.getElem_toArray, List.getElem_cons_succ, List.getElem_cons_zero, List.setIfInBounds_toArray, List.set_cons_zero, List.set_cons_succ]
              refine wpAnyH_take (i := 7) (v := ?_) rfl (by kernel_rfl) (by kernel_rfl) (by kernel_rfl) (fun _ _ _ h => h) (Or.inl ⟨by rfl, ?_⟩) hHeld ?_
              rotate_left
              · intro w' hSw; try dsimp only at hSw
                obtain ⟨u0, u1, u2⟩ := (hxr.next hSw).box.cells3
                go_simp; try (with_reducible rfl)
              try simp only [Act.put, List.getElem_toArray, List.getElem_cons_succ, List.getElem_cons_zero, List.setIfInBounds_toArray, List.set_cons_zero, List.set_cons_succ]
              refine wpAnyH_take (i := 8) (v := ?_) rfl (by kernel_rfl) (by kernel_rfl) (by kernel_rfl) (fun _ _ _ h => h) (Or.inl ⟨by rfl, ?_⟩) hHeld ?_
              rotate_left
              · intro w' hSw; try dsimp only at hSw
                go_simp; try (with_reducible rfl)
              try simp only [Act.put, List.getElem_toArray, List.getElem_cons_succ, List.getElem_cons_zero, List.setIfInBounds_toArray, List.set_cons_zero, List.set_cons_succ]
              refine wpAnyH_take (i := 9) (v := ?_) rfl (by kernel_rfl) (by kernel_rfl) (by kernel_rfl) (fun _ _ _ h => h) (Or.inl ⟨by rfl, ?_⟩) hHeld ?_
              rotate_left
              · intro w' hSw; try dsimp only at hSw
                go_simp; try (with_reducible rfl)
              try simp only [Act.put, List.getElem_toArray, List.getElem_cons_succ, List.getElem_cons_zero, List.setIfInBounds_toArray, List.set_cons_zero, List.set_cons_succ]
              refine wpAnyH_done (by kernel_rfl) ?_ _
              refine NoPanic.normal ?_
              go_wp2
              go_roundw
              case rel => exact ⟨j + 1, by omega, by go_num, by rw [ES.out]; exact hxr.drew, hfr.drew⟩
              case measure => simp [intOf]; omega
          · have ET : Hid (recsN n T0 (P.recs.take j) = recsN n T0 P.recs) := by show _ = _; rw [List.take_of_length_le (by have := HPR.out; omega)]
            rw [ET.out] at hxr
            have brr := br.fr hfr hx (by omega) (by decide) (by decide)
            clear x0 x1 x2
            generalize hTT : recsN n T0 P.recs = T at *
            have HTT : Hid (recsN n T0 P.recs = T) := hTT
            clear hTT
            obtain ⟨x0, x1, x2⟩ := hxr.box.cells3
            go_wp2_with (guard_target = wpList _ _ _ (Oper.mk _ (Op.store 25 (Operand.tmp 4) _) _ _ _ _ :: _) _ _; refine wpList_store_blk rfl 25 (.tmp 4) (.tmp 100) rfl _ _ [.slice p n c, .slice q n d, .int .i64 T.seq] rfl rfl brr (by simp) (msSize ⟨p, n, c, q, n, d⟩ T) (msOne ⟨p, n, c, q, n, d⟩ T) ?_; intro w9 h9 ht9)
            have h9' : Blk w9 (w.heap.size + 2) 25 (SV.cells ⟨p, n, c, q, n, d⟩ T) := h9
            refine ret_ms Try.results72 rfl h9' rfl ?_
            rw [HT0.out, HTT.out]
            exact ⟨rfl, hxr.own.turned ht9 (owns_blk_ne (by decide) hxr.own.b brr) (owns_blk_ne (by decide) hxr.own.v brr), (hfw.trans hfr).ofNew ht9 (by omega) (by omega)⟩
      · obtain ⟨K1, K2⟩ := key s.seq (Int.max_eq_left (by omega)).symm
        clear key
        go_wp2
        generalize hT0 : (⟨upB s.bad f k P.bad, upW s.wear f k P.wear, max s.seq P.seq⟩ : MS) = T0 at *
        have HT0 : Hid ((⟨upB s.bad f k P.bad, upW s.wear f k P.wear, max s.seq P.seq⟩ : MS) = T0) := hT0
        clear hT0
        go_loopw [7] (fun i wr => ∃ j : Nat, j ≤ nr ∧ i = .int .i64 j ∧ BoxS B wr w.heap.size ⟨p, n, c, q, n, d⟩ (recsN n T0 (P.recs.take j)) ∧ Fr B w.heap.size ⟨p, n, c, q, n, d⟩ W wr) (fun i _ => nr - (intOf i).toNat)
        case atStart => exact ⟨0, Nat.zero_le _, rfl, K1, K2⟩
        case round =>
          obtain ⟨j, hj, rfl, hxr, hfr⟩ := hrel
          have bpr := bp.fr hfr hx (by omega) (by decide) (by decide)
          have hszw : W.heap.size ≤ wr.heap.size := hfr.bel.size
          have hszr : B ≤ wr.heap.size := by omega
          obtain ⟨x0, x1, x2⟩ := hxr.box.cells3
          obtain ⟨y0, y1, y2, y3, y4, y5, y6⟩ := bpr.cells7
          clear K1 K2
          by_cases hlt : j < nr
          · obtain ⟨gr, orr, hpr, hgr, hcr⟩ := (HP2.out wr hfr.bel).r.at' (by dsimp only; omega)
            dsimp only at hpr
            subst hpr
            clear hcr hgr
            have HRC : Hid (∀ X, Below B W X → X.cell? ⟨gr, orr + j * 3, none⟩ = some (.int .i64 (eR P.recs j).kind) ∧ X.cell? ⟨gr, orr + j * 3 + 1, none⟩ = some (.int .i64 (eR P.recs j).block) ∧ X.cell? ⟨gr, orr + j * 3 + 2, none⟩ = some (.int .i64 (eR P.recs j).value)) := fun X hX => by
              obtain ⟨b1, o1, e1, _, k1⟩ := (HP2.out X hX).r.at' (by dsimp only; omega)
              cases e1
              exact k1 j hlt
            have hlt' : (j : Int) < (nr : Int) := by omega
            have hokr := HREC.out _ (eR_mem (l := P.recs) (k := j) (by rw [HPR.out]; exact hlt))
            have h0b := okMR_block hokr
            have ES : Hid (recsN n T0 (P.recs.take (j + 1)) = if (eR P.recs j).block < (n : Int) then learnR (recsN n T0 (P.recs.take j)) (eR P.recs j) else recsN n T0 (P.recs.take j)) := by
              show _ = _
              rw [takeR_succ P.recs j (by rw [HPR.out]; exact hlt), recsN_snoc]
            clear hokr
            by_cases hin : (eR P.recs j).block < (n : Int)
            · rw [if_pos hin] at ES
              generalize recsN n T0 (P.recs.take j) = T at *
              go_upto_region 12 with (fail)
              refine wp_region_noPanic ?_
              refine wp_region_held_drew (S := Below wr.heap.size wr) (by kernel_rfl) (Below.refl _ _).drew (fun hHeld => ?_)
              refine wpAnyH_take (i := 0) (v := ?_) rfl (by kernel_rfl) (by kernel_rfl) (by kernel_rfl) (fun _ _ _ h => h) (Or.inl ⟨by rfl, ?_⟩) hHeld ?_
              rotate_left
              · intro w' hSw; try dsimp only at hSw
                go_simp; try (with_reducible rfl)
              try simp only [Act.put, List.getElem_toArray, List.getElem_cons_succ, List.getElem_cons_zero, List.setIfInBounds_toArray, List.set_cons_zero, List.set_cons_succ]
              refine wpAnyH_take (i := 1) (v := ?_) rfl (by kernel_rfl) (by kernel_rfl) (by kernel_rfl) (fun _ _ _ h => h) (Or.inl ⟨by rfl, ?_⟩) hHeld ?_
              rotate_left
              · intro w' hSw; try dsimp only at hSw
                obtain ⟨u0, u1, u2, u3, u4, u5, u6⟩ := (bpr.kept hSw).cells7
                go_simp; try (with_reducible rfl)
              try simp only [Act.put, List.getElem_toArray, List.getElem_cons_succ, List.getElem_cons_zero, List.setIfInBounds_toArray, List.set_cons_zero, List.set_cons_succ]
              refine wpAnyH_take (i := 2) (v := ?_) rfl (by kernel_rfl) (by kernel_rfl) (by kernel_rfl) (fun _ _ _ h => h) (Or.inl ⟨by rfl, ?_⟩) hHeld ?_
              rotate_left
              · intro w' hSw; try dsimp only at hSw
                go_simp; try (with_reducible rfl)
              try simp only [Act.put, List.getElem_toArray, List.getElem_cons_succ, List.getElem_cons_zero, List.setIfInBounds_toArray, List.set_cons_zero, List.set_cons_succ]
              refine wpAnyH_take (i := 3) (v := ?_) rfl (by kernel_rfl) (by kernel_rfl) (by kernel_rfl) (fun _ _ _ h => h) (Or.inl ⟨by rfl, ?_⟩) hHeld ?_
              rotate_left
              · intro w' hSw; try dsimp only at hSw
                go_simp; try (with_reducible rfl)
              try simp only [Act.put, List.getElem_toArray, List.getElem_cons_succ, List.getElem_cons_zero, List.setIfInBounds_toArray, List.set_cons_zero, List.set_cons_succ]
              refine wpAnyH_take (i := 4) (v := ?_) rfl (by kernel_rfl) (by kernel_rfl) (by kernel_rfl) (fun _ _ _ h => h) (Or.inl ⟨by rfl, ?_⟩) hHeld ?_
              rotate_left
              · intro w' hSw; try dsimp only at hSw
                go_simp; try (with_reducible rfl)
              try simp only [Act.put, List.getElem_toArray, List.getElem_cons_succ, List.getElem_cons_zero, List.setIfInBounds_toArray, List.set_cons_zero, List.set_cons_succ]
              refine wpAnyH_take (i := 5) (v := ?_) rfl (by kernel_rfl) (by kernel_rfl) (by kernel_rfl) (fun _ _ _ h => h) (Or.inl ⟨by rfl, ?_⟩) hHeld ?_
              rotate_left
              · intro w' hSw; try dsimp only at hSw
                obtain ⟨s0, s1, s2⟩ := HRC.out _ (hfr.bel.trans (hSw.mono hszr))
                go_simp; try (with_reducible rfl)
              try simp only [Act.put, List.getElem_toArray, List.getElem_cons_succ, List.getElem_cons_zero, List.setIfInBounds_toArray, List.set_cons_zero, List.set_cons_succ]
              refine wpAnyH_take (i := 6) (v := ?_) rfl (by kernel_rfl) (by kernel_rfl) (by kernel_rfl) (fun _ _ _ h => h) (Or.inl ⟨by rfl, ?_⟩) hHeld ?_
              rotate_left
              · intro w' hSw; try dsimp only at hSw
                go_simp; try (with_reducible rfl)
              try simp only [Act.put, List.getElem_toArray, List.getElem_cons_succ, List.getElem_cons_zero, List.setIfInBounds_toArray, List.set_cons_zero, List.set_cons_succ]
              refine wpAnyH_take (i := 7) (v := ?_) rfl (by kernel_rfl) (by kernel_rfl) (by kernel_rfl) (fun _ _ _ h => h) (Or.inl ⟨by rfl, ?_⟩) hHeld ?_
              rotate_left
              · intro w' hSw; try dsimp only at hSw
                obtain ⟨u0, u1, u2⟩ := (hxr.next hSw).box.cells3
                go_simp; try (with_reducible rfl)
              try simp only [Act.put, List.getElem_toArray, List.getElem_cons_succ, List.getElem_cons_zero, List.setIfInBounds_toArray, List.set_cons_zero, List.set_cons_succ]
              refine wpAnyH_take (i := 8) (v := ?_) rfl (by kernel_rfl) (by kernel_rfl) (by kernel_rfl) (fun _ _ _ h => h) (Or.inl ⟨by rfl, ?_⟩) hHeld ?_
              rotate_left
              · intro w' hSw; try dsimp only at hSw
                go_simp; try (with_reducible rfl)
              try simp only [Act.put, List.getElem_toArray, List.getElem_cons_succ, List.getElem_cons_zero, List.setIfInBounds_toArray, List.set_cons_zero, List.set_cons_succ]
              refine wpAnyH_take (i := 9) (v := ?_) rfl (by kernel_rfl) (by kernel_rfl) (by kernel_rfl) (fun _ _ _ h => h) (Or.inl ⟨by rfl, ?_⟩) hHeld ?_
              rotate_left
              · intro w' hSw; try dsimp only at hSw
                go_simp; try (with_reducible rfl)
              try simp only [Act.put, List.getElem_toArray, List.getElem_cons_succ, List.getElem_cons_zero, List.setIfInBounds_toArray, List.set_cons_zero, List.set_cons_succ]
              refine wpAnyH_done (by kernel_rfl) ?_ _
              refine NoPanic.normal ?_
              go_upto_region 13 with (fail)
              refine wp_region_noPanic ?_
              refine wp_region_held_drew (S := fun X => Below B W X ∧ Blk X (w.heap.size + 1) 42 (PV.cells ⟨pb, k, cb, pw, k, cw, some ⟨gr, orr, none⟩, nr, cr⟩ P)) (by kernel_rfl) ⟨hfr.bel.drew.drew, bpr⟩ (fun hHeld => ?_)
              refine wpAnyH_take (i := 1) (v := ?_) rfl (by kernel_rfl) (by kernel_rfl) (by kernel_rfl) (fun _ _ _ h => h) (Or.inl ⟨by rfl, ?_⟩) hHeld ?_
              rotate_left
              · intro w' hSw; try dsimp only at hSw
                go_simp; try (with_reducible rfl)
              try simp only [Act.put, List.getElem_toArray, List.getElem_cons_succ, List.getElem_cons_zero, List.setIfInBounds_toArray, List.set_cons_zero, List.set_cons_succ]
              refine wpAnyH_take (i := 2) (v := ?_) rfl (by kernel_rfl) (by kernel_rfl) (by kernel_rfl) (fun _ _ _ h => h) (Or.inl ⟨by rfl, ?_⟩) hHeld ?_
              rotate_left
              · intro w' hSw; try dsimp only at hSw
                obtain ⟨u0, u1, u2, u3, u4, u5, u6⟩ := hSw.2.cells7
                go_simp; try (with_reducible rfl)
              try simp only [Act.put, List.getElem_toArray, List.getElem_cons_succ, List.getElem_cons_zero, List.setIfInBounds_toArray, List.set_cons_zero, List.set_cons_succ]
              refine wpAnyH_take (i := 3) (v := ?_) rfl (by kernel_rfl) (by kernel_rfl) (by kernel_rfl) (fun _ _ _ h => h) (Or.inl ⟨by rfl, ?_⟩) hHeld ?_
              rotate_left
              · intro w' hSw; try dsimp only at hSw
                go_simp; try (with_reducible rfl)
              try simp only [Act.put, List.getElem_toArray, List.getElem_cons_succ, List.getElem_cons_zero, List.setIfInBounds_toArray, List.set_cons_zero, List.set_cons_succ]
              refine wpAnyH_take (i := 4) (v := ?_) rfl (by kernel_rfl) (by kernel_rfl) (by kernel_rfl) (fun _ _ _ h => h) (Or.inl ⟨by rfl, ?_⟩) hHeld ?_
              rotate_left
              · intro w' hSw; try dsimp only at hSw
                go_simp; try (with_reducible rfl)
              try simp only [Act.put, List.getElem_toArray, List.getElem_cons_succ, List.getElem_cons_zero, List.setIfInBounds_toArray, List.set_cons_zero, List.set_cons_succ]
              refine wpAnyH_take (i := 5) (v := ?_) rfl (by kernel_rfl) (by kernel_rfl) (by kernel_rfl) (fun _ _ _ h => h) (Or.inl ⟨by rfl, ?_⟩) hHeld ?_
              rotate_left
              · intro w' hSw; try dsimp only at hSw
                obtain ⟨s0, s1, s2⟩ := HRC.out _ hSw.1
                go_simp; try (with_reducible rfl)
              try simp only [Act.put, List.getElem_toArray, List.getElem_cons_succ, List.getElem_cons_zero, List.setIfInBounds_toArray, List.set_cons_zero, List.set_cons_succ]
              refine wpAnyH_ready (rs := [0]) (by kernel_rfl) (by simp) ?_
              refine AllReadyH.cons rfl (fun K hK => ?_) AllReadyH.nil
              obtain ⟨u0, u1, u2⟩ := hxr.drew.drew.box.cells3
              go_simp
              refine hK.out _ _ hHeld (fun hHeld => ?_)
              clear hK K
              try simp only [Act.put, List.getElem_toArray, List.getElem_cons_succ, List.getElem_cons_zero, List.setIfInBounds_toArray, List.set_cons_zero, List.set_cons_succ]
              refine wpAnyH_ready (rs := [6]) (by kernel_rfl) (by simp) ?_
              refine AllReadyH.cons rfl (fun K hK => ?_) AllReadyH.nil
              go_simp
              refine (roneK B ⟨p, n, c, q, n, d⟩ _ (eR P.recs j) _ (hxr.drew.drew.own) rfl hszr h0b hin).mono ?_
              rintro e w6 ⟨rfl, hx6, hf6⟩
              try go_wp2_with fail
              have hf6' := hfr.drew.drew.trans2 hf6 hszw
              refine hK.out _ _ ⟨hf6'.bel, hHeld.2.frK hf6 hxr.drew.drew.own (by decide) (by decide)⟩ (fun hHeld => ?_)
              clear hK K
              try simp only [Act.put, List.getElem_toArray, List.getElem_cons_succ, List.getElem_cons_zero, List.setIfInBounds_toArray, List.set_cons_zero, List.set_cons_succ]
              refine wpAnyH_ready (rs := [7]) (by kernel_rfl) (by simp) ?_
              refine AllReadyH.cons rfl (fun K hK => ?_) AllReadyH.nil
              have hbx6 := hxr.drew.drew.box.frK hf6 hxr.drew.drew.own (by decide) (by decide)
              rw [if_pos (by rfl)]
              refine wp_store_blk 25 (.tmp 2) _ rfl _ _ [.slice p n c, .slice q n d, .int .i64 (learnR T (eR P.recs j)).seq] rfl rfl hbx6 (by exact Nat.le_refl _) (msSize ⟨p, n, c, q, n, d⟩ (learnR T (eR P.recs j))) (msOne ⟨p, n, c, q, n, d⟩ (learnR T (eR P.recs j))) ?_
              intro w7 h7 ht7
              refine hK.out _ _ ⟨ht7.below hHeld.1 hB, hHeld.2.turned ht7 (by omega)⟩ (fun hHeld => ?_)
              clear hK K
              try simp only [Act.put, List.getElem_toArray, List.getElem_cons_succ, List.getElem_cons_zero, List.setIfInBounds_toArray, List.set_cons_zero, List.set_cons_succ]
              refine wpAnyH_done (by kernel_rfl) ?_ _
              refine NoPanic.normal ?_
              replace h7 : Blk w7 w.heap.size 25 (SV.cells ⟨p, n, c, q, n, d⟩ (learnR T (eR P.recs j))) := h7
              have hx7 : BoxS B w7 w.heap.size ⟨p, n, c, q, n, d⟩ (learnR T (eR P.recs j)) := ⟨h7, hx6.turned ht7 (owns_blk_ne (by decide) hx6.b hbx6) (owns_blk_ne (by decide) hx6.v hbx6), hB⟩
              have hf7 := hf6'.of ht7 hB (.inl rfl)
              go_wp2_with fail
              go_roundw
              case rel => exact ⟨j + 1, by omega, by go_num, by rw [ES.out]; exact hx7, hf7⟩
              case measure => simp [intOf]; omega
            · rw [if_neg hin] at ES
              go_upto_region 12 with (fail)
              refine wp_region_noPanic ?_
              refine wp_region_held_drew (S := Below wr.heap.size wr) (by kernel_rfl) (Below.refl _ _).drew (fun hHeld => ?_)
              refine wpAnyH_take (i := 0) (v := ?_) rfl (by kernel_rfl) (by kernel_rfl) (by kernel_rfl) (fun _ _ _ h => h) (Or.inl ⟨by rfl, ?_⟩) hHeld ?_
              rotate_left
              · intro w' hSw; try dsimp only at hSw
                go_simp; try (with_reducible rfl)
              try simp only [Act.put, List.getElem_toArray, List.getElem_cons_succ, List.getElem_cons_zero, List.setIfInBounds_toArray, List.set_cons_zero, List.set_cons_succ]
              refine wpAnyH_take (i := 1) (v := ?_) rfl (by kernel_rfl) (by kernel_rfl) (by kernel_rfl) (fun _ _ _ h => h) (Or.inl ⟨by rfl, ?_⟩) hHeld ?_
              rotate_left
              · intro w' hSw; try dsimp only at hSw
                obtain ⟨u0, u1, u2, u3, u4, u5, u6⟩ := (bpr.kept hSw).cells7
                go_simp; try (with_reducible rfl)
              try simp only [Act.put, List.getElem_toArray, List.getElem_cons_succ, List.getElem_cons_zero, List.setIfInBounds_toArray, List.set_cons_zero, List.set_cons_succ]
              refine wpAnyH_take (i := 2) (v := ?_) rfl (by kernel_rfl) (by kernel_rfl) (by kernel_rfl) (fun _ _ _ h => h) (Or.inl ⟨by rfl, ?_⟩) hHeld ?_
              rotate_left
              · intro w' hSw; try dsimp only at hSw
                go_simp; try (with_reducible rfl)
              try simp only [Act.put, List.getElem_toArray, List.getElem_cons_succ, List.getElem_cons_zero, List.setIfInBounds_toArray, List.set_cons_zero, List.set_cons_succ]
              refine wpAnyH_take (i := 3) (v := ?_) rfl (by kernel_rfl) (by kernel_rfl) (by kernel_rfl) (fun _ _ _ h => h) (Or.inl ⟨by rfl, ?_⟩) hHeld ?_
              rotate_left
              · intro w' hSw; try dsimp only at hSw
                go_simp; try (with_reducible rfl)
              try simp only [Act.put, List.getElem_toArray, List.getElem_cons_succ, List.getElem_cons_zero, List.setIfInBounds_toArray, List.set_cons_zero, List.set_cons_succ]
              refine wpAnyH_take (i := 4) (v := ?_) rfl (by kernel_rfl) (by kernel_rfl) (by kernel_rfl) (fun _ _ _ h => h) (Or.inl ⟨by rfl, ?_⟩) hHeld ?_
              rotate_left
              · intro w' hSw; try dsimp only at hSw
                go_simp; try (with_reducible rfl)
              try simp only [Act.put, List.getElem_toArray, List.getElem_cons_succ, List.getElem_cons_zero, List.setIfInBounds_toArray, List.set_cons_zero, List.set_cons_succ]
              refine wpAnyH_take (i := 5) (v := ?_) rfl (by kernel_rfl) (by kernel_rfl) (by kernel_rfl) (fun _ _ _ h => h) (Or.inl ⟨by rfl, ?_⟩) hHeld ?_
              rotate_left
              · intro w' hSw; try dsimp only at hSw
                obtain ⟨s0, s1, s2⟩ := HRC.out _ (hfr.bel.trans (hSw.mono hszr))
                go_simp; try (with_reducible rfl)
              try simp only [Act.put, List.getElem_toArray, List.getElem_cons_succ, List.getElem_cons_zero, List.setIfInBounds_toArray, List.set_cons_zero, List.set_cons_succ]
              refine wpAnyH_take (i := 6) (v := ?_) rfl (by kernel_rfl) (by kernel_rfl) (by kernel_rfl) (fun _ _ _ h => h) (Or.inl ⟨by rfl, ?_⟩) hHeld ?_
              rotate_left
              · intro w' hSw; try dsimp only at hSw
                go_simp; try (with_reducible rfl)
              try simp only [Act.put, List.getElem_toArray, List.getElem_cons_succ, List.getElem_cons_zero, List.setIfInBounds_toArray, List.set_cons_zero, List.set_cons_succ]
              refine wpAnyH_take (i := 7) (v := ?_) rfl (by kernel_rfl) (by kernel_rfl) (by kernel_rfl) (fun _ _ _ h => h) (Or.inl ⟨by rfl, ?_⟩) hHeld ?_
              rotate_left
              · intro w' hSw; try dsimp only at hSw
                obtain ⟨u0, u1, u2⟩ := (hxr.next hSw).box.cells3
                go_simp; try (with_reducible rfl)
              try simp only [Act.put, List.getElem_toArray, List.getElem_cons_succ, List.getElem_cons_zero, List.setIfInBounds_toArray, List.set_cons_zero, List.set_cons_succ]
              refine wpAnyH_take (i := 8) (v := ?_) rfl (by kernel_rfl) (by kernel_rfl) (by kernel_rfl) (fun _ _ _ h => h) (Or.inl ⟨by rfl, ?_⟩) hHeld ?_
              rotate_left
              · intro w' hSw; try dsimp only at hSw
                go_simp; try (with_reducible rfl)
              try simp only [Act.put, List.getElem_toArray, List.getElem_cons_succ, List.getElem_cons_zero, List.setIfInBounds_toArray, List.set_cons_zero, List.set_cons_succ]
              refine wpAnyH_take (i := 9) (v := ?_) rfl (by kernel_rfl) (by kernel_rfl) (by kernel_rfl) (fun _ _ _ h => h) (Or.inl ⟨by rfl, ?_⟩) hHeld ?_
              rotate_left
              · intro w' hSw; try dsimp only at hSw
                go_simp; try (with_reducible rfl)
              try simp only [Act.put, List.getElem_toArray, List.getElem_cons_succ, List.getElem_cons_zero, List.setIfInBounds_toArray, List.set_cons_zero, List.set_cons_succ]
              refine wpAnyH_done (by kernel_rfl) ?_ _
              refine NoPanic.normal ?_
              go_wp2
              go_roundw
              case rel => exact ⟨j + 1, by omega, by go_num, by rw [ES.out]; exact hxr.drew, hfr.drew⟩
              case measure => simp [intOf]; omega
          · have ET : Hid (recsN n T0 (P.recs.take j) = recsN n T0 P.recs) := by show _ = _; rw [List.take_of_length_le (by have := HPR.out; omega)]
            rw [ET.out] at hxr
            have brr := br.fr hfr hx (by omega) (by decide) (by decide)
            clear x0 x1 x2
            generalize hTT : recsN n T0 P.recs = T at *
            have HTT : Hid (recsN n T0 P.recs = T) := hTT
            clear hTT
            obtain ⟨x0, x1, x2⟩ := hxr.box.cells3
            go_wp2_with (guard_target = wpList _ _ _ (Oper.mk _ (Op.store 25 (Operand.tmp 4) _) _ _ _ _ :: _) _ _; refine wpList_store_blk rfl 25 (.tmp 4) (.tmp 100) rfl _ _ [.slice p n c, .slice q n d, .int .i64 T.seq] rfl rfl brr (by simp) (msSize ⟨p, n, c, q, n, d⟩ T) (msOne ⟨p, n, c, q, n, d⟩ T) ?_; intro w9 h9 ht9)
            have h9' : Blk w9 (w.heap.size + 2) 25 (SV.cells ⟨p, n, c, q, n, d⟩ T) := h9
            refine ret_ms Try.results72 rfl h9' rfl ?_
            rw [HT0.out, HTT.out]
            exact ⟨rfl, hxr.own.turned ht9 (owns_blk_ne (by decide) hxr.own.b brr) (owns_blk_ne (by decide) hxr.own.v brr), (hfw.trans hfr).ofNew ht9 (by omega) (by omega)⟩
end Go.Proofs.Ytpikaagdiafieaa

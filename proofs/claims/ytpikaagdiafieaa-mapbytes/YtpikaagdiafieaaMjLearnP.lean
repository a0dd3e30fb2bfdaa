/-
  What a state learns of a page.
-/
import Derived.Test.YtpikaagdiafieaaMjPage
import Derived.Test.YtpikaagdiafieaaMjBlocksK
import Derived.Test.YtpikaagdiafieaaMjApply
namespace Go.Proofs.Ytpikaagdiafieaa
open Go.RowKit
theorem wrapN (q : Nat) (h : q ≤ 100000000) : IntKind.i64.wrap (q : Int) = (q : Int) := by rw [IntKind.wrap_i64]; omega
/-- What a state of n blocks learns of records: of those whose block there is. -/
def recsN (n : Nat) (s : MS) (l : List MR) : MS := l.foldl (fun t r => if r.block < (n : Int) then learnR t r else t) s
theorem recsN_snoc (n : Nat) (s : MS) (l : List MR) (r : MR) : recsN n s (l ++ [r]) = if r.block < (n : Int) then learnR (recsN n s l) r else recsN n s l := by simp [recsN]
/-- What a state of n blocks learns of a page. -/
def learnP (n : Nat) (s : MS) (P : MP) : MS :=
  if P.kind = 1 then ⟨upB s.bad (P.part * 64).toNat (min P.bad.length (n - (P.part * 64).toNat)) P.bad, upW s.wear (P.part * 64).toNat (min P.bad.length (n - (P.part * 64).toNat)) P.wear, max s.seq P.seq⟩
  else recsN n s P.recs
set_option linter.unusedSimpArgs false in
set_option maxRecDepth 100000 in
set_option maxHeartbeats 4000000 in
theorem learnPage_any (B g : Nat) (V : SV) (s : MS) (U : PV) (P : MP) (w : World) (h : BoxS B w g V s) (hV : V.m = V.n) (hB : B ≤ w.heap.size) (hok : okMP P = true) (hP : ∀ W, Below B w W → InP W U P) :
    Calls Try.prog 71 #[.pointer (some ⟨g, 0, none⟩), U.val P] w fun e w' => e = .returned (.tuple #[]) ∧ BoxS B w' g V (learnP V.n s P) ∧ Fr B g V w w' := by
  have hal := below_alloc w (.cells #[.int .i64 P.kind, .int .i64 P.gen, .int .i64 P.part, .int .i64 P.seq, .slice U.pb U.nb U.cb, .slice U.pw U.nw U.cw, .slice U.pr U.nr U.cr] 42)
  have bp : Blk _ _ _ (PV.cells U P) := Blk.new' w 42 #[.int .i64 P.kind, .int .i64 P.gen, .int .i64 P.part, .int .i64 P.seq, .slice U.pb U.nb U.cb, .slice U.pw U.nw U.cw, .slice U.pr U.nr U.cr]
  have hx := h.next hal
  have hbl : Fr B g V w _ := Fr.of_below hal hB
  have hgp : w.heap.size ≠ g := by have := h.box.lt; omega
  obtain ⟨z0, z1, z2, z3, z4, z5, z6⟩ := bp.cells7
  have HB : Hid (P.bad.length = U.nb) := (hP w (Below.refl _ _)).b.len
  have HW : Hid (P.wear.length = U.nw) := (hP w (Below.refl _ _)).v.len
  have HR : Hid (P.recs.length = U.nr) := (hP w (Below.refl _ _)).r.len
  have hrr : U.nr ≤ 140737488355328 := (hP w (Below.refl _ _)).r.room
  obtain ⟨hg, hk⟩ := okMP_iff.1 hok
  rcases hk with ⟨hk1, hp, hs, hn, hm, hww, hr⟩ | ⟨hk2, hp, hs, hn, hm, hr, hall⟩
  · have bk1 : (P.kind == 1) = true := by simpa using hk1
    obtain ⟨f, hf⟩ : ∃ f : Nat, P.part * 64 = (f : Int) := ⟨(P.part * 64).toNat, by omega⟩
    have hf1 : f ≤ 1000000 := by omega
    have hw1 : IntKind.i64.wrap (P.part * 64) = (f : Int) := by rw [hf]; exact wrapN f (by omega)
    have hw2 : wrap64 (P.part * 64) = (f : Int) := (IntWalk.i64_left _).symm.trans hw1
    have E : Hid (learnP V.n s P = ⟨upB s.bad f (min U.nb (V.n - f)) P.bad, upW s.wear f (min U.nb (V.n - f)) P.wear, max s.seq P.seq⟩) := by
      show _ = _
      unfold learnP
      rw [if_pos hk1, hf, Int.toNat_natCast, HB.out]
    have hnm : U.nw = U.nb := by rw [← HB.out, ← HW.out]; exact hm
    have hlb := learnBlocksK B g V s f U.pb U.nb U.cb P.bad U.pw U.cw P.wear _ hx hV hf1 (fun W hW => (hP W (hbl.bel.trans hW)).b) (fun W hW => by have := (hP W (hbl.bel.trans hW)).v; rwa [hnm] at this)
    obtain ⟨pb, nb, cb, pw, nw, cw, pr, nr, cr⟩ := U
    dsimp only at *
    subst hnm
    clear hk1 hf hP hok hn hm hp hs hr
    go_enter Try.func71, Try.ntmps71
    go_wp2_with (first
      | (go_at_call 47; refine hlb.mono ?_; rintro e W1 ⟨rfl, hx1, hb1⟩; have bp1 := bp.fr hb1 hx hgp (by decide) (by decide); obtain ⟨z0, z1, z2, z3, z4, z5, z6⟩ := bp1.cells7; clear hlb)
      | (go_at_call 48; refine (learnSeqK B g V _ P.seq W1 hx1).mono ?_; rintro e W2 ⟨rfl, hx2, hb2⟩))
    go_end0
    rw [E.out]
    exact ⟨rfl, hx2, (hbl.trans hb1).trans hb2⟩
  · have bk2 : (P.kind == 2) = true := by simpa using hk2
    have bk1 : (P.kind == 1) = false := by rw [beq_eq_false_iff_ne]; omega
    have E : Hid (learnP V.n s P = recsN V.n s P.recs) := by show _ = _; unfold learnP; rw [if_neg (by omega)]
    have HA : Hid (P.recs.all okMR = true) := hall
    have HN : Hid (P.recs.length ≤ 24) := hr
    have hfx : ∀ k, w.heap.size ≤ k → k ≠ g := fun k hk e => by have := h.box.lt; omega
    have HFX : Hid (∀ k, w.heap.size ≤ k → k ≠ g) := hfx
    obtain ⟨p, n0, c, q, n, d⟩ := V
    dsimp only at hV
    subst hV
    dsimp only at *
    clear hk2 hok hn hm hp hs hr hall hfx
    have hsz0 : w.heap.size + 1 ≤ (w.alloc (.cells #[.int .i64 P.kind, .int .i64 P.gen, .int .i64 P.part, .int .i64 P.seq, .slice U.pb U.nb U.cb, .slice U.pw U.nw U.cw, .slice U.pr U.nr U.cr] 42)).heap.size := by rw [World.size_alloc]; omega
    go_enter Try.func71, Try.ntmps71
    go_wp2
    go_loopw [28] (fun i wr => ∃ k : Nat, k ≤ U.nr ∧ i = .int .i64 k ∧ BoxS B wr g ⟨p, n, c, q, n, d⟩ (recsN n s (P.recs.take k)) ∧ Fr B g ⟨p, n, c, q, n, d⟩ w wr ∧ w.heap.size + 1 ≤ wr.heap.size) (fun i _ => U.nr - (intOf i).toNat)
    case atStart => exact ⟨0, Nat.zero_le _, rfl, hx, hbl, hsz0⟩
    case round =>
      obtain ⟨k, hkk, rfl, hxr, hfr, hszr⟩ := hrel
      by_cases hlt : k < U.nr
      · obtain ⟨gr, orr, hpr, hgr, hcr⟩ := (hP wr hfr.bel).r.at' (by omega)
        obtain ⟨r0, r1, r2⟩ := hcr k hlt
        clear hcr
        obtain ⟨pb, nb, cb, pw, nw, cw, pr, nr, cr⟩ := U
        dsimp only at *
        subst hpr
        have hokr := eR_all.1 HA.out k (by rw [HR.out]; exact hlt)
        have h0b := okMR_block hokr
        have ES : Hid (recsN n s (P.recs.take (k + 1)) = if (eR P.recs k).block < (n : Int) then learnR (recsN n s (P.recs.take k)) (eR P.recs k) else recsN n s (P.recs.take k)) := by
          show _ = _
          rw [takeR_succ P.recs k (by rw [HR.out]; exact hlt), recsN_snoc]
        have hx2 := hxr.next (below_alloc wr (.cells #[.int .i64 (eR P.recs k).kind, .int .i64 (eR P.recs k).block, .int .i64 (eR P.recs k).value] 65))
        have rb := Blk.new' wr 65 #[.int .i64 (eR P.recs k).kind, .int .i64 (eR P.recs k).block, .int .i64 (eR P.recs k).value]
        have hf2 : Fr B g ⟨p, n, c, q, n, d⟩ w _ := hfr.trans (Fr.of_below (below_alloc wr (.cells #[.int .i64 (eR P.recs k).kind, .int .i64 (eR P.recs k).block, .int .i64 (eR P.recs k).value] 65)) (by omega))
        have hs2 : w.heap.size + 1 ≤ (wr.alloc (.cells #[.int .i64 (eR P.recs k).kind, .int .i64 (eR P.recs k).block, .int .i64 (eR P.recs k).value] 65)).heap.size := by rw [World.size_alloc]; omega
        clear hokr z0 z1 z2 z3 z4 z5 z6 bp
        by_cases hin : (eR P.recs k).block < (n : Int)
        · have hin' : decide ((eR P.recs k).block < (n : Int)) = true := decide_eq_true hin
          rw [if_pos hin] at ES
          go_upto_region 9 with (fail)
          generalize hW2 : wr.alloc (.cells #[.int .i64 (eR P.recs k).kind, .int .i64 (eR P.recs k).block, .int .i64 (eR P.recs k).value] 65) = W2 at *
          clear hW2
          generalize wr.heap.size = grb at *
          refine wp_region_noPanic ?_
          refine wp_region_held_drew (S := Below W2.heap.size W2) (by kernel_rfl) (Below.refl _ _).drew (fun hHeld => ?_)
          refine wpAnyH_take (i := 0) (v := ?_) rfl (by kernel_rfl) (by kernel_rfl) (by kernel_rfl) (fun _ _ _ h => h) (Or.inl ⟨by rfl, ?_⟩) hHeld ?_
          rotate_left
          · intro w' hSw; try dsimp only at hSw
            go_simp; try (with_reducible rfl)
          try simp only [Act.put, List.getElem_toArray, List.getElem_cons_succ, List.getElem_cons_zero, List.setIfInBounds_toArray, List.set_cons_zero, List.set_cons_succ]
          refine wpAnyH_take (i := 1) (v := ?_) rfl (by kernel_rfl) (by kernel_rfl) (by kernel_rfl) (fun _ _ _ h => h) (Or.inl ⟨by rfl, ?_⟩) hHeld ?_
          rotate_left
          · intro w' hSw; try dsimp only at hSw
            go_simp; try (with_reducible rfl)
          try simp only [Act.put, List.getElem_toArray, List.getElem_cons_succ, List.getElem_cons_zero, List.setIfInBounds_toArray, List.set_cons_zero, List.set_cons_succ]
          refine wpAnyH_take (i := 2) (v := ?_) rfl (by kernel_rfl) (by kernel_rfl) (by kernel_rfl) (fun _ _ _ h => h) (Or.inl ⟨by rfl, ?_⟩) hHeld ?_
          rotate_left
          · intro w' hSw; try dsimp only at hSw
            obtain ⟨u0, u1, u2⟩ := (hx2.next hSw).box.cells3
            go_simp; try (with_reducible rfl)
          try simp only [Act.put, List.getElem_toArray, List.getElem_cons_succ, List.getElem_cons_zero, List.setIfInBounds_toArray, List.set_cons_zero, List.set_cons_succ]
          refine wpAnyH_take (i := 3) (v := ?_) rfl (by kernel_rfl) (by kernel_rfl) (by kernel_rfl) (fun _ _ _ h => h) (Or.inl ⟨by rfl, ?_⟩) hHeld ?_
          rotate_left
          · intro w' hSw; try dsimp only at hSw
            obtain ⟨u0, u1, u2⟩ := (rb.kept hSw).cellsR
            go_simp; try (with_reducible rfl)
          try simp only [Act.put, List.getElem_toArray, List.getElem_cons_succ, List.getElem_cons_zero, List.setIfInBounds_toArray, List.set_cons_zero, List.set_cons_succ]
          refine wpAnyH_ready (rs := [4]) (by kernel_rfl) (by simp) ?_
          refine AllReadyH.cons rfl (fun K hK => ?_) AllReadyH.nil
          go_simp
          refine (isOf_any ⟨p, n, c, q, n, d⟩ (recsN n s (P.recs.take k)) (eR P.recs k) _).mono ?_
          rintro e W4 ⟨rfl, hb4⟩
          dsimp only
          rw [hin']
          try go_wp2_with fail
          refine hK.out _ _ (bt hHeld hb4) (fun hHeld => ?_)
          clear hK K
          try simp only [Act.put, List.getElem_toArray, List.getElem_cons_succ, List.getElem_cons_zero, List.setIfInBounds_toArray, List.set_cons_zero, List.set_cons_succ]
          refine wpAnyH_done (by kernel_rfl) ?_ _
          refine NoPanic.normal ?_
          have hx5 := hx2.next hHeld
          have hf5 := hf2.trans (Fr.of_below (B := B) (g := g) (V := ⟨p, n, c, q, n, d⟩) hHeld (by omega))
          have rb5 := rb.kept hHeld
          have hs5 := Nat.le_trans hs2 hHeld.size
          obtain ⟨y0, y1, y2⟩ := rb5.cellsR
          go_wp2_with (go_at_call 58; refine (learnRecordK B g ⟨p, n, c, q, n, d⟩ _ (eR P.recs k) _ hx5 rfl (by omega) h0b hin).mono ?_; rintro e W6 ⟨rfl, hx6, hf6⟩)
          go_roundw
          case rel => exact ⟨k + 1, by omega, by go_num, by rw [ES.out]; exact hx6, hf5.trans hf6, Nat.le_trans hs5 hf6.bel.size⟩
          case measure => simp [intOf]; omega
        · have hin' : decide ((eR P.recs k).block < (n : Int)) = false := decide_eq_false hin
          rw [if_neg hin] at ES
          go_upto_region 9 with (fail)
          generalize hW2 : wr.alloc (.cells #[.int .i64 (eR P.recs k).kind, .int .i64 (eR P.recs k).block, .int .i64 (eR P.recs k).value] 65) = W2 at *
          clear hW2
          generalize wr.heap.size = grb at *
          refine wp_region_noPanic ?_
          refine wp_region_held_drew (S := Below W2.heap.size W2) (by kernel_rfl) (Below.refl _ _).drew (fun hHeld => ?_)
          refine wpAnyH_take (i := 0) (v := ?_) rfl (by kernel_rfl) (by kernel_rfl) (by kernel_rfl) (fun _ _ _ h => h) (Or.inl ⟨by rfl, ?_⟩) hHeld ?_
          rotate_left
          · intro w' hSw; try dsimp only at hSw
            go_simp; try (with_reducible rfl)
          try simp only [Act.put, List.getElem_toArray, List.getElem_cons_succ, List.getElem_cons_zero, List.setIfInBounds_toArray, List.set_cons_zero, List.set_cons_succ]
          refine wpAnyH_take (i := 1) (v := ?_) rfl (by kernel_rfl) (by kernel_rfl) (by kernel_rfl) (fun _ _ _ h => h) (Or.inl ⟨by rfl, ?_⟩) hHeld ?_
          rotate_left
          · intro w' hSw; try dsimp only at hSw
            go_simp; try (with_reducible rfl)
          try simp only [Act.put, List.getElem_toArray, List.getElem_cons_succ, List.getElem_cons_zero, List.setIfInBounds_toArray, List.set_cons_zero, List.set_cons_succ]
          refine wpAnyH_take (i := 2) (v := ?_) rfl (by kernel_rfl) (by kernel_rfl) (by kernel_rfl) (fun _ _ _ h => h) (Or.inl ⟨by rfl, ?_⟩) hHeld ?_
          rotate_left
          · intro w' hSw; try dsimp only at hSw
            obtain ⟨u0, u1, u2⟩ := (hx2.next hSw).box.cells3
            go_simp; try (with_reducible rfl)
          try simp only [Act.put, List.getElem_toArray, List.getElem_cons_succ, List.getElem_cons_zero, List.setIfInBounds_toArray, List.set_cons_zero, List.set_cons_succ]
          refine wpAnyH_take (i := 3) (v := ?_) rfl (by kernel_rfl) (by kernel_rfl) (by kernel_rfl) (fun _ _ _ h => h) (Or.inl ⟨by rfl, ?_⟩) hHeld ?_
          rotate_left
          · intro w' hSw; try dsimp only at hSw
            obtain ⟨u0, u1, u2⟩ := (rb.kept hSw).cellsR
            go_simp; try (with_reducible rfl)
          try simp only [Act.put, List.getElem_toArray, List.getElem_cons_succ, List.getElem_cons_zero, List.setIfInBounds_toArray, List.set_cons_zero, List.set_cons_succ]
          refine wpAnyH_ready (rs := [4]) (by kernel_rfl) (by simp) ?_
          refine AllReadyH.cons rfl (fun K hK => ?_) AllReadyH.nil
          go_simp
          refine (isOf_any ⟨p, n, c, q, n, d⟩ (recsN n s (P.recs.take k)) (eR P.recs k) _).mono ?_
          rintro e W4 ⟨rfl, hb4⟩
          dsimp only
          rw [hin']
          try go_wp2_with fail
          refine hK.out _ _ (bt hHeld hb4) (fun hHeld => ?_)
          clear hK K
          try simp only [Act.put, List.getElem_toArray, List.getElem_cons_succ, List.getElem_cons_zero, List.setIfInBounds_toArray, List.set_cons_zero, List.set_cons_succ]
          refine wpAnyH_done (by kernel_rfl) ?_ _
          refine NoPanic.normal ?_
          have hx5 := hx2.next hHeld
          have hf5 := hf2.trans (Fr.of_below (B := B) (g := g) (V := ⟨p, n, c, q, n, d⟩) hHeld (by omega))
          have hs5 := Nat.le_trans hs2 hHeld.size
          go_wp2
          go_roundw
          case rel => exact ⟨k + 1, by omega, by go_num, by rw [ES.out]; exact hx5, hf5, hs5⟩
          case measure => simp [intOf]; omega
      · go_wp2
        go_end0
        rw [E.out]
        have hkn : P.recs.take k = P.recs := List.take_of_length_le (by have := HR.out; omega)
        rw [hkn] at hxr
        exact ⟨rfl, hxr, hfr⟩
end Go.Proofs.Ytpikaagdiafieaa

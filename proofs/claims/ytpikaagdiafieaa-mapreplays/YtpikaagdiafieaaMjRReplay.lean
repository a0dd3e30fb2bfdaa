/-
  What the reference's Replay answers.
-/
import Derived.Test.YtpikaagdiafieaaMjKnow
import Derived.Test.YtpikaagdiafieaaMjRPage
import Derived.Test.YtpikaagdiafieaaMjReplay
import Derived.Test.YtpikaagdiafieaaMjRef1
namespace Go.Proofs.Ytpikaagdiafieaa
open Go.RowKit
theorem learnP_seq {n : Nat} {s : MS} {P : MP} (h : 0 ≤ s.seq) : 0 ≤ (learnP n s P).seq := by
  unfold learnP
  split
  · show 0 ≤ max s.seq P.seq; omega
  · unfold recsN
    generalize P.recs = l
    induction l generalizing s with
    | nil => exact h
    | cons r l ih =>
      rw [List.foldl_cons]
      apply ih
      split
      · have := (learnR_le s r).seq; omega
      · exact h
theorem replayP_seq (n : Nat) (l : List MP) : 0 ≤ (replayP n l).1.seq := by
  have key : ∀ (l : List MP) (t : MS × Int), 0 ≤ t.1.seq → 0 ≤ (l.foldl (stepP n) t).1.seq := by
    intro l
    induction l with
    | nil => intro t h; exact h
    | cons P l ih =>
      intro t h
      rw [List.foldl_cons]
      apply ih
      unfold stepP
      split
      · exact learnP_seq h
      · exact h
  exact key l _ (Int.le_refl _)
/-- The reference's know, of a page that may be. -/
theorem know_any (B : Nat) (p : Option Addr) (n c : Nat) (q : Option Addr) (d : Nat) (s : MS) (U : PV) (P : MP) (w : World) (h : OwnS B w ⟨p, n, c, q, n, d⟩ s) (hB : B ≤ w.heap.size) (hn : (n : Int) ≤ 256) (hs : 0 ≤ s.seq) (hok : okMP P = true) (hP : ∀ W, Below B w W → InP W U P) :
    Calls Try.prog 72 #[SV.val ⟨p, n, c, q, n, d⟩ s, PV.val U P] w fun e w' => e = .returned (SV.val ⟨p, n, c, q, n, d⟩ (learnP n s P)) ∧ OwnS B w' ⟨p, n, c, q, n, d⟩ (learnP n s P) ∧ Fr B w.heap.size ⟨p, n, c, q, n, d⟩ w w' := by
  obtain ⟨hg, hk⟩ := okMP_iff.1 hok
  have hpart : 0 ≤ P.part ∧ P.part ≤ 3 := by
    rcases hk with ⟨_, hp⟩ | ⟨_, hp⟩
    · exact hp.1
    · have := hp.1; omega
  have hlen : P.wear.length = P.bad.length ∧ P.bad.length ≤ 64 := by
    rcases hk with ⟨_, hp⟩ | ⟨_, hp⟩
    · exact ⟨hp.2.2.2.1, hp.2.2.1.2⟩
    · have h1 := hp.2.2.1
      have h2 := hp.2.2.2.1
      omega
  have hrec : ∀ r ∈ P.recs, okMR r = true := by
    rcases hk with ⟨_, hp⟩ | ⟨_, hp⟩
    · rw [List.eq_nil_of_length_eq_zero hp.2.2.2.2.2]; simp
    · exact List.all_eq_true.1 hp.2.2.2.2.2
  obtain ⟨f, hf⟩ : ∃ f : Nat, P.part * 64 = (f : Int) := ⟨(P.part * 64).toNat, by omega⟩
  have l1 := (hP w (Below.refl _ _)).b.len
  have l2 := (hP w (Below.refl _ _)).v.len
  obtain ⟨pb, nb, cb, pw, nw, cw, pr, nr, cr⟩ := U
  dsimp only at l1 l2
  obtain rfl : nb = nw := by omega
  have := know_raw B p n c q d s pb nb cb pw cw pr nr cr P f w h hB hf (by omega) (by omega) (by omega) hrec hP
  rw [← l1, know_learn h.inS.b.len h.inS.v.len hs hok hf, l1] at this
  exact this
set_option linter.unusedSimpArgs false in
set_option maxRecDepth 100000 in
set_option maxHeartbeats 4000000 in
theorem rreplay_any (i : Int) (pl : Option Addr) (N c' : Nat) (f : Nat → PV) (l : List MP) (w : World) (hl : InPs w pl N c' f l) :
    Calls Try.prog 40 #[.int .i64 i, .slice pl N c'] w (ResG w (replayR i l)) := by
  have r0 := Blk.new' w 25 #[.slice none 0 0, .slice none 0 0, .int .i64 0]
  have hb0 := below_alloc w (.cells #[.slice none 0 0, .slice none 0 0, .int .i64 0] 25)
  have hnew := rnew_any i (w.alloc (.cells #[.slice none 0 0, .slice none 0 0, .int .i64 0] 25))
  by_cases hi : 16 ≤ i ∧ i ≤ 256
  · obtain ⟨n, rfl⟩ : ∃ n : Nat, i = (n : Int) := ⟨i.toNat, by omega⟩
    rw [newR_yes hi, Int.toNat_natCast] at hnew
    have HLl : Hid (l.length = N) := hl.len
    have hN : N ≤ 140737488355328 := hl.room
    have E : Hid (replayR (n : Int) l = ((replayP n l).1, (replayP n l).2, 0)) := by show _ = _; unfold replayR; rw [if_pos hi, Int.toNat_natCast]
    go_enter Try.func40, Try.ntmps40
    go_wp2_with (go_at_call 10; refine hnew.mono ?_; rintro e w1 ⟨V1, rfl, ho1, hb1⟩; have hv1 : n = V1.n := by { have := ho1.inS.b.len; simpa [newMS] using this }; have hv2 : n = V1.m := by { have := ho1.inS.v.len; simpa [newMS] using this }; obtain ⟨p2, n2, c2, q2, m2, d2⟩ := V1; dsimp only at hv1 hv2; subst hv1; subst hv2; dsimp only; clear hnew)
    have hB1 := bt hb0 hb1
    replace r0 := r0.kept hb1
    have hlow : w.heap.size < w1.heap.size := r0.lt
    have hal := below_alloc w1 (.cells #[.slice p2 n c2, .slice q2 n d2, .int .i64 (newMS n).seq] 25)
    have bx : BoxS (w.heap.size + 1) (w1.alloc (.cells #[.slice p2 n c2, .slice q2 n d2, .int .i64 (newMS n).seq] 25)) w1.heap.size ⟨p2, n, c2, q2, n, d2⟩ (newMS n) := ⟨Blk.new' w1 25 #[.slice p2 n c2, .slice q2 n d2, .int .i64 (newMS n).seq], (ho1.next hal).low (by rw [World.size_alloc]; exact Nat.le_refl _), hlow⟩
    have hbe : Below (w.heap.size + 1) w1 (w1.alloc (.cells #[.slice p2 n c2, .slice q2 n d2, .int .i64 (newMS n).seq] 25)) := hal.mono hlow
    have hsza : w1.heap.size + 1 ≤ (w1.alloc (.cells #[.slice p2 n c2, .slice q2 n d2, .int .i64 (newMS n).seq] 25)).heap.size := by rw [World.size_alloc]; exact Nat.le_refl _
    clear hb0 hb1 ho1 hal
    go_loopw [9, 10] (fun gv i wr => ∃ k : Nat, k ≤ N ∧ i = .int .i64 k ∧ gv = .int .i64 (replayP n (l.take k)).2 ∧ BoxS (w.heap.size + 1) wr w1.heap.size ⟨p2, n, c2, q2, n, d2⟩ (replayP n (l.take k)).1 ∧ Below (w.heap.size + 1) w1 wr ∧ w1.heap.size + 1 ≤ wr.heap.size) (fun _ i _ => N - (intOf i).toNat)
    case atStart => exact ⟨0, Nat.zero_le _, rfl, rfl, bx, hbe, hsza⟩
    case round =>
      obtain ⟨k, hk, rfl, rfl, hx, hbel, hszr⟩ := hrel
      clear bx hbe hsza
      have hBr : Below w.heap.size w wr := hB1.trans (hbel.mono (by omega))
      by_cases hlt : k < N
      · obtain ⟨gr, orr, rfl, hgr, hcr⟩ := (hl.below hBr).at' (by omega)
        have hcells := hcr k hlt
        have a0 := hcells 0 _ rfl
        have a1 := hcells 1 _ rfl
        have a2 := hcells 2 _ rfl
        have a3 := hcells 3 _ rfl
        have a4 := hcells 4 _ rfl
        have a5 := hcells 5 _ rfl
        have a6 := hcells 6 _ rfl
        simp only [Nat.add_zero] at a0
        clear hcr hcells
        have hPin := fun W (hW : Below w.heap.size w W) => (hl.below hW).each k hlt
        have EK : Hid (replayP n (l.take (k + 1)) = stepP n (replayP n (l.take k)) (eP l k)) := by show _ = _; rw [takeP_succ l k (by rw [HLl.out]; exact hlt), replayP_snoc]
        have HC : Hid (∀ X, Below w.heap.size w X → X.cell? ⟨gr, orr + k * 7, none⟩ = some (.int .i64 (eP l k).kind) ∧ X.cell? ⟨gr, orr + k * 7 + 1, none⟩ = some (.int .i64 (eP l k).gen) ∧ X.cell? ⟨gr, orr + k * 7 + 2, none⟩ = some (.int .i64 (eP l k).part) ∧ X.cell? ⟨gr, orr + k * 7 + 3, none⟩ = some (.int .i64 (eP l k).seq) ∧ X.cell? ⟨gr, orr + k * 7 + 4, none⟩ = some (.slice (f k).pb (f k).nb (f k).cb) ∧ X.cell? ⟨gr, orr + k * 7 + 5, none⟩ = some (.slice (f k).pw (f k).nw (f k).cw) ∧ X.cell? ⟨gr, orr + k * 7 + 6, none⟩ = some (.slice (f k).pr (f k).nr (f k).cr)) := fun X hX => by
          obtain ⟨b1, o1, e1, _, k1⟩ := (hl.below hX).at' (by omega)
          cases e1
          exact ⟨k1 k hlt 0 _ rfl, k1 k hlt 1 _ rfl, k1 k hlt 2 _ rfl, k1 k hlt 3 _ rfl, k1 k hlt 4 _ rfl, k1 k hlt 5 _ rfl, k1 k hlt 6 _ rfl⟩
        cases hok : okMP (eP l k) with
        | false =>
          have ES : Hid (stepP n (replayP n (l.take k)) (eP l k) = replayP n (l.take k)) := by show _ = _; unfold stepP; rw [hok]; rfl
          go_wp2_with (go_at_call 67; refine (rpage_any (f k) (eP l k) _ (hPin _ hBr)).mono ?_; rw [hok]; rintro e w4 ⟨rfl, hb4⟩)
          go_roundw
          case rel => exact ⟨k + 1, by omega, by go_num, by rw [EK.out, ES.out], by rw [EK.out, ES.out]; exact hx.next hb4, hbel.trans (hb4.mono (by omega)), Nat.le_trans hszr hb4.size⟩
          case measure => simp [intOf]; omega
        | true =>
          have ES1 : Hid ((stepP n (replayP n (l.take k)) (eP l k)).1 = learnP n (replayP n (l.take k)).1 (eP l k)) := by show _ = _; unfold stepP; rw [hok]; rfl
          have ES2 : Hid ((stepP n (replayP n (l.take k)) (eP l k)).2 = max (replayP n (l.take k)).2 (eP l k).gen) := by show _ = _; unfold stepP; rw [hok]; rfl
          have HOK : Hid (okMP (eP l k) = true) := hok
          have hseq := replayP_seq n (l.take k)
          have hknow := fun X (h1 : OwnS (w.heap.size + 1) X ⟨p2, n, c2, q2, n, d2⟩ (replayP n (l.take k)).1) h2 h3 => know_any (w.heap.size + 1) p2 n c2 q2 d2 (replayP n (l.take k)).1 (f k) (eP l k) X h1 h2 hi.2 hseq HOK.out h3
          have HK : Hid (learnP n (replayP n (l.take k)).1 (eP l k) = learnP n (replayP n (l.take k)).1 (eP l k)) := rfl
          clear hseq
          by_cases hgt : (eP l k).gen > (replayP n (l.take k)).2
          · have EM : Hid (max (replayP n (l.take k)).2 (eP l k).gen = (eP l k).gen) := Int.max_eq_right (by omega)
            clear hok HK
            generalize (replayP n (l.take k)).1 = T at *
            go_upto_region 9 with (go_at_call 67; refine (rpage_any (f k) (eP l k) _ (hPin _ hBr)).mono ?_; rw [HOK.out]; rintro e w4 ⟨rfl, hb4⟩; have hx4 := hx.next hb4; have hB4 := bt hBr hb4; have hb5 := hbel.trans (hb4.mono (by omega)); have hs4 := Nat.le_trans hszr hb4.size)
            clear a0 a1 a2 a3 a4 a5 a6
            refine wp_region_noPanic ?_
            refine wp_region_held_drew (S := Below w.heap.size w) (by kernel_rfl) hB4.drew (fun hHeld => ?_)
            refine wpAnyH_take (i := 1) (v := ?_) rfl (by kernel_rfl) (by kernel_rfl) (by kernel_rfl) (fun _ _ _ h => h) (Or.inl ⟨by rfl, ?_⟩) hHeld ?_
            rotate_left
            · intro w' hSw; try dsimp only at hSw
              go_simp; try (with_reducible rfl)
            try simp only [Act.put, List.getElem_toArray, List.getElem_cons_succ, List.getElem_cons_zero, List.setIfInBounds_toArray, List.set_cons_zero, List.set_cons_succ]
            refine wpAnyH_take (i := 2) (v := ?_) rfl (by kernel_rfl) (by kernel_rfl) (by kernel_rfl) (fun _ _ _ h => h) (Or.inl ⟨by rfl, ?_⟩) hHeld ?_
            rotate_left
            · intro w' hSw; try dsimp only at hSw
              go_simp; try (with_reducible rfl)
            try simp only [Act.put, List.getElem_toArray, List.getElem_cons_succ, List.getElem_cons_zero, List.setIfInBounds_toArray, List.set_cons_zero, List.set_cons_succ]
            refine wpAnyH_take (i := 3) (v := ?_) rfl (by kernel_rfl) (by kernel_rfl) (by kernel_rfl) (fun _ _ _ h => h) (Or.inl ⟨by rfl, ?_⟩) hHeld ?_
            rotate_left
            · intro w' hSw; try dsimp only at hSw
              go_simp; try (with_reducible rfl)
            try simp only [Act.put, List.getElem_toArray, List.getElem_cons_succ, List.getElem_cons_zero, List.setIfInBounds_toArray, List.set_cons_zero, List.set_cons_succ]
            refine wpAnyH_take (i := 4) (v := ?_) rfl (by kernel_rfl) (by kernel_rfl) (by kernel_rfl) (fun _ _ _ h => h) (Or.inl ⟨by rfl, ?_⟩) hHeld ?_
            rotate_left
            · intro w' hSw; try dsimp only at hSw
              have hcs := HC.out _ hSw
              obtain ⟨s0, s1, s2, s3, s4, s5, s6⟩ := hcs
              go_simp; try (with_reducible rfl)
            try simp only [Act.put, List.getElem_toArray, List.getElem_cons_succ, List.getElem_cons_zero, List.setIfInBounds_toArray, List.set_cons_zero, List.set_cons_succ]
            refine wpAnyH_ready (rs := [0]) (by kernel_rfl) (by simp) ?_
            refine AllReadyH.cons rfl (fun K hK => ?_) AllReadyH.nil
            obtain ⟨u0, u1, u2⟩ := hx4.drew.box.cells3
            go_simp
            refine hK.out _ _ hHeld (fun hHeld => ?_)
            clear hK K
            try simp only [Act.put, List.getElem_toArray, List.getElem_cons_succ, List.getElem_cons_zero, List.setIfInBounds_toArray, List.set_cons_zero, List.set_cons_succ]
            refine wpAnyH_ready (rs := [5]) (by kernel_rfl) (by simp) ?_
            refine AllReadyH.cons rfl (fun K hK => ?_) AllReadyH.nil
            go_simp
            refine (hknow _ hx4.drew.own (by show w.heap.size + 1 ≤ w4.heap.size; omega) (fun X hX => hPin X (hB4.drew.trans (hX.mono (by omega))))).mono ?_
            rintro e w6 ⟨rfl, hx6, hf6⟩
            try go_wp2_with fail
            refine hK.out _ _ (hHeld.trans (hf6.bel.mono (by omega))) (fun hHeld => ?_)
            clear hK K
            try simp only [Act.put, List.getElem_toArray, List.getElem_cons_succ, List.getElem_cons_zero, List.setIfInBounds_toArray, List.set_cons_zero, List.set_cons_succ]
            refine wpAnyH_ready (rs := [6]) (by kernel_rfl) (by simp) ?_
            refine AllReadyH.cons rfl (fun K hK => ?_) AllReadyH.nil
            have hbx6 := hx4.drew.box.frK hf6 hx4.drew.own (by decide) (by decide)
            rw [if_pos (by rfl)]
            refine wp_store_blk 25 (.tmp 7) _ rfl _ _ [.slice p2 n c2, .slice q2 n d2, .int .i64 (learnP n T (eP l k)).seq] rfl rfl hbx6 (by exact Nat.le_refl _) (msSize ⟨p2, n, c2, q2, n, d2⟩ (learnP n T (eP l k))) (msOne ⟨p2, n, c2, q2, n, d2⟩ (learnP n T (eP l k))) ?_
            intro w7 h7 ht7
            refine hK.out _ _ (ht7.below hHeld (by omega)) (fun hHeld => ?_)
            clear hK K
            try simp only [Act.put, List.getElem_toArray, List.getElem_cons_succ, List.getElem_cons_zero, List.setIfInBounds_toArray, List.set_cons_zero, List.set_cons_succ]
            refine wpAnyH_done (by kernel_rfl) ?_ _
            refine NoPanic.normal ?_
            replace h7 : Blk w7 w1.heap.size 25 (SV.cells ⟨p2, n, c2, q2, n, d2⟩ (learnP n T (eP l k))) := h7
            have hx7 : BoxS (w.heap.size + 1) w7 w1.heap.size ⟨p2, n, c2, q2, n, d2⟩ (learnP n T (eP l k)) := ⟨h7, hx6.turned ht7 (owns_blk_ne (by decide) hx6.b hbx6) (owns_blk_ne (by decide) hx6.v hbx6), hlow⟩
            have hb7 : Below (w.heap.size + 1) w1 w7 := ht7.below (hb5.drew.trans hf6.bel) hlow
            have hB7 : Below w.heap.size w w7 := hHeld
            have hs7 : w1.heap.size + 1 ≤ w7.heap.size := by rw [ht7.size]; exact Nat.le_trans hs4 hf6.bel.size
            obtain ⟨s0, s1, s2, s3, s4, s5, s6⟩ := HC.out _ hB7
            go_wp2
            go_roundw
            case rel => exact ⟨k + 1, by omega, by go_num, by rw [EK.out, ES2.out, EM.out], by rw [EK.out, ES1.out]; exact hx7, hb7, hs7⟩
            case measure => simp [intOf]; omega
          · have EM : Hid (max (replayP n (l.take k)).2 (eP l k).gen = (replayP n (l.take k)).2) := Int.max_eq_left (by omega)
            clear hok HK
            generalize (replayP n (l.take k)).1 = T at *
            go_upto_region 9 with (go_at_call 67; refine (rpage_any (f k) (eP l k) _ (hPin _ hBr)).mono ?_; rw [HOK.out]; rintro e w4 ⟨rfl, hb4⟩; have hx4 := hx.next hb4; have hB4 := bt hBr hb4; have hb5 := hbel.trans (hb4.mono (by omega)); have hs4 := Nat.le_trans hszr hb4.size)
            clear a0 a1 a2 a3 a4 a5 a6
            refine wp_region_noPanic ?_
            refine wp_region_held_drew (S := Below w.heap.size w) (by kernel_rfl) hB4.drew (fun hHeld => ?_)
            refine wpAnyH_take (i := 1) (v := ?_) rfl (by kernel_rfl) (by kernel_rfl) (by kernel_rfl) (fun _ _ _ h => h) (Or.inl ⟨by rfl, ?_⟩) hHeld ?_
            rotate_left
            · intro w' hSw; try dsimp only at hSw
              go_simp; try (with_reducible rfl)
            try simp only [Act.put, List.getElem_toArray, List.getElem_cons_succ, List.getElem_cons_zero, List.setIfInBounds_toArray, List.set_cons_zero, List.set_cons_succ]
            refine wpAnyH_take (i := 2) (v := ?_) rfl (by kernel_rfl) (by kernel_rfl) (by kernel_rfl) (fun _ _ _ h => h) (Or.inl ⟨by rfl, ?_⟩) hHeld ?_
            rotate_left
            · intro w' hSw; try dsimp only at hSw
              go_simp; try (with_reducible rfl)
            try simp only [Act.put, List.getElem_toArray, List.getElem_cons_succ, List.getElem_cons_zero, List.setIfInBounds_toArray, List.set_cons_zero, List.set_cons_succ]
            refine wpAnyH_take (i := 3) (v := ?_) rfl (by kernel_rfl) (by kernel_rfl) (by kernel_rfl) (fun _ _ _ h => h) (Or.inl ⟨by rfl, ?_⟩) hHeld ?_
            rotate_left
            · intro w' hSw; try dsimp only at hSw
              go_simp; try (with_reducible rfl)
            try simp only [Act.put, List.getElem_toArray, List.getElem_cons_succ, List.getElem_cons_zero, List.setIfInBounds_toArray, List.set_cons_zero, List.set_cons_succ]
            refine wpAnyH_take (i := 4) (v := ?_) rfl (by kernel_rfl) (by kernel_rfl) (by kernel_rfl) (fun _ _ _ h => h) (Or.inl ⟨by rfl, ?_⟩) hHeld ?_
            rotate_left
            · intro w' hSw; try dsimp only at hSw
              have hcs := HC.out _ hSw
              obtain ⟨s0, s1, s2, s3, s4, s5, s6⟩ := hcs
              go_simp; try (with_reducible rfl)
            try simp only [Act.put, List.getElem_toArray, List.getElem_cons_succ, List.getElem_cons_zero, List.setIfInBounds_toArray, List.set_cons_zero, List.set_cons_succ]
            refine wpAnyH_ready (rs := [0]) (by kernel_rfl) (by simp) ?_
            refine AllReadyH.cons rfl (fun K hK => ?_) AllReadyH.nil
            obtain ⟨u0, u1, u2⟩ := hx4.drew.box.cells3
            go_simp
            refine hK.out _ _ hHeld (fun hHeld => ?_)
            clear hK K
            try simp only [Act.put, List.getElem_toArray, List.getElem_cons_succ, List.getElem_cons_zero, List.setIfInBounds_toArray, List.set_cons_zero, List.set_cons_succ]
            refine wpAnyH_ready (rs := [5]) (by kernel_rfl) (by simp) ?_
            refine AllReadyH.cons rfl (fun K hK => ?_) AllReadyH.nil
            go_simp
            refine (hknow _ hx4.drew.own (by show w.heap.size + 1 ≤ w4.heap.size; omega) (fun X hX => hPin X (hB4.drew.trans (hX.mono (by omega))))).mono ?_
            rintro e w6 ⟨rfl, hx6, hf6⟩
            try go_wp2_with fail
            refine hK.out _ _ (hHeld.trans (hf6.bel.mono (by omega))) (fun hHeld => ?_)
            clear hK K
            try simp only [Act.put, List.getElem_toArray, List.getElem_cons_succ, List.getElem_cons_zero, List.setIfInBounds_toArray, List.set_cons_zero, List.set_cons_succ]
            refine wpAnyH_ready (rs := [6]) (by kernel_rfl) (by simp) ?_
            refine AllReadyH.cons rfl (fun K hK => ?_) AllReadyH.nil
            have hbx6 := hx4.drew.box.frK hf6 hx4.drew.own (by decide) (by decide)
            rw [if_pos (by rfl)]
            refine wp_store_blk 25 (.tmp 7) _ rfl _ _ [.slice p2 n c2, .slice q2 n d2, .int .i64 (learnP n T (eP l k)).seq] rfl rfl hbx6 (by exact Nat.le_refl _) (msSize ⟨p2, n, c2, q2, n, d2⟩ (learnP n T (eP l k))) (msOne ⟨p2, n, c2, q2, n, d2⟩ (learnP n T (eP l k))) ?_
            intro w7 h7 ht7
            refine hK.out _ _ (ht7.below hHeld (by omega)) (fun hHeld => ?_)
            clear hK K
            try simp only [Act.put, List.getElem_toArray, List.getElem_cons_succ, List.getElem_cons_zero, List.setIfInBounds_toArray, List.set_cons_zero, List.set_cons_succ]
            refine wpAnyH_done (by kernel_rfl) ?_ _
            refine NoPanic.normal ?_
            replace h7 : Blk w7 w1.heap.size 25 (SV.cells ⟨p2, n, c2, q2, n, d2⟩ (learnP n T (eP l k))) := h7
            have hx7 : BoxS (w.heap.size + 1) w7 w1.heap.size ⟨p2, n, c2, q2, n, d2⟩ (learnP n T (eP l k)) := ⟨h7, hx6.turned ht7 (owns_blk_ne (by decide) hx6.b hbx6) (owns_blk_ne (by decide) hx6.v hbx6), hlow⟩
            have hb7 : Below (w.heap.size + 1) w1 w7 := ht7.below (hb5.drew.trans hf6.bel) hlow
            have hB7 : Below w.heap.size w w7 := hHeld
            have hs7 : w1.heap.size + 1 ≤ w7.heap.size := by rw [ht7.size]; exact Nat.le_trans hs4 hf6.bel.size
            obtain ⟨s0, s1, s2, s3, s4, s5, s6⟩ := HC.out _ hB7
            go_wp2
            go_roundw
            case rel => exact ⟨k + 1, by omega, by go_num, by rw [EK.out, ES2.out, EM.out], by rw [EK.out, ES1.out]; exact hx7, hb7, hs7⟩
            case measure => simp [intOf]; omega
      · have hkN : k = N := by omega
        have ET : Hid (l.take k = l) := List.take_of_length_le (by have := HLl.out; omega)
        clear hkN
        rw [ET.out] at hx ⊢
        have r5 := r0.below hbel (by omega)
        obtain ⟨y0, y1, y2⟩ := hx.box.cells3
        go_wp2_with (guard_target = wpList _ _ _ (Oper.mk _ (Op.store 25 (Operand.tmp 4) _) _ _ _ _ :: _) _ _; refine wpList_store_blk rfl 25 (.tmp 4) (.tmp 44) rfl _ _ [.slice p2 n c2, .slice q2 n d2, .int .i64 (replayP n l).1.seq] rfl rfl r5 (by simp) (msSize ⟨p2, n, c2, q2, n, d2⟩ (replayP n l).1) (msOne ⟨p2, n, c2, q2, n, d2⟩ (replayP n l).1) ?_; intro w9 h9 ht9)
        have h9' : Blk w9 w.heap.size 25 (SV.cells ⟨p2, n, c2, q2, n, d2⟩ (replayP n l).1) := h9
        refine ret_ms3 Try.results40 rfl h9' rfl rfl rfl ?_
        rw [E.out]
        exact ⟨_, rfl, (hx.own.turned ht9 (owns_blk_ne (by decide) hx.own.b r5) (owns_blk_ne (by decide) hx.own.v r5)).low (by omega), ht9.below hBr (Nat.le_refl _)⟩
  · rw [newR_no hi] at hnew
    have E : Hid (replayR i l = (MS.zero, 0, 20)) := by show _ = _; unfold replayR; rw [if_neg hi]
    clear hi
    go_enter Try.func40, Try.ntmps40
    go_wp2_with (first
      | (go_at_call 10; refine hnew.mono ?_; rintro e w1 ⟨V1, rfl, ho1, hb1⟩; have hB1 := bt (bt hb0 hb1) (below_alloc w1 (.cells #[.slice V1.p V1.n V1.c, .slice V1.q V1.m V1.d, .int .i64 MS.zero.seq] 25)); have r1 := (r0.kept hb1).kept (below_alloc w1 (.cells #[.slice V1.p V1.n V1.c, .slice V1.q V1.m V1.d, .int .i64 MS.zero.seq] 25)); dsimp only; clear hnew)
      | (guard_target = wpList _ _ _ (Oper.mk _ (Op.store 25 (Operand.tmp 4) _) _ _ _ _ :: _) _ _; refine wpList_store_blk rfl 25 (.tmp 4) (.tmp 18) rfl _ _ [.slice none 0 0, .slice none 0 0, .int .i64 0] rfl rfl r1 (by simp) (msSize ⟨none, 0, 0, none, 0, 0⟩ MS.zero) (msOne ⟨none, 0, 0, none, 0, 0⟩ MS.zero) ?_; intro w9 h9 ht9))
    have h9' : Blk w9 w.heap.size 25 (SV.cells ⟨none, 0, 0, none, 0, 0⟩ MS.zero) := h9
    refine ret_ms3 Try.results40 rfl h9' rfl rfl rfl ?_
    rw [E.out]
    exact ⟨_, rfl, ownS_zero _ _, ht9.below hB1 (Nat.le_refl _)⟩
end Go.Proofs.Ytpikaagdiafieaa

/-
  Slices of pages; what Replay answers.
-/
import Derived.Test.YtpikaagdiafieaaMjLearnP
import Derived.Test.YtpikaagdiafieaaMjBegun
namespace Go.Proofs.Ytpikaagdiafieaa
open Go.RowKit
def eP (l : List MP) (i : Nat) : MP := l.getD i ⟨0, 0, 0, 0, [], [], []⟩
/-- A slice of pages that lies in a world; f tells where the pages' rows lie. -/
structure InPs (w : World) (p : Option Addr) (n c : Nat) (f : Nat → PV) (l : List MP) : Prop where
  len : l.length = n
  cap : n ≤ c
  max : c ≤ maxLen
  room : n ≤ 140737488355328
  at' : 0 < n → ∃ b o, p = some ⟨b, o, none⟩ ∧ b < w.heap.size ∧ ∀ i, i < n → ∀ j u, ((f i).cells (eP l i))[j]? = some u → w.cell? ⟨b, o + i * 7 + j, none⟩ = some u
  each : ∀ i, i < n → InP w (f i) (eP l i)
  nil : p = none → c = 0
theorem InPs.below {w w' p n c f l} (h : InPs w p n c f l) (hb : Below w.heap.size w w') : InPs w' p n c f l :=
  ⟨h.len, h.cap, h.max, h.room, fun h0 => by
    obtain ⟨b, o, hp, hlt, hc⟩ := h.at' h0
    exact ⟨b, o, hp, Nat.lt_of_lt_of_le hlt hb.size, fun i hi j u hu => (hb.cell (p := ⟨b, o + i * 7 + j, none⟩) hlt).trans (hc i hi j u hu)⟩, fun i hi => (h.each i hi).below hb, h.nil⟩
theorem takeP_succ (l : List MP) (k : Nat) (h : k < l.length) : l.take (k + 1) = l.take k ++ [eP l k] := by
  rw [List.take_succ_eq_append_getElem h]; simp [eP, h]
/-- One page more. -/
def stepP (n : Nat) (t : MS × Int) (P : MP) : MS × Int := if okMP P then (learnP n t.1 P, max t.2 P.gen) else t
def replayP (n : Nat) (l : List MP) : MS × Int := l.foldl (stepP n) (newMS n, 0)
theorem replayP_snoc (n : Nat) (l : List MP) (P : MP) : replayP n (l ++ [P]) = stepP n (replayP n l) P := by simp [replayP]
/-- What Replay answers. -/
def replayR (i : Int) (l : List MP) : MS × Int × Int := if 16 ≤ i ∧ i ≤ 256 then ((replayP i.toNat l).1, (replayP i.toNat l).2, 0) else (MS.zero, 0, 20)
/-- A state, a number and an error, in new memory. -/
def ResG (w : World) (r : MS × Int × Int) (e : Ending) (w' : World) : Prop := ∃ V : SV, e = .returned (.tuple #[V.val r.1, .int .i64 r.2.1, .int .i64 r.2.2]) ∧ OwnS w.heap.size w' V r.1 ∧ Below w.heap.size w w'
theorem results_cell_tmp2 {fn : Func} {p u v : Tmp} {ty : TypeId} (h : fn.results = #[.cell p ty, .tmp u, .tmp v]) (tmps : Array Value) (P : Program) (w : World) :
    (results fn tmps).run P w =
      ((asAddr (tmps.getD p undef)).run P w).andThen fun a w₁ => ((loadVar ty a).run P w₁).andThen fun x w₂ => .ok (.tuple #[x, tmps.getD u undef, tmps.getD v undef]) w₂ := by
  simp only [results, h]
  simp [Sem.run_bind, Result.andThen]
theorem ret_ms3 {fn : Func} {p u v : Tmp} (h : fn.results = #[.cell p 25, .tmp u, .tmp v]) {R : Ending → World → Prop} {a : Act} {w : World} {g : Nat} {t : TypeId} {V : SV} {s : MS} {x y : Value} (hp : a.tmps.getD p undef = .pointer (some ⟨g, 0, none⟩))
    (hb : Blk w g t (V.cells s)) (hd : a.defers = []) (hu : a.tmps.getD u undef = x) (hv : a.tmps.getD v undef = y) (hR : R (.returned (.tuple #[V.val s, x, y])) w) : bodyPost Try.prog fn R .ret a w := by
  refine bodyPost_ret (v := .tuple #[V.val s, x, y]) ?_ hd hR
  rw [results_cell_tmp2 h, hp, hu, hv]
  have := run_loadVar_mid w g 0 25 (V.cells s) _ (hb.range 0 3 _ rfl) Try.underlying25 rfl (by kernel_rfl)
  simp only [asAddr, Sem.run_pure, Result.andThen_ok, this]
  rfl
theorem newR_yes {i : Int} (h : 16 ≤ i ∧ i ≤ 256) : newR i = (newMS i.toNat, 0) := by unfold newR; rw [if_pos h]
theorem newR_no {i : Int} (h : ¬ (16 ≤ i ∧ i ≤ 256)) : newR i = (MS.zero, 20) := by unfold newR; rw [if_neg h]
set_option linter.unusedSimpArgs false in
set_option maxRecDepth 100000 in
set_option maxHeartbeats 4000000 in
theorem replay_any (i : Int) (pl : Option Addr) (N c' : Nat) (f : Nat → PV) (l : List MP) (w : World) (hl : InPs w pl N c' f l) :
    Calls Try.prog 39 #[.int .i64 i, .slice pl N c'] w (ResG w (replayR i l)) := by
  have r0 := Blk.new' w 25 #[.slice none 0 0, .slice none 0 0, .int .i64 0]
  have hb0 := below_alloc w (.cells #[.slice none 0 0, .slice none 0 0, .int .i64 0] 25)
  have hnew := new_any i (w.alloc (.cells #[.slice none 0 0, .slice none 0 0, .int .i64 0] 25))
  by_cases hi : 16 ≤ i ∧ i ≤ 256
  · obtain ⟨n, rfl⟩ : ∃ n : Nat, i = (n : Int) := ⟨i.toNat, by omega⟩
    rw [newR_yes hi, Int.toNat_natCast] at hnew
    have HLl : Hid (l.length = N) := hl.len
    have hN : N ≤ 140737488355328 := hl.room
    have E : Hid (replayR (n : Int) l = ((replayP n l).1, (replayP n l).2, 0)) := by show _ = _; unfold replayR; rw [if_pos hi, Int.toNat_natCast]
    go_enter Try.func39, Try.ntmps39
    go_wp2_with (go_at_call 9; refine hnew.mono ?_; rintro e w1 ⟨V1, rfl, ho1, hb1⟩; have hv1 : n = V1.n := by { have := ho1.inS.b.len; simpa [newMS] using this }; have hv2 : n = V1.m := by { have := ho1.inS.v.len; simpa [newMS] using this }; obtain ⟨p2, n2, c2, q2, m2, d2⟩ := V1; dsimp only at hv1 hv2; subst hv1; subst hv2; dsimp only; clear hnew)
    have hB1 := bt hb0 hb1
    replace r0 := r0.kept hb1
    have hlow : w.heap.size < w1.heap.size := r0.lt
    have hal := below_alloc w1 (.cells #[.slice p2 n c2, .slice q2 n d2, .int .i64 (newMS n).seq] 25)
    have bx : BoxS (w.heap.size + 1) (w1.alloc (.cells #[.slice p2 n c2, .slice q2 n d2, .int .i64 (newMS n).seq] 25)) w1.heap.size ⟨p2, n, c2, q2, n, d2⟩ (newMS n) := ⟨Blk.new' w1 25 #[.slice p2 n c2, .slice q2 n d2, .int .i64 (newMS n).seq], (ho1.next hal).low (by rw [World.size_alloc]; exact Nat.le_refl _), hlow⟩
    have hbe : Below (w.heap.size + 1) w1 (w1.alloc (.cells #[.slice p2 n c2, .slice q2 n d2, .int .i64 (newMS n).seq] 25)) := hal.mono hlow
    have hsza : w1.heap.size + 1 ≤ (w1.alloc (.cells #[.slice p2 n c2, .slice q2 n d2, .int .i64 (newMS n).seq] 25)).heap.size := by rw [World.size_alloc]; exact Nat.le_refl _
    clear hb0 hb1 ho1 hal
    go_loopw [9, 23] (fun gv i wr => ∃ k : Nat, k ≤ N ∧ i = .int .i64 k ∧ gv = .int .i64 (replayP n (l.take k)).2 ∧ BoxS (w.heap.size + 1) wr w1.heap.size ⟨p2, n, c2, q2, n, d2⟩ (replayP n (l.take k)).1 ∧ Below (w.heap.size + 1) w1 wr ∧ w1.heap.size + 1 ≤ wr.heap.size) (fun _ i _ => N - (intOf i).toNat)
    case atStart => exact ⟨0, Nat.zero_le _, rfl, rfl, bx, hbe, hsza⟩
    case round =>
      obtain ⟨k, hk, rfl, rfl, hx, hbel, hszr⟩ := hrel
      clear bx hbe hsza
      have hBr : Below w.heap.size w wr := hB1.trans (hbel.mono (by omega))
      by_cases hlt : k < N
      · obtain ⟨gr, orr, rfl, hgr, hcr⟩ := (hl.below hBr).at' (by omega)
        have hcells := hcr k hlt
        have a0 := hcells 0 _ rfl
        have a1 := hcells 1 _ rfl
        have a2 := hcells 2 _ rfl
        have a3 := hcells 3 _ rfl
        have a4 := hcells 4 _ rfl
        have a5 := hcells 5 _ rfl
        have a6 := hcells 6 _ rfl
        simp only [Nat.add_zero] at a0
        clear hcr hcells
        have hPin := fun W (hW : Below w.heap.size w W) => (hl.below hW).each k hlt
        have EK : Hid (replayP n (l.take (k + 1)) = stepP n (replayP n (l.take k)) (eP l k)) := by show _ = _; rw [takeP_succ l k (by rw [HLl.out]; exact hlt), replayP_snoc]
        have hx2 := hx.next (below_alloc wr (.cells #[.int .i64 (eP l k).kind, .int .i64 (eP l k).gen, .int .i64 (eP l k).part, .int .i64 (eP l k).seq, .slice (f k).pb (f k).nb (f k).cb, .slice (f k).pw (f k).nw (f k).cw, .slice (f k).pr (f k).nr (f k).cr] 42))
        have pb : Blk _ _ _ ((f k).cells (eP l k)) := Blk.new' wr 42 #[.int .i64 (eP l k).kind, .int .i64 (eP l k).gen, .int .i64 (eP l k).part, .int .i64 (eP l k).seq, .slice (f k).pb (f k).nb (f k).cb, .slice (f k).pw (f k).nw (f k).cw, .slice (f k).pr (f k).nr (f k).cr]
        have hB2 := bt hBr (below_alloc wr (.cells #[.int .i64 (eP l k).kind, .int .i64 (eP l k).gen, .int .i64 (eP l k).part, .int .i64 (eP l k).seq, .slice (f k).pb (f k).nb (f k).cb, .slice (f k).pw (f k).nw (f k).cw, .slice (f k).pr (f k).nr (f k).cr] 42))
        have hb2 : Below (w.heap.size + 1) w1 _ := hbel.trans ((below_alloc wr (.cells #[.int .i64 (eP l k).kind, .int .i64 (eP l k).gen, .int .i64 (eP l k).part, .int .i64 (eP l k).seq, .slice (f k).pb (f k).nb (f k).cb, .slice (f k).pw (f k).nw (f k).cw, .slice (f k).pr (f k).nr (f k).cr] 42)).mono (by omega))
        have hs2 : w1.heap.size + 1 ≤ (wr.alloc (.cells #[.int .i64 (eP l k).kind, .int .i64 (eP l k).gen, .int .i64 (eP l k).part, .int .i64 (eP l k).seq, .slice (f k).pb (f k).nb (f k).cb, .slice (f k).pw (f k).nw (f k).cw, .slice (f k).pr (f k).nr (f k).cr] 42)).heap.size := by rw [World.size_alloc]; omega
        have hneg : wr.heap.size ≠ w1.heap.size := by omega
        obtain ⟨z0, z1, z2, z3, z4, z5, z6⟩ := pb.cells7
        cases hok : okMP (eP l k) with
        | false =>
          have ES : Hid (stepP n (replayP n (l.take k)) (eP l k) = replayP n (l.take k)) := by show _ = _; unfold stepP; rw [hok]; rfl
          go_wp2_with (go_at_call 65; refine (pageMayBe_any (f k) (eP l k) _ (hPin _ hB2)).mono ?_; rw [hok]; rintro e w4 ⟨rfl, hb4⟩)
          go_roundw
          case rel => exact ⟨k + 1, by omega, by go_num, by rw [EK.out, ES.out], by rw [EK.out, ES.out]; exact hx2.next hb4, hb2.trans (hb4.mono (by omega)), Nat.le_trans hs2 hb4.size⟩
          case measure => simp [intOf]; omega
        | true =>
          have ES1 : Hid ((stepP n (replayP n (l.take k)) (eP l k)).1 = learnP n (replayP n (l.take k)).1 (eP l k)) := by show _ = _; unfold stepP; rw [hok]; rfl
          have ES2 : Hid ((stepP n (replayP n (l.take k)) (eP l k)).2 = max (replayP n (l.take k)).2 (eP l k).gen) := by show _ = _; unfold stepP; rw [hok]; rfl
          have HOK : Hid (okMP (eP l k) = true) := hok
          by_cases hgt : (eP l k).gen > (replayP n (l.take k)).2
          · have EM : Hid (max (replayP n (l.take k)).2 (eP l k).gen = (eP l k).gen) := Int.max_eq_right (by omega)
            clear hok
            go_wp2_with (first
              | (go_at_call 65; refine (pageMayBe_any (f k) (eP l k) _ (hPin _ hB2)).mono ?_; rw [HOK.out]; rintro e w4 ⟨rfl, hb4⟩; have hx4 := hx2.next hb4; have pb4 := pb.kept hb4; have hB4 := bt hB2 hb4; have hb5 := hb2.trans (hb4.mono (by omega)); have hs4 := Nat.le_trans hs2 hb4.size; obtain ⟨z0, z1, z2, z3, z4, z5, z6⟩ := pb4.cells7)
              | (go_at_call 71; refine (learnPage_any (w.heap.size + 1) w1.heap.size ⟨p2, n, c2, q2, n, d2⟩ _ (f k) (eP l k) _ hx4 rfl (by omega) HOK.out (fun W hW => hPin W (hB4.trans (hW.mono (by omega))))).mono ?_; rintro e w5 ⟨rfl, hx5, hf5⟩; have pb5 := pb4.fr hf5 hx4 hneg (by decide) (by decide); obtain ⟨z0, z1, z2, z3, z4, z5, z6⟩ := pb5.cells7))
            go_roundw
            case rel => exact ⟨k + 1, by omega, by go_num, by rw [EK.out, ES2.out, EM.out], by rw [EK.out, ES1.out]; exact hx5, hb5.trans hf5.bel, Nat.le_trans hs4 hf5.bel.size⟩
            case measure => simp [intOf]; omega
          · have EM : Hid (max (replayP n (l.take k)).2 (eP l k).gen = (replayP n (l.take k)).2) := Int.max_eq_left (by omega)
            clear hok
            go_wp2_with (first
              | (go_at_call 65; refine (pageMayBe_any (f k) (eP l k) _ (hPin _ hB2)).mono ?_; rw [HOK.out]; rintro e w4 ⟨rfl, hb4⟩; have hx4 := hx2.next hb4; have pb4 := pb.kept hb4; have hB4 := bt hB2 hb4; have hb5 := hb2.trans (hb4.mono (by omega)); have hs4 := Nat.le_trans hs2 hb4.size; obtain ⟨z0, z1, z2, z3, z4, z5, z6⟩ := pb4.cells7)
              | (go_at_call 71; refine (learnPage_any (w.heap.size + 1) w1.heap.size ⟨p2, n, c2, q2, n, d2⟩ _ (f k) (eP l k) _ hx4 rfl (by omega) HOK.out (fun W hW => hPin W (hB4.trans (hW.mono (by omega))))).mono ?_; rintro e w5 ⟨rfl, hx5, hf5⟩; have pb5 := pb4.fr hf5 hx4 hneg (by decide) (by decide); obtain ⟨z0, z1, z2, z3, z4, z5, z6⟩ := pb5.cells7))
            go_roundw
            case rel => exact ⟨k + 1, by omega, by go_num, by rw [EK.out, ES2.out, EM.out], by rw [EK.out, ES1.out]; exact hx5, hb5.trans hf5.bel, Nat.le_trans hs4 hf5.bel.size⟩
            case measure => simp [intOf]; omega
      · have hkN : k = N := by omega
        have ET : Hid (l.take k = l) := List.take_of_length_le (by have := HLl.out; omega)
        clear hkN
        rw [ET.out] at hx ⊢
        have r5 := r0.below hbel (by omega)
        obtain ⟨y0, y1, y2⟩ := hx.box.cells3
        go_wp2_with (guard_target = wpList _ _ _ (Oper.mk _ (Op.store 25 (Operand.tmp 4) _) _ _ _ _ :: _) _ _; refine wpList_store_blk rfl 25 (.tmp 4) (.tmp 37) rfl _ _ [.slice p2 n c2, .slice q2 n d2, .int .i64 (replayP n l).1.seq] rfl rfl r5 (by simp) (msSize ⟨p2, n, c2, q2, n, d2⟩ (replayP n l).1) (msOne ⟨p2, n, c2, q2, n, d2⟩ (replayP n l).1) ?_; intro w9 h9 ht9)
        have h9' : Blk w9 w.heap.size 25 (SV.cells ⟨p2, n, c2, q2, n, d2⟩ (replayP n l).1) := h9
        refine ret_ms3 Try.results39 rfl h9' rfl rfl rfl ?_
        rw [E.out]
        exact ⟨_, rfl, (hx.own.turned ht9 (owns_blk_ne (by decide) hx.own.b r5) (owns_blk_ne (by decide) hx.own.v r5)).low (by omega), ht9.below hBr (Nat.le_refl _)⟩
  · rw [newR_no hi] at hnew
    have E : Hid (replayR i l = (MS.zero, 0, 20)) := by show _ = _; unfold replayR; rw [if_neg hi]
    clear hi
    go_enter Try.func39, Try.ntmps39
    go_wp2_with (first
      | (go_at_call 9; refine hnew.mono ?_; rintro e w1 ⟨V1, rfl, ho1, hb1⟩; have hB1 := bt (bt hb0 hb1) (below_alloc w1 (.cells #[.slice V1.p V1.n V1.c, .slice V1.q V1.m V1.d, .int .i64 MS.zero.seq] 25)); have r1 := (r0.kept hb1).kept (below_alloc w1 (.cells #[.slice V1.p V1.n V1.c, .slice V1.q V1.m V1.d, .int .i64 MS.zero.seq] 25)); dsimp only; clear hnew)
      | (guard_target = wpList _ _ _ (Oper.mk _ (Op.store 25 (Operand.tmp 4) _) _ _ _ _ :: _) _ _; refine wpList_store_blk rfl 25 (.tmp 4) (.tmp 19) rfl _ _ [.slice none 0 0, .slice none 0 0, .int .i64 0] rfl rfl r1 (by simp) (msSize ⟨none, 0, 0, none, 0, 0⟩ MS.zero) (msOne ⟨none, 0, 0, none, 0, 0⟩ MS.zero) ?_; intro w9 h9 ht9))
    have h9' : Blk w9 w.heap.size 25 (SV.cells ⟨none, 0, 0, none, 0, 0⟩ MS.zero) := h9
    refine ret_ms3 Try.results39 rfl h9' rfl rfl rfl ?_
    rw [E.out]
    exact ⟨_, rfl, ownS_zero _ _, ht9.below hB1 (Nat.le_refl _)⟩
end Go.Proofs.Ytpikaagdiafieaa

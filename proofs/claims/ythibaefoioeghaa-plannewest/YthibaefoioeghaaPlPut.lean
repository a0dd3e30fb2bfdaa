/-
  What Put makes of any table.
-/
import Derived.Test.YthibaefoioeghaaPlForget
namespace Go.Proofs.Ythibaefoioeghaa
open Go.RowKit
theorem results_two_tmp {fn : Func} {p q u : Tmp} {ty tz : TypeId} (h : fn.results = #[.cell p ty, .cell q tz, .tmp u]) (tmps : Array Value) (P : Program) (w : World) :
    (results fn tmps).run P w =
      ((asAddr (tmps.getD p undef)).run P w).andThen fun a w₁ => ((loadVar ty a).run P w₁).andThen fun v w₂ => ((asAddr (tmps.getD q undef)).run P w₂).andThen fun b w₃ => ((loadVar tz b).run P w₃).andThen fun x w₄ => .ok (.tuple #[v, x, tmps.getD u undef]) w₄ := by
  simp only [results, h]
  simp [Sem.run_bind, Result.andThen]
theorem ret_tabPE {fn : Func} {p q u : Tmp} (h : fn.results = #[.cell p 28, .cell q 41, .tmp u]) {R : Ending → World → Prop} {a : Act} {w : World} {g g2 : Nat} {t t2 : TypeId} {V : TabV} {T : Tab} {x y v : Value} (hp : a.tmps.getD p undef = .pointer (some ⟨g, 0, none⟩))
    (hb : Blk w g t (tabC V T)) (hq : a.tmps.getD q undef = .pointer (some ⟨g2, 0, none⟩)) (hb2 : Blk w g2 t2 [x, y]) (hd : a.defers = []) (hu : a.tmps.getD u undef = v) (hR : R (.returned (.tuple #[.agg (tabA V T), .agg #[x, y], v])) w) : bodyPost Try.prog fn R .ret a w := by
  refine bodyPost_ret (v := .tuple #[.agg (tabA V T), .agg #[x, y], v]) ?_ hd hR
  rw [results_two_tmp h, hp, hq, hu]
  have h1 := run_loadVar_mid w g 0 28 (tabC V T) _ (hb.range 0 9 _ rfl) Try.underlying28 rfl (by kernel_rfl)
  have h2 := run_loadVar_mid w g2 0 41 [x, y] _ (hb2.range 0 2 _ rfl) Try.underlying41 rfl (by kernel_rfl)
  simp only [asAddr, Sem.run_pure, Result.andThen_ok, h1, h2]
  rfl
theorem fgL_len {n : Int} {R : List LR} {m : Nat} {r : LR} (h : (fgL n R R.length)[m]? = some r) : ∃ r0, R[m]? = some r0 ∧ r.pages.length = r0.pages.length := by
  unfold fgL at h
  rw [List.take_length, List.drop_length, List.append_nil, List.getElem?_map] at h
  cases e : R[m]? with
  | none => rw [e] at h; cases h
  | some r0 =>
    rw [e] at h
    cases h
    exact ⟨r0, rfl, fgP_length _ _ _⟩
theorem tabOne9 (a b c : Int) (p : Option Addr) (n m : Nat) (q : Option Addr) (n2 m2 : Nat) (d e f : Int) (r : Option Addr) (n3 m3 : Nat) : ∀ v ∈ [Value.int .i64 a, .int .i64 b, .int .i64 c, .slice p n m, .slice q n2 m2, .int .i64 d, .int .i64 e, .int .i64 f, .slice r n3 m3], v.oneCell' = true := by simp [Value.oneCell']
def putE (T : Tab) (kind page : Int) : Int := if reachE T page = 0 then (if kind = 1 ∧ isNextP T T.pages.toNat page.toNat = true then 0 else if kind = 2 ∧ room T = true then 0 else 51) else reachE T page
def putT (T : Tab) (kind page : Int) : Tab := if kind = 1 then putSq T page else putRn T page
theorem reach_zero {T : Tab} {p : Int} (h : reachE T p = 0) : okT T = true ∧ hasPg T p = true := by
  unfold reachE at h
  split at h
  · rename_i h1
    split at h
    · rename_i h2
      exact ⟨h1, h2⟩
    · simp at h
  · simp at h
theorem OwnT.putSq {B : Nat} {w : World} {V : TabV} {T : Tab} {R : List LR} {n : Int} (h : OwnT B w V (forgetT T n) R) : OwnT B w V (Go.Proofs.Ythibaefoioeghaa.putSq T n) R := ⟨h.logs, h.d, h.h, h.l, h.r, h.ap, h.ad, h.sm⟩
set_option linter.unusedSimpArgs false in
set_option linter.unusedVariables false in
set_option maxRecDepth 100000 in
set_option maxHeartbeats 8000000 in
theorem put_any (V : TabV) (T : Tab) (kind blk page : Int) (w : World) (h : TabIn w V T) :
    Calls Try.prog 15 #[.agg (tabA V T), .agg #[.int .i64 kind, .int .i64 blk], .int .i64 page] w fun e w' => (∃ V' T' R' x y, e = .returned (.tuple #[.agg (tabA V' T'), .agg #[.int .i64 x, .int .i64 y], .int .i64 (putE T kind page)]) ∧ (putE T kind page = 0 → T' = putT T kind page ∧ (x, y) = whereP T' T.pages.toNat page.toNat ∧ OwnT w.heap.size w' V' T' R')) ∧ Below w.heap.size w w' := by
  have hb0 := bt (bt (bt (bt (below_alloc w (.cells (tabA V T) 28)) (below_alloc (w.alloc (.cells (tabA V T) 28)) (.cells #[.int .i64 kind, .int .i64 blk] 30))) (below_alloc ((w.alloc (.cells (tabA V T) 28)).alloc (.cells #[.int .i64 kind, .int .i64 blk] 30)) (.cells #[.int .i64 page] 3))) (below_alloc (((w.alloc (.cells (tabA V T) 28)).alloc (.cells #[.int .i64 kind, .int .i64 blk] 30)).alloc (.cells #[.int .i64 page] 3)) (.cells #[.int .i64 0, .int .i64 0, .int .i64 0, .slice none 0 0, .slice none 0 0, .int .i64 0, .int .i64 0, .int .i64 0, .slice none 0 0] 28))) (below_alloc ((((w.alloc (.cells (tabA V T) 28)).alloc (.cells #[.int .i64 kind, .int .i64 blk] 30)).alloc (.cells #[.int .i64 page] 3)).alloc (.cells #[.int .i64 0, .int .i64 0, .int .i64 0, .slice none 0 0, .slice none 0 0, .int .i64 0, .int .i64 0, .int .i64 0, .slice none 0 0] 28)) (.cells #[.int .i64 0, .int .i64 0] 41))
  have b0 := ((((Blk.new' w 28 (tabA V T)).alloc (.cells #[.int .i64 kind, .int .i64 blk] 30)).alloc (.cells #[.int .i64 page] 3)).alloc (.cells #[.int .i64 0, .int .i64 0, .int .i64 0, .slice none 0 0, .slice none 0 0, .int .i64 0, .int .i64 0, .int .i64 0, .slice none 0 0] 28)).alloc (.cells #[.int .i64 0, .int .i64 0] 41)
  have s0 := (((Blk.new' (w.alloc (.cells (tabA V T) 28)) 30 #[.int .i64 kind, .int .i64 blk]).alloc (.cells #[.int .i64 page] 3)).alloc (.cells #[.int .i64 0, .int .i64 0, .int .i64 0, .slice none 0 0, .slice none 0 0, .int .i64 0, .int .i64 0, .int .i64 0, .slice none 0 0] 28)).alloc (.cells #[.int .i64 0, .int .i64 0] 41)
  have p0 := ((Blk.new' ((w.alloc (.cells (tabA V T) 28)).alloc (.cells #[.int .i64 kind, .int .i64 blk] 30)) 3 #[.int .i64 page]).alloc (.cells #[.int .i64 0, .int .i64 0, .int .i64 0, .slice none 0 0, .slice none 0 0, .int .i64 0, .int .i64 0, .int .i64 0, .slice none 0 0] 28)).alloc (.cells #[.int .i64 0, .int .i64 0] 41)
  have r0 := (Blk.new' (((w.alloc (.cells (tabA V T) 28)).alloc (.cells #[.int .i64 kind, .int .i64 blk] 30)).alloc (.cells #[.int .i64 page] 3)) 28 #[.int .i64 0, .int .i64 0, .int .i64 0, .slice none 0 0, .slice none 0 0, .int .i64 0, .int .i64 0, .int .i64 0, .slice none 0 0]).alloc (.cells #[.int .i64 0, .int .i64 0] 41)
  have q0 := Blk.new' ((((w.alloc (.cells (tabA V T) 28)).alloc (.cells #[.int .i64 kind, .int .i64 blk] 30)).alloc (.cells #[.int .i64 page] 3)).alloc (.cells #[.int .i64 0, .int .i64 0, .int .i64 0, .slice none 0 0, .slice none 0 0, .int .i64 0, .int .i64 0, .int .i64 0, .slice none 0 0] 28)) 41 #[.int .i64 0, .int .i64 0]
  simp only [World.size_alloc] at s0 p0 r0 q0
  have hT := h.below hb0
  have hre := reach_any V T page _ hT
  have hmf : ∀ (fn : Fn) (first cap : Array Value) (w : World), (Instr.makeFunc fn first cap).run Try.prog w = .ok (.func fn first cap) w := fun _ _ _ _ => rfl
  have q0s : w.heap.size + 4 < (((((w.alloc (.cells (tabA V T) 28)).alloc (.cells #[.int .i64 kind, .int .i64 blk] 30)).alloc (.cells #[.int .i64 page] 3)).alloc (.cells #[.int .i64 0, .int .i64 0, .int .i64 0, .slice none 0 0, .slice none 0 0, .int .i64 0, .int .i64 0, .int .i64 0, .slice none 0 0] 28)).alloc (.cells #[.int .i64 0, .int .i64 0] 41)).heap.size := q0.lt
  by_cases h0 : reachE T page = 0
  · obtain ⟨hok, hpg⟩ := reach_zero h0
    obtain ⟨P, L, hF⟩ := okT_facts hok hT
    have hS := okT_iff.1 hok
    have hpp : 0 ≤ page ∧ page ≤ T.logical * T.pages - 1 := by
      have hpg' := hpg
      unfold hasPg at hpg'
      simpa only [Bool.and_eq_true, decide_eq_true_eq] using hpg'
    obtain ⟨n, rfl⟩ : ∃ n : Nat, page = (n : Int) := ⟨page.toNat, by omega⟩
    rw [hF.pg, hF.lg, ← Int.natCast_mul] at hpp
    have hnL : n < L * P := by omega
    have hPpos : 0 < P := by have := hF.p0; omega
    have hkd : n / P < L := (Nat.div_lt_iff_lt_mul hPpos).2 hnL
    have hprodb : L * P ≤ 8192 := Nat.le_trans (Nat.mul_le_mul hF.l0.2 hF.p0.2) (by omega)
    have hPT : T.pages.toNat = P := by rw [hF.pg]; rfl
    have HE : Hid (putE T kind n = if kind = 1 ∧ isNextP T P n = true then 0 else if kind = 2 ∧ room T = true then 0 else 51) := by show _ = _; unfold putE; rw [if_pos h0, hPT]; rfl
    rw [h0] at hre
    have hcp := fun w' (hb : Below _ _ w') => copied_any V T w' (hT.below hb) (by have := hF.nd; have := hF.l0; omega) (by have := hF.nh; omega) (by have := hF.nl; omega) (fun i l hl => by have := hF.len i l hl; have := hF.p0; omega)
    have hnx := fun w' => isNext_any V T P n w' hF.pg hF.p0 (by omega)
    have hma := fun w' (hb : Below _ _ w') => may_any V T P kind w' (hT.below hb) hF.pg hF.p0 hF.po hF.nl
    have hq0 : n / P ≤ 100000000 := by have := hF.l0; omega
    have hPn : ¬ P = 0 := by omega
    obtain ⟨qq, hqq⟩ : ∃ qq, n / P = qq := ⟨_, rfl⟩
    obtain ⟨rr, hrr⟩ : ∃ rr, n % P = rr := ⟨_, rfl⟩
    have hrP : rr < P := by rw [← hrr]; exact Nat.mod_lt _ hPpos
    rw [hqq] at hkd hq0
    have hq1 : IntKind.i64.wrap ((n : Int) / (P : Int)) = (qq : Int) := by rw [← Int.natCast_ediv, hqq]; exact wrapN qq hq0
    have hq2 : wrap64 ((n : Int) / (P : Int)) = (qq : Int) := (IntWalk.i64_left _).symm.trans hq1
    have hr0 : (n : Int).tmod (P : Int) = (rr : Int) := by rw [Int.tmod_eq_emod_of_nonneg (Int.natCast_nonneg n), ← Int.natCast_emod, hrr]
    have hrP1 : (rr : Int) < (P : Int) := Int.ofNat_lt.2 hrP
    have HNL : Hid (V.nl ≤ 8) := hF.nl
    have HLEN : Hid (∀ (i : Nat) (l : LogS), T.logs[i]? = some l → l.pages.length ≤ P) := hF.len
    have HF : Hid (4 ≤ P ∧ P ≤ 32 ∧ L ≤ 256 ∧ V.nd = L ∧ V.nh = L * P) := ⟨hF.p0.1, hF.p0.2, hF.l0.2, hF.nd, hF.nh⟩
    have HS : Hid (OkS T) := hS
    have HPT : Hid (T.pages.toNat = P) := hPT
    have HLL : Hid (T.logs.length = V.nl) := hT.logs.len
    have HPG : Hid (hasPg T n = true) := hpg
    have hpage := hF.pg
    have hlog := hF.lg
    have hsu : T.su ≤ 100 ∧ -100 ≤ T.su := by
      have := hS.sq
      unfold okSeq at this
      split at this
      · simp only [Bool.and_eq_true, decide_eq_true_eq] at this; omega
      · simp only [Bool.and_eq_true, decide_eq_true_eq] at this; have := hF.p0; omega
    have HQ : Hid (n / P = qq ∧ n % P = rr) := ⟨hqq, hrr⟩
    clear hok hpg hF hS hpp hnL hPpos hprodb hPT hqq hrr
    unfold tabA at hb0 b0 s0 p0 r0 q0 hT hre hcp hnx hma q0s ⊢
    rw [hpage, hlog] at hb0 b0 s0 p0 r0 q0 hT hre hcp hnx hma q0s ⊢
    go_enter Try.func15, Try.ntmps15
    go_upto_region 1 with fail
    generalize hW0 : (((((w.alloc (.cells #[.int .i64 (P : Int), .int .i64 (L : Int), .int .i64 T.k, .slice V.pd V.nd V.cd, .slice V.ph V.nh V.ch, .int .i64 T.sp, .int .i64 T.sl, .int .i64 T.su, .slice V.pl V.nl V.cl] 28)).alloc (.cells #[.int .i64 kind, .int .i64 blk] 30)).alloc (.cells #[.int .i64 (n : Int)] 3)).alloc (.cells #[.int .i64 0, .int .i64 0, .int .i64 0, .slice none 0 0, .slice none 0 0, .int .i64 0, .int .i64 0, .int .i64 0, .slice none 0 0] 28)).alloc (.cells #[.int .i64 0, .int .i64 0] 41)) = W0 at *
    clear hW0
    have y0 := b0.cell' (i := 0) rfl; have y1 := b0.cell' (i := 1) rfl; have y2 := b0.cell' (i := 2) rfl; have y3 := b0.cell' (i := 3) rfl; have y4 := b0.cell' (i := 4) rfl; have y5 := b0.cell' (i := 5) rfl; have y6 := b0.cell' (i := 6) rfl; have y7 := b0.cell' (i := 7) rfl; have y8 := b0.cell' (i := 8) rfl
    have yp := p0.cell' (i := 0) rfl
    go_upto_region 4 with (go_at_call 27; refine hre.mono ?_; rintro e w1 ⟨rfl, hb1⟩)
    have b1 := b0.kept hb1
    have s1 := s0.kept hb1
    have p1 := p0.kept hb1
    have r1 := r0.kept hb1
    have q1 := q0.kept hb1
    have hcp1 := hcp _ hb1
    have hbel := bt hb0 hb1
    have hs1 := hb1.size
    clear y0 y1 y2 y3 y4 y5 y6 y7 y8 yp hre b0 s0 p0 r0 q0
    have y0 := b1.cell' (i := 0) rfl; have y1 := b1.cell' (i := 1) rfl; have y2 := b1.cell' (i := 2) rfl; have y3 := b1.cell' (i := 3) rfl; have y4 := b1.cell' (i := 4) rfl; have y5 := b1.cell' (i := 5) rfl; have y6 := b1.cell' (i := 6) rfl; have y7 := b1.cell' (i := 7) rfl; have y8 := b1.cell' (i := 8) rfl
    go_upto_region 5 with (go_at_call 38; refine hcp1.mono ?_; rintro e w3 ⟨V1, R1, rfl, hnd, hnh, hnl, hown, k3⟩; have hnd1 : Hid (V1.nd = V.nd) := hnd; have hnh1 : Hid (V1.nh = V.nh) := hnh; have hnl1 : Hid (V1.nl = V.nl) := hnl; clear hnd hnh hnl)
    have k4 := below_alloc w3 (.cells #[.int .i64 (P : Int), .int .i64 (L : Int), .int .i64 T.k, .slice V1.pd V1.nd V1.cd, .slice V1.ph V1.nh V1.ch, .int .i64 T.sp, .int .i64 T.sl, .int .i64 T.su, .slice V1.pl V1.nl V1.cl] 28)
    have h4 := Blk.new' w3 28 #[.int .i64 (P : Int), .int .i64 (L : Int), .int .i64 T.k, .slice V1.pd V1.nd V1.cd, .slice V1.ph V1.nh V1.ch, .int .i64 T.sp, .int .i64 T.sl, .int .i64 T.su, .slice V1.pl V1.nl V1.cl]
    generalize w3.alloc (.cells #[.int .i64 (P : Int), .int .i64 (L : Int), .int .i64 T.k, .slice V1.pd V1.nd V1.cd, .slice V1.ph V1.nh V1.ch, .int .i64 T.sp, .int .i64 T.sl, .int .i64 T.su, .slice V1.pl V1.nl V1.cl] 28) = W4 at *
    replace hown := hown.next k4
    have b4 := (b1.kept k3).kept k4
    have s4 := (s1.kept k3).kept k4
    have p4 := (p1.kept k3).kept k4
    have r4 := (r1.kept k3).kept k4
    have q4 := (q1.kept k3).kept k4
    have hbel4 := bt (bt hbel k3) k4
    have kb4 := bt (bt hb1 k3) k4
    have hw14 : w1.heap.size ≤ W4.heap.size := Nat.le_trans k3.size k4.size
    have hg9 := k3.size
    have hg9l := h4.lt
    generalize w1.heap.size = B1 at *
    generalize w3.heap.size = g9 at *
    have hnl9 : V1.nl ≤ 8 := by rw [hnl1.out]; exact HNL.out
    have hfo := forget_any B1 V1 T R1 n (w.heap.size + 2) W4 hw14 hown hnl9 (fun i r hr => by have := HLEN.out i r.log (by rw [hown.logs, List.getElem?_map, hr]; rfl); have := HF.out; show r.log.pages.length ≤ _; omega) p4 (by omega)
    have HRL : Hid (R1.length = V.nl) := by show _ = _; rw [← HLL.out, hown.logs, List.length_map]
    have HLR : Hid (∀ (m : Nat) (r : LR), (fgL n R1 R1.length)[m]? = some r → r.pages.length ≤ P) := fun m r hr => by obtain ⟨r0, h0', e0⟩ := fgL_len hr; rw [e0]; exact HLEN.out m r0.log (by rw [hown.logs, List.getElem?_map, h0']; rfl)
    unfold tabA at hfo
    rw [hpage, hlog] at hfo
    clear y0 y1 y2 y3 y4 y5 y6 y7 y8 hcp hcp1 hb0 hb1 hbel b1 s1 p1 r1 q1 k3 k4 hown hT
    have z0 := h4.cell' (i := 0) rfl; have z1 := h4.cell' (i := 1) rfl; have z2 := h4.cell' (i := 2) rfl; have z3 := h4.cell' (i := 3) rfl; have z4 := h4.cell' (i := 4) rfl; have z5 := h4.cell' (i := 5) rfl; have z6 := h4.cell' (i := 6) rfl; have z7 := h4.cell' (i := 7) rfl; have z8 := h4.cell' (i := 8) rfl
    have yp := p4.cell' (i := 0) rfl
    go_upto_region 7 with (go_at_call 42; refine hfo.mono ?_; rintro e w5 ⟨rfl, hown5, k5, keep5⟩)
    have b5 := keep5 _ _ _ (by decide) b4
    have s5 := keep5 _ _ _ (by decide) s4
    have r5 := keep5 _ _ _ (by decide) r4
    have q5 := keep5 _ _ _ (by decide) q4
    have h5 := keep5 _ _ _ (by decide) h4
    have p5 := p4.below k5 (by omega)
    have hw15 : B1 ≤ w5.heap.size := Nat.le_trans hw14 k5.size
    have hbel5 : Below w.heap.size w w5 := hbel4.trans (k5.mono (by omega))
    have hma5 := hma w5 (kb4.trans (k5.mono hs1))
    clear hfo keep5 kb4 b4 s4 p4 r4 q4 h4 hbel4 hma z0 z1 z2 z3 z4 z5 z6 z7 z8 yp
    have t0 := s5.cell' (i := 0) rfl
    have yp := p5.cell' (i := 0) rfl
    have y0 := b5.cell' (i := 0) rfl; have y1 := b5.cell' (i := 1) rfl; have y2 := b5.cell' (i := 2) rfl; have y3 := b5.cell' (i := 3) rfl; have y4 := b5.cell' (i := 4) rfl; have y5 := b5.cell' (i := 5) rfl; have y6 := b5.cell' (i := 6) rfl; have y7 := b5.cell' (i := 7) rfl; have y8 := b5.cell' (i := 8) rfl
    by_cases hk1 : kind = 1
    · subst hk1
      cases hnv : isNextP T P n with
      | false =>
        have HE2 : Hid (putE T 1 n = 51) := by show _ = _; rw [HE.out, if_neg (fun h' => by rw [hnv] at h'; cases h'.2), if_neg (fun h' => by cases h'.1)]
        have hnx5 := hnx w5
        rw [hnv] at hnx5
        clear hnx hma5 hnv
        go_wp2_with (first | (go_at_call 28; refine hnx5.mono ?_; rintro e w6 ⟨rfl, k6⟩; have r6 := r5.kept k6; have q6 := q5.kept k6; have s6 := s5.kept k6; have u0 := s6.cell' (i := 0) rfl) | (guard_target = wpList _ _ _ (Oper.mk _ (Op.store 28 (Operand.tmp 6) _) _ _ _ _ :: _) _ _; refine wpList_store_blk rfl 28 (.tmp 6) (.tmp 24) rfl (w.heap.size + 3) 0 (tabC ⟨none, 0, 0, none, 0, 0, none, 0, 0⟩ zeroT) rfl rfl r6 (by exact Nat.le_refl _) (tabSize _ _) (tabOne _ _) ?_; intro W8 h8 ht8; rw [whole_row (by rfl)] at h8; have q8 := q6.turned ht8 (by omega)) | (guard_target = wpList _ _ _ (Oper.mk _ (Op.store 41 (Operand.tmp 7) _) _ _ _ _ :: _) _ _; refine wpList_store_blk rfl 41 (.tmp 7) (.tmp 25) rfl (w.heap.size + 4) 0 [.int .i64 0, .int .i64 0] rfl rfl q8 (by simp) (sizeP2 _ _) (one2 _ _) ?_; intro W9 h9 ht9; rw [whole_row (by rfl)] at h9; have r9 := h8.turned ht9 (by omega)))
        refine ret_tabPE Try.results15 rfl r9 rfl h9 rfl rfl ⟨⟨_, _, [], _, _, by rw [HE2.out]; rfl, fun h' => by rw [HE2.out] at h'; cases h'⟩, ht9.below (ht8.below (bt hbel5 k6) (by omega)) (by omega)⟩
      | true =>
        have HE2 : Hid (putE T 1 n = 0) := by show _ = _; rw [HE.out, if_pos ⟨rfl, hnv⟩]
        have HTO : Hid (putSq T n = putT T 1 n) := rfl
        have hSW := putSq_where HS.out (n := n) (by rw [HPT.out]; exact hnv)
        have HPO : Hid (PgOk (putSq T n)) := hSW.1.pgOk
        have hnx5 := hnx w5
        rw [hnv] at hnx5
        clear hnx hma5 hSW hnv
        go_upto_region 8 with (go_at_call 28; refine hnx5.mono ?_; rintro e w6 ⟨rfl, k6⟩)
        have b6 := b5.kept k6
        have p6 := p5.kept k6
        have r6 := r5.kept k6
        have q6 := q5.kept k6
        have h6 := h5.kept k6
        have hown6 := hown5.next k6
        have hbel6 := bt hbel5 k6
        have hw1 : IntKind.i64.wrap (T.su + 1) = T.su + 1 := by rw [IntKind.wrap_i64]; omega
        have hw2 : wrap64 (T.su + 1) = T.su + 1 := (IntWalk.i64_left _).symm.trans hw1
        clear b5 s5 p5 r5 q5 h5 hown5 hbel5 k5 k6 t0 yp y0 y1 y2 y3 y4 y5 y6 y7 y8 hnx5
        have z0 := h6.cell' (i := 0) rfl; have z1 := h6.cell' (i := 1) rfl; have z2 := h6.cell' (i := 2) rfl; have z3 := h6.cell' (i := 3) rfl; have z4 := h6.cell' (i := 4) rfl; have z5 := h6.cell' (i := 5) rfl; have z6 := h6.cell' (i := 6) rfl; have z7 := h6.cell' (i := 7) rfl; have z8 := h6.cell' (i := 8) rfl
        go_upto_region 11 with (refine wpList_store_cell rfl 3 (.tmp 40) (.tmp 38) rfl g9 7 (.int .i64 (T.su + 1)) rfl rfl h6 (by exact (by decide : 7 < 9)) (by kernel_rfl) rfl ?_; intro W8 h8 ht8)
        have p8 := p6.turned ht8 (by omega)
        have b8 := b6.turned ht8 (by omega)
        have r8 := r6.turned ht8 (by omega)
        have q8 := q6.turned ht8 (by omega)
        have hown8 : OwnT B1 W8 V1 (putSq T n) (fgL n R1 R1.length) := (hown6.turnedTab h6 ht8).putSq
        have hbel8 : Below w.heap.size w W8 := ht8.below hbel6 (by omega)
        have h8' : Blk W8 g9 28 [.int .i64 (P : Int), .int .i64 (L : Int), .int .i64 (putSq T n).k, .slice V1.pd V1.nd V1.cd, .slice V1.ph V1.nh V1.ch, .int .i64 (putSq T n).sp, .int .i64 (putSq T n).sl, .int .i64 (putSq T n).su, .slice V1.pl V1.nl V1.cl] := h8
        have hTP : (putSq T n).pages = (P : Int) := hpage
        have hTL : (putSq T n).logical = (L : Int) := hlog
        clear h8 hown6 hbel6 ht8 h6 b6 p6 r6 q6 hw1 hw2 z0 z1 z2 z3 z4 z5 z6 z7 z8
        have h8 := h8'
        clear h8'
        generalize fgL n R1 R1.length = R2 at *
        generalize putSq T n = TO at *
        have hst := fun W (hT : TabIn W V1 TO) => standing_any V1 TO P L qq W hT hTP ⟨HF.out.1, HF.out.2.1⟩ (by rw [hnd1.out]; exact HF.out.2.2.2.1) (by rw [hnh1.out]; exact HF.out.2.2.2.2) HF.out.2.2.1 hkd HPO.out
        unfold tabA at hst
        rw [hTP, hTL] at hst
        obtain ⟨x, hpl⟩ : ∃ x, (standP TO P qq)[rr]? = some x := ⟨_, List.getElem?_eq_getElem (by rw [standP_length]; exact hrP)⟩
        have HX : Hid (whereP TO P n = x) := by show _ = _; unfold whereP; rw [HQ.out.1, HQ.out.2, List.getD_eq_getElem?_getD, hpl]; rfl
        refine wp_region_noPanic ?_
        refine wp_region_held_drew (S := fun W' => Blk W' g9 28 [.int .i64 (P : Int), .int .i64 (L : Int), .int .i64 TO.k, .slice V1.pd V1.nd V1.cd, .slice V1.ph V1.nh V1.ch, .int .i64 TO.sp, .int .i64 TO.sl, .int .i64 TO.su, .slice V1.pl V1.nl V1.cl] ∧ Blk W' (w.heap.size + 2) 3 [.int .i64 (n : Int)] ∧ Blk W' w.heap.size 28 [.int .i64 (P : Int), .int .i64 (L : Int), .int .i64 T.k, .slice V.pd V.nd V.cd, .slice V.ph V.nh V.ch, .int .i64 T.sp, .int .i64 T.sl, .int .i64 T.su, .slice V.pl V.nl V.cl] ∧ OwnT B1 W' V1 TO R2 ∧ Below w.heap.size w W') (by kernel_rfl) ⟨h8.drew, p8.drew, b8.drew, hown8.next ((Below.refl _ _).drew), hbel8.drew⟩ (fun hHeld => ?_)
        replace r8 := r8.drew
        replace q8 := q8.drew
        clear h8 p8 b8 hown8 hbel8
        generalize W8.drew = W0 at *
        refine wpAnyH_take (i := 0) (v := ?_) rfl (by kernel_rfl) (by kernel_rfl) (by kernel_rfl) (fun _ _ _ h => h) (Or.inl ⟨by rfl, ?_⟩) hHeld ?_
        rotate_left
        · intro w' hSw; try dsimp only at hSw
          have z0 := hSw.1.cell' (i := 0) rfl; have z1 := hSw.1.cell' (i := 1) rfl; have z2 := hSw.1.cell' (i := 2) rfl; have z3 := hSw.1.cell' (i := 3) rfl; have z4 := hSw.1.cell' (i := 4) rfl; have z5 := hSw.1.cell' (i := 5) rfl; have z6 := hSw.1.cell' (i := 6) rfl; have z7 := hSw.1.cell' (i := 7) rfl; have z8 := hSw.1.cell' (i := 8) rfl
          go_simp; try (with_reducible rfl)
        try simp only [Act.put, List.getElem_toArray, List.getElem_cons_succ, List.getElem_cons_zero, List.setIfInBounds_toArray, List.set_cons_zero, List.set_cons_succ]
        refine wpAnyH_take (i := 1) (v := ?_) rfl (by kernel_rfl) (by kernel_rfl) (by kernel_rfl) (fun _ _ _ h => h) (Or.inl ⟨by rfl, ?_⟩) hHeld ?_
        rotate_left
        · intro w' hSw; try dsimp only at hSw
          have z0 := hSw.1.cell' (i := 0) rfl; have z1 := hSw.1.cell' (i := 1) rfl; have z2 := hSw.1.cell' (i := 2) rfl; have z3 := hSw.1.cell' (i := 3) rfl; have z4 := hSw.1.cell' (i := 4) rfl; have z5 := hSw.1.cell' (i := 5) rfl; have z6 := hSw.1.cell' (i := 6) rfl; have z7 := hSw.1.cell' (i := 7) rfl; have z8 := hSw.1.cell' (i := 8) rfl
          go_simp; try (with_reducible rfl)
        try simp only [Act.put, List.getElem_toArray, List.getElem_cons_succ, List.getElem_cons_zero, List.setIfInBounds_toArray, List.set_cons_zero, List.set_cons_succ]
        refine wpAnyH_take (i := 2) (v := ?_) rfl (by kernel_rfl) (by kernel_rfl) (by kernel_rfl) (fun _ _ _ h => h) (Or.inl ⟨by rfl, ?_⟩) hHeld ?_
        rotate_left
        · intro w' hSw; try dsimp only at hSw
          have z0 := hSw.2.1.cell' (i := 0) rfl
          go_simp; try (with_reducible rfl)
        try simp only [Act.put, List.getElem_toArray, List.getElem_cons_succ, List.getElem_cons_zero, List.setIfInBounds_toArray, List.set_cons_zero, List.set_cons_succ]
        refine wpAnyH_take (i := 3) (v := ?_) rfl (by kernel_rfl) (by kernel_rfl) (by kernel_rfl) (fun _ _ _ h => h) (Or.inl ⟨by rfl, ?_⟩) hHeld ?_
        rotate_left
        · intro w' hSw; try dsimp only at hSw
          go_simp; try (with_reducible rfl)
        try simp only [Act.put, List.getElem_toArray, List.getElem_cons_succ, List.getElem_cons_zero, List.setIfInBounds_toArray, List.set_cons_zero, List.set_cons_succ]
        refine wpAnyH_take (i := 4) (v := ?_) rfl (by kernel_rfl) (by kernel_rfl) (by kernel_rfl) (fun _ _ _ h => h) (Or.inl ⟨by rfl, ?_⟩) hHeld ?_
        rotate_left
        · intro w' hSw; try dsimp only at hSw
          have z0 := hSw.2.2.1.cell' (i := 0) rfl
          go_simp; try (with_reducible rfl)
        try simp only [Act.put, List.getElem_toArray, List.getElem_cons_succ, List.getElem_cons_zero, List.setIfInBounds_toArray, List.set_cons_zero, List.set_cons_succ]
        refine wpAnyH_take (i := 5) (v := ?_) rfl (by kernel_rfl) (by kernel_rfl) (by kernel_rfl) (fun _ _ _ h => h) (Or.inl ⟨by rfl, ?_⟩) hHeld ?_
        rotate_left
        · intro w' hSw; try dsimp only at hSw
          go_simp; try (with_reducible rfl)
        try simp only [Act.put, List.getElem_toArray, List.getElem_cons_succ, List.getElem_cons_zero, List.setIfInBounds_toArray, List.set_cons_zero, List.set_cons_succ]
        refine wpAnyH_take (i := 8) (v := ?_) rfl (by kernel_rfl) (by kernel_rfl) (by kernel_rfl) (fun _ _ _ h => h) (Or.inl ⟨by rfl, ?_⟩) hHeld ?_
        rotate_left
        · intro w' hSw; try dsimp only at hSw
          go_simp; try (with_reducible rfl)
        try simp only [Act.put, List.getElem_toArray, List.getElem_cons_succ, List.getElem_cons_zero, List.setIfInBounds_toArray, List.set_cons_zero, List.set_cons_succ]
        refine wpAnyH_take (i := 9) (v := ?_) rfl (by kernel_rfl) (by kernel_rfl) (by kernel_rfl) (fun _ _ _ h => h) (Or.inl ⟨by rfl, ?_⟩) hHeld ?_
        rotate_left
        · intro w' hSw; try dsimp only at hSw
          have z0 := hSw.2.2.1.cell' (i := 0) rfl
          go_simp; try (with_reducible rfl)
        try simp only [Act.put, List.getElem_toArray, List.getElem_cons_succ, List.getElem_cons_zero, List.setIfInBounds_toArray, List.set_cons_zero, List.set_cons_succ]
        refine wpAnyH_take (i := 7) (v := ?_) rfl (by kernel_rfl) (by kernel_rfl) (by kernel_rfl) (fun _ _ _ h => h) (Or.inl ⟨by rfl, ?_⟩) hHeld ?_
        rotate_left
        · intro w' hSw; try dsimp only at hSw
          have z0 := hSw.2.1.cell' (i := 0) rfl
          go_simp; try (with_reducible rfl)
        try simp only [Act.put, List.getElem_toArray, List.getElem_cons_succ, List.getElem_cons_zero, List.setIfInBounds_toArray, List.set_cons_zero, List.set_cons_succ]
        refine wpAnyH_take (i := 10) (v := ?_) rfl (by kernel_rfl) (by kernel_rfl) (by kernel_rfl) (fun _ _ _ h => h) (Or.inl ⟨by rfl, ?_⟩) hHeld ?_
        rotate_left
        · intro w' hSw; try dsimp only at hSw
          go_simp; try (with_reducible rfl)
        try simp only [Act.put, List.getElem_toArray, List.getElem_cons_succ, List.getElem_cons_zero, List.setIfInBounds_toArray, List.set_cons_zero, List.set_cons_succ]
        refine wpAnyH_ready (rs := [6]) (by kernel_rfl) (by simp) ?_
        refine AllReadyH.cons rfl (fun K hK => ?_) AllReadyH.nil
        go_simp
        refine (hst _ hHeld.2.2.2.1.inT).mono ?_
        rintro e W1 ⟨gs, rfl, f6, hgs, k6⟩
        try go_wp2_with fail
        refine hK.out _ _ ⟨hHeld.1.kept k6, hHeld.2.1.kept k6, hHeld.2.2.1.kept k6, hHeld.2.2.2.1.next k6, bt hHeld.2.2.2.2 k6⟩ (fun hHeld => ?_)
        clear hK K
        try simp only [Act.put, List.getElem_toArray, List.getElem_cons_succ, List.getElem_cons_zero, List.setIfInBounds_toArray, List.set_cons_zero, List.set_cons_succ]
        have hrl := r8.lt
        have hql := q8.lt
        replace r8 := r8.kept k6
        replace q8 := q8.kept k6
        clear k6
        refine wpAnyH_take (i := 11) (v := ?_) rfl (by kernel_rfl) (by kernel_rfl) (by kernel_rfl) (fun _ _ _ h => h) (Or.inl ⟨by rfl, ?_⟩) hHeld ?_
        rotate_left
        · intro w' hSw; try dsimp only at hSw
          go_simp; try (with_reducible rfl)
        try simp only [Act.put, List.getElem_toArray, List.getElem_cons_succ, List.getElem_cons_zero, List.setIfInBounds_toArray, List.set_cons_zero, List.set_cons_succ]
        refine wpAnyH_ready (rs := [12, 13]) (by kernel_rfl) (by simp) ?_
        refine AllReadyH.cons rfl (fun K hK => ?_) ?_
        · have f0 := f6.cell' (flatP_at hpl).1
          have f1 := f6.cell' (flatP_at hpl).2
          go_simp
          refine hK.out _ _ hHeld (fun hHeld => ?_)
          clear hK K
          try simp only [Act.put, List.getElem_toArray, List.getElem_cons_succ, List.getElem_cons_zero, List.setIfInBounds_toArray, List.set_cons_zero, List.set_cons_succ]
          clear f0 f1
          refine wpAnyH_ready (rs := [13]) (by kernel_rfl) (by simp) ?_
          refine AllReadyH.cons rfl (fun K hK => ?_) AllReadyH.nil
          rw [if_pos (by rfl)]
          refine wp_store_blk 28 (.tmp 6) (.tmp 54) rfl (w.heap.size + 3) 0 [.int .i64 (P : Int), .int .i64 (L : Int), .int .i64 TO.k, .slice V1.pd V1.nd V1.cd, .slice V1.ph V1.nh V1.ch, .int .i64 TO.sp, .int .i64 TO.sl, .int .i64 TO.su, .slice V1.pl V1.nl V1.cl] rfl rfl r8 (by exact Nat.le_refl _) (tabSize V1 TO) (tabOne9 _ _ _ _ _ _ _ _ _ _ _ _ _ _ _) ?_
          intro W6 h6 ht6
          rw [whole_row (by rfl)] at h6
          refine hK.out _ _ ⟨hHeld.1.turned ht6 (by omega), hHeld.2.1.turned ht6 (by omega), hHeld.2.2.1.turned ht6 (by omega), hHeld.2.2.2.1.turnedAt ht6 (by omega), ht6.below hHeld.2.2.2.2 (by omega)⟩ (fun hHeld => ?_)
          clear hK K
          try simp only [Act.put, List.getElem_toArray, List.getElem_cons_succ, List.getElem_cons_zero, List.setIfInBounds_toArray, List.set_cons_zero, List.set_cons_succ]
          replace q8 := q8.turned ht6 (by omega)
          replace f6 := f6.turned ht6 (by omega)
          clear ht6
          refine wpAnyH_ready (rs := [14]) (by kernel_rfl) (by simp) ?_
          refine AllReadyH.cons rfl (fun K hK => ?_) AllReadyH.nil
          rw [if_pos (by rfl)]
          refine wp_store_blk 41 (.tmp 7) (.tmp 66) rfl (w.heap.size + 4) 0 [.int .i64 x.1, .int .i64 x.2] rfl rfl q8 (by simp) (sizeP2 _ _) (one2 _ _) ?_
          intro W9 h9 ht9
          rw [whole_row (by rfl)] at h9
          refine hK.out _ _ ⟨hHeld.1.turned ht9 (by omega), hHeld.2.1.turned ht9 (by omega), hHeld.2.2.1.turned ht9 (by omega), hHeld.2.2.2.1.turnedAt ht9 (by omega), ht9.below hHeld.2.2.2.2 (by omega)⟩ (fun hHeld => ?_)
          clear hK K
          try simp only [Act.put, List.getElem_toArray, List.getElem_cons_succ, List.getElem_cons_zero, List.setIfInBounds_toArray, List.set_cons_zero, List.set_cons_succ]
          replace h6 := h6.turned ht9 (by omega)
          clear ht9
          refine wpAnyH_take (i := 15) (v := ?_) rfl (by kernel_rfl) (by kernel_rfl) (by kernel_rfl) (fun _ _ _ h => h) (Or.inl ⟨by rfl, ?_⟩) hHeld ?_
          rotate_left
          · intro w' hSw; try dsimp only at hSw
            go_simp; try (with_reducible rfl)
          try simp only [Act.put, List.getElem_toArray, List.getElem_cons_succ, List.getElem_cons_zero, List.setIfInBounds_toArray, List.set_cons_zero, List.set_cons_succ]
          refine wpAnyH_done (by kernel_rfl) ?_ _
          refine NoPanic.normal ?_
          go_wp2_with fail
          have h6' : Blk W9 (w.heap.size + 3) 28 (tabC V1 TO) := by unfold tabC; rw [hTP, hTL]; exact h6
          refine ret_tabPE Try.results15 rfl h6' rfl h9 rfl rfl ⟨⟨V1, TO, R2, x.1, x.2, by rw [HE2.out]; rfl, fun _ => ⟨HTO.out, HX.out.symm, hHeld.2.2.2.1.low (by omega)⟩⟩, hHeld.2.2.2.2⟩
        refine AllReadyH.cons rfl (fun K hK => ?_) AllReadyH.nil
        rw [if_pos (by rfl)]
        refine wp_store_blk 28 (.tmp 6) (.tmp 54) rfl (w.heap.size + 3) 0 [.int .i64 (P : Int), .int .i64 (L : Int), .int .i64 TO.k, .slice V1.pd V1.nd V1.cd, .slice V1.ph V1.nh V1.ch, .int .i64 TO.sp, .int .i64 TO.sl, .int .i64 TO.su, .slice V1.pl V1.nl V1.cl] rfl rfl r8 (by exact Nat.le_refl _) (tabSize V1 TO) (tabOne9 _ _ _ _ _ _ _ _ _ _ _ _ _ _ _) ?_
        intro W6 h6 ht6
        rw [whole_row (by rfl)] at h6
        refine hK.out _ _ ⟨hHeld.1.turned ht6 (by omega), hHeld.2.1.turned ht6 (by omega), hHeld.2.2.1.turned ht6 (by omega), hHeld.2.2.2.1.turnedAt ht6 (by omega), ht6.below hHeld.2.2.2.2 (by omega)⟩ (fun hHeld => ?_)
        clear hK K
        try simp only [Act.put, List.getElem_toArray, List.getElem_cons_succ, List.getElem_cons_zero, List.setIfInBounds_toArray, List.set_cons_zero, List.set_cons_succ]
        replace q8 := q8.turned ht6 (by omega)
        replace f6 := f6.turned ht6 (by omega)
        clear ht6
        refine wpAnyH_ready (rs := [12]) (by kernel_rfl) (by simp) ?_
        refine AllReadyH.cons rfl (fun K hK => ?_) AllReadyH.nil
        have f0 := f6.cell' (flatP_at hpl).1
        have f1 := f6.cell' (flatP_at hpl).2
        go_simp
        refine hK.out _ _ hHeld (fun hHeld => ?_)
        clear hK K
        try simp only [Act.put, List.getElem_toArray, List.getElem_cons_succ, List.getElem_cons_zero, List.setIfInBounds_toArray, List.set_cons_zero, List.set_cons_succ]
        clear f0 f1
        refine wpAnyH_ready (rs := [14]) (by kernel_rfl) (by simp) ?_
        refine AllReadyH.cons rfl (fun K hK => ?_) AllReadyH.nil
        rw [if_pos (by rfl)]
        refine wp_store_blk 41 (.tmp 7) (.tmp 66) rfl (w.heap.size + 4) 0 [.int .i64 x.1, .int .i64 x.2] rfl rfl q8 (by simp) (sizeP2 _ _) (one2 _ _) ?_
        intro W9 h9 ht9
        rw [whole_row (by rfl)] at h9
        refine hK.out _ _ ⟨hHeld.1.turned ht9 (by omega), hHeld.2.1.turned ht9 (by omega), hHeld.2.2.1.turned ht9 (by omega), hHeld.2.2.2.1.turnedAt ht9 (by omega), ht9.below hHeld.2.2.2.2 (by omega)⟩ (fun hHeld => ?_)
        clear hK K
        try simp only [Act.put, List.getElem_toArray, List.getElem_cons_succ, List.getElem_cons_zero, List.setIfInBounds_toArray, List.set_cons_zero, List.set_cons_succ]
        replace h6 := h6.turned ht9 (by omega)
        clear ht9
        refine wpAnyH_take (i := 15) (v := ?_) rfl (by kernel_rfl) (by kernel_rfl) (by kernel_rfl) (fun _ _ _ h => h) (Or.inl ⟨by rfl, ?_⟩) hHeld ?_
        rotate_left
        · intro w' hSw; try dsimp only at hSw
          go_simp; try (with_reducible rfl)
        try simp only [Act.put, List.getElem_toArray, List.getElem_cons_succ, List.getElem_cons_zero, List.setIfInBounds_toArray, List.set_cons_zero, List.set_cons_succ]
        refine wpAnyH_done (by kernel_rfl) ?_ _
        refine NoPanic.normal ?_
        go_wp2_with fail
        have h6' : Blk W9 (w.heap.size + 3) 28 (tabC V1 TO) := by unfold tabC; rw [hTP, hTL]; exact h6
        refine ret_tabPE Try.results15 rfl h6' rfl h9 rfl rfl ⟨⟨V1, TO, R2, x.1, x.2, by rw [HE2.out]; rfl, fun _ => ⟨HTO.out, HX.out.symm, hHeld.2.2.2.1.low (by omega)⟩⟩, hHeld.2.2.2.2⟩
    · by_cases hk2 : kind = 2
      · subst hk2
        cases hrv : room T with
        | false =>
          have HE2 : Hid (putE T 2 n = 51) := by show _ = _; rw [HE.out, if_neg (fun h' => by cases h'.1), if_neg (fun h' => by rw [hrv] at h'; cases h'.2)]
          rw [may_rand, hrv] at hma5
          clear hnx hrv
          go_wp2_with (first | (go_at_call 31; refine hma5.mono ?_; rintro e w6 ⟨rfl, k6⟩; have r6 := r5.kept k6; have q6 := q5.kept k6) | (guard_target = wpList _ _ _ (Oper.mk _ (Op.store 28 (Operand.tmp 6) _) _ _ _ _ :: _) _ _; refine wpList_store_blk rfl 28 (.tmp 6) (.tmp 24) rfl (w.heap.size + 3) 0 (tabC ⟨none, 0, 0, none, 0, 0, none, 0, 0⟩ zeroT) rfl rfl r6 (by exact Nat.le_refl _) (tabSize _ _) (tabOne _ _) ?_; intro W8 h8 ht8; rw [whole_row (by rfl)] at h8; have q8 := q6.turned ht8 (by omega)) | (guard_target = wpList _ _ _ (Oper.mk _ (Op.store 41 (Operand.tmp 7) _) _ _ _ _ :: _) _ _; refine wpList_store_blk rfl 41 (.tmp 7) (.tmp 25) rfl (w.heap.size + 4) 0 [.int .i64 0, .int .i64 0] rfl rfl q8 (by simp) (sizeP2 _ _) (one2 _ _) ?_; intro W9 h9 ht9; rw [whole_row (by rfl)] at h9; have r9 := h8.turned ht9 (by omega)))
          refine ret_tabPE Try.results15 rfl r9 rfl h9 rfl rfl ⟨⟨_, _, [], _, _, by rw [HE2.out]; rfl, fun h' => by rw [HE2.out] at h'; cases h'⟩, ht9.below (ht8.below (bt hbel5 k6) (by omega)) (by omega)⟩
        | true =>
          have HE2 : Hid (putE T 2 n = 0) := by show _ = _; rw [HE.out, if_neg (fun h' => by cases h'.1), if_pos ⟨rfl, hrv⟩]
          have HTO : Hid (putRn T n = putT T 2 n) := by show _ = _; unfold putT; rw [if_neg (by decide)]
          have hSW := putRn_where HS.out (n := n) HPG.out hrv
          have HPO : Hid (PgOk (putRn T n)) := hSW.1.pgOk
          have HPOS : Hid (0 < T.logs.length) := room_last hrv
          rw [may_rand, hrv] at hma5
          clear hnx hSW hrv
          go_upto_region 10 with (go_at_call 31; refine hma5.mono ?_; rintro e w6 ⟨rfl, k6⟩)
          have b6 := b5.kept k6
          have p6 := p5.kept k6
          have r6 := r5.kept k6
          have q6 := q5.kept k6
          have h6 := h5.kept k6
          obtain ⟨m, hm⟩ : ∃ m, V.nl = m + 1 := ⟨V.nl - 1, by have := HPOS.out; rw [HLL.out] at this; omega⟩
          have hR2 : (fgL n R1 R1.length).length = m + 1 := by rw [fgL_length, HRL.out, hm]
          obtain ⟨r, hr⟩ : ∃ r, (fgL n R1 R1.length)[m]? = some r := ⟨_, List.getElem?_eq_getElem (by omega)⟩
          have hrl : r.pages.length ≤ 1000 := by have := HLR.out m r hr; have := HF.out; omega
          have hown6 := hown5.next k6
          have hbel6 := bt hbel5 k6
          have hw16 : B1 ≤ w6.heap.size := Nat.le_trans hw15 k6.size
          have hap := appendPage_any B1 V1 (forgetT T n) (fgL n R1 R1.length) m r n w6 hw16 hown6 (by rw [hnl1.out]; exact hm) hnl9 hr hrl
          have HAW : Hid (∀ p c, (forgetT T n).with ((fgL n R1 R1.length).set m ⟨r.phys, p, c, r.pages ++ [(n : Int)]⟩) = putRn T n) := fun p c => addPg_with hown6.logs hR2 hr
          clear hR2 hm hr hrl
          unfold tabA at hap
          rw [show (forgetT T n).pages = (P : Int) from hpage, show (forgetT T n).logical = (L : Int) from hlog] at hap
          change Calls Try.prog 44 #[.agg #[.int .i64 (P : Int), .int .i64 (L : Int), .int .i64 T.k, .slice V1.pd V1.nd V1.cd, .slice V1.ph V1.nh V1.ch, .int .i64 T.sp, .int .i64 T.sl, .int .i64 T.su, .slice V1.pl V1.nl V1.cl], .int .i64 (n : Int)] w6 _ at hap
          clear b5 s5 p5 r5 q5 h5 hown5 hbel5 k5 k6 t0 yp y0 y1 y2 y3 y4 y5 y6 y7 y8 hma5 hown6
          have z0 := h6.cell' (i := 0) rfl; have z1 := h6.cell' (i := 1) rfl; have z2 := h6.cell' (i := 2) rfl; have z3 := h6.cell' (i := 3) rfl; have z4 := h6.cell' (i := 4) rfl; have z5 := h6.cell' (i := 5) rfl; have z6 := h6.cell' (i := 6) rfl; have z7 := h6.cell' (i := 7) rfl; have z8 := h6.cell' (i := 8) rfl
          have yp := p6.cell' (i := 0) rfl
          go_upto_region 11 with (go_at_call 44; refine hap.mono ?_; rintro e W8 ⟨p7, c7, rfl, hown8, k8, keep8⟩)
          rw [HAW.out] at hown8
          have p8 := p6.below k8 (by omega)
          have b8 := b6.below k8 (by omega)
          have r8 := r6.below k8 (by omega)
          have q8 := q6.below k8 (by omega)
          have h8 : Blk W8 g9 28 [.int .i64 (P : Int), .int .i64 (L : Int), .int .i64 (putRn T n).k, .slice V1.pd V1.nd V1.cd, .slice V1.ph V1.nh V1.ch, .int .i64 (putRn T n).sp, .int .i64 (putRn T n).sl, .int .i64 (putRn T n).su, .slice V1.pl V1.nl V1.cl] := keep8 _ _ h6
          have hbel8 : Below w.heap.size w W8 := hbel6.trans (k8.mono (by omega))
          have hTP : (putRn T n).pages = (P : Int) := hpage
          have hTL : (putRn T n).logical = (L : Int) := hlog
          clear hbel6 h6 b6 p6 r6 q6 k8 keep8 hap HAW yp z0 z1 z2 z3 z4 z5 z6 z7 z8
          generalize (fgL n R1 R1.length).set m ⟨r.phys, p7, c7, r.pages ++ [(n : Int)]⟩ = R2 at *
          generalize putRn T n = TO at *
          have hst := fun W (hT : TabIn W V1 TO) => standing_any V1 TO P L qq W hT hTP ⟨HF.out.1, HF.out.2.1⟩ (by rw [hnd1.out]; exact HF.out.2.2.2.1) (by rw [hnh1.out]; exact HF.out.2.2.2.2) HF.out.2.2.1 hkd HPO.out
          unfold tabA at hst
          rw [hTP, hTL] at hst
          obtain ⟨x, hpl⟩ : ∃ x, (standP TO P qq)[rr]? = some x := ⟨_, List.getElem?_eq_getElem (by rw [standP_length]; exact hrP)⟩
          have HX : Hid (whereP TO P n = x) := by show _ = _; unfold whereP; rw [HQ.out.1, HQ.out.2, List.getD_eq_getElem?_getD, hpl]; rfl
          refine wp_region_noPanic ?_
          refine wp_region_held_drew (S := fun W' => Blk W' g9 28 [.int .i64 (P : Int), .int .i64 (L : Int), .int .i64 TO.k, .slice V1.pd V1.nd V1.cd, .slice V1.ph V1.nh V1.ch, .int .i64 TO.sp, .int .i64 TO.sl, .int .i64 TO.su, .slice V1.pl V1.nl V1.cl] ∧ Blk W' (w.heap.size + 2) 3 [.int .i64 (n : Int)] ∧ Blk W' w.heap.size 28 [.int .i64 (P : Int), .int .i64 (L : Int), .int .i64 T.k, .slice V.pd V.nd V.cd, .slice V.ph V.nh V.ch, .int .i64 T.sp, .int .i64 T.sl, .int .i64 T.su, .slice V.pl V.nl V.cl] ∧ OwnT B1 W' V1 TO R2 ∧ Below w.heap.size w W') (by kernel_rfl) ⟨h8.drew, p8.drew, b8.drew, hown8.next ((Below.refl _ _).drew), hbel8.drew⟩ (fun hHeld => ?_)
          replace r8 := r8.drew
          replace q8 := q8.drew
          clear h8 p8 b8 hown8 hbel8
          generalize W8.drew = W0 at *
          refine wpAnyH_take (i := 0) (v := ?_) rfl (by kernel_rfl) (by kernel_rfl) (by kernel_rfl) (fun _ _ _ h => h) (Or.inl ⟨by rfl, ?_⟩) hHeld ?_
          rotate_left
          · intro w' hSw; try dsimp only at hSw
            have z0 := hSw.1.cell' (i := 0) rfl; have z1 := hSw.1.cell' (i := 1) rfl; have z2 := hSw.1.cell' (i := 2) rfl; have z3 := hSw.1.cell' (i := 3) rfl; have z4 := hSw.1.cell' (i := 4) rfl; have z5 := hSw.1.cell' (i := 5) rfl; have z6 := hSw.1.cell' (i := 6) rfl; have z7 := hSw.1.cell' (i := 7) rfl; have z8 := hSw.1.cell' (i := 8) rfl
            go_simp; try (with_reducible rfl)
          try simp only [Act.put, List.getElem_toArray, List.getElem_cons_succ, List.getElem_cons_zero, List.setIfInBounds_toArray, List.set_cons_zero, List.set_cons_succ]
          refine wpAnyH_take (i := 1) (v := ?_) rfl (by kernel_rfl) (by kernel_rfl) (by kernel_rfl) (fun _ _ _ h => h) (Or.inl ⟨by rfl, ?_⟩) hHeld ?_
          rotate_left
          · intro w' hSw; try dsimp only at hSw
            have z0 := hSw.1.cell' (i := 0) rfl; have z1 := hSw.1.cell' (i := 1) rfl; have z2 := hSw.1.cell' (i := 2) rfl; have z3 := hSw.1.cell' (i := 3) rfl; have z4 := hSw.1.cell' (i := 4) rfl; have z5 := hSw.1.cell' (i := 5) rfl; have z6 := hSw.1.cell' (i := 6) rfl; have z7 := hSw.1.cell' (i := 7) rfl; have z8 := hSw.1.cell' (i := 8) rfl
            go_simp; try (with_reducible rfl)
          try simp only [Act.put, List.getElem_toArray, List.getElem_cons_succ, List.getElem_cons_zero, List.setIfInBounds_toArray, List.set_cons_zero, List.set_cons_succ]
          refine wpAnyH_take (i := 2) (v := ?_) rfl (by kernel_rfl) (by kernel_rfl) (by kernel_rfl) (fun _ _ _ h => h) (Or.inl ⟨by rfl, ?_⟩) hHeld ?_
          rotate_left
          · intro w' hSw; try dsimp only at hSw
            have z0 := hSw.2.1.cell' (i := 0) rfl
            go_simp; try (with_reducible rfl)
          try simp only [Act.put, List.getElem_toArray, List.getElem_cons_succ, List.getElem_cons_zero, List.setIfInBounds_toArray, List.set_cons_zero, List.set_cons_succ]
          refine wpAnyH_take (i := 3) (v := ?_) rfl (by kernel_rfl) (by kernel_rfl) (by kernel_rfl) (fun _ _ _ h => h) (Or.inl ⟨by rfl, ?_⟩) hHeld ?_
          rotate_left
          · intro w' hSw; try dsimp only at hSw
            go_simp; try (with_reducible rfl)
          try simp only [Act.put, List.getElem_toArray, List.getElem_cons_succ, List.getElem_cons_zero, List.setIfInBounds_toArray, List.set_cons_zero, List.set_cons_succ]
          refine wpAnyH_take (i := 4) (v := ?_) rfl (by kernel_rfl) (by kernel_rfl) (by kernel_rfl) (fun _ _ _ h => h) (Or.inl ⟨by rfl, ?_⟩) hHeld ?_
          rotate_left
          · intro w' hSw; try dsimp only at hSw
            have z0 := hSw.2.2.1.cell' (i := 0) rfl
            go_simp; try (with_reducible rfl)
          try simp only [Act.put, List.getElem_toArray, List.getElem_cons_succ, List.getElem_cons_zero, List.setIfInBounds_toArray, List.set_cons_zero, List.set_cons_succ]
          refine wpAnyH_take (i := 5) (v := ?_) rfl (by kernel_rfl) (by kernel_rfl) (by kernel_rfl) (fun _ _ _ h => h) (Or.inl ⟨by rfl, ?_⟩) hHeld ?_
          rotate_left
          · intro w' hSw; try dsimp only at hSw
            go_simp; try (with_reducible rfl)
          try simp only [Act.put, List.getElem_toArray, List.getElem_cons_succ, List.getElem_cons_zero, List.setIfInBounds_toArray, List.set_cons_zero, List.set_cons_succ]
          refine wpAnyH_take (i := 8) (v := ?_) rfl (by kernel_rfl) (by kernel_rfl) (by kernel_rfl) (fun _ _ _ h => h) (Or.inl ⟨by rfl, ?_⟩) hHeld ?_
          rotate_left
          · intro w' hSw; try dsimp only at hSw
            go_simp; try (with_reducible rfl)
          try simp only [Act.put, List.getElem_toArray, List.getElem_cons_succ, List.getElem_cons_zero, List.setIfInBounds_toArray, List.set_cons_zero, List.set_cons_succ]
          refine wpAnyH_take (i := 9) (v := ?_) rfl (by kernel_rfl) (by kernel_rfl) (by kernel_rfl) (fun _ _ _ h => h) (Or.inl ⟨by rfl, ?_⟩) hHeld ?_
          rotate_left
          · intro w' hSw; try dsimp only at hSw
            have z0 := hSw.2.2.1.cell' (i := 0) rfl
            go_simp; try (with_reducible rfl)
          try simp only [Act.put, List.getElem_toArray, List.getElem_cons_succ, List.getElem_cons_zero, List.setIfInBounds_toArray, List.set_cons_zero, List.set_cons_succ]
          refine wpAnyH_take (i := 7) (v := ?_) rfl (by kernel_rfl) (by kernel_rfl) (by kernel_rfl) (fun _ _ _ h => h) (Or.inl ⟨by rfl, ?_⟩) hHeld ?_
          rotate_left
          · intro w' hSw; try dsimp only at hSw
            have z0 := hSw.2.1.cell' (i := 0) rfl
            go_simp; try (with_reducible rfl)
          try simp only [Act.put, List.getElem_toArray, List.getElem_cons_succ, List.getElem_cons_zero, List.setIfInBounds_toArray, List.set_cons_zero, List.set_cons_succ]
          refine wpAnyH_take (i := 10) (v := ?_) rfl (by kernel_rfl) (by kernel_rfl) (by kernel_rfl) (fun _ _ _ h => h) (Or.inl ⟨by rfl, ?_⟩) hHeld ?_
          rotate_left
          · intro w' hSw; try dsimp only at hSw
            go_simp; try (with_reducible rfl)
          try simp only [Act.put, List.getElem_toArray, List.getElem_cons_succ, List.getElem_cons_zero, List.setIfInBounds_toArray, List.set_cons_zero, List.set_cons_succ]
          refine wpAnyH_ready (rs := [6]) (by kernel_rfl) (by simp) ?_
          refine AllReadyH.cons rfl (fun K hK => ?_) AllReadyH.nil
          go_simp
          refine (hst _ hHeld.2.2.2.1.inT).mono ?_
          rintro e W1 ⟨gs, rfl, f6, hgs, k6⟩
          try go_wp2_with fail
          refine hK.out _ _ ⟨hHeld.1.kept k6, hHeld.2.1.kept k6, hHeld.2.2.1.kept k6, hHeld.2.2.2.1.next k6, bt hHeld.2.2.2.2 k6⟩ (fun hHeld => ?_)
          clear hK K
          try simp only [Act.put, List.getElem_toArray, List.getElem_cons_succ, List.getElem_cons_zero, List.setIfInBounds_toArray, List.set_cons_zero, List.set_cons_succ]
          have hrl := r8.lt
          have hql := q8.lt
          replace r8 := r8.kept k6
          replace q8 := q8.kept k6
          clear k6
          refine wpAnyH_take (i := 11) (v := ?_) rfl (by kernel_rfl) (by kernel_rfl) (by kernel_rfl) (fun _ _ _ h => h) (Or.inl ⟨by rfl, ?_⟩) hHeld ?_
          rotate_left
          · intro w' hSw; try dsimp only at hSw
            go_simp; try (with_reducible rfl)
          try simp only [Act.put, List.getElem_toArray, List.getElem_cons_succ, List.getElem_cons_zero, List.setIfInBounds_toArray, List.set_cons_zero, List.set_cons_succ]
          refine wpAnyH_ready (rs := [12, 13]) (by kernel_rfl) (by simp) ?_
          refine AllReadyH.cons rfl (fun K hK => ?_) ?_
          · have f0 := f6.cell' (flatP_at hpl).1
            have f1 := f6.cell' (flatP_at hpl).2
            go_simp
            refine hK.out _ _ hHeld (fun hHeld => ?_)
            clear hK K
            try simp only [Act.put, List.getElem_toArray, List.getElem_cons_succ, List.getElem_cons_zero, List.setIfInBounds_toArray, List.set_cons_zero, List.set_cons_succ]
            clear f0 f1
            refine wpAnyH_ready (rs := [13]) (by kernel_rfl) (by simp) ?_
            refine AllReadyH.cons rfl (fun K hK => ?_) AllReadyH.nil
            rw [if_pos (by rfl)]
            refine wp_store_blk 28 (.tmp 6) (.tmp 54) rfl (w.heap.size + 3) 0 [.int .i64 (P : Int), .int .i64 (L : Int), .int .i64 TO.k, .slice V1.pd V1.nd V1.cd, .slice V1.ph V1.nh V1.ch, .int .i64 TO.sp, .int .i64 TO.sl, .int .i64 TO.su, .slice V1.pl V1.nl V1.cl] rfl rfl r8 (by exact Nat.le_refl _) (tabSize V1 TO) (tabOne9 _ _ _ _ _ _ _ _ _ _ _ _ _ _ _) ?_
            intro W6 h6 ht6
            rw [whole_row (by rfl)] at h6
            refine hK.out _ _ ⟨hHeld.1.turned ht6 (by omega), hHeld.2.1.turned ht6 (by omega), hHeld.2.2.1.turned ht6 (by omega), hHeld.2.2.2.1.turnedAt ht6 (by omega), ht6.below hHeld.2.2.2.2 (by omega)⟩ (fun hHeld => ?_)
            clear hK K
            try simp only [Act.put, List.getElem_toArray, List.getElem_cons_succ, List.getElem_cons_zero, List.setIfInBounds_toArray, List.set_cons_zero, List.set_cons_succ]
            replace q8 := q8.turned ht6 (by omega)
            replace f6 := f6.turned ht6 (by omega)
            clear ht6
            refine wpAnyH_ready (rs := [14]) (by kernel_rfl) (by simp) ?_
            refine AllReadyH.cons rfl (fun K hK => ?_) AllReadyH.nil
            rw [if_pos (by rfl)]
            refine wp_store_blk 41 (.tmp 7) (.tmp 66) rfl (w.heap.size + 4) 0 [.int .i64 x.1, .int .i64 x.2] rfl rfl q8 (by simp) (sizeP2 _ _) (one2 _ _) ?_
            intro W9 h9 ht9
            rw [whole_row (by rfl)] at h9
            refine hK.out _ _ ⟨hHeld.1.turned ht9 (by omega), hHeld.2.1.turned ht9 (by omega), hHeld.2.2.1.turned ht9 (by omega), hHeld.2.2.2.1.turnedAt ht9 (by omega), ht9.below hHeld.2.2.2.2 (by omega)⟩ (fun hHeld => ?_)
            clear hK K
            try simp only [Act.put, List.getElem_toArray, List.getElem_cons_succ, List.getElem_cons_zero, List.setIfInBounds_toArray, List.set_cons_zero, List.set_cons_succ]
            replace h6 := h6.turned ht9 (by omega)
            clear ht9
            refine wpAnyH_take (i := 15) (v := ?_) rfl (by kernel_rfl) (by kernel_rfl) (by kernel_rfl) (fun _ _ _ h => h) (Or.inl ⟨by rfl, ?_⟩) hHeld ?_
            rotate_left
            · intro w' hSw; try dsimp only at hSw
              go_simp; try (with_reducible rfl)
            try simp only [Act.put, List.getElem_toArray, List.getElem_cons_succ, List.getElem_cons_zero, List.setIfInBounds_toArray, List.set_cons_zero, List.set_cons_succ]
            refine wpAnyH_done (by kernel_rfl) ?_ _
            refine NoPanic.normal ?_
            go_wp2_with fail
            have h6' : Blk W9 (w.heap.size + 3) 28 (tabC V1 TO) := by unfold tabC; rw [hTP, hTL]; exact h6
            refine ret_tabPE Try.results15 rfl h6' rfl h9 rfl rfl ⟨⟨V1, TO, R2, x.1, x.2, by rw [HE2.out]; rfl, fun _ => ⟨HTO.out, HX.out.symm, hHeld.2.2.2.1.low (by omega)⟩⟩, hHeld.2.2.2.2⟩
          refine AllReadyH.cons rfl (fun K hK => ?_) AllReadyH.nil
          rw [if_pos (by rfl)]
          refine wp_store_blk 28 (.tmp 6) (.tmp 54) rfl (w.heap.size + 3) 0 [.int .i64 (P : Int), .int .i64 (L : Int), .int .i64 TO.k, .slice V1.pd V1.nd V1.cd, .slice V1.ph V1.nh V1.ch, .int .i64 TO.sp, .int .i64 TO.sl, .int .i64 TO.su, .slice V1.pl V1.nl V1.cl] rfl rfl r8 (by exact Nat.le_refl _) (tabSize V1 TO) (tabOne9 _ _ _ _ _ _ _ _ _ _ _ _ _ _ _) ?_
          intro W6 h6 ht6
          rw [whole_row (by rfl)] at h6
          refine hK.out _ _ ⟨hHeld.1.turned ht6 (by omega), hHeld.2.1.turned ht6 (by omega), hHeld.2.2.1.turned ht6 (by omega), hHeld.2.2.2.1.turnedAt ht6 (by omega), ht6.below hHeld.2.2.2.2 (by omega)⟩ (fun hHeld => ?_)
          clear hK K
          try simp only [Act.put, List.getElem_toArray, List.getElem_cons_succ, List.getElem_cons_zero, List.setIfInBounds_toArray, List.set_cons_zero, List.set_cons_succ]
          replace q8 := q8.turned ht6 (by omega)
          replace f6 := f6.turned ht6 (by omega)
          clear ht6
          refine wpAnyH_ready (rs := [12]) (by kernel_rfl) (by simp) ?_
          refine AllReadyH.cons rfl (fun K hK => ?_) AllReadyH.nil
          have f0 := f6.cell' (flatP_at hpl).1
          have f1 := f6.cell' (flatP_at hpl).2
          go_simp
          refine hK.out _ _ hHeld (fun hHeld => ?_)
          clear hK K
          try simp only [Act.put, List.getElem_toArray, List.getElem_cons_succ, List.getElem_cons_zero, List.setIfInBounds_toArray, List.set_cons_zero, List.set_cons_succ]
          clear f0 f1
          refine wpAnyH_ready (rs := [14]) (by kernel_rfl) (by simp) ?_
          refine AllReadyH.cons rfl (fun K hK => ?_) AllReadyH.nil
          rw [if_pos (by rfl)]
          refine wp_store_blk 41 (.tmp 7) (.tmp 66) rfl (w.heap.size + 4) 0 [.int .i64 x.1, .int .i64 x.2] rfl rfl q8 (by simp) (sizeP2 _ _) (one2 _ _) ?_
          intro W9 h9 ht9
          rw [whole_row (by rfl)] at h9
          refine hK.out _ _ ⟨hHeld.1.turned ht9 (by omega), hHeld.2.1.turned ht9 (by omega), hHeld.2.2.1.turned ht9 (by omega), hHeld.2.2.2.1.turnedAt ht9 (by omega), ht9.below hHeld.2.2.2.2 (by omega)⟩ (fun hHeld => ?_)
          clear hK K
          try simp only [Act.put, List.getElem_toArray, List.getElem_cons_succ, List.getElem_cons_zero, List.setIfInBounds_toArray, List.set_cons_zero, List.set_cons_succ]
          replace h6 := h6.turned ht9 (by omega)
          clear ht9
          refine wpAnyH_take (i := 15) (v := ?_) rfl (by kernel_rfl) (by kernel_rfl) (by kernel_rfl) (fun _ _ _ h => h) (Or.inl ⟨by rfl, ?_⟩) hHeld ?_
          rotate_left
          · intro w' hSw; try dsimp only at hSw
            go_simp; try (with_reducible rfl)
          try simp only [Act.put, List.getElem_toArray, List.getElem_cons_succ, List.getElem_cons_zero, List.setIfInBounds_toArray, List.set_cons_zero, List.set_cons_succ]
          refine wpAnyH_done (by kernel_rfl) ?_ _
          refine NoPanic.normal ?_
          go_wp2_with fail
          have h6' : Blk W9 (w.heap.size + 3) 28 (tabC V1 TO) := by unfold tabC; rw [hTP, hTL]; exact h6
          refine ret_tabPE Try.results15 rfl h6' rfl h9 rfl rfl ⟨⟨V1, TO, R2, x.1, x.2, by rw [HE2.out]; rfl, fun _ => ⟨HTO.out, HX.out.symm, hHeld.2.2.2.1.low (by omega)⟩⟩, hHeld.2.2.2.2⟩
      · have HE2 : Hid (putE T kind n = 51) := by show _ = _; rw [HE.out, if_neg (fun h' => hk1 h'.1), if_neg (fun h' => hk2 h'.1)]
        have e1 : (kind == 1) = false := by simpa using hk1
        have e2 : (kind == 2) = false := by simpa using hk2
        go_wp2_with (first | (guard_target = wpList _ _ _ (Oper.mk _ (Op.store 28 (Operand.tmp 6) _) _ _ _ _ :: _) _ _; refine wpList_store_blk rfl 28 (.tmp 6) (.tmp 24) rfl (w.heap.size + 3) 0 (tabC ⟨none, 0, 0, none, 0, 0, none, 0, 0⟩ zeroT) rfl rfl r5 (by exact Nat.le_refl _) (tabSize _ _) (tabOne _ _) ?_; intro W8 h8 ht8; rw [whole_row (by rfl)] at h8; have q8 := q5.turned ht8 (by omega)) | (guard_target = wpList _ _ _ (Oper.mk _ (Op.store 41 (Operand.tmp 7) _) _ _ _ _ :: _) _ _; refine wpList_store_blk rfl 41 (.tmp 7) (.tmp 25) rfl (w.heap.size + 4) 0 [.int .i64 0, .int .i64 0] rfl rfl q8 (by simp) (sizeP2 _ _) (one2 _ _) ?_; intro W9 h9 ht9; rw [whole_row (by rfl)] at h9; have r9 := h8.turned ht9 (by omega)))
        refine ret_tabPE Try.results15 rfl r9 rfl h9 rfl rfl ⟨⟨_, _, [], _, _, by rw [HE2.out]; rfl, fun h' => by rw [HE2.out] at h'; cases h'⟩, ht9.below (ht8.below hbel5 (by omega)) (by omega)⟩
  · have HE2 : Hid (putE T kind page = reachE T page) := by show _ = _; unfold putE; rw [if_neg h0]
    have HNZ : Hid (¬ reachE T page = 0) := h0
    unfold tabA at hb0 b0 s0 p0 r0 q0 hre ⊢
    have h0' : (reachE T page == 0) = false := by simpa using h0
    generalize reachE T page = fe at *
    clear h0 q0s
    go_enter Try.func15, Try.ntmps15
    go_wp2_with (first | (go_at_call 27; refine hre.mono ?_; rintro e w1 ⟨rfl, hb1⟩; have r1 := r0.kept hb1; have q1 := q0.kept hb1) | (guard_target = wpList _ _ _ (Oper.mk _ (Op.store 28 (Operand.tmp 6) _) _ _ _ _ :: _) _ _; refine wpList_store_blk rfl 28 (.tmp 6) (.tmp 16) rfl (w.heap.size + 3) 0 (tabC ⟨none, 0, 0, none, 0, 0, none, 0, 0⟩ zeroT) rfl rfl r1 (by exact Nat.le_refl _) (tabSize _ _) (tabOne _ _) ?_; intro W8 h8 ht8; rw [whole_row (by rfl)] at h8; have q8 := q1.turned ht8 (by omega)) | (guard_target = wpList _ _ _ (Oper.mk _ (Op.store 41 (Operand.tmp 7) _) _ _ _ _ :: _) _ _; refine wpList_store_blk rfl 41 (.tmp 7) (.tmp 17) rfl (w.heap.size + 4) 0 [.int .i64 0, .int .i64 0] rfl rfl q8 (by simp) (sizeP2 _ _) (one2 _ _) ?_; intro W9 h9 ht9; rw [whole_row (by rfl)] at h9; have r9 := h8.turned ht9 (by omega)))
    refine ret_tabPE Try.results15 rfl r9 rfl h9 rfl rfl ⟨⟨_, _, [], _, _, by rw [HE2.out]; rfl, fun h' => by rw [HE2.out] at h'; exact absurd h' HNZ.out⟩, ht9.below (ht8.below (bt hb0 hb1) (by omega)) (by omega)⟩
end Go.Proofs.Ythibaefoioeghaa

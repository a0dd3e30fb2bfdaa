/-
  ExtentBlocks returns true.
-/
import Derived.Test.YtmboohadindlfaaXtBk
namespace Go.Proofs.Ytmboohadindlfaa
open Go.RowKit Go.Maps
def RetI (e : Ending) : Prop := ∃ m, e = .returned (.int .i64 m)
set_option linter.unusedSimpArgs false in
set_option linter.unusedVariables false in
set_option maxRecDepth 100000 in
set_option maxHeartbeats 4000000 in
theorem rblocks_any (p : Option Addr) (n c : Nat) (l : List Ext) (w : World) (h : InE w p n c l) :
    Calls Try.prog 15 #[.slice p n c] w fun e w' => RetI e ∧ Below w.heap.size w w' := by
  go_enter Try.func15, Try.ntmps15
  go_wp2_with fail
  refine (may_any p n c l w h).mono ?_
  rintro e9 w1 ⟨p1, n1, c1, rfl, hi, hn1, hb1⟩
  have hroom := hi.room
  go_wp2
  go_loopw [3, 4] (fun s i wr => wr = w1 ∧ ∃ (k : Nat) (m : Int), k ≤ n1 ∧ i = .int .i64 k ∧ s = .int .i64 m) (fun _ i _ => n1 - (intOf i).toNat)
  case atStart => exact ⟨rfl, 0, 0, Nat.zero_le _, rfl, rfl⟩
  case round =>
    obtain ⟨rfl, k, m, hk, rfl, rfl⟩ := hrel
    by_cases hlt : k < n1
    · have hki : (k : Int) < (n1 : Int) := by omega
      obtain ⟨b, o, hpe, hbl, hc⟩ := hi.at' (by omega)
      subst hpe
      obtain ⟨e0, e1, e2⟩ := hc k hlt
      clear hc
      generalize eE (takenL l) k = e at *
      go_wp2
      go_roundw
      case rel => exact ⟨trivial, k + 1, _, by omega, by go_num, rfl⟩
      case measure => simp [intOf]; omega
    · have hkn : ¬ (k : Int) < (n1 : Int) := by omega
      go_wp2
      go_ret
      exact ⟨⟨_, rfl⟩, hb1⟩
/-- What is wanted, and what is lost, behind the blocks ahead of k. -/
def wantK (F : Int → Option Int) (e : Ext) (k : Nat) : Int → Option Int := fun t => if 0 ≤ t ∧ t < (k : Int) ∧ ¬ (e.lo ≤ t ∧ t < e.lo + e.ln) then F t else none
def lostK (F : Int → Option Int) (e : Ext) (k : Nat) : Int → Option Int := fun t => if 0 ≤ t ∧ t < (k : Int) ∧ (e.lo ≤ t ∧ t < e.lo + e.ln) then F t else none
theorem wantK_zero (F : Int → Option Int) (e : Ext) : wantK F e 0 = fun _ => none := by funext t; unfold wantK; rw [if_neg (by omega)]
theorem lostK_zero (F : Int → Option Int) (e : Ext) : lostK F e 0 = fun _ => none := by funext t; unfold lostK; rw [if_neg (by omega)]
theorem wantK_none {F : Int → Option Int} {e : Ext} {k : Nat} (h : F (k : Int) = none) : wantK F e (k + 1) = wantK F e k := by
  funext t; unfold wantK
  by_cases ht : t = (k : Int)
  · subst ht; rw [h]; simp
  · by_cases h1 : 0 ≤ t ∧ t < (k : Int) ∧ ¬ (e.lo ≤ t ∧ t < e.lo + e.ln)
    · rw [if_pos h1, if_pos (by omega)]
    · rw [if_neg h1, if_neg (by omega)]
theorem lostK_none {F : Int → Option Int} {e : Ext} {k : Nat} (h : F (k : Int) = none) : lostK F e (k + 1) = lostK F e k := by
  funext t; unfold lostK
  by_cases ht : t = (k : Int)
  · subst ht; rw [h]; simp
  · by_cases h1 : 0 ≤ t ∧ t < (k : Int) ∧ (e.lo ≤ t ∧ t < e.lo + e.ln)
    · rw [if_pos h1, if_pos (by omega)]
    · rw [if_neg h1, if_neg (by omega)]
theorem wantK_in {F : Int → Option Int} {e : Ext} {k : Nat} (h : e.lo ≤ (k : Int) ∧ (k : Int) < e.lo + e.ln) : wantK F e (k + 1) = wantK F e k := by
  funext t; unfold wantK
  by_cases h1 : 0 ≤ t ∧ t < (k : Int) ∧ ¬ (e.lo ≤ t ∧ t < e.lo + e.ln)
  · rw [if_pos h1, if_pos (by omega)]
  · rw [if_neg h1, if_neg (by omega)]
theorem lostK_out {F : Int → Option Int} {e : Ext} {k : Nat} (h : ¬ (e.lo ≤ (k : Int) ∧ (k : Int) < e.lo + e.ln)) : lostK F e (k + 1) = lostK F e k := by
  funext t; unfold lostK
  by_cases h1 : 0 ≤ t ∧ t < (k : Int) ∧ (e.lo ≤ t ∧ t < e.lo + e.ln)
  · rw [if_pos h1, if_pos (by omega)]
  · rw [if_neg h1, if_neg (by omega)]
theorem wantK_out {F : Int → Option Int} {e : Ext} {k : Nat} {c : Int} (hx : F (k : Int) = some c) (h : ¬ (e.lo ≤ (k : Int) ∧ (k : Int) < e.lo + e.ln)) : updO (wantK F e k) (k : Int) c = wantK F e (k + 1) := by
  funext t; unfold updO wantK
  by_cases ht : t = (k : Int)
  · subst ht; rw [if_pos rfl, if_pos (by omega), hx]
  · rw [if_neg ht]
    by_cases h1 : 0 ≤ t ∧ t < (k : Int) ∧ ¬ (e.lo ≤ t ∧ t < e.lo + e.ln)
    · rw [if_pos h1, if_pos (by omega)]
    · rw [if_neg h1, if_neg (by omega)]
theorem lostK_in {F : Int → Option Int} {e : Ext} {k : Nat} {c : Int} (hx : F (k : Int) = some c) (h : e.lo ≤ (k : Int) ∧ (k : Int) < e.lo + e.ln) : updO (lostK F e k) (k : Int) c = lostK F e (k + 1) := by
  funext t; unfold updO lostK
  by_cases ht : t = (k : Int)
  · subst ht; rw [if_pos rfl, if_pos (by omega), hx]
  · rw [if_neg ht]
    by_cases h1 : 0 ≤ t ∧ t < (k : Int) ∧ (e.lo ≤ t ∧ t < e.lo + e.ln)
    · rw [if_pos h1, if_pos (by omega)]
    · rw [if_neg h1, if_neg (by omega)]
theorem InE.grownM {w w' : World} {p : Option Addr} {n c g m : Nat} {l : List Ext} {f : Int → Option Int} (h : InE w p n c l) (hg : w.grownBy w' (some g)) (hM : MP w g m f) : InE w' p n c l := by
  refine ⟨h.len, h.cap, h.max, h.room, fun h0 => ?_, h.nil⟩
  obtain ⟨b, o, hp, hlt, hc⟩ := h.at' h0
  have hne : b ≠ g := by
    intro e
    obtain ⟨es, cl, ho⟩ := hM.obj
    have := (hc 0 h0).1
    rw [e] at this
    simp [World.cell?, ho] at this
  have hb : w'.heap[b]? = w.heap[b]? := hg.block b hlt (fun e => hne (by cases e; rfl))
  refine ⟨b, o, hp, Nat.lt_of_lt_of_le hlt hg.size, fun i hi => ?_⟩
  obtain ⟨a0, a1, a2⟩ := hc i hi
  exact ⟨(World.cell?_of_block (a := ⟨b, _, none⟩) hb).trans a0, (World.cell?_of_block (a := ⟨b, _, none⟩) hb).trans a1, (World.cell?_of_block (a := ⟨b, _, none⟩) hb).trans a2⟩
theorem st_range {l : List Ext} (hl : ∀ e ∈ l, oneB e = true) {t c : Int} (h : St l t c) : 0 ≤ t ∧ t < 65536 ∧ 0 ≤ c ∧ c ≤ 8192 := by
  obtain ⟨e, he, h1, h2, h3⟩ := h
  have := oneB_iff.1 (hl e he)
  unfold endI at h2
  omega
theorem map_bound {l : List Ext} (h : Ord l) : ∀ t c, mapL l t = some c → -1000000 ≤ c ∧ c ≤ 1000000 := fun t c hc => by
  have := st_range h.one ((mapL_eq l h t c).1 hc); omega
theorem heart1 {l : List Ext} {e : Ext} (h : Ord l) (he : oneB e = true) : mapL (normL (leftL e.lo (endI e) l)) = wantK (mapL l) e 65536 := by
  have hp := one_pos he
  have ho := h.left (f := e.lo) (t := endI e) (by omega)
  refine mapL_ext (normL_ord _ ho).1 _ (fun t c => ?_)
  rw [st_norm _ ho, st_left h.one]
  unfold wantK
  constructor
  · rintro ⟨hs, hr⟩
    have := st_range h.one hs
    rw [if_pos (by unfold endI at hr; omega)]
    exact (mapL_eq l h t c).2 hs
  · intro hs
    by_cases hq : 0 ≤ t ∧ t < ((65536 : Nat) : Int) ∧ ¬ (e.lo ≤ t ∧ t < e.lo + e.ln)
    · rw [if_pos hq] at hs
      exact ⟨(mapL_eq l h t c).1 hs, by unfold endI; omega⟩
    · rw [if_neg hq] at hs; cases hs
theorem heart2 {l : List Ext} {e : Ext} (h : Ord l) : mapL (runsL e.lo (endI e) l) = lostK (mapL l) e 65536 := by
  refine mapL_ext (h.runs _ _) _ (fun t c => ?_)
  rw [st_runs]
  unfold lostK
  constructor
  · rintro ⟨hs, hr⟩
    have := st_range h.one hs
    rw [if_pos (by unfold endI at hr; omega)]
    exact (mapL_eq l h t c).2 hs
  · intro hs
    by_cases hq : 0 ≤ t ∧ t < ((65536 : Nat) : Int) ∧ (e.lo ≤ t ∧ t < e.lo + e.ln)
    · rw [if_pos hq] at hs
      exact ⟨(mapL_eq l h t c).1 hs, by unfold endI; omega⟩
    · rw [if_neg hq] at hs; cases hs
theorem heart3 {l : List Ext} {e : Ext} (h : Ord l) (he : oneB e = true) : mapL (putL e l) = accO (wantK (mapL l) e 65536) e e.ln.toNat := by
  have hok := put_ok h he
  have ho := chkN_ord hok
  have hp := one_pos he
  have hl := h.left (f := e.lo) (t := endI e) (by omega)
  have heo := oneB_iff.1 he
  unfold putL normR
  refine mapL_ext (normL_ord _ ho).1 _ (fun t c => ?_)
  rw [st_norm _ ho, st_perm (srt_perm _), st_snoc, ← mapL_eq _ (normL_ord _ hl).1, heart1 h he]
  unfold accO
  by_cases hq : e.lo ≤ t ∧ t < e.lo + (e.ln.toNat : Int)
  · rw [if_pos hq]
    constructor
    · rintro (hw | ⟨_, _, rfl⟩)
      · unfold wantK at hw
        rw [if_neg (by omega)] at hw; cases hw
      · rfl
    · intro hc; cases hc; exact .inr ⟨hq.1, by unfold endI; omega, rfl⟩
  · rw [if_neg hq]
    constructor
    · rintro (hw | ⟨a, b, _⟩)
      · exact hw
      · unfold endI at b; omega
    · intro hw; exact .inl hw
set_option linter.unusedSimpArgs false in
set_option linter.unusedVariables false in
set_option maxRecDepth 100000 in
set_option maxHeartbeats 4000000 in
theorem blocks_walk (p : Option Addr) (n c : Nat) (l : List Ext) (e : Ext) (w : World) (h : InE w p n c l) :
    Calls Try.prog 5 #[.slice p n c, e.val] w fun x w' => x = .returned (.bool true) ∧ Below w.heap.size w w' := by
  have HLN : Hid (l.length = n) := h.len
  have hb0 := below_alloc w (.cells #[.int .i64 e.lo, .int .i64 e.ln, .int .i64 e.ph] 31)
  have k0 := Blk.new' w 31 #[.int .i64 e.lo, .int .i64 e.ln, .int .i64 e.ph]
  have hroom := h.room
  have hmm := run_makeMap (P := Try.prog) 49
  go_enter Try.func5, Try.ntmps5
  go_wp2_with fail
  refine (live_any _).mono ?_
  rintro e9 w1 ⟨rfl, hb1⟩
  have k1 := k0.kept hb1
  have b1 := bt hb0 hb1
  clear k0 hb0 hb1
  have hf := few_one w1.heap.size p n c (w1.alloc (.cells #[.slice p n c] 22)) ((Blk.new' w1 22 #[.slice p n c]).cell' (i := 0) rfl) hroom
  have k2 := k1.alloc (.cells #[.slice p n c] 22)
  have b2 := below_al b1 (.cells #[.slice p n c] 22)
  clear k1 b1
  by_cases h200 : n ≤ 200
  rotate_left
  · rw [decide_eq_false h200] at hf
    go_wp2_with fail
    refine hf.mono ?_
    rintro e9 w2 ⟨rfl, rfl⟩
    go_wp2
    go_ret
    exact ⟨rfl, b2⟩
  rw [decide_eq_true h200] at hf
  go_wp2_with fail
  refine hf.mono ?_
  rintro e9 w2 ⟨rfl, hw2⟩
  rw [← hw2] at k2 b2
  clear hw2 hf
  have c2_0 := k2.cell' (i := 0) rfl
  have c2_1 := k2.cell' (i := 1) rfl
  have c2_2 := k2.cell' (i := 2) rfl
  have hrk := fun W hW => rcheck_any p n c l W hW
  cases hc : chkB l with
  | false =>
    simp only [chkE_no hc] at hrk
    go_wp2_with fail
    refine (hrk _ (h.below b2)).mono ?_
    rintro e9 w3 ⟨rfl, hb3⟩
    have b3 := bt b2 hb3
    have k3 := k2.kept hb3
    have c3_0 := k3.cell' (i := 0) rfl
    have c3_1 := k3.cell' (i := 1) rfl
    have c3_2 := k3.cell' (i := 2) rfl
    clear b2 hb3 k2 c2_0 c2_1 c2_2
    go_wp2
    go_ret
    exact ⟨rfl, b3⟩
  | true =>
    simp only [chkE_ok hc] at hrk
    go_wp2_with fail
    refine (hrk _ (h.below b2)).mono ?_
    rintro e9 w3 ⟨rfl, hb3⟩
    have b3 := bt b2 hb3
    have k3 := k2.kept hb3
    have c3_0 := k3.cell' (i := 0) rfl
    have c3_1 := k3.cell' (i := 1) rfl
    have c3_2 := k3.cell' (i := 2) rfl
    clear b2 hb3 k2 c2_0 c2_1 c2_2
    go_wp2_with fail
    refine (rblocks_any p n c l _ (h.below b3)).mono ?_
    rintro e9 w4 ⟨⟨m9, rfl⟩, hb4⟩
    have b4 := bt b3 hb4
    have k4 := k3.kept hb4
    have c4_0 := k4.cell' (i := 0) rfl
    have c4_1 := k4.cell' (i := 1) rfl
    have c4_2 := k4.cell' (i := 2) rfl
    clear b3 hb4 k3 c3_0 c3_1 c3_2
    by_cases hm9 : m9 > 2000
    · go_wp2
      go_ret
      exact ⟨rfl, b4⟩
    · have hro := fun W => rone_any e W
      cases ho : oneB e with
      | false =>
        simp only [oneE_no ho] at hro
        go_wp2_with fail
        refine (hro _).mono ?_
        rintro e9 w5 ⟨rfl, hb5⟩
        have b5 := bt b4 hb5
        have k5 := k4.kept hb5
        have c5_0 := k5.cell' (i := 0) rfl
        have c5_1 := k5.cell' (i := 1) rfl
        have c5_2 := k5.cell' (i := 2) rfl
        clear b4 hb5 k4 c4_0 c4_1 c4_2
        go_wp2
        go_ret
        exact ⟨rfl, b5⟩
      | true =>
        simp only [oneE_ok ho] at hro
        go_wp2_with fail
        refine (hro _).mono ?_
        rintro e9 w5 ⟨rfl, hb5⟩
        have b5 := bt b4 hb5
        have k5 := k4.kept hb5
        have c5_0 := k5.cell' (i := 0) rfl
        have c5_1 := k5.cell' (i := 1) rfl
        have c5_2 := k5.cell' (i := 2) rfl
        clear b4 hb5 k4 c4_0 c4_1 c4_2
        by_cases h500 : e.ln > 500
        · go_wp2
          go_ret
          exact ⟨rfl, b5⟩
        · have hord := chkB_ord hc
          have heo := oneB_iff.1 ho
          have hto : toI e.lo e.ln = endI e := by unfold toI endI; omega
          have HH1 := heart1 hord ho
          have HH2 := heart2 (e := e) hord
          have HH3 := heart3 hord ho
          have hLl := left_len e.lo (endI e) l
          have hGl := runsL_len e.lo (endI e) l
          have hPl := put_len (l := l) (e := e)
          have hone1 := ((normL_ord _ (hord.left (f := e.lo) (t := endI e) (by have := one_pos ho; omega))).1).one
          have hone2 := (hord.runs e.lo (endI e)).one
          have hone3 : ∀ x ∈ putL e l, oneB x = true := fun x hx => chk_mem (normR_chk (put_ok hord ho)) hx
          go_wp2_with fail
          refine (blocks_any p n c l _ (h.below b5) (by omega) hord.one).mono ?_
          rintro e9 w6 ⟨gs, ns, rfl, hS, hns, -, hb6⟩
          have b6 := bt b5 hb6
          have k6 := k5.kept hb6
          have c6_0 := k6.cell' (i := 0) rfl
          have c6_1 := k6.cell' (i := 1) rfl
          have c6_2 := k6.cell' (i := 2) rfl
          clear b5 hb6 k5 c5_0 c5_1 c5_2
          have hpu := punch_ok p n c l e.lo e.ln _ (h.below b6) (by omega) hc (by omega) (by omega) (by omega)
          rw [hto] at hpu
          go_wp2_with fail
          refine (hpu).mono ?_
          rintro e9 w7 ⟨v1, v2, rfl, ho1, ho2, -, hb7⟩
          have b7 := bt b6 hb7
          have k7 := k6.kept hb7
          have c7_0 := k7.cell' (i := 0) rfl
          have c7_1 := k7.cell' (i := 1) rfl
          have c7_2 := k7.cell' (i := 2) rfl
          replace hS := hS.kept hb7
          obtain ⟨p1, q1, hv1, hi1⟩ := in_of_ownsE ho1 (by rw [HLN.out] at hLl; omega)
          subst hv1
          obtain ⟨p2, q2, hv2, hi2⟩ := in_of_ownsE ho2 (by rw [HLN.out] at hGl; omega)
          subst hv2
          clear ho1 ho2 hpu
          clear b6 hb7 k6 c6_0 c6_1 c6_2
          have HCB : Hid (∀ t c, mapL l t = some c → -1000000 ≤ c ∧ c ≤ 1000000) := map_bound hord
          generalize hL1 : normL (leftL e.lo (endI e) l) = L1 at *
          generalize hG1 : runsL e.lo (endI e) l = G1 at *
          generalize hP1 : putL e l = P1 at *
          have HG1 : Hid (runsL e.lo (endI e) l = G1) := hG1
          have HP1 : Hid (putL e l = P1) := hP1
          clear hL1 hG1 hP1
          generalize mapL l = F at *
          obtain ⟨N1, hN1⟩ : ∃ N1, L1.length = N1 := ⟨_, rfl⟩
          obtain ⟨N2, hN2⟩ : ∃ N2, G1.length = N2 := ⟨_, rfl⟩
          rw [hN1] at hi1 hLl ⊢
          rw [hN2] at hi2 hGl ⊢
          have hi4n : Hid (G1.length ≤ n) := by show _ ≤ _; rw [hN2, ← HLN.out]; exact hGl
          rw [HLN.out] at hLl hGl hPl
          clear hN1 hN2 hord
          have hMw := (MP.made w7).kept (below_alloc _ (.map #[] 0))
          have hMl := MP.made (w7.alloc (.map #[] 0))
          rw [World.size_alloc] at hMl
          have hbm : Below w7.heap.size w7 ((w7.alloc (.map #[] 0)).alloc (.map #[] 0)) := below_al (below_alloc _ _) _
          go_upto_region 8 with fail
          obtain ⟨gw, hgw⟩ : ∃ gw, gw = w7.heap.size := ⟨_, rfl⟩
          obtain ⟨gl, hgl⟩ : ∃ gl, gl = w7.heap.size + 1 := ⟨_, rfl⟩
          rw [← hgl] at hMl ⊢
          rw [← hgw] at hMw ⊢
          have hgw7 : w7.heap.size ≤ gw := by omega
          have hgl7 : w7.heap.size ≤ gl := by omega
          have hgne : gw ≠ gl := by omega
          clear hgw hgl
          generalize World.alloc (World.alloc w7 _) _ = w8 at *
          go_wp2
          go_loopw [57] (fun i wr => ∃ (k nw nl : Nat), Hid (k ≤ 65536) ∧ i = .int .i64 k ∧ MP wr gw nw (wantK F e k) ∧ MP wr gl nl (lostK F e k) ∧ Hid (nw ≤ k ∧ nl ≤ k) ∧ Below w7.heap.size w7 wr) (fun i _ => 65536 - (intOf i).toNat)
          case atStart => exact ⟨0, 0, 0, Nat.zero_le _, rfl, by rw [wantK_zero]; exact hMw, by rw [lostK_zero]; exact hMl, ⟨Nat.le_refl _, Nat.le_refl _⟩, hbm⟩
          case round =>
            clear hMw hMl hbm
            obtain ⟨k, nw, nl, hk, rfl, hMw, hMl, hnn, hbk⟩ := hrel
            have kk := k7.kept hbk
            have hSk := hS.kept hbk
            have hki0 : (k : Int) ≤ 65536 := by have := hk.out; omega
            by_cases hlt : k < 65536
            · have hki : (k : Int) < 65536 := by omega
              have HK : Hid (k < 65536) := hlt
              clear hlt
              have hlk := hSk.look (k : Int) (by omega) (by omega)
              have d0 := kk.cell' (i := 0) rfl
              have d1 := kk.cell' (i := 1) rfl
              have d2 := kk.cell' (i := 2) rfl
              cases hx : F (k : Int) with
              | none =>
                have HWn : Hid (wantK F e (k + 1) = wantK F e k) := wantK_none hx
                have HLn : Hid (lostK F e (k + 1) = lostK F e k) := lostK_none hx
                rw [hx] at hlk
                simp only [valO, Option.isSome_none, Option.getD_none] at hlk
                clear hx
                go_wp2
                go_roundw
                case rel => exact ⟨k + 1, nw, nl, (by have := HK.out; show _ ≤ _; omega), by go_num, by rw [HWn.out]; exact hMw, by rw [HLn.out]; exact hMl, (by have := hnn.out; show _ ∧ _; omega), hbk⟩
                case measure => have := HK.out; simp [intOf]; omega
              | some cc =>
                have hcc := HCB.out _ _ hx
                rw [hx] at hlk
                simp only [valO, Option.isSome_some, Option.getD_some] at hlk
                have hsw : IntKind.i64.wrap (e.lo + e.ln) = e.lo + e.ln := by rw [IntKind.wrap_i64]; omega
                by_cases h8 : (k : Int) ≥ e.lo
                · by_cases h9 : (k : Int) < e.lo + e.ln
                  · have HW : Hid (updO (lostK F e k) (k : Int) cc = lostK F e (k + 1)) := lostK_in hx ⟨h8, h9⟩
                    have HWn : Hid (wantK F e (k + 1) = wantK F e k) := wantK_in ⟨h8, h9⟩
                    clear hx
                    have hnb : nl ≤ 65536 := by have := hnn.out; omega
                    go_wp2_with (guard_target = wpList _ _ _ (Oper.mk _ (Op.mapUpdate _ _ _ _) _ _ _ _ :: _) _ _; refine wpList_putM _ rfl (.tmp 86) (.tmp 87) (.tmp 88) rfl gl nl _ rfl hMl (by omega) (k : Int) cc (by omega) (by omega) hcc.1 hcc.2 rfl rfl ?_; intro w95 hM95 hg95)
                    rw [HW.out] at hM95
                    have ho95 := hMw.grown hg95 hgne
                    have hb95 : Below w7.heap.size w7 w95 := hbk.grown hg95 hbk.size (fun j e => by cases e; exact hgl7)
                    go_roundw
                    case rel => exact ⟨k + 1, nw, nl + 1, (by have := HK.out; show _ ≤ _; omega), by go_num, by rw [HWn.out]; exact ho95, hM95, (by have := hnn.out; show _ ∧ _; omega), hb95⟩
                    case measure => have := HK.out; simp [intOf]; omega
                  · have HW : Hid (updO (wantK F e k) (k : Int) cc = wantK F e (k + 1)) := wantK_out hx (by omega)
                    have HLn : Hid (lostK F e (k + 1) = lostK F e k) := lostK_out (by omega)
                    clear hx
                    have hnb : nw ≤ 65536 := by have := hnn.out; omega
                    go_wp2_with (guard_target = wpList _ _ _ (Oper.mk _ (Op.mapUpdate _ _ _ _) _ _ _ _ :: _) _ _; refine wpList_putM _ rfl (.tmp 66) (.tmp 67) (.tmp 68) rfl gw nw _ rfl hMw (by omega) (k : Int) cc (by omega) (by omega) hcc.1 hcc.2 rfl rfl ?_; intro w95 hM95 hg95)
                    rw [HW.out] at hM95
                    have ho95 := hMl.grown hg95 (fun e => hgne e.symm)
                    have hb95 : Below w7.heap.size w7 w95 := hbk.grown hg95 hbk.size (fun j e => by cases e; exact hgw7)
                    go_roundw
                    case rel => exact ⟨k + 1, nw + 1, nl, (by have := HK.out; show _ ≤ _; omega), by go_num, hM95, by rw [HLn.out]; exact ho95, (by have := hnn.out; show _ ∧ _; omega), hb95⟩
                    case measure => have := HK.out; simp [intOf]; omega
                · have HW : Hid (updO (wantK F e k) (k : Int) cc = wantK F e (k + 1)) := wantK_out hx (by omega)
                  have HLn : Hid (lostK F e (k + 1) = lostK F e k) := lostK_out (by omega)
                  clear hx
                  have hnb : nw ≤ 65536 := by have := hnn.out; omega
                  go_wp2_with (guard_target = wpList _ _ _ (Oper.mk _ (Op.mapUpdate _ _ _ _) _ _ _ _ :: _) _ _; refine wpList_putM _ rfl (.tmp 66) (.tmp 67) (.tmp 68) rfl gw nw _ rfl hMw (by omega) (k : Int) cc (by omega) (by omega) hcc.1 hcc.2 rfl rfl ?_; intro w95 hM95 hg95)
                  rw [HW.out] at hM95
                  have ho95 := hMl.grown hg95 (fun e => hgne e.symm)
                  have hb95 : Below w7.heap.size w7 w95 := hbk.grown hg95 hbk.size (fun j e => by cases e; exact hgw7)
                  go_roundw
                  case rel => exact ⟨k + 1, nw + 1, nl, (by have := HK.out; show _ ≤ _; omega), by go_num, hM95, by rw [HLn.out]; exact ho95, (by have := hnn.out; show _ ∧ _; omega), hb95⟩
                  case measure => have := HK.out; simp [intOf]; omega
            · obtain rfl : k = 65536 := by have := hk.out; omega
              have hb8 := hbk
              have b8 := bt b7 hbk
              have k8 := kk
              have c8_0 := k8.cell' (i := 0) rfl
              have c8_1 := k8.cell' (i := 1) rfl
              have c8_2 := k8.cell' (i := 2) rfl
              replace hi1 := hi1.below hbk
              replace hi2 := hi2.below hbk
              clear hSk kk hk
              have hnn9 := hnn.out
              have hs7 := b7.size
              clear hnn hbk hb8 b7 k7 c7_0 c7_1 c7_2
              go_wp2_with fail
              refine (blocks_any _ _ _ _ _ hi1 (by omega) hone1).mono ?_
              rintro e9 w9 ⟨ga, na, rfl, hA, -, -, hb9⟩
              have b9 := bt b8 hb9
              have k9 := k8.kept hb9
              have c9_0 := k9.cell' (i := 0) rfl
              have c9_1 := k9.cell' (i := 1) rfl
              have c9_2 := k9.cell' (i := 2) rfl
              replace hMw := hMw.kept hb9
              replace hMl := hMl.kept hb9
              replace hi2 := hi2.below hb9
              rw [HH1] at hA
              clear b8 hb9 k8 c8_0 c8_1 c8_2
              go_wp2_with fail
              refine (same_yes ga gw _ _ _ _ hA hMw).mono ?_
              rintro e9 w10 ⟨rfl, hw10⟩
              have hw10' := hw10.symm
              subst hw10'
              clear hw10 hA
              go_wp2_with fail
              refine (blocks_any _ _ _ _ _ hi2 (by omega) hone2).mono ?_
              rintro e9 w11 ⟨gb, nb, rfl, hA, -, -, hb11⟩
              have b11 := bt b9 hb11
              have k11 := k9.kept hb11
              have c11_0 := k11.cell' (i := 0) rfl
              have c11_1 := k11.cell' (i := 1) rfl
              have c11_2 := k11.cell' (i := 2) rfl
              replace hMw := hMw.kept hb11
              replace hMl := hMl.kept hb11
              rw [HH2] at hA
              clear b9 k9 hb11 c9_0 c9_1 c9_2 hi2
              go_wp2_with fail
              refine (same_yes gb gl _ _ _ _ hA hMl).mono ?_
              rintro e9 w12 ⟨rfl, hw12⟩
              have hw12' := hw12.symm
              subst hw12'
              clear hw12 hA
              go_wp2_with fail
              refine (put_yes p n c l e _ (h.below b11) (by omega) hc ho).mono ?_
              rintro e9 w13 ⟨v3, v4, rfl, ho3, ho4, hb13⟩
              have b13 := bt b11 hb13
              have k13 := k11.kept hb13
              have c13_0 := k13.cell' (i := 0) rfl
              have c13_1 := k13.cell' (i := 1) rfl
              have c13_2 := k13.cell' (i := 2) rfl
              replace hMw := hMw.kept hb13
              replace hMl := hMl.kept hb13
              rw [HP1.out] at ho3
              rw [HG1.out] at ho4
              obtain ⟨N3, hN3⟩ : ∃ N3, P1.length = N3 := ⟨_, rfl⟩
              obtain ⟨N4, hN4⟩ : ∃ N4, G1.length = N4 := ⟨_, rfl⟩
              have hN42 : N4 ≤ 200 := by have := hi4n.out; omega
              rw [hN3] at ho3 hPl
              rw [hN4] at ho4
              obtain ⟨p3, q3, hv3, hi3⟩ := in_of_ownsE ho3 (by omega)
              subst hv3
              obtain ⟨p4, q4, hv4, hi4⟩ := in_of_ownsE ho4 (by omega)
              subst hv4
              clear ho3 ho4 hb13 b11 k11 c11_0 c11_1 c11_2 hN3 hN4
              obtain ⟨N, hN⟩ : ∃ N : Nat, e.ln = (N : Int) := ⟨e.ln.toNat, by omega⟩
              have hNt : e.ln.toNat = N := by omega
              rw [hNt] at HH3
              have HE : Hid ((N : Int) ≤ 500 ∧ 0 ≤ e.lo ∧ e.lo + (N : Int) ≤ 65536 ∧ 1 ≤ e.ph ∧ e.ph + (N : Int) ≤ 8192) := by show _ ∧ _; omega
              have hgwB : w.heap.size ≤ gw := by omega
              generalize wantK F e 65536 = WF at *
              generalize lostK F e 65536 = LF at *
              have hNn : N ≤ 500 := by omega
              have hnw : nw ≤ 65536 := hnn9.1
              clear heo hto hnn9 hNt
              rw [hN] at c13_1 k13
              go_wp2
              go_loopw [115] (fun jv wr => ∃ (j n2 : Nat), Hid (j ≤ N) ∧ jv = .int .i64 j ∧ MP wr gw n2 (accO WF e j) ∧ Hid (n2 ≤ 65536 + j) ∧ MP wr gl nl LF ∧ Blk wr w.heap.size 31 [.int .i64 e.lo, .int .i64 (N : Int), .int .i64 e.ph] ∧ InE wr p3 N3 q3 P1 ∧ InE wr p4 N4 q4 G1 ∧ Below w.heap.size w wr) (fun jv _ => N - (intOf jv).toNat)
              case atStart => exact ⟨0, nw, Nat.zero_le _, rfl, by rw [acc_zero]; exact hMw, (by show _ ≤ _; omega), hMl, k13, hi3, hi4, b13⟩
              case round =>
                clear hMw hMl k13 hi3 hi4 b13 c13_0 c13_1 c13_2
                obtain ⟨j, n2, hj, rfl, hMw, hn2, hMl, kb, hi3, hi4, hb⟩ := hrel
                have hjN : (j : Int) ≤ (N : Int) := by have := hj.out; omega
                by_cases hjl : j < N
                · have hji : (j : Int) < (N : Int) := by omega
                  have HA : Hid (updO (accO WF e j) (e.lo + (j : Int)) (e.ph + (j : Int)) = accO WF e (j + 1)) := acc_succ WF e j
                  have hw1 : IntKind.i64.wrap (e.lo + (j : Int)) = e.lo + (j : Int) := by have := HE.out; rw [IntKind.wrap_i64]; omega
                  have hw2 : IntKind.i64.wrap (e.ph + (j : Int)) = e.ph + (j : Int) := by have := HE.out; rw [IntKind.wrap_i64]; omega
                  have z0 := kb.cell' (i := 0) rfl
                  have z2 := kb.cell' (i := 2) rfl
                  have hn2b : n2 ≤ 100000 := by have := hn2.out; omega
                  go_wp2_with (guard_target = wpList _ _ _ (Oper.mk _ (Op.mapUpdate _ _ _ _) _ _ _ _ :: _) _ _; refine wpList_putM _ rfl (.tmp 118) (.tmp 122) (.tmp 126) rfl gw n2 _ rfl hMw (by omega) (e.lo + (j : Int)) (e.ph + (j : Int)) (by have := HE.out; omega) (by have := HE.out; omega) (by have := HE.out; omega) (by have := HE.out; omega) rfl rfl ?_; intro w95 hM95 hg95)
                  rw [HA.out] at hM95
                  have hl95 := hMl.grown hg95 (fun e => hgne e.symm)
                  have kb95 := kb.grown hg95 (fun e => hMw.ne kb (by cases e; rfl))
                  have hi395 := hi3.grownM hg95 hMw
                  have hi495 := hi4.grownM hg95 hMw
                  have hb95 : Below w.heap.size w w95 := hb.grown hg95 hb.size (fun j e => by cases e; exact hgwB)
                  have HJ : Hid (j < N) := hjl
                  clear hjl
                  go_roundw
                  case rel => exact ⟨j + 1, n2 + 1, (by have := HJ.out; show _ ≤ _; omega), by go_num, hM95, (by have := hn2.out; show _ ≤ _; omega), hl95, kb95, hi395, hi495, hb95⟩
                  case measure => have := HJ.out; simp [intOf]; omega
                · obtain rfl : j = N := by have := hj.out; omega
                  have hji : ¬ (j : Int) < (j : Int) := by omega
                  have hn3 : N3 ≤ 1000 := by omega
                  clear hj hjN hjl
                  go_wp2_with fail
                  refine (blocks_any _ _ _ _ _ hi3 hn3 hone3).mono ?_
                  rintro e9 w21 ⟨ga, na, rfl, hA, -, -, hb21⟩
                  replace hb := bt hb hb21
                  replace hMw := hMw.kept hb21
                  replace hMl := hMl.kept hb21
                  replace hi4 := hi4.below hb21
                  rw [HH3] at hA
                  clear hb21 hi3 kb
                  go_wp2_with fail
                  refine (same_yes ga gw _ _ _ _ hA hMw).mono ?_
                  rintro e9 w22 ⟨rfl, hw22⟩
                  have hw22' := hw22.symm
                  subst hw22'
                  clear hw22 hA hMw
                  go_wp2_with fail
                  refine (blocks_any _ _ _ _ _ hi4 (by omega) hone2).mono ?_
                  rintro e9 w23 ⟨gb, nb, rfl, hA, -, -, hb23⟩
                  replace hb := bt hb hb23
                  replace hMl := hMl.kept hb23
                  rw [HH2] at hA
                  clear hb23 hi4
                  go_wp2_with fail
                  refine (same_yes gb gl _ _ _ _ hA hMl).mono ?_
                  rintro e9 w24 ⟨rfl, hw24⟩
                  have hw24' := hw24.symm
                  subst hw24'
                  clear hw24 hA hMl
                  go_wp2
                  go_ret
                  exact ⟨rfl, hb⟩
end Go.Proofs.Ytmboohadindlfaa

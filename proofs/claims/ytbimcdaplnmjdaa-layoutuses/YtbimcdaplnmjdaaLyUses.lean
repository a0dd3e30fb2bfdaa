/-
  LayoutUses returns true.
-/
import Derived.Test.YtbimcdaplnmjdaaLyLive
import Derived.Test.YtbimcdaplnmjdaaLyCap
import Derived.Test.YtbimcdaplnmjdaaLyMap
import Derived.Test.YtbimcdaplnmjdaaLyBool
namespace Go.Proofs.Ytbimcdaplnmjdaa
open Go.RowKit Go.Shelf
attribute [local go_sem] Oper.semAt_some
/-- What lies beside the map. -/
structure UW (w X : World) (Ba Bn B5 D : Nat) (b jj nn : Int) : Prop where
  at' : Blk X Ba 3 [.int .i64 b]
  n : Blk X Bn 3 [.int .i64 nn]
  sh : Blk X B5 24 [.int .i64 b, .int .i64 jj]
  res : Blk X w.heap.size 4 [.bool false]
  mark : X.heap[D]? = some (.deferred (some []))
  bel : Below w.heap.size w X
theorem UW.below {w X Y : World} {Ba Bn B5 D : Nat} {b jj nn : Int} (h : UW w X Ba Bn B5 D b jj nn) (hb : Below X.heap.size X Y) : UW w Y Ba Bn B5 D b jj nn :=
  ⟨h.at'.kept hb, h.n.kept hb, h.sh.kept hb, h.res.kept hb, (hb.block _ (Array.getElem?_eq_some_iff.1 h.mark).1).trans h.mark, bt h.bel hb⟩
theorem UW.grown {w X Y : World} {Ba Bn B5 D g : Nat} {b jj nn : Int} (h : UW w X Ba Bn B5 D b jj nn) (hg : X.grownBy Y (some g)) (h1 : Ba < g) (h2 : Bn < g) (h3 : B5 < g) (h4 : w.heap.size < g) (h5 : D < g) : UW w Y Ba Bn B5 D b jj nn :=
  ⟨h.at'.grown hg (fun e => by cases e; omega), h.n.grown hg (fun e => by cases e; omega), h.sh.grown hg (fun e => by cases e; omega), h.res.grown hg (fun e => by cases e; omega),
   (hg.block D (Array.getElem?_eq_some_iff.1 h.mark).1 (fun e => by cases e; omega)).trans h.mark,
   h.bel.trans ((Keep.of_grown (S := fun k => k = g) hg (fun k e _ => by cases e; rfl)).below h.bel.size (fun k e => by subst e; omega))⟩
/-- The same, but for what the result's cell has. -/
structure UV (w X : World) (Ba Bn B5 D : Nat) (b jj nn : Int) : Prop where
  at' : Blk X Ba 3 [.int .i64 b]
  n : Blk X Bn 3 [.int .i64 nn]
  sh : Blk X B5 24 [.int .i64 b, .int .i64 jj]
  res : ∃ v, Blk X w.heap.size 4 [.bool v]
  mark : X.heap[D]? = some (.deferred (some []))
  bel : Below w.heap.size w X
theorem UW.uv {w X : World} {Ba Bn B5 D : Nat} {b jj nn : Int} (h : UW w X Ba Bn B5 D b jj nn) : UV w X Ba Bn B5 D b jj nn := ⟨h.at', h.n, h.sh, ⟨_, h.res⟩, h.mark, h.bel⟩
theorem UV.below {w X Y : World} {Ba Bn B5 D : Nat} {b jj nn : Int} (h : UV w X Ba Bn B5 D b jj nn) (hb : Below X.heap.size X Y) : UV w Y Ba Bn B5 D b jj nn :=
  ⟨h.at'.kept hb, h.n.kept hb, h.sh.kept hb, h.res.elim fun v h => ⟨v, h.kept hb⟩, (hb.block _ (Array.getElem?_eq_some_iff.1 h.mark).1).trans h.mark, bt h.bel hb⟩
theorem UV.turned {w X Y : World} {Ba Bn B5 D : Nat} {b jj nn : Int} {v : Bool} (h : UV w X Ba Bn B5 D b jj nn) (ht : Turned X Y w.heap.size) (hb : Blk Y w.heap.size 4 [.bool v]) (h1 : w.heap.size < Ba) (h2 : w.heap.size < Bn) (h3 : w.heap.size < B5) (h4 : w.heap.size < D) : UV w Y Ba Bn B5 D b jj nn :=
  ⟨h.at'.turned ht (by omega), h.n.turned ht (by omega), h.sh.turned ht (by omega), ⟨v, hb⟩, (ht.block _ (by omega)).trans h.mark, ht.below h.bel (Nat.le_refl _)⟩
theorem US.next {w X Y : World} {Ba Bn B5 D gm n : Nat} {b jj nn : Int} {f : Int → Int} (h : MC X gm n f ∧ UV w X Ba Bn B5 D b jj nn) (hb : Below X.heap.size X Y) : MC Y gm n f ∧ UV w Y Ba Bn B5 D b jj nn := ⟨h.1.kept hb, h.2.below hb⟩
theorem wpAnyH_take_at {P : Program} {md : Region.Mode} {ops : Array Oper} {Q : Exit → Act → World → Prop} {S : World → Prop} {i : Nat} {oi : Oper} {v : Value} {fuel : Nat} {listed : Array Bool} {a : Act} {w : World} (t : Option Tmp) (hi : ops[i]? = some oi) (hd : oi.dst = t)
    (hs : Region.noSelect ops = true) (hf : Region.free md ops listed i = true) (hr : (Region.ready md ops listed).contains i = true)
    (hQ : ∀ c a w, Q (.panic c) (a.put oi.dst v) w → Q (.panic c) a w) (hy : YieldsIf P ops S oi v a) (hS : S w)
    (h : wpAnyH P md ops Q S fuel (listed.setIfInBounds i true) (a.put t v) w) : wpAnyH P md ops Q S (fuel + 1) listed a w := by
  subst hd
  exact wpAnyH_take hi hs hf hr hQ hy hS h
theorem knd_rng (b j x : Int) : 1 ≤ knd b j x ∧ knd b j x ≤ 7 := by
  unfold knd
  repeat' split
  all_goals omega
theorem cnt_next (b j : Int) (k : Nat) (y : Int) : (if y = knd b j (k : Int) then cntK b j (knd b j (k : Int)) k + 1 else cntK b j y k) = cntK b j y (k + 1) := by
  show _ = cntK b j y k + (if knd b j (k : Int) = y then 1 else 0)
  by_cases e : y = knd b j (k : Int)
  · rw [if_pos e, if_pos e.symm, ← e]
  · rw [if_neg e, if_neg (fun h => e h.symm)]; omega
theorem cntK_rng (b j k : Int) (n : Nat) : 0 ≤ cntK b j k n ∧ cntK b j k n ≤ n := by
  induction n with
  | zero => simp [cntK]
  | succ n ih => unfold cntK; split <;> omega
set_option linter.unusedSimpArgs false in
set_option maxRecDepth 100000 in
set_option maxHeartbeats 8000000 in
theorem uses_in (nf : Nat) (hnf : 6 ≤ nf) (s j0 : Nat) (hs : s < 65536) (hj : j0 < 256) (w : World) :
    CallsIn Fence.wide nf Try.prog 7 #[.int .u16 (s : Int), .int .u8 (j0 : Int)] w fun e w' => e = .returned (.bool true) ∧ Below w.heap.size w w' := by
  have h1 : 1 ≤ nf := by omega
  have r0 := Blk.new' w 4 #[.bool false]
  have hB0 := below_alloc w (.cells #[.bool false] 4)
  refine callsIn_of_wp_marks Try.func7 rfl trivial ?_ rfl
  simp only [Try.ntmps7, List.size_toArray, List.length_cons, List.length_nil, Nat.reduceAdd, Nat.reduceSub, Array.replicate_succ, Array.replicate_zero, List.push_toArray, List.append_toArray, List.nil_append, List.cons_append]
  gi_wp2_with (first
    | (refine ⟨trivial, ?_⟩; gi_at_call 9; refine (callsIn_wide.2 (live_any _)).mono ?_; rintro e w1 ⟨rfl, hb1⟩; have r1 := r0.kept hb1; have hB1 := bt hB0 hb1))
  have HP : Hid (planE ((s : Int) % 1500 + 1) ((j0 : Int) % 49 + 16) = chkE (planX ((s : Int) % 1500 + 1)) ((j0 : Int) % 49 + 16)) := by
    show _ = _
    unfold planE
    rw [if_pos (by omega)]
  have hp := fun w => plan_any ((s : Int) % 1500 + 1) ((j0 : Int) % 49 + 16) w
  have ha1 : 0 ≤ (s : Int) % 1500 := by omega
  have ha2 : (s : Int) % 1500 < 1500 := by omega
  have hc1 : 0 ≤ (j0 : Int) % 49 := by omega
  have hc2 : (j0 : Int) % 49 < 49 := by omega
  generalize (s : Int) % 1500 = a at *
  generalize (j0 : Int) % 49 = c at *
  cases hok : okS (planX (a + 1)) (c + 16) with
  | false =>
    have HE := HP.out
    rw [chk_no hok] at HE
    obtain ⟨e1, e2, e3⟩ := plan_no (s := a + 1) (j := c + 16) (by omega) hok
    rw [e1, e2, e3] at hp
    clear HP HE e1 e2 e3 hok
    gi_wp2_with (first
      | (refine ⟨trivial, ?_⟩; gi_at_call 10; refine (callsIn_wide.2 (hp _)).mono ?_; rintro e w2 ⟨rfl, hb2⟩; have r2 := r1.kept hb2; have hB2 := bt hB1 hb2; have r3 := r2.alloc (.cells #[.int .i64 0, .int .i64 0] 24); have f0 := r3.frozen 0; have f1 := r3.cell' (i := 0) rfl; have hl := r2.lt))
    have r4 := ((r2.set 0 (.bool true)).alloc (.cells #[.int .i64 0, .int .i64 0] 24))
    exact ⟨_, results_bool rfl rfl r4, rfl, bt ((Turned.setCell w2 ⟨w.heap.size, 0, none⟩ (.bool true)).below hB2 (Nat.le_refl _)) (below_alloc _ _)⟩
  | true =>
    obtain ⟨e1, e2, e3⟩ := plan_ok (s := a + 1) (j := c + 16) (by omega) hok
    have hb1' : 1 ≤ planX (a + 1) := (okS_iff.1 hok).1
    have hbb : planX (a + 1) ≤ 1500 := by unfold planX lastL; split <;> omega
    rw [e1, e2, e3] at hp
    clear HP e1 e2 e3
    generalize planX (a + 1) = b at *
    obtain ⟨jj, HJ⟩ : ∃ jj, Hid (c + 16 = jj) := ⟨_, rfl⟩
    rw [HJ.out] at hok hp
    have hwc : c + 16 = jj := HJ.out
    rw [hwc]
    clear HJ hwc
    have hnil : ∀ p W, (binOp BinOp.eql 62 (.func (.func 66) #[] #[.pointer p]) .nilFunc).run Try.prog W = .ok (.bool false) W := fun p W => by kernel_rfl
    gi_wp2_with (first
      | (refine ⟨trivial, ?_⟩; gi_at_call 10; refine (callsIn_wide.2 (hp _)).mono ?_; rintro e w2 ⟨rfl, hb2⟩; have r2 := r1.kept hb2; have hB2 := bt hB1 hb2; have s2 := Blk.new' w2 24 #[.int .i64 b, .int .i64 jj])
      | (refine ⟨trivial, ?_⟩; gi_at_call 42; refine (callsIn_wide.2 (all_new b jj _)).mono ?_; rintro e w3 ⟨rfl, q3, hb3⟩; have r3 := (r2.alloc (.cells #[.int .i64 b, .int .i64 jj] 24)).kept hb3; have s3 := s2.kept hb3; have hB3 := bt (bt hB2 (below_alloc w2 (.cells #[.int .i64 b, .int .i64 jj] 24))) hb3))
    simp only [World.size_alloc] at q3
    have n4 := (Blk.new' (w3.alloc (.cells #[.int .i64 0] 3)) 3 #[.int .i64 0])
    rw [World.size_alloc] at n4
    have a4 := (Blk.new' w3 3 #[.int .i64 0]).alloc (.cells #[.int .i64 0] 3)
    have q4 := (q3.alloc (.cells #[.int .i64 0] 3)).alloc (.cells #[.int .i64 0] 3)
    have r4 := (r3.alloc (.cells #[.int .i64 0] 3)).alloc (.cells #[.int .i64 0] 3)
    have s4 := (s3.alloc (.cells #[.int .i64 0] 3)).alloc (.cells #[.int .i64 0] 3)
    have hB4 := bt (bt hB3 (below_alloc w3 (.cells #[.int .i64 0] 3))) (below_alloc _ (.cells #[.int .i64 0] 3))
    have hl3 := q3.lt
    have hl2 := hB2.size
    have hwl : w.heap.size < w2.heap.size := r2.lt
    clear r0 r1 r2 r3 s2 s3 q3 hB0 hB1 hB2 hB3 hb1 hb2 hb3 hnil hp
    generalize (w3.alloc (.cells #[.int .i64 0] 3)).alloc (.cells #[.int .i64 0] 3) = w4 at *
    obtain ⟨Bn, HBn⟩ : ∃ Bn, Bn = w3.heap.size + 1 := ⟨_, rfl⟩
    obtain ⟨Ba, HBa⟩ : ∃ Ba, Ba = w3.heap.size := ⟨_, rfl⟩
    obtain ⟨B1, HB1⟩ : ∃ B1, B1 = w2.heap.size + 1 := ⟨_, rfl⟩
    obtain ⟨B5, HB5⟩ : ∃ B5, B5 = w2.heap.size := ⟨_, rfl⟩
    rw [← HBn] at n4
    rw [← HBa] at a4
    rw [← HB1] at q4
    rw [← HB5] at s4
    rw [← HBn, ← HB1, ← HB5, ← HBa]
    have g1 : w.heap.size < B5 := by omega
    have g2 : B5 < B1 := by omega
    have g3 : B1 < Ba := by omega
    have g4 : Ba < Bn := by omega
    have g5 := n4.lt
    clear HBn HBa HB1 HB5 hl3 hl2 hwl
    refine wpIn_rangeFunc_ownH rfl h1 (gf := 66) (lb := #[.pointer (some ⟨B1, 0, none⟩)]) rfl trivial (enters_of Try.func66 (by kernel_rfl) rfl)
      (all_stops (nf - 1) (by omega) B1 b jj w4 q4) (fun h k => h.trans k)
      (fun W' l o o' hl _ _ _ => ⟨World.putObj_heap_other (by omega), by simp [World.putObj]⟩) (Below.refl _ _) (fun _ => rfl)
      (fun pre W' => (pre = (List.finRange 64).take pre.length ∧ w4.heap.size ≤ W'.heap.size) ∧ Blk W' Ba 3 [.int .i64 (min (128 * (pre.length : Int)) b)] ∧ Blk W' Bn 3 [.int .i64 (pre.length : Int)] ∧ Blk W' B5 24 [.int .i64 b, .int .i64 jj] ∧ Blk W' w.heap.size 4 [.bool false] ∧ Below w.heap.size w W')
      (fun _ pre _ => ¬ pre <+: gs b jj)
      (OwnFrom.and (fun _ _ _ _ hs hg _ => ⟨hs.1, Nat.le_trans hs.2 hg.size⟩) (OwnFrom.and (Own.from (blk_own Ba 3 (fun pre : List (Fin 64) => [.int .i64 (min (128 * (pre.length : Int)) b)])) _) (OwnFrom.and (Own.from (blk_own Bn 3 (fun pre : List (Fin 64) => [.int .i64 (pre.length : Int)])) _) (OwnFrom.and (Own.from (blk_own B5 24 (fun _ : List (Fin 64) => [.int .i64 b, .int .i64 jj])) _) (OwnFrom.and (Own.from (blk_own w.heap.size 4 (fun _ : List (Fin 64) => [.bool false])) _) (ownFrom_below (Nat.le_refl _) hB4.size))))))
      (fun _ _ _ _ _ hs _ _ => hs)
      ⟨⟨rfl, Nat.le_refl _⟩, by rw [show min (128 * (([] : List (Fin 64)).length : Int)) b = 0 from by simp; omega]; exact a4, n4, s4, r4, hB4⟩
      (fun x a' W => ∃ Bx, w4.heap.size ≤ Bx ∧ Blk W Bx 30 (grpA b jj ((x.1 : Nat) : Int)).toList ∧ a' = { tmps := #[.int .u16 (s : Int), .int .u8 (j0 : Int), undef, undef, .pointer (some ⟨w.heap.size, 0, none⟩), .pointer (some ⟨B5, 0, none⟩), .int .i64 0, .func (.func 66) #[] #[.pointer (some ⟨B1, 0, none⟩)], .pointer (some ⟨Ba, 0, none⟩), .pointer (some ⟨Bn, 0, none⟩), .int .i64 0, .int .i64 ((x.1 : Nat) : Int), .pointer (some ⟨Bx, 0, none⟩), undef, undef, undef, .bool true, .bool false, .tuple #[.agg #[.int .i64 b, .int .i64 jj], .int .i64 0], .int .u16 (s : Int), .int .u16 a, .int .i64 a, .int .i64 (a + 1), .int .u8 (j0 : Int), .int .u8 c, .int .i64 c, .int .i64 jj, .tuple #[.agg #[.int .i64 b, .int .i64 jj], .int .i64 0], .agg #[.int .i64 b, .int .i64 jj], .int .i64 0, .int .i64 0, .bool false, .agg #[.int .i64 b, .int .i64 jj], .func (.func 66) #[] #[.pointer (some ⟨B1, 0, none⟩)], .func (.func 66) #[] #[.pointer (some ⟨B1, 0, none⟩)], .bool false, .func (.func 66) #[] #[.pointer (some ⟨B1, 0, none⟩)], .int .i64 ((x.1 : Nat) : Int), .agg (grpA b jj ((x.1 : Nat) : Int)), undef, undef, undef, undef, undef, undef, undef, undef, undef, undef, undef, undef, undef, undef, undef, undef, undef, undef, undef, undef, undef, undef, undef, undef, undef, undef, undef, undef, undef, undef, undef, undef, undef, undef, undef, undef, undef, undef, undef, undef, undef, undef, undef, undef, undef, undef, undef, undef, undef, undef, undef, undef, undef, undef, undef, undef, undef, undef, undef, undef, undef, undef, undef, undef, undef, undef, undef, undef, undef, undef, undef, undef, undef, undef, undef, undef, undef, undef, undef, undef, undef, undef, undef, undef, undef, undef, undef, undef, undef, undef, undef, undef, undef, undef, undef, undef, undef, undef, undef, undef, undef, undef, undef, undef, undef, undef, undef, undef, undef, undef, undef, undef, undef, undef, undef, undef, undef, undef, undef, undef, undef, undef, undef, undef, undef, undef, undef, undef, undef, undef, undef, undef, undef, undef], defers := [] })
      (fun x a' s X Y row ⟨Bx, h1, h2, h3⟩ hg hr => ⟨Bx, h1, (blk_own (β := Unit) Bx 30 (fun _ => (grpA b jj ((x.1 : Nat) : Int)).toList)).from w4.heap.size () X Y row h2 hg hr, h3⟩)
      ?assign ?body ?done ?stop
    case assign =>
      rintro l pre x W K ⟨⟨hn0, hn1⟩, hn2, hn3, hn4, hn5, hn6⟩ hK
      dsimp only [encG]
      have hq : ∃ x0 x1 x2 x3 x4 x5 : Int, grpA b jj ((x.1 : Nat) : Int) = #[.int .i64 x0, .int .i64 x1, .int .i64 x2, .int .i64 x3, .int .i64 x4, .int .i64 x5] := ⟨_, _, _, _, _, _, rfl⟩
      obtain ⟨x0, x1, x2, x3, x4, x5, hq⟩ := hq
      rw [hq] at hK ⊢
      gi_wp2
      exact hK _ _ ((KeepsOthers.alloc _ _).from _) (KpG.below (below_alloc _ _) (by omega)) ⟨⟨hn0, by rw [World.size_alloc]; omega⟩, hn2.alloc _, hn3.alloc _, hn4.alloc _, hn5.alloc _, bt hn6 (below_alloc _ _)⟩ ⟨W.heap.size, hn1, Blk.new' _ _ _, rfl⟩
    case stop =>
      rintro D c pre W' _ hpre h _
      exact absurd hpre h
    case done =>
      rintro D ys W hD rfl ⟨⟨hn0, hn1⟩, hn2, hn3, hn4, hn5, hn6⟩ hK
      obtain ⟨d, hd, f1, f2, f3, f4, f5, f6, f7, f8, f9⟩ := okS_facts hok
      have hgc := gNn_cast b jj
      have hgn : grpsN b jj = gN b := by unfold grpsN; rw [hok]; rfl
      rw [hgn] at hgc
      have HN : Hid (((gs b jj).length : Int) = gN b) := by show _ = _; rw [gs_length]; exact hgc.1.symm
      have HB : Hid (min (128 * ((gs b jj).length : Int)) b = b) := by show _ = _; rw [HN.out]; unfold gN; omega
      rw [HB.out] at hn2
      rw [HN.out] at hn3
      have HALL := cnt_all hok
      have HCAP : Hid (capN b jj = cntK b jj 7 b.toNat) := cap_cnt hok
      have hgr := fun w => grps_any b jj w
      rw [hgn] at hgr
      have hds := fun w => dscs_any b jj w
      rw [show descsN b jj = dN b from by unfold descsN; rw [hok]; rfl, hd] at hds
      have hcp := fun w => cap_any b jj w
      rw [HCAP.out] at hcp
      have hke := fun w => kind_any b jj b w
      rw [show kindN b jj b = 8 from by unfold kindN; rw [if_pos hok, if_neg (by omega)]] at hke
      have hki := fun x w => kind_any b jj x w
      have HK : Hid (∀ x : Int, 0 ≤ x → x < b → kindN b jj x = knd b jj x) := fun x a c => by unfold kindN; rw [if_pos hok, if_pos ⟨a, c⟩]
      rw [hd] at HALL
      have hnn : 1 ≤ gN b ∧ gN b ≤ 64 := gN_rng (by omega) (by omega)
      generalize gN b = nn at *
      have hD2 : w.heap.size ≤ D := Nat.le_trans hB4.size hD
      have hDg : Bn < D := Nat.lt_of_lt_of_le g5 hD
      have hmm := run_makeMap (P := Try.prog) 64
      have m0 := MC.made W
      have hWb := below_alloc W (.map #[] 0)
      have z5 := (hn4.alloc (.map #[] 0)).cell' (i := 0) rfl
      have hDl : D < W.heap.size := (Array.getElem?_eq_some_iff.1 hK).1
      have hcl : B5 < W.heap.size := hn4.lt
      have hd4' : d ≤ 4 := f2
      clear hn0 hgc hgn HN HB hok ha1 ha2 hc1 hc2 hj hs hd f2 f3 f4 hb1'
      gi_wp2_with fail
      have u0 : UW w (W.alloc (.map #[] 0)) Ba Bn B5 D b jj nn := (⟨hn2, hn3, hn4, hn5, hK, hn6⟩ : UW w W Ba Bn B5 D b jj nn).below hWb
      obtain ⟨gm, HGM⟩ : ∃ gm, gm = W.heap.size := ⟨_, rfl⟩
      rw [← HGM] at m0 hDl hcl ⊢
      clear hn1 hn2 hn3 hn4 hn5 hn6 hWb z5 hK hmm HGM
      generalize W.alloc (.map #[] 0) = W0 at *
      refine wpIn_wide.2 ?_
      go_loopw [71] (fun i wr => ∃ k : Nat, (k : Int) ≤ b ∧ i = .int .i64 k ∧ MC wr gm k (fun t => cntK b jj t k) ∧ UW w wr Ba Bn B5 D b jj nn) (fun i _ => b.toNat - (intOf i).toNat)
      case atStart => exact ⟨0, by omega, rfl, m0, u0⟩
      case round =>
        obtain ⟨k, hk, rfl, hm, hu⟩ := hrel
        clear m0 u0
        by_cases hlt : (k : Int) < b
        · have hkk := hki (k : Int)
          rw [HK.out (k : Int) (by omega) hlt] at hkk
          have HNX : Hid (∀ y, _ = _) := cnt_next b jj k
          have hq1 := (knd_rng b jj (k : Int)).1
          have hq2 := (knd_rng b jj (k : Int)).2
          have hcr1 := (cntK_rng b jj (knd b jj (k : Int)) k).1
          have hcr2 := (cntK_rng b jj (knd b jj (k : Int)) k).2
          have c0 := hu.sh.cell' (i := 0) rfl
          have c1 := hu.sh.cell' (i := 1) rfl
          clear hki hgr hds hcp hke HALL
          generalize knd b jj (k : Int) = q at *
          obtain ⟨cc, HCC⟩ : ∃ cc, Hid (cntK b jj q k = cc) := ⟨_, rfl⟩
          rw [HCC.out] at hcr1 hcr2 HNX
          have hlk := fun X (h : Below wr.heap.size wr X) => (hm.kept h).look q (by omega) (by omega)
          rw [HCC.out] at hlk
          go_wp2_with (first
            | (go_at_call 28; refine (hkk _).mono ?_; rintro e w5 ⟨rfl, hb5⟩; have hl5 := hlk _ hb5; have hm5 := hm.kept hb5; have hu5 := hu.below hb5)
            | (refine wpList_putC _ rfl (.tmp 74) (.tmp 77) (.tmp 79) rfl gm k _ rfl hm5 (by omega) q (cc + 1) (by omega) (by omega) (by omega) (by omega) rfl rfl ?_; intro w6 hm6 hg6; have hu6 := hu5.grown hg6 (by omega) (by omega) (by omega) (by omega) (by omega)))
          go_roundw
          case rel => exact ⟨k + 1, by omega, by go_num, hm6.congr HNX.out, hu6⟩
          case measure => simp [intOf]; omega
        · obtain rfl : k = b.toNat := by omega
          have HV : Hid (cntK b jj 1 b.toNat = 1 ∧ cntK b jj 2 b.toNat = d ∧ cntK b jj 3 b.toNat = nn ∧ cntK b jj 4 b.toNat = nn ∧ cntK b jj 5 b.toNat = 4 * nn ∧ cntK b jj 6 b.toNat = jj) := ⟨HALL.1, HALL.2.1, HALL.2.2.1, HALL.2.2.2.1, HALL.2.2.2.2.1, HALL.2.2.2.2.2.1⟩
          have h7 := HALL.2.2.2.2.2.2.1
          have h8 := HALL.2.2.2.2.2.2.2
          clear HALL hki HK HCAP
          have k1 := hm.look 1 (by omega) (by omega)
          have k2 := hm.look 2 (by omega) (by omega)
          have k3 := hm.look 3 (by omega) (by omega)
          have k4 := hm.look 4 (by omega) (by omega)
          have k5 := hm.look 5 (by omega) (by omega)
          have k6 := hm.look 6 (by omega) (by omega)
          have k7 := hm.look 7 (by omega) (by omega)
          rw [HV.out.1] at k1
          rw [HV.out.2.1] at k2
          rw [HV.out.2.2.1] at k3
          rw [HV.out.2.2.2.1] at k4
          rw [HV.out.2.2.2.2.1] at k5
          rw [HV.out.2.2.2.2.2] at k6
          obtain ⟨q7, HQ⟩ : ∃ q7, Hid (cntK b jj 7 b.toNat = q7) := ⟨_, rfl⟩
          rw [HQ.out] at k7 h7 h8 hcp
          have H7 : Hid (q7 = b - 1 - d - 6 * nn - jj) := h7
          have hq7 : q7 ≤ 1500 := by omega
          clear h7
          have hn1 := hnn.1
          have hn2 := hnn.2
          have hd4 : d ≤ 4 := hd4'
          clear hnn
          go_upto_region 25 with fail
          refine wpIn_wide.2 ?_
          go_upto_region 25 with fail
          have e60 : (q7 + (1 + d + nn + nn + 4 * nn + jj) == b) = true := by rw [beq_iff_eq]; have := H7.out; omega
          have w57 : IntKind.i64.wrap (q7 + (1 + d + nn + nn + 4 * nn + jj)) = q7 + (1 + d + nn + nn + 4 * nn + jj) := wrapB _ (by omega) (by omega)
          have w38 : IntKind.i64.wrap (nn * 4) = 4 * nn := by rw [show nn * 4 = 4 * nn from by omega]; exact wrapB _ (by omega) (by omega)
          clear k1 k2 k3 k4 k5 k6 k7
          refine wp_region_noPanic ?_
          refine wp_region_held_drew (S := fun X => MC X gm b.toNat (fun t => cntK b jj t b.toNat) ∧ UV w X Ba Bn B5 D b jj nn) (by kernel_rfl) ⟨hm.kept ((Below.refl _ _).drew), hu.uv.below ((Below.refl _ _).drew)⟩ (fun hHeld => ?_)
          refine wpAnyH_take_at (i := 0) (v := ?_) (some 100) rfl (by kernel_rfl) (by kernel_rfl) (by kernel_rfl) (by kernel_rfl) (fun _ _ _ h => h) (Or.inl ⟨by kernel_rfl, ?_⟩) hHeld ?_
          rotate_left
          · intro w' hSw; try dsimp only at hSw
            have uu := hSw.2
            have c0 := uu.at'.cell' (i := 0) rfl
            have c1 := uu.n.cell' (i := 0) rfl
            have c2 := uu.sh.cell' (i := 0) rfl
            have c3 := uu.sh.cell' (i := 1) rfl
            go_simp; try (with_reducible rfl)
          try simp only [Act.put, List.getElem_toArray, List.getElem_cons_succ, List.getElem_cons_zero, List.setIfInBounds_toArray, List.set_cons_zero, List.set_cons_succ]
          refine wpAnyH_take_at (i := 1) (v := ?_) (some 101) rfl (by kernel_rfl) (by kernel_rfl) (by kernel_rfl) (by kernel_rfl) (fun _ _ _ h => h) (Or.inl ⟨by kernel_rfl, ?_⟩) hHeld ?_
          rotate_left
          · intro w' hSw; try dsimp only at hSw
            go_simp; try (with_reducible rfl)
          try simp only [Act.put, List.getElem_toArray, List.getElem_cons_succ, List.getElem_cons_zero, List.setIfInBounds_toArray, List.set_cons_zero, List.set_cons_succ]
          refine wpAnyH_take_at (i := 2) (v := ?_) (some 102) rfl (by kernel_rfl) (by kernel_rfl) (by kernel_rfl) (by kernel_rfl) (fun _ _ _ h => h) (Or.inl ⟨by kernel_rfl, ?_⟩) hHeld ?_
          rotate_left
          · intro w' hSw; try dsimp only at hSw
            have uu := hSw.2
            have c0 := uu.at'.cell' (i := 0) rfl
            have c1 := uu.n.cell' (i := 0) rfl
            have c2 := uu.sh.cell' (i := 0) rfl
            have c3 := uu.sh.cell' (i := 1) rfl
            go_simp; try (with_reducible rfl)
          try simp only [Act.put, List.getElem_toArray, List.getElem_cons_succ, List.getElem_cons_zero, List.setIfInBounds_toArray, List.set_cons_zero, List.set_cons_succ]
          refine wpAnyH_take_at (i := 3) (v := ?_) (some 103) rfl (by kernel_rfl) (by kernel_rfl) (by kernel_rfl) (by kernel_rfl) (fun _ _ _ h => h) (Or.inl ⟨by kernel_rfl, ?_⟩) hHeld ?_
          rotate_left
          · intro w' hSw; try dsimp only at hSw
            go_simp; try (with_reducible rfl)
          try simp only [Act.put, List.getElem_toArray, List.getElem_cons_succ, List.getElem_cons_zero, List.setIfInBounds_toArray, List.set_cons_zero, List.set_cons_succ]
          refine wpAnyH_take_at (i := 4) (v := ?_) (some 104) rfl (by kernel_rfl) (by kernel_rfl) (by kernel_rfl) (by kernel_rfl) (fun _ _ _ h => h) (Or.inl ⟨by kernel_rfl, ?_⟩) hHeld ?_
          rotate_left
          · intro w' hSw; try dsimp only at hSw
            go_simp; try (with_reducible rfl)
          try simp only [Act.put, List.getElem_toArray, List.getElem_cons_succ, List.getElem_cons_zero, List.setIfInBounds_toArray, List.set_cons_zero, List.set_cons_succ]
          refine wpAnyH_take_at (i := 5) (v := ?_) (some 105) rfl (by kernel_rfl) (by kernel_rfl) (by kernel_rfl) (by kernel_rfl) (fun _ _ _ h => h) (Or.inl ⟨by kernel_rfl, ?_⟩) hHeld ?_
          rotate_left
          · intro w' hSw; try dsimp only at hSw
            have uu := hSw.2
            have c0 := uu.at'.cell' (i := 0) rfl
            have c1 := uu.n.cell' (i := 0) rfl
            have c2 := uu.sh.cell' (i := 0) rfl
            have c3 := uu.sh.cell' (i := 1) rfl
            go_simp; try (with_reducible rfl)
          try simp only [Act.put, List.getElem_toArray, List.getElem_cons_succ, List.getElem_cons_zero, List.setIfInBounds_toArray, List.set_cons_zero, List.set_cons_succ]
          refine wpAnyH_take_at (i := 6) (v := ?_) (some 106) rfl (by kernel_rfl) (by kernel_rfl) (by kernel_rfl) (by kernel_rfl) (fun _ _ _ h => h) (Or.inl ⟨by kernel_rfl, ?_⟩) hHeld ?_
          rotate_left
          · intro w' hSw; try dsimp only at hSw
            have uu := hSw.2
            have c0 := uu.at'.cell' (i := 0) rfl
            have c1 := uu.n.cell' (i := 0) rfl
            have c2 := uu.sh.cell' (i := 0) rfl
            have c3 := uu.sh.cell' (i := 1) rfl
            go_simp; try (with_reducible rfl)
          try simp only [Act.put, List.getElem_toArray, List.getElem_cons_succ, List.getElem_cons_zero, List.setIfInBounds_toArray, List.set_cons_zero, List.set_cons_succ]
          refine wpAnyH_ready (rs := [7]) (by kernel_rfl) (by simp) ?_
          refine AllReadyH.cons rfl (fun K hK => ?_) AllReadyH.nil
          go_simp
          refine (hgr _).mono ?_
          rintro e X7 ⟨rfl, hX7⟩
          have hS7 := US.next hHeld hX7
          refine hK.out _ _ hS7 (fun hHeld => ?_)
          clear hK K
          try simp only [Act.put, List.getElem_toArray, List.getElem_cons_succ, List.getElem_cons_zero, List.setIfInBounds_toArray, List.set_cons_zero, List.set_cons_succ]
          refine wpAnyH_take_at (i := 8) (v := ?_) (some 108) rfl (by kernel_rfl) (by kernel_rfl) (by kernel_rfl) (by kernel_rfl) (fun _ _ _ h => h) (Or.inl ⟨by kernel_rfl, ?_⟩) hHeld ?_
          rotate_left
          · intro w' hSw; try dsimp only at hSw
            go_simp; try (with_reducible rfl)
          try simp only [Act.put, List.getElem_toArray, List.getElem_cons_succ, List.getElem_cons_zero, List.setIfInBounds_toArray, List.set_cons_zero, List.set_cons_succ]
          refine wpAnyH_take_at (i := 9) (v := ?_) (some 109) rfl (by kernel_rfl) (by kernel_rfl) (by kernel_rfl) (by kernel_rfl) (fun _ _ _ h => h) (Or.inl ⟨by kernel_rfl, ?_⟩) hHeld ?_
          rotate_left
          · intro w' hSw; try dsimp only at hSw
            go_simp; try (with_reducible rfl)
          try simp only [Act.put, List.getElem_toArray, List.getElem_cons_succ, List.getElem_cons_zero, List.setIfInBounds_toArray, List.set_cons_zero, List.set_cons_succ]
          refine wpAnyH_take_at (i := 10) (v := ?_) (some 110) rfl (by kernel_rfl) (by kernel_rfl) (by kernel_rfl) (by kernel_rfl) (fun _ _ _ h => h) (Or.inl ⟨by kernel_rfl, ?_⟩) hHeld ?_
          rotate_left
          · intro w' hSw; try dsimp only at hSw
            go_simp; try (with_reducible rfl)
          try simp only [Act.put, List.getElem_toArray, List.getElem_cons_succ, List.getElem_cons_zero, List.setIfInBounds_toArray, List.set_cons_zero, List.set_cons_succ]
          refine wpAnyH_take_at (i := 11) (v := ?_) (some 111) rfl (by kernel_rfl) (by kernel_rfl) (by kernel_rfl) (by kernel_rfl) (fun _ _ _ h => h) (Or.inl ⟨by kernel_rfl, ?_⟩) hHeld ?_
          rotate_left
          · intro w' hSw; try dsimp only at hSw
            go_simp; try (with_reducible rfl)
          try simp only [Act.put, List.getElem_toArray, List.getElem_cons_succ, List.getElem_cons_zero, List.setIfInBounds_toArray, List.set_cons_zero, List.set_cons_succ]
          refine wpAnyH_take_at (i := 12) (v := ?_) (some 112) rfl (by kernel_rfl) (by kernel_rfl) (by kernel_rfl) (by kernel_rfl) (fun _ _ _ h => h) (Or.inl ⟨by kernel_rfl, ?_⟩) hHeld ?_
          rotate_left
          · intro w' hSw; try dsimp only at hSw
            have lk := hSw.1.look 1 (by omega) (by omega)
            rw [HV.out.1] at lk
            go_simp; try (with_reducible rfl)
          try simp only [Act.put, List.getElem_toArray, List.getElem_cons_succ, List.getElem_cons_zero, List.setIfInBounds_toArray, List.set_cons_zero, List.set_cons_succ]
          refine wpAnyH_take_at (i := 13) (v := ?_) (some 113) rfl (by kernel_rfl) (by kernel_rfl) (by kernel_rfl) (by kernel_rfl) (fun _ _ _ h => h) (Or.inl ⟨by kernel_rfl, ?_⟩) hHeld ?_
          rotate_left
          · intro w' hSw; try dsimp only at hSw
            go_simp; try (with_reducible rfl)
          try simp only [Act.put, List.getElem_toArray, List.getElem_cons_succ, List.getElem_cons_zero, List.setIfInBounds_toArray, List.set_cons_zero, List.set_cons_succ]
          refine wpAnyH_take_at (i := 14) (v := ?_) (some 114) rfl (by kernel_rfl) (by kernel_rfl) (by kernel_rfl) (by kernel_rfl) (fun _ _ _ h => h) (Or.inl ⟨by kernel_rfl, ?_⟩) hHeld ?_
          rotate_left
          · intro w' hSw; try dsimp only at hSw
            go_simp; try (with_reducible rfl)
          try simp only [Act.put, List.getElem_toArray, List.getElem_cons_succ, List.getElem_cons_zero, List.setIfInBounds_toArray, List.set_cons_zero, List.set_cons_succ]
          refine wpAnyH_take_at (i := 15) (v := ?_) (some 115) rfl (by kernel_rfl) (by kernel_rfl) (by kernel_rfl) (by kernel_rfl) (fun _ _ _ h => h) (Or.inl ⟨by kernel_rfl, ?_⟩) hHeld ?_
          rotate_left
          · intro w' hSw; try dsimp only at hSw
            go_simp; try (with_reducible rfl)
          try simp only [Act.put, List.getElem_toArray, List.getElem_cons_succ, List.getElem_cons_zero, List.setIfInBounds_toArray, List.set_cons_zero, List.set_cons_succ]
          refine wpAnyH_take_at (i := 16) (v := ?_) (some 116) rfl (by kernel_rfl) (by kernel_rfl) (by kernel_rfl) (by kernel_rfl) (fun _ _ _ h => h) (Or.inl ⟨by kernel_rfl, ?_⟩) hHeld ?_
          rotate_left
          · intro w' hSw; try dsimp only at hSw
            go_simp; try (with_reducible rfl)
          try simp only [Act.put, List.getElem_toArray, List.getElem_cons_succ, List.getElem_cons_zero, List.setIfInBounds_toArray, List.set_cons_zero, List.set_cons_succ]
          refine wpAnyH_take_at (i := 17) (v := ?_) (some 117) rfl (by kernel_rfl) (by kernel_rfl) (by kernel_rfl) (by kernel_rfl) (fun _ _ _ h => h) (Or.inl ⟨by kernel_rfl, ?_⟩) hHeld ?_
          rotate_left
          · intro w' hSw; try dsimp only at hSw
            have lk := hSw.1.look 2 (by omega) (by omega)
            rw [HV.out.2.1] at lk
            go_simp; try (with_reducible rfl)
          try simp only [Act.put, List.getElem_toArray, List.getElem_cons_succ, List.getElem_cons_zero, List.setIfInBounds_toArray, List.set_cons_zero, List.set_cons_succ]
          refine wpAnyH_take_at (i := 18) (v := ?_) (some 118) rfl (by kernel_rfl) (by kernel_rfl) (by kernel_rfl) (by kernel_rfl) (fun _ _ _ h => h) (Or.inl ⟨by kernel_rfl, ?_⟩) hHeld ?_
          rotate_left
          · intro w' hSw; try dsimp only at hSw
            have uu := hSw.2
            have c0 := uu.at'.cell' (i := 0) rfl
            have c1 := uu.n.cell' (i := 0) rfl
            have c2 := uu.sh.cell' (i := 0) rfl
            have c3 := uu.sh.cell' (i := 1) rfl
            go_simp; try (with_reducible rfl)
          try simp only [Act.put, List.getElem_toArray, List.getElem_cons_succ, List.getElem_cons_zero, List.setIfInBounds_toArray, List.set_cons_zero, List.set_cons_succ]
          refine wpAnyH_ready (rs := [19]) (by kernel_rfl) (by simp) ?_
          refine AllReadyH.cons rfl (fun K hK => ?_) AllReadyH.nil
          go_simp
          refine (hds _).mono ?_
          rintro e X19 ⟨rfl, hX19⟩
          have hS19 := US.next hHeld hX19
          refine hK.out _ _ hS19 (fun hHeld => ?_)
          clear hK K
          try simp only [Act.put, List.getElem_toArray, List.getElem_cons_succ, List.getElem_cons_zero, List.setIfInBounds_toArray, List.set_cons_zero, List.set_cons_succ]
          refine wpAnyH_take_at (i := 20) (v := ?_) (some 120) rfl (by kernel_rfl) (by kernel_rfl) (by kernel_rfl) (by kernel_rfl) (fun _ _ _ h => h) (Or.inl ⟨by kernel_rfl, ?_⟩) hHeld ?_
          rotate_left
          · intro w' hSw; try dsimp only at hSw
            go_simp; try (with_reducible rfl)
          try simp only [Act.put, List.getElem_toArray, List.getElem_cons_succ, List.getElem_cons_zero, List.setIfInBounds_toArray, List.set_cons_zero, List.set_cons_succ]
          refine wpAnyH_take_at (i := 21) (v := ?_) (some 121) rfl (by kernel_rfl) (by kernel_rfl) (by kernel_rfl) (by kernel_rfl) (fun _ _ _ h => h) (Or.inl ⟨by kernel_rfl, ?_⟩) hHeld ?_
          rotate_left
          · intro w' hSw; try dsimp only at hSw
            go_simp; try (with_reducible rfl)
          try simp only [Act.put, List.getElem_toArray, List.getElem_cons_succ, List.getElem_cons_zero, List.setIfInBounds_toArray, List.set_cons_zero, List.set_cons_succ]
          refine wpAnyH_take_at (i := 22) (v := ?_) (some 122) rfl (by kernel_rfl) (by kernel_rfl) (by kernel_rfl) (by kernel_rfl) (fun _ _ _ h => h) (Or.inl ⟨by kernel_rfl, ?_⟩) hHeld ?_
          rotate_left
          · intro w' hSw; try dsimp only at hSw
            go_simp; try (with_reducible rfl)
          try simp only [Act.put, List.getElem_toArray, List.getElem_cons_succ, List.getElem_cons_zero, List.setIfInBounds_toArray, List.set_cons_zero, List.set_cons_succ]
          refine wpAnyH_take_at (i := 23) (v := ?_) (some 123) rfl (by kernel_rfl) (by kernel_rfl) (by kernel_rfl) (by kernel_rfl) (fun _ _ _ h => h) (Or.inl ⟨by kernel_rfl, ?_⟩) hHeld ?_
          rotate_left
          · intro w' hSw; try dsimp only at hSw
            go_simp; try (with_reducible rfl)
          try simp only [Act.put, List.getElem_toArray, List.getElem_cons_succ, List.getElem_cons_zero, List.setIfInBounds_toArray, List.set_cons_zero, List.set_cons_succ]
          refine wpAnyH_take_at (i := 24) (v := ?_) (some 124) rfl (by kernel_rfl) (by kernel_rfl) (by kernel_rfl) (by kernel_rfl) (fun _ _ _ h => h) (Or.inl ⟨by kernel_rfl, ?_⟩) hHeld ?_
          rotate_left
          · intro w' hSw; try dsimp only at hSw
            have lk := hSw.1.look 3 (by omega) (by omega)
            rw [HV.out.2.2.1] at lk
            go_simp; try (with_reducible rfl)
          try simp only [Act.put, List.getElem_toArray, List.getElem_cons_succ, List.getElem_cons_zero, List.setIfInBounds_toArray, List.set_cons_zero, List.set_cons_succ]
          refine wpAnyH_take_at (i := 25) (v := ?_) (some 125) rfl (by kernel_rfl) (by kernel_rfl) (by kernel_rfl) (by kernel_rfl) (fun _ _ _ h => h) (Or.inl ⟨by kernel_rfl, ?_⟩) hHeld ?_
          rotate_left
          · intro w' hSw; try dsimp only at hSw
            have uu := hSw.2
            have c0 := uu.at'.cell' (i := 0) rfl
            have c1 := uu.n.cell' (i := 0) rfl
            have c2 := uu.sh.cell' (i := 0) rfl
            have c3 := uu.sh.cell' (i := 1) rfl
            go_simp; try (with_reducible rfl)
          try simp only [Act.put, List.getElem_toArray, List.getElem_cons_succ, List.getElem_cons_zero, List.setIfInBounds_toArray, List.set_cons_zero, List.set_cons_succ]
          refine wpAnyH_take_at (i := 26) (v := ?_) (some 126) rfl (by kernel_rfl) (by kernel_rfl) (by kernel_rfl) (by kernel_rfl) (fun _ _ _ h => h) (Or.inl ⟨by kernel_rfl, ?_⟩) hHeld ?_
          rotate_left
          · intro w' hSw; try dsimp only at hSw
            go_simp; try (with_reducible rfl)
          try simp only [Act.put, List.getElem_toArray, List.getElem_cons_succ, List.getElem_cons_zero, List.setIfInBounds_toArray, List.set_cons_zero, List.set_cons_succ]
          refine wpAnyH_take_at (i := 27) (v := ?_) (some 127) rfl (by kernel_rfl) (by kernel_rfl) (by kernel_rfl) (by kernel_rfl) (fun _ _ _ h => h) (Or.inl ⟨by kernel_rfl, ?_⟩) hHeld ?_
          rotate_left
          · intro w' hSw; try dsimp only at hSw
            go_simp; try (with_reducible rfl)
          try simp only [Act.put, List.getElem_toArray, List.getElem_cons_succ, List.getElem_cons_zero, List.setIfInBounds_toArray, List.set_cons_zero, List.set_cons_succ]
          refine wpAnyH_take_at (i := 28) (v := ?_) (some 128) rfl (by kernel_rfl) (by kernel_rfl) (by kernel_rfl) (by kernel_rfl) (fun _ _ _ h => h) (Or.inl ⟨by kernel_rfl, ?_⟩) hHeld ?_
          rotate_left
          · intro w' hSw; try dsimp only at hSw
            go_simp; try (with_reducible rfl)
          try simp only [Act.put, List.getElem_toArray, List.getElem_cons_succ, List.getElem_cons_zero, List.setIfInBounds_toArray, List.set_cons_zero, List.set_cons_succ]
          refine wpAnyH_take_at (i := 29) (v := ?_) (some 129) rfl (by kernel_rfl) (by kernel_rfl) (by kernel_rfl) (by kernel_rfl) (fun _ _ _ h => h) (Or.inl ⟨by kernel_rfl, ?_⟩) hHeld ?_
          rotate_left
          · intro w' hSw; try dsimp only at hSw
            go_simp; try (with_reducible rfl)
          try simp only [Act.put, List.getElem_toArray, List.getElem_cons_succ, List.getElem_cons_zero, List.setIfInBounds_toArray, List.set_cons_zero, List.set_cons_succ]
          refine wpAnyH_take_at (i := 30) (v := ?_) (some 130) rfl (by kernel_rfl) (by kernel_rfl) (by kernel_rfl) (by kernel_rfl) (fun _ _ _ h => h) (Or.inl ⟨by kernel_rfl, ?_⟩) hHeld ?_
          rotate_left
          · intro w' hSw; try dsimp only at hSw
            have lk := hSw.1.look 4 (by omega) (by omega)
            rw [HV.out.2.2.2.1] at lk
            go_simp; try (with_reducible rfl)
          try simp only [Act.put, List.getElem_toArray, List.getElem_cons_succ, List.getElem_cons_zero, List.setIfInBounds_toArray, List.set_cons_zero, List.set_cons_succ]
          refine wpAnyH_take_at (i := 31) (v := ?_) (some 131) rfl (by kernel_rfl) (by kernel_rfl) (by kernel_rfl) (by kernel_rfl) (fun _ _ _ h => h) (Or.inl ⟨by kernel_rfl, ?_⟩) hHeld ?_
          rotate_left
          · intro w' hSw; try dsimp only at hSw
            have uu := hSw.2
            have c0 := uu.at'.cell' (i := 0) rfl
            have c1 := uu.n.cell' (i := 0) rfl
            have c2 := uu.sh.cell' (i := 0) rfl
            have c3 := uu.sh.cell' (i := 1) rfl
            go_simp; try (with_reducible rfl)
          try simp only [Act.put, List.getElem_toArray, List.getElem_cons_succ, List.getElem_cons_zero, List.setIfInBounds_toArray, List.set_cons_zero, List.set_cons_succ]
          refine wpAnyH_take_at (i := 32) (v := ?_) (some 132) rfl (by kernel_rfl) (by kernel_rfl) (by kernel_rfl) (by kernel_rfl) (fun _ _ _ h => h) (Or.inl ⟨by kernel_rfl, ?_⟩) hHeld ?_
          rotate_left
          · intro w' hSw; try dsimp only at hSw
            go_simp; try (with_reducible rfl)
          try simp only [Act.put, List.getElem_toArray, List.getElem_cons_succ, List.getElem_cons_zero, List.setIfInBounds_toArray, List.set_cons_zero, List.set_cons_succ]
          refine wpAnyH_take_at (i := 33) (v := ?_) (some 133) rfl (by kernel_rfl) (by kernel_rfl) (by kernel_rfl) (by kernel_rfl) (fun _ _ _ h => h) (Or.inl ⟨by kernel_rfl, ?_⟩) hHeld ?_
          rotate_left
          · intro w' hSw; try dsimp only at hSw
            go_simp; try (with_reducible rfl)
          try simp only [Act.put, List.getElem_toArray, List.getElem_cons_succ, List.getElem_cons_zero, List.setIfInBounds_toArray, List.set_cons_zero, List.set_cons_succ]
          refine wpAnyH_take_at (i := 34) (v := ?_) (some 134) rfl (by kernel_rfl) (by kernel_rfl) (by kernel_rfl) (by kernel_rfl) (fun _ _ _ h => h) (Or.inl ⟨by kernel_rfl, ?_⟩) hHeld ?_
          rotate_left
          · intro w' hSw; try dsimp only at hSw
            go_simp; try (with_reducible rfl)
          try simp only [Act.put, List.getElem_toArray, List.getElem_cons_succ, List.getElem_cons_zero, List.setIfInBounds_toArray, List.set_cons_zero, List.set_cons_succ]
          refine wpAnyH_take_at (i := 35) (v := ?_) (some 135) rfl (by kernel_rfl) (by kernel_rfl) (by kernel_rfl) (by kernel_rfl) (fun _ _ _ h => h) (Or.inl ⟨by kernel_rfl, ?_⟩) hHeld ?_
          rotate_left
          · intro w' hSw; try dsimp only at hSw
            go_simp; try (with_reducible rfl)
          try simp only [Act.put, List.getElem_toArray, List.getElem_cons_succ, List.getElem_cons_zero, List.setIfInBounds_toArray, List.set_cons_zero, List.set_cons_succ]
          refine wpAnyH_take_at (i := 36) (v := ?_) (some 136) rfl (by kernel_rfl) (by kernel_rfl) (by kernel_rfl) (by kernel_rfl) (fun _ _ _ h => h) (Or.inl ⟨by kernel_rfl, ?_⟩) hHeld ?_
          rotate_left
          · intro w' hSw; try dsimp only at hSw
            have lk := hSw.1.look 5 (by omega) (by omega)
            rw [HV.out.2.2.2.2.1] at lk
            go_simp; try (with_reducible rfl)
          try simp only [Act.put, List.getElem_toArray, List.getElem_cons_succ, List.getElem_cons_zero, List.setIfInBounds_toArray, List.set_cons_zero, List.set_cons_succ]
          refine wpAnyH_take_at (i := 37) (v := ?_) (some 137) rfl (by kernel_rfl) (by kernel_rfl) (by kernel_rfl) (by kernel_rfl) (fun _ _ _ h => h) (Or.inl ⟨by kernel_rfl, ?_⟩) hHeld ?_
          rotate_left
          · intro w' hSw; try dsimp only at hSw
            have uu := hSw.2
            have c0 := uu.at'.cell' (i := 0) rfl
            have c1 := uu.n.cell' (i := 0) rfl
            have c2 := uu.sh.cell' (i := 0) rfl
            have c3 := uu.sh.cell' (i := 1) rfl
            go_simp; try (with_reducible rfl)
          try simp only [Act.put, List.getElem_toArray, List.getElem_cons_succ, List.getElem_cons_zero, List.setIfInBounds_toArray, List.set_cons_zero, List.set_cons_succ]
          refine wpAnyH_take_at (i := 38) (v := ?_) (some 138) rfl (by kernel_rfl) (by kernel_rfl) (by kernel_rfl) (by kernel_rfl) (fun _ _ _ h => h) (Or.inl ⟨by kernel_rfl, ?_⟩) hHeld ?_
          rotate_left
          · intro w' hSw; try dsimp only at hSw
            go_simp; try (with_reducible rfl)
          try simp only [Act.put, List.getElem_toArray, List.getElem_cons_succ, List.getElem_cons_zero, List.setIfInBounds_toArray, List.set_cons_zero, List.set_cons_succ]
          refine wpAnyH_take_at (i := 39) (v := ?_) (some 139) rfl (by kernel_rfl) (by kernel_rfl) (by kernel_rfl) (by kernel_rfl) (fun _ _ _ h => h) (Or.inl ⟨by kernel_rfl, ?_⟩) hHeld ?_
          rotate_left
          · intro w' hSw; try dsimp only at hSw
            go_simp; try (with_reducible rfl)
          try simp only [Act.put, List.getElem_toArray, List.getElem_cons_succ, List.getElem_cons_zero, List.setIfInBounds_toArray, List.set_cons_zero, List.set_cons_succ]
          refine wpAnyH_take_at (i := 40) (v := ?_) (some 140) rfl (by kernel_rfl) (by kernel_rfl) (by kernel_rfl) (by kernel_rfl) (fun _ _ _ h => h) (Or.inl ⟨by kernel_rfl, ?_⟩) hHeld ?_
          rotate_left
          · intro w' hSw; try dsimp only at hSw
            go_simp; try (with_reducible rfl)
          try simp only [Act.put, List.getElem_toArray, List.getElem_cons_succ, List.getElem_cons_zero, List.setIfInBounds_toArray, List.set_cons_zero, List.set_cons_succ]
          refine wpAnyH_take_at (i := 41) (v := ?_) (some 141) rfl (by kernel_rfl) (by kernel_rfl) (by kernel_rfl) (by kernel_rfl) (fun _ _ _ h => h) (Or.inl ⟨by kernel_rfl, ?_⟩) hHeld ?_
          rotate_left
          · intro w' hSw; try dsimp only at hSw
            go_simp; try (with_reducible rfl)
          try simp only [Act.put, List.getElem_toArray, List.getElem_cons_succ, List.getElem_cons_zero, List.setIfInBounds_toArray, List.set_cons_zero, List.set_cons_succ]
          refine wpAnyH_take_at (i := 42) (v := ?_) (some 142) rfl (by kernel_rfl) (by kernel_rfl) (by kernel_rfl) (by kernel_rfl) (fun _ _ _ h => h) (Or.inl ⟨by kernel_rfl, ?_⟩) hHeld ?_
          rotate_left
          · intro w' hSw; try dsimp only at hSw
            go_simp; try (with_reducible rfl)
          try simp only [Act.put, List.getElem_toArray, List.getElem_cons_succ, List.getElem_cons_zero, List.setIfInBounds_toArray, List.set_cons_zero, List.set_cons_succ]
          refine wpAnyH_take_at (i := 43) (v := ?_) (some 143) rfl (by kernel_rfl) (by kernel_rfl) (by kernel_rfl) (by kernel_rfl) (fun _ _ _ h => h) (Or.inl ⟨by kernel_rfl, ?_⟩) hHeld ?_
          rotate_left
          · intro w' hSw; try dsimp only at hSw
            have lk := hSw.1.look 6 (by omega) (by omega)
            rw [HV.out.2.2.2.2.2] at lk
            go_simp; try (with_reducible rfl)
          try simp only [Act.put, List.getElem_toArray, List.getElem_cons_succ, List.getElem_cons_zero, List.setIfInBounds_toArray, List.set_cons_zero, List.set_cons_succ]
          refine wpAnyH_take_at (i := 44) (v := ?_) (some 144) rfl (by kernel_rfl) (by kernel_rfl) (by kernel_rfl) (by kernel_rfl) (fun _ _ _ h => h) (Or.inl ⟨by kernel_rfl, ?_⟩) hHeld ?_
          rotate_left
          · intro w' hSw; try dsimp only at hSw
            go_simp; try (with_reducible rfl)
          try simp only [Act.put, List.getElem_toArray, List.getElem_cons_succ, List.getElem_cons_zero, List.setIfInBounds_toArray, List.set_cons_zero, List.set_cons_succ]
          refine wpAnyH_take_at (i := 45) (v := ?_) (some 145) rfl (by kernel_rfl) (by kernel_rfl) (by kernel_rfl) (by kernel_rfl) (fun _ _ _ h => h) (Or.inl ⟨by kernel_rfl, ?_⟩) hHeld ?_
          rotate_left
          · intro w' hSw; try dsimp only at hSw
            have uu := hSw.2
            have c0 := uu.at'.cell' (i := 0) rfl
            have c1 := uu.n.cell' (i := 0) rfl
            have c2 := uu.sh.cell' (i := 0) rfl
            have c3 := uu.sh.cell' (i := 1) rfl
            go_simp; try (with_reducible rfl)
          try simp only [Act.put, List.getElem_toArray, List.getElem_cons_succ, List.getElem_cons_zero, List.setIfInBounds_toArray, List.set_cons_zero, List.set_cons_succ]
          refine wpAnyH_take_at (i := 46) (v := ?_) (some 146) rfl (by kernel_rfl) (by kernel_rfl) (by kernel_rfl) (by kernel_rfl) (fun _ _ _ h => h) (Or.inl ⟨by kernel_rfl, ?_⟩) hHeld ?_
          rotate_left
          · intro w' hSw; try dsimp only at hSw
            go_simp; try (with_reducible rfl)
          try simp only [Act.put, List.getElem_toArray, List.getElem_cons_succ, List.getElem_cons_zero, List.setIfInBounds_toArray, List.set_cons_zero, List.set_cons_succ]
          refine wpAnyH_take_at (i := 47) (v := ?_) (some 147) rfl (by kernel_rfl) (by kernel_rfl) (by kernel_rfl) (by kernel_rfl) (fun _ _ _ h => h) (Or.inl ⟨by kernel_rfl, ?_⟩) hHeld ?_
          rotate_left
          · intro w' hSw; try dsimp only at hSw
            go_simp; try (with_reducible rfl)
          try simp only [Act.put, List.getElem_toArray, List.getElem_cons_succ, List.getElem_cons_zero, List.setIfInBounds_toArray, List.set_cons_zero, List.set_cons_succ]
          refine wpAnyH_take_at (i := 48) (v := ?_) (some 148) rfl (by kernel_rfl) (by kernel_rfl) (by kernel_rfl) (by kernel_rfl) (fun _ _ _ h => h) (Or.inl ⟨by kernel_rfl, ?_⟩) hHeld ?_
          rotate_left
          · intro w' hSw; try dsimp only at hSw
            go_simp; try (with_reducible rfl)
          try simp only [Act.put, List.getElem_toArray, List.getElem_cons_succ, List.getElem_cons_zero, List.setIfInBounds_toArray, List.set_cons_zero, List.set_cons_succ]
          refine wpAnyH_take_at (i := 49) (v := ?_) (some 149) rfl (by kernel_rfl) (by kernel_rfl) (by kernel_rfl) (by kernel_rfl) (fun _ _ _ h => h) (Or.inl ⟨by kernel_rfl, ?_⟩) hHeld ?_
          rotate_left
          · intro w' hSw; try dsimp only at hSw
            go_simp; try (with_reducible rfl)
          try simp only [Act.put, List.getElem_toArray, List.getElem_cons_succ, List.getElem_cons_zero, List.setIfInBounds_toArray, List.set_cons_zero, List.set_cons_succ]
          refine wpAnyH_take_at (i := 50) (v := ?_) (some 150) rfl (by kernel_rfl) (by kernel_rfl) (by kernel_rfl) (by kernel_rfl) (fun _ _ _ h => h) (Or.inl ⟨by kernel_rfl, ?_⟩) hHeld ?_
          rotate_left
          · intro w' hSw; try dsimp only at hSw
            have uu := hSw.2
            have c0 := uu.at'.cell' (i := 0) rfl
            have c1 := uu.n.cell' (i := 0) rfl
            have c2 := uu.sh.cell' (i := 0) rfl
            have c3 := uu.sh.cell' (i := 1) rfl
            go_simp; try (with_reducible rfl)
          try simp only [Act.put, List.getElem_toArray, List.getElem_cons_succ, List.getElem_cons_zero, List.setIfInBounds_toArray, List.set_cons_zero, List.set_cons_succ]
          refine wpAnyH_ready (rs := [51]) (by kernel_rfl) (by simp) ?_
          refine AllReadyH.cons rfl (fun K hK => ?_) AllReadyH.nil
          go_simp
          refine (hcp _).mono ?_
          rintro e X51 ⟨rfl, hX51⟩
          have hS51 := US.next hHeld hX51
          refine hK.out _ _ hS51 (fun hHeld => ?_)
          clear hK K
          try simp only [Act.put, List.getElem_toArray, List.getElem_cons_succ, List.getElem_cons_zero, List.setIfInBounds_toArray, List.set_cons_zero, List.set_cons_succ]
          refine wpAnyH_take_at (i := 52) (v := ?_) (some 152) rfl (by kernel_rfl) (by kernel_rfl) (by kernel_rfl) (by kernel_rfl) (fun _ _ _ h => h) (Or.inl ⟨by kernel_rfl, ?_⟩) hHeld ?_
          rotate_left
          · intro w' hSw; try dsimp only at hSw
            go_simp; try (with_reducible rfl)
          try simp only [Act.put, List.getElem_toArray, List.getElem_cons_succ, List.getElem_cons_zero, List.setIfInBounds_toArray, List.set_cons_zero, List.set_cons_succ]
          refine wpAnyH_take_at (i := 53) (v := ?_) (some 153) rfl (by kernel_rfl) (by kernel_rfl) (by kernel_rfl) (by kernel_rfl) (fun _ _ _ h => h) (Or.inl ⟨by kernel_rfl, ?_⟩) hHeld ?_
          rotate_left
          · intro w' hSw; try dsimp only at hSw
            go_simp; try (with_reducible rfl)
          try simp only [Act.put, List.getElem_toArray, List.getElem_cons_succ, List.getElem_cons_zero, List.setIfInBounds_toArray, List.set_cons_zero, List.set_cons_succ]
          refine wpAnyH_take_at (i := 54) (v := ?_) (some 154) rfl (by kernel_rfl) (by kernel_rfl) (by kernel_rfl) (by kernel_rfl) (fun _ _ _ h => h) (Or.inl ⟨by kernel_rfl, ?_⟩) hHeld ?_
          rotate_left
          · intro w' hSw; try dsimp only at hSw
            go_simp; try (with_reducible rfl)
          try simp only [Act.put, List.getElem_toArray, List.getElem_cons_succ, List.getElem_cons_zero, List.setIfInBounds_toArray, List.set_cons_zero, List.set_cons_succ]
          refine wpAnyH_take_at (i := 55) (v := ?_) (some 155) rfl (by kernel_rfl) (by kernel_rfl) (by kernel_rfl) (by kernel_rfl) (fun _ _ _ h => h) (Or.inl ⟨by kernel_rfl, ?_⟩) hHeld ?_
          rotate_left
          · intro w' hSw; try dsimp only at hSw
            go_simp; try (with_reducible rfl)
          try simp only [Act.put, List.getElem_toArray, List.getElem_cons_succ, List.getElem_cons_zero, List.setIfInBounds_toArray, List.set_cons_zero, List.set_cons_succ]
          refine wpAnyH_take_at (i := 56) (v := ?_) (some 156) rfl (by kernel_rfl) (by kernel_rfl) (by kernel_rfl) (by kernel_rfl) (fun _ _ _ h => h) (Or.inl ⟨by kernel_rfl, ?_⟩) hHeld ?_
          rotate_left
          · intro w' hSw; try dsimp only at hSw
            go_simp; try (with_reducible rfl)
          try simp only [Act.put, List.getElem_toArray, List.getElem_cons_succ, List.getElem_cons_zero, List.setIfInBounds_toArray, List.set_cons_zero, List.set_cons_succ]
          refine wpAnyH_take_at (i := 57) (v := ?_) (some 157) rfl (by kernel_rfl) (by kernel_rfl) (by kernel_rfl) (by kernel_rfl) (fun _ _ _ h => h) (Or.inl ⟨by kernel_rfl, ?_⟩) hHeld ?_
          rotate_left
          · intro w' hSw; try dsimp only at hSw
            go_simp; try (with_reducible rfl)
          try simp only [Act.put, List.getElem_toArray, List.getElem_cons_succ, List.getElem_cons_zero, List.setIfInBounds_toArray, List.set_cons_zero, List.set_cons_succ]
          refine wpAnyH_take_at (i := 58) (v := ?_) (some 158) rfl (by kernel_rfl) (by kernel_rfl) (by kernel_rfl) (by kernel_rfl) (fun _ _ _ h => h) (Or.inl ⟨by kernel_rfl, ?_⟩) hHeld ?_
          rotate_left
          · intro w' hSw; try dsimp only at hSw
            go_simp; try (with_reducible rfl)
          try simp only [Act.put, List.getElem_toArray, List.getElem_cons_succ, List.getElem_cons_zero, List.setIfInBounds_toArray, List.set_cons_zero, List.set_cons_succ]
          refine wpAnyH_take_at (i := 59) (v := ?_) (some 159) rfl (by kernel_rfl) (by kernel_rfl) (by kernel_rfl) (by kernel_rfl) (fun _ _ _ h => h) (Or.inl ⟨by kernel_rfl, ?_⟩) hHeld ?_
          rotate_left
          · intro w' hSw; try dsimp only at hSw
            have uu := hSw.2
            have c0 := uu.at'.cell' (i := 0) rfl
            have c1 := uu.n.cell' (i := 0) rfl
            have c2 := uu.sh.cell' (i := 0) rfl
            have c3 := uu.sh.cell' (i := 1) rfl
            go_simp; try (with_reducible rfl)
          try simp only [Act.put, List.getElem_toArray, List.getElem_cons_succ, List.getElem_cons_zero, List.setIfInBounds_toArray, List.set_cons_zero, List.set_cons_succ]
          refine wpAnyH_take_at (i := 60) (v := ?_) (some 160) rfl (by kernel_rfl) (by kernel_rfl) (by kernel_rfl) (by kernel_rfl) (fun _ _ _ h => h) (Or.inl ⟨by kernel_rfl, ?_⟩) hHeld ?_
          rotate_left
          · intro w' hSw; try dsimp only at hSw
            go_simp; try (with_reducible rfl)
          try simp only [Act.put, List.getElem_toArray, List.getElem_cons_succ, List.getElem_cons_zero, List.setIfInBounds_toArray, List.set_cons_zero, List.set_cons_succ]
          refine wpAnyH_take_at (i := 61) (v := ?_) (some 161) rfl (by kernel_rfl) (by kernel_rfl) (by kernel_rfl) (by kernel_rfl) (fun _ _ _ h => h) (Or.inl ⟨by kernel_rfl, ?_⟩) hHeld ?_
          rotate_left
          · intro w' hSw; try dsimp only at hSw
            go_simp; try (with_reducible rfl)
          try simp only [Act.put, List.getElem_toArray, List.getElem_cons_succ, List.getElem_cons_zero, List.setIfInBounds_toArray, List.set_cons_zero, List.set_cons_succ]
          refine wpAnyH_take_at (i := 62) (v := ?_) (some 162) rfl (by kernel_rfl) (by kernel_rfl) (by kernel_rfl) (by kernel_rfl) (fun _ _ _ h => h) (Or.inl ⟨by kernel_rfl, ?_⟩) hHeld ?_
          rotate_left
          · intro w' hSw; try dsimp only at hSw
            go_simp; try (with_reducible rfl)
          try simp only [Act.put, List.getElem_toArray, List.getElem_cons_succ, List.getElem_cons_zero, List.setIfInBounds_toArray, List.set_cons_zero, List.set_cons_succ]
          refine wpAnyH_take_at (i := 63) (v := ?_) (some 163) rfl (by kernel_rfl) (by kernel_rfl) (by kernel_rfl) (by kernel_rfl) (fun _ _ _ h => h) (Or.inl ⟨by kernel_rfl, ?_⟩) hHeld ?_
          rotate_left
          · intro w' hSw; try dsimp only at hSw
            go_simp; try (with_reducible rfl)
          try simp only [Act.put, List.getElem_toArray, List.getElem_cons_succ, List.getElem_cons_zero, List.setIfInBounds_toArray, List.set_cons_zero, List.set_cons_succ]
          refine wpAnyH_take_at (i := 64) (v := ?_) (some 164) rfl (by kernel_rfl) (by kernel_rfl) (by kernel_rfl) (by kernel_rfl) (fun _ _ _ h => h) (Or.inl ⟨by kernel_rfl, ?_⟩) hHeld ?_
          rotate_left
          · intro w' hSw; try dsimp only at hSw
            go_simp; try (with_reducible rfl)
          try simp only [Act.put, List.getElem_toArray, List.getElem_cons_succ, List.getElem_cons_zero, List.setIfInBounds_toArray, List.set_cons_zero, List.set_cons_succ]
          refine wpAnyH_take_at (i := 65) (v := ?_) (some 165) rfl (by kernel_rfl) (by kernel_rfl) (by kernel_rfl) (by kernel_rfl) (fun _ _ _ h => h) (Or.inl ⟨by kernel_rfl, ?_⟩) hHeld ?_
          rotate_left
          · intro w' hSw; try dsimp only at hSw
            go_simp; try (with_reducible rfl)
          try simp only [Act.put, List.getElem_toArray, List.getElem_cons_succ, List.getElem_cons_zero, List.setIfInBounds_toArray, List.set_cons_zero, List.set_cons_succ]
          refine wpAnyH_take_at (i := 66) (v := ?_) (some 166) rfl (by kernel_rfl) (by kernel_rfl) (by kernel_rfl) (by kernel_rfl) (fun _ _ _ h => h) (Or.inl ⟨by kernel_rfl, ?_⟩) hHeld ?_
          rotate_left
          · intro w' hSw; try dsimp only at hSw
            go_simp; try (with_reducible rfl)
          try simp only [Act.put, List.getElem_toArray, List.getElem_cons_succ, List.getElem_cons_zero, List.setIfInBounds_toArray, List.set_cons_zero, List.set_cons_succ]
          refine wpAnyH_take_at (i := 67) (v := ?_) (some 167) rfl (by kernel_rfl) (by kernel_rfl) (by kernel_rfl) (by kernel_rfl) (fun _ _ _ h => h) (Or.inl ⟨by kernel_rfl, ?_⟩) hHeld ?_
          rotate_left
          · intro w' hSw; try dsimp only at hSw
            have uu := hSw.2
            have c0 := uu.at'.cell' (i := 0) rfl
            have c1 := uu.n.cell' (i := 0) rfl
            have c2 := uu.sh.cell' (i := 0) rfl
            have c3 := uu.sh.cell' (i := 1) rfl
            go_simp; try (with_reducible rfl)
          try simp only [Act.put, List.getElem_toArray, List.getElem_cons_succ, List.getElem_cons_zero, List.setIfInBounds_toArray, List.set_cons_zero, List.set_cons_succ]
          refine wpAnyH_take_at (i := 68) (v := ?_) (some 168) rfl (by kernel_rfl) (by kernel_rfl) (by kernel_rfl) (by kernel_rfl) (fun _ _ _ h => h) (Or.inl ⟨by kernel_rfl, ?_⟩) hHeld ?_
          rotate_left
          · intro w' hSw; try dsimp only at hSw
            go_simp; try (with_reducible rfl)
          try simp only [Act.put, List.getElem_toArray, List.getElem_cons_succ, List.getElem_cons_zero, List.setIfInBounds_toArray, List.set_cons_zero, List.set_cons_succ]
          refine wpAnyH_take_at (i := 69) (v := ?_) (some 169) rfl (by kernel_rfl) (by kernel_rfl) (by kernel_rfl) (by kernel_rfl) (fun _ _ _ h => h) (Or.inl ⟨by kernel_rfl, ?_⟩) hHeld ?_
          rotate_left
          · intro w' hSw; try dsimp only at hSw
            have uu := hSw.2
            have c0 := uu.at'.cell' (i := 0) rfl
            have c1 := uu.n.cell' (i := 0) rfl
            have c2 := uu.sh.cell' (i := 0) rfl
            have c3 := uu.sh.cell' (i := 1) rfl
            go_simp; try (with_reducible rfl)
          try simp only [Act.put, List.getElem_toArray, List.getElem_cons_succ, List.getElem_cons_zero, List.setIfInBounds_toArray, List.set_cons_zero, List.set_cons_succ]
          refine wpAnyH_ready (rs := [70]) (by kernel_rfl) (by simp) ?_
          refine AllReadyH.cons rfl (fun K hK => ?_) AllReadyH.nil
          go_simp
          refine (hke _).mono ?_
          rintro e X70 ⟨rfl, hX70⟩
          have hS70 := US.next hHeld hX70
          refine hK.out _ _ hS70 (fun hHeld => ?_)
          clear hK K
          try simp only [Act.put, List.getElem_toArray, List.getElem_cons_succ, List.getElem_cons_zero, List.setIfInBounds_toArray, List.set_cons_zero, List.set_cons_succ]
          refine wpAnyH_take_at (i := 71) (v := ?_) (some 171) rfl (by kernel_rfl) (by kernel_rfl) (by kernel_rfl) (by kernel_rfl) (fun _ _ _ h => h) (Or.inl ⟨by kernel_rfl, ?_⟩) hHeld ?_
          rotate_left
          · intro w' hSw; try dsimp only at hSw
            go_simp; try (with_reducible rfl)
          try simp only [Act.put, List.getElem_toArray, List.getElem_cons_succ, List.getElem_cons_zero, List.setIfInBounds_toArray, List.set_cons_zero, List.set_cons_succ]
          refine wpAnyH_take_at (i := 72) (v := ?_) (some 172) rfl (by kernel_rfl) (by kernel_rfl) (by kernel_rfl) (by kernel_rfl) (fun _ _ _ h => h) (Or.inl ⟨by kernel_rfl, ?_⟩) hHeld ?_
          rotate_left
          · intro w' hSw; try dsimp only at hSw
            go_simp; try (with_reducible rfl)
          try simp only [Act.put, List.getElem_toArray, List.getElem_cons_succ, List.getElem_cons_zero, List.setIfInBounds_toArray, List.set_cons_zero, List.set_cons_succ]
          refine wpAnyH_ready (rs := [73]) (by kernel_rfl) (by simp) ?_
          refine AllReadyH.cons rfl (fun K hK => ?_) AllReadyH.nil
          obtain ⟨rv, hrv⟩ := hHeld.2.res
          refine wp_store_cell 4 (.tmp 4) (.tmp 172) rfl _ 0 (.bool true) rfl rfl hrv (by simp) (by kernel_rfl) rfl ?_
          intro w8 b8 t8
          replace b8 : Blk w8 w.heap.size 4 [.bool true] := b8
          have hS8 : MC w8 gm b.toNat (fun t => cntK b jj t b.toNat) ∧ UV w w8 Ba Bn B5 D b jj nn := ⟨hHeld.1.same (t8.block gm (by omega)), hHeld.2.turned t8 b8 (by omega) (by omega) (by omega) (by omega)⟩
          refine hK.out _ _ hS8 (fun hHeld => ?_)
          clear hK K
          try simp only [Act.put, List.getElem_toArray, List.getElem_cons_succ, List.getElem_cons_zero, List.setIfInBounds_toArray, List.set_cons_zero, List.set_cons_succ]
          refine wpAnyH_done (by kernel_rfl) ?_ _
          refine NoPanic.normal ?_
          have hu9 := hS8.2
          go_wp2
          have hbD : Below w.heap.size w8 (w8.putObj D (.deferred none)) := belowK_b (w := w) (Nat.le_refl _) w8 D _ _ hD2 hu9.mark rfl rfl
          refine ⟨by simp, .inl ⟨_, _, rfl, run_takeDeferred hu9.mark, ?_⟩⟩
          exact ⟨_, results_bool rfl rfl (show Blk _ w.heap.size 4 [.bool true] from (World.putObj_heap_other (by omega)).trans b8), rfl, hu9.bel.trans hbD⟩
    case body =>
      rintro l pre x a' W hl2 ⟨r, hr⟩ ⟨⟨hn0, hn1⟩, hn2, hn3, hn4, hn5, hn6⟩ ⟨Bx, hBx, hX, rfl⟩ hlen
      have hx64 := x.2
      have hgc := gNn_cast b jj
      rw [gs_length] at hlen
      rw [show grpsN b jj = gN b from by unfold grpsN; rw [hok]; rfl] at hgc
      have hgN := hgc.1
      unfold gN at hgN
      have hp64 : pre.length < 64 := by omega
      obtain ⟨d, hd, f1, f2, f3, f4, f5, f6, f7, f8, f9⟩ := okS_facts hok
      have hmin : min (128 * (pre.length : Int)) b = 128 * (pre.length : Int) := by omega
      rw [hmin] at hn2
      obtain ⟨u0, U0⟩ := hn2.cell' (i := 0) rfl |> fun h => (⟨h, hn2.frozen 0⟩ : _ ∧ _)
      obtain ⟨u1, U1⟩ := hn3.cell' (i := 0) rfl |> fun h => (⟨h, hn3.frozen 0⟩ : _ ∧ _)
      obtain ⟨u2, U2⟩ := hn5.cell' (i := 0) rfl |> fun h => (⟨h, hn5.frozen 0⟩ : _ ∧ _)
      have hXl := hX.lt
      by_cases hx : x.1 = pre.length
      · have HL : Hid (16 ≤ gLen b (pre.length : Int) ∧ gLen b (pre.length : Int) ≤ 128 ∧ 128 * (pre.length : Int) + gLen b (pre.length : Int) = min (128 * ((pre.length + 1 : Nat) : Int)) b ∧ gData b jj (pre.length : Int) ≤ 128 * (pre.length : Int) + gLen b (pre.length : Int)) := by
          refine ⟨?_, ?_, ?_, ?_⟩
          · unfold gLen; omega
          · unfold gLen; omega
          · unfold gLen; omega
          · unfold gLen gData
            rw [hd]
            split <;> omega
        have HP : Hid (pre ++ [x] = (List.finRange 64).take (pre.length + 1)) := by
          show _ = _
          rw [fin_take pre.length hp64, ← hn0]
          congr 2
          exact Fin.ext hx
        rw [hx] at hX ⊢
        unfold grpA at hX ⊢
        have hl1 := HL.out.1
        have hl2' := HL.out.2.1
        have hl4 := HL.out.2.2.2
        generalize gLen b (pre.length : Int) = ll at *
        generalize gMap b (pre.length : Int) = mm at *
        generalize gData b jj (pre.length : Int) = dd at *
        obtain ⟨kk, HK⟩ : ∃ kk : Int, Hid ((pre.length : Int) = kk) := ⟨_, rfl⟩
        have hk1 : 0 ≤ kk := by have := HK.out; omega
        have hk2 : kk < 64 := by have := HK.out; omega
        rw [HK.out] at hX hn2 hn3 u0 u1 hl4 ⊢
        have HG : Hid (B1 < W.heap.size ∧ l ≠ Ba) := ⟨by omega, fun e => by subst e; rw [show W.heap[l]? = _ from hn2] at hr; cases hr⟩
        clear hn0 hgc hgN hp64 hmin hlen hd f1 f2 f3 f4 f5 f6 f7 f8 f9 hx hx64 hr hok ha1 ha2 hc1 hc2 hj hs hb1' hbb
        have v0 := hX.cell' (i := 0) rfl
        have v1 := hX.cell' (i := 1) rfl
        have v5 := hX.cell' (i := 5) rfl
        gi_wp2
        have t1 := Turned.setCell W ⟨Ba, 0, none⟩ (.int .i64 (128 * kk + ll))
        have p1 : Blk _ Ba 3 [.int .i64 (128 * kk + ll)] := hn2.set 0 (.int .i64 (128 * kk + ll))
        have p2 := hn3.turned t1 (show Bn ≠ Ba by omega)
        have t2 := Turned.setCell (W.setCell ⟨Ba, 0, none⟩ (.int .i64 (128 * kk + ll))) ⟨Bn, 0, none⟩ (.int .i64 (kk + 1))
        have p3 : Blk _ Bn 3 [.int .i64 (kk + 1)] := p2.set 0 (.int .i64 (kk + 1))
        have e1 : min (128 * (((pre ++ [x]).length : Nat) : Int)) b = 128 * kk + ll := by rw [List.length_append, List.length_singleton, ← HL.out.2.2.1, HK.out]
        have e2 : (((pre ++ [x]).length : Nat) : Int) = kk + 1 := by rw [List.length_append, List.length_singleton]; have := HK.out; omega
        refine ⟨((KeepsOthers.of_turned t1 hn2).trans (KeepsOthers.of_turned t2 p2)).from _, (KpG.turned t1 (show B1 ≠ Ba by omega)).trans (KpG.turned t2 (show B1 ≠ Bn by omega)), ⟨by rw [List.length_append, List.length_singleton]; exact HP.out, by rw [t2.size, t1.size]; exact hn1⟩, by rw [e1]; exact p1.turned t2 (show Ba ≠ Bn by omega), by rw [e2]; exact p3, (hn4.turned t1 (show B5 ≠ Ba by omega)).turned t2 (show B5 ≠ Bn by omega), (hn5.turned t1 (show w.heap.size ≠ Ba by omega)).turned t2 (show w.heap.size ≠ Bn by omega), t2.below (t1.below hn6 (show w.heap.size ≤ Ba by omega)) (show w.heap.size ≤ Bn by omega)⟩
      · have hne : (((x.1 : Nat) : Int) != (pre.length : Int)) = true := by rw [bne_iff_ne]; omega
        have HX : Hid (¬ pre ++ [x] <+: gs b jj) := by
          show ¬ _
          intro hp
          obtain ⟨tl, ht⟩ := hp
          have h3 : (gs b jj)[pre.length]? = some x := by rw [← ht]; simp
          unfold gs at h3
          rw [List.getElem?_take_of_lt hlen] at h3
          simp [hp64] at h3
          exact hx (by rw [← h3])
        clear hn0 hgc hgN hp64 hmin hlen hd f1 f2 f3 f4 f5 f6 f7 f8 f9 hx hx64 hr hok ha1 ha2 hc1 hc2 hj hs hb1' hbb
        generalize hgx : grpA b jj ((x.1 : Nat) : Int) = ga at *
        clear hgx
        generalize ((x.1 : Nat) : Int) = xx at *
        generalize (pre.length : Int) = kk at *
        gi_wp2
        exact ⟨(KeepsOthers.of_turned (Turned.setCell W ⟨w.heap.size, 0, none⟩ (.bool false)) hn5).from _, HX.out⟩
end Go.Proofs.Ytbimcdaplnmjdaa

/-
  What inode.fields answers.
-/
import Derived.Test.YtgeomfgfeemciaaInW
namespace Go.Proofs.Ytgeomfgfeemciaa
open Go.RowKit
theorem ret_arrU {fn : Func} {p : Tmp} (h : fn.results = #[.cell p 55]) {R : Ending → World → Prop} {a : Act} {w : World} {g : Nat} {t : TypeId} {cs : List Value} (hp : a.tmps.getD p undef = .pointer (some ⟨g, 0, none⟩))
    (hb : Blk w g t cs) (hl : cs.length = 20) (hd : a.defers = []) (hR : R (.returned (.agg cs.toArray)) w) : bodyPost Try.prog fn R .ret a w :=
  bodyPost_ret (results_cell_row h _ _ g t cs.toArray (0, 0) _ hp hb Try.underlying55 rfl (by rw [List.size_toArray, hl]; kernel_rfl)) hd hR
/-- The fields as far as k of the four. -/
def fvK (x : Ino) (k : Nat) : List Nat := hV x ++ (List.range 4).flatMap fun j => if j < k then eV (eE x.rt j) else [0, 0, 0]
def fcK (x : Ino) (k : Nat) : List Value := vals64 (fvK x k)
theorem fcK_len (x : Ino) (k : Nat) : (fcK x k).length = 20 := by
  unfold fcK fvK
  rw [vals64_length, List.length_append]
  have h3 : ∀ (b : Prop) [Decidable b] (e : Ext), (if b then eV e else [0, 0, 0] : List Nat).length = 3 := fun b _ e => by split <;> rfl
  have : ((List.range 4).flatMap fun j => if j < k then eV (eE x.rt j) else [0, 0, 0]).length = 12 := by
    show (((if 0 < k then eV (eE x.rt 0) else [0, 0, 0]) ++ ((if 1 < k then eV (eE x.rt 1) else [0, 0, 0]) ++ ((if 2 < k then eV (eE x.rt 2) else [0, 0, 0]) ++ ((if 3 < k then eV (eE x.rt 3) else [0, 0, 0]) ++ [])))) : List Nat).length = 12
    simp only [List.length_append, h3, List.length_nil]
  rw [this]; rfl
theorem fcK_set (x : Ino) (k : Nat) (h : k < 4) : (((fcK x k).set (8 + 3 * k) (.int .u64 ((eE x.rt k).lo.toNat : Int))).set (8 + 3 * k + 1) (.int .u64 ((eE x.rt k).ln.toNat : Int))).set (8 + 3 * k + 2) (.int .u64 ((eE x.rt k).ph.toNat : Int)) = fcK x (k + 1) := by
  match k, h with
  | 0, _ => rfl
  | 1, _ => rfl
  | 2, _ => rfl
  | 3, _ => rfl
theorem fvK_all {x : Ino} : fvK x x.rt.length = vsI x := by
  have hz : ∀ j, (if j < x.rt.length then eV (eE x.rt j) else [0, 0, 0]) = eV (eE x.rt j) := fun j => by
    split
    · rfl
    · rw [eE_far (by omega)]; rfl
  unfold fvK vsI
  have : (List.range 4).flatMap (fun j => if j < x.rt.length then eV (eE x.rt j) else [0, 0, 0]) = (List.range 4).flatMap (fun j => eV (eE x.rt j)) := by
    congr 1; funext j; exact hz j
  rw [this]
  rfl
theorem fcK_one (x : Ino) (k : Nat) : ∀ v ∈ fcK x k, v.oneCell' = true := vals64_one _
theorem size_arrU {cs : List Value} (h : cs.length = 20) : (Try.prog.info? 55).map (·.size) = some cs.length := by rw [h]; kernel_rfl
theorem size_u64 : (Try.prog.info? 54).map (·.size) = some 1 := by kernel_rfl
theorem wrapU (n : Nat) (h : n < 18446744073709551616) : IntKind.u64.wrap (n : Int) = (n : Int) := by rw [IntKind.wrap_u64]; omega
set_option linter.unusedSimpArgs false in
set_option linter.unusedVariables false in
set_option maxRecDepth 100000 in
set_option maxHeartbeats 8000000 in
theorem fields_any (x : Ino) (p : Option Addr) (n c : Nat) (w : World) (hx : InE w p n c x.rt) (hfit : Fit x) : Calls Try.prog 29 #[x.val p n c] w fun e w' => e = .returned (.agg (vals64 (vsI x)).toArray) ∧ Below w.heap.size w w' := by
  have HF : Hid (∀ k, 0 ≤ (eE x.rt k).lo ∧ (eE x.rt k).lo ≤ 65535 ∧ 0 ≤ (eE x.rt k).ln ∧ (eE x.rt k).ln ≤ 4096 ∧ 0 ≤ (eE x.rt k).ph ∧ (eE x.rt k).ph ≤ 8191) := hfit.rt
  have HK := fcK_set x
  have HA := fvK_all (x := x)
  have HL := hx.len
  have h4 : n ≤ 4 := by have := hfit.len; omega
  rw [HL] at HA
  have H0 : fcK x 0 = vals64 (hV x ++ List.replicate 12 0) := rfl
  unfold hV at H0
  obtain ⟨f1, f2, f3, f4, f5, f6, _, _⟩ := hfit
  have hlen := fcK_len x
  have hone := fcK_one x
  have HV : Hid (fcK x n = vals64 (vsI x)) := by show _ = _; unfold fcK; rw [HA]
  rw [← HV.out]
  obtain ⟨kd, lk, sz, nx, ge, dp, rt⟩ := x
  dsimp only at HK HL H0 hx hone f1 f2 f3 f4 f5 f6 HF
  obtain ⟨kd, rfl⟩ := Int.eq_ofNat_of_zero_le f1.1
  obtain ⟨lk, rfl⟩ := Int.eq_ofNat_of_zero_le f2.1
  obtain ⟨sz, rfl⟩ := Int.eq_ofNat_of_zero_le f3.1
  obtain ⟨nx, rfl⟩ := Int.eq_ofNat_of_zero_le f4.1
  obtain ⟨ge, rfl⟩ := Int.eq_ofNat_of_zero_le f5.1
  obtain ⟨dp, rfl⟩ := Int.eq_ofNat_of_zero_le f6.1
  have a1 := wrapU kd (by omega)
  have a2 := wrapU lk (by omega)
  have a3 := wrapU sz (by omega)
  have a4 := wrapU nx (by omega)
  have a5 := wrapU ge (by omega)
  have a6 := wrapU dp (by omega)
  have a7 := wrapU n (by omega)
  simp only [Int.toNat_natCast] at H0
  rw [HL] at H0
  generalize hfc : fcK ⟨kd, lk, sz, nx, ge, dp, rt⟩ = fc at *
  clear HA HV hfc f1 f2 f3 f4 f5 f6
  have hs0 := hlen 0
  have ho0 := hone 0
  have HK2 : Hid _ := HK
  have HL2 : Hid (rt.length = n) := HL
  have H02 : Hid _ := H0
  clear HK HL H0
  have hb0 := below_alloc w (.cells #[.int .i64 kd, .int .i64 lk, .int .i64 sz, .int .i64 nx, .int .i64 ge, .int .i64 dp, .slice p n c] 24)
  go_enter Try.func29, Try.ntmps29
  go_upto_region 1 with fail
  have rI0 := Blk.new' w 24 #[.int .i64 kd, .int .i64 lk, .int .i64 sz, .int .i64 nx, .int .i64 ge, .int .i64 dp, .slice p n c]
  have hW1 : (w.alloc (.cells #[.int .i64 kd, .int .i64 lk, .int .i64 sz, .int .i64 nx, .int .i64 ge, .int .i64 dp, .slice p n c] 24)).heap.size = w.heap.size + 1 := World.size_alloc _ _
  have hS1 : Hid ((w.alloc (.cells #[.int .i64 kd, .int .i64 lk, .int .i64 sz, .int .i64 nx, .int .i64 ge, .int .i64 dp, .slice p n c] 24)).heap.size = w.heap.size + 1) := hW1
  generalize w.alloc (.cells #[.int .i64 kd, .int .i64 lk, .int .i64 sz, .int .i64 nx, .int .i64 ge, .int .i64 dp, .slice p n c] 24) = V at *
  have rZ0 := Blk.new' V 55 #[.int .u64 0, .int .u64 0, .int .u64 0, .int .u64 0, .int .u64 0, .int .u64 0, .int .u64 0, .int .u64 0, .int .u64 0, .int .u64 0, .int .u64 0, .int .u64 0, .int .u64 0, .int .u64 0, .int .u64 0, .int .u64 0, .int .u64 0, .int .u64 0, .int .u64 0, .int .u64 0]
  have hbz := below_alloc V (.cells #[.int .u64 0, .int .u64 0, .int .u64 0, .int .u64 0, .int .u64 0, .int .u64 0, .int .u64 0, .int .u64 0, .int .u64 0, .int .u64 0, .int .u64 0, .int .u64 0, .int .u64 0, .int .u64 0, .int .u64 0, .int .u64 0, .int .u64 0, .int .u64 0, .int .u64 0, .int .u64 0] 55)
  have hS2 : Hid ((V.alloc (.cells #[.int .u64 0, .int .u64 0, .int .u64 0, .int .u64 0, .int .u64 0, .int .u64 0, .int .u64 0, .int .u64 0, .int .u64 0, .int .u64 0, .int .u64 0, .int .u64 0, .int .u64 0, .int .u64 0, .int .u64 0, .int .u64 0, .int .u64 0, .int .u64 0, .int .u64 0, .int .u64 0] 55)).heap.size = w.heap.size + 2) := by show _ = _; rw [World.size_alloc, hS1.out]
  rw [hW1] at rZ0
  have rI := rI0.kept hbz
  have hbW := bt hb0 hbz
  clear hW1 hb0 rI0
  generalize V.alloc (.cells #[.int .u64 0, .int .u64 0, .int .u64 0, .int .u64 0, .int .u64 0, .int .u64 0, .int .u64 0, .int .u64 0, .int .u64 0, .int .u64 0, .int .u64 0, .int .u64 0, .int .u64 0, .int .u64 0, .int .u64 0, .int .u64 0, .int .u64 0, .int .u64 0, .int .u64 0, .int .u64 0] 55) = W at *
  clear hbz hS1
  have cI := fun i v (h : [Value.int .i64 kd, .int .i64 lk, .int .i64 sz, .int .i64 nx, .int .i64 ge, .int .i64 dp, .slice p n c][i]? = some v) => rI.cell' h
  have d0 := cI 0 _ rfl
  have d1 := cI 1 _ rfl
  have d2 := cI 2 _ rfl
  have d3 := cI 3 _ rfl
  have d4 := cI 4 _ rfl
  have d5 := cI 5 _ rfl
  have d6 := cI 6 _ rfl
  clear cI
  have r3 := Blk.new' W 55 #[.int .u64 0, .int .u64 0, .int .u64 0, .int .u64 0, .int .u64 0, .int .u64 0, .int .u64 0, .int .u64 0, .int .u64 0, .int .u64 0, .int .u64 0, .int .u64 0, .int .u64 0, .int .u64 0, .int .u64 0, .int .u64 0, .int .u64 0, .int .u64 0, .int .u64 0, .int .u64 0]
  have hb3 := below_alloc W (.cells #[.int .u64 0, .int .u64 0, .int .u64 0, .int .u64 0, .int .u64 0, .int .u64 0, .int .u64 0, .int .u64 0, .int .u64 0, .int .u64 0, .int .u64 0, .int .u64 0, .int .u64 0, .int .u64 0, .int .u64 0, .int .u64 0, .int .u64 0, .int .u64 0, .int .u64 0, .int .u64 0] 55)
  go_upto_region 2 with (guard_target = wpList _ _ _ (Oper.mk _ (Op.store 55 _ _) _ _ _ _ :: _) _ _; refine wpList_store_blk rfl 55 (.tmp 3) (.tmp 29) rfl _ 0 (vals64 ([kd, dp, n, 0, lk, sz, nx, ge] ++ List.replicate 12 0)) rfl rfl r3 (by simp [vals64_length]) (size_arrU (by rw [vals64_length]; rfl)) (vals64_one _) ?_; intro w2 b2 t2)
  rw [whole_row (by rw [vals64_length]; rfl), ← H02.out] at b2
  have rI2 := (rI.kept hb3).turned t2 (Nat.ne_of_lt rI.lt)
  have rZ2 := (rZ0.kept hb3).turned t2 (Nat.ne_of_lt rZ0.lt)
  have hB2 := t2.below (bt hbW hb3) (by have := hS2.out; omega)
  have hGG : Hid (w.heap.size + 1 < W.heap.size) := by show _ < _; rw [hS2.out]; omega
  clear d0 d1 d2 d3 d4 d5 d6 r3 hb3 t2 hS2 rI rZ0 H02 hbW
  generalize W.heap.size = G at *
  have d6 := rI2.cell' (i := 6) rfl
  go_wp2
  go_loopw [33] (fun i wr => ∃ k : Nat, k ≤ n ∧ i = .int .i64 k ∧ Blk wr G 55 (fc k) ∧ Blk wr (w.heap.size + 1) 55 #[.int .u64 0, .int .u64 0, .int .u64 0, .int .u64 0, .int .u64 0, .int .u64 0, .int .u64 0, .int .u64 0, .int .u64 0, .int .u64 0, .int .u64 0, .int .u64 0, .int .u64 0, .int .u64 0, .int .u64 0, .int .u64 0, .int .u64 0, .int .u64 0, .int .u64 0, .int .u64 0].toList ∧ Below w.heap.size w wr) (fun i _ => n - (intOf i).toNat)
  case atStart => exact ⟨0, Nat.zero_le _, rfl, b2, rZ2, hB2⟩
  case round =>
    obtain ⟨k, hk, rfl, hb, hz, hbel⟩ := hrel
    by_cases hlt : k < n
    · have hki : (k : Int) < (n : Int) := by omega
      obtain ⟨b, o, hpe, hbl, hc⟩ := (hx.below hbel).at' (by omega)
      subst hpe
      obtain ⟨e0, e1, e2⟩ := hc k hlt
      have hf := HF.out k
      have hset := HK2.out k (by omega)
      rw [← Int.toNat_of_nonneg hf.1] at e0
      rw [← Int.toNat_of_nonneg hf.2.2.1] at e1
      rw [← Int.toNat_of_nonneg hf.2.2.2.2.1] at e2
      have g1 : (eE rt k).lo.toNat < 65536 := by omega
      have g2 : (eE rt k).ln.toNat < 65536 := by omega
      have g3 : (eE rt k).ph.toNat < 65536 := by omega
      generalize (eE rt k).lo.toNat = x1 at *
      generalize (eE rt k).ln.toNat = x2 at *
      generalize (eE rt k).ph.toNat = x3 at *
      have u1 := wrapU x1 (by omega)
      have u2 := wrapU x2 (by omega)
      have u3 := wrapU x3 (by omega)
      obtain ⟨q, hq⟩ : ∃ q : Nat, q = 8 + 3 * k := ⟨_, rfl⟩
      obtain ⟨m, hm⟩ : ∃ m : Nat, m = k * 3 := ⟨_, rfl⟩
      rw [← hq] at hset
      obtain ⟨q1, hqa⟩ : ∃ q1 : Nat, q1 = q + 1 := ⟨_, rfl⟩
      obtain ⟨q2, hqc⟩ : ∃ q2 : Nat, q2 = q + 2 := ⟨_, rfl⟩
      rw [← hqa, ← hqc] at hset
      have hw1 : IntKind.i64.wrap ((q : Int) + 1) = (q1 : Int) := by rw [IntKind.wrap_i64]; omega
      have hw2 : IntKind.i64.wrap ((q : Int) + 2) = (q2 : Int) := by rw [IntKind.wrap_i64]; omega
      have hm' : (k : Int) * 3 = (m : Int) := by rw [hm]; omega
      have hq' : (8 : Int) + (m : Int) = (q : Int) := by rw [hq, hm]; omega
      have hmb : (m : Int) ≤ 12 := by omega
      have hkb : (k : Int) ≤ 3 := by omega
      have hqb : (q : Int) ≤ 17 := by omega
      have hq1 : (q : Int) < 20 := by omega
      have hq2 : (q1 : Int) < 20 := by omega
      have hq3 : (q2 : Int) < 20 := by omega
      have hn1 : q < 20 := by omega
      have hn2 : q1 < 20 := by omega
      have hn3 : q2 < 20 := by omega
      have HQ : Hid (q = 8 + 3 * k) := hq
      have k0 := Blk.new' wr 51 #[.int .i64 x1, .int .i64 x2, .int .i64 x3]
      have hgl := hb.lt
      have hbk := below_alloc wr (.cells #[.int .i64 x1, .int .i64 x2, .int .i64 x3] 51)
      have hbm := hbel.trans (hbk.mono hbel.size)
      have hb' := hb.kept hbk
      have hz' := hz.kept hbk
      clear hc hf hq hm hqa hqc
      go_upto_region 6 with fail
      generalize wr.alloc (.cells #[.int .i64 x1, .int .i64 x2, .int .i64 x3] 51) = Y at *
      generalize wr.heap.size = gy at *
      refine wp_region_noPanic ?_
      refine wp_region_held_drew (S := (fun X => Blk X gy 51 [.int .i64 x1, .int .i64 x2, .int .i64 x3])) (by kernel_rfl) k0.drew (fun hHeld => ?_)
      refine wpAnyH_take (i := 0) (v := ?_) rfl (by kernel_rfl) (by kernel_rfl) (by kernel_rfl) (fun _ _ _ h => h) (Or.inl ⟨by rfl, ?_⟩) hHeld ?_
      rotate_left
      · intro w' hSw; try dsimp only at hSw
        go_simp; try (with_reducible rfl)
      try simp only [Act.put, List.getElem_toArray, List.getElem_cons_succ, List.getElem_cons_zero, List.setIfInBounds_toArray, List.set_cons_zero, List.set_cons_succ]
      refine wpAnyH_take (i := 1) (v := ?_) rfl (by kernel_rfl) (by kernel_rfl) (by kernel_rfl) (fun _ _ _ h => h) (Or.inl ⟨by rfl, ?_⟩) hHeld ?_
      rotate_left
      · intro w' hSw; try dsimp only at hSw
        go_simp; try (with_reducible rfl)
      try simp only [Act.put, List.getElem_toArray, List.getElem_cons_succ, List.getElem_cons_zero, List.setIfInBounds_toArray, List.set_cons_zero, List.set_cons_succ]
      refine wpAnyH_take (i := 2) (v := ?_) rfl (by kernel_rfl) (by kernel_rfl) (by kernel_rfl) (fun _ _ _ h => h) (Or.inl ⟨by rfl, ?_⟩) hHeld ?_
      rotate_left
      · intro w' hSw; try dsimp only at hSw
        go_simp; try (with_reducible rfl)
      try simp only [Act.put, List.getElem_toArray, List.getElem_cons_succ, List.getElem_cons_zero, List.setIfInBounds_toArray, List.set_cons_zero, List.set_cons_succ]
      refine wpAnyH_take (i := 3) (v := ?_) rfl (by kernel_rfl) (by kernel_rfl) (by kernel_rfl) (fun _ _ _ h => h) (Or.inl ⟨by rfl, ?_⟩) hHeld ?_
      rotate_left
      · intro w' hSw; try dsimp only at hSw
        go_simp; try (with_reducible rfl)
      try simp only [Act.put, List.getElem_toArray, List.getElem_cons_succ, List.getElem_cons_zero, List.setIfInBounds_toArray, List.set_cons_zero, List.set_cons_succ]
      refine wpAnyH_take (i := 4) (v := ?_) rfl (by kernel_rfl) (by kernel_rfl) (by kernel_rfl) (fun _ _ _ h => h) (Or.inl ⟨by rfl, ?_⟩) hHeld ?_
      rotate_left
      · intro w' hSw; try dsimp only at hSw
        go_simp; try (with_reducible rfl)
      try simp only [Act.put, List.getElem_toArray, List.getElem_cons_succ, List.getElem_cons_zero, List.setIfInBounds_toArray, List.set_cons_zero, List.set_cons_succ]
      refine wpAnyH_take (i := 5) (v := ?_) rfl (by kernel_rfl) (by kernel_rfl) (by kernel_rfl) (fun _ _ _ h => h) (Or.inl ⟨by rfl, ?_⟩) hHeld ?_
      rotate_left
      · intro w' hSw; try dsimp only at hSw
        go_simp; try (with_reducible rfl)
      try simp only [Act.put, List.getElem_toArray, List.getElem_cons_succ, List.getElem_cons_zero, List.setIfInBounds_toArray, List.set_cons_zero, List.set_cons_succ]
      refine wpAnyH_take (i := 6) (v := ?_) rfl (by kernel_rfl) (by kernel_rfl) (by kernel_rfl) (fun _ _ _ h => h) (Or.inl ⟨by rfl, ?_⟩) hHeld ?_
      rotate_left
      · intro w' hSw; try dsimp only at hSw
        have v0 := hSw.cell' (i := 0) rfl
        have v1 := hSw.cell' (i := 1) rfl
        have v2 := hSw.cell' (i := 2) rfl
        go_simp; try (with_reducible rfl)
      try simp only [Act.put, List.getElem_toArray, List.getElem_cons_succ, List.getElem_cons_zero, List.setIfInBounds_toArray, List.set_cons_zero, List.set_cons_succ]
      refine wpAnyH_take (i := 7) (v := ?_) rfl (by kernel_rfl) (by kernel_rfl) (by kernel_rfl) (fun _ _ _ h => h) (Or.inl ⟨by rfl, ?_⟩) hHeld ?_
      rotate_left
      · intro w' hSw; try dsimp only at hSw
        go_simp; try (with_reducible rfl)
      try simp only [Act.put, List.getElem_toArray, List.getElem_cons_succ, List.getElem_cons_zero, List.setIfInBounds_toArray, List.set_cons_zero, List.set_cons_succ]
      refine wpAnyH_take (i := 8) (v := ?_) rfl (by kernel_rfl) (by kernel_rfl) (by kernel_rfl) (fun _ _ _ h => h) (Or.inl ⟨by rfl, ?_⟩) hHeld ?_
      rotate_left
      · intro w' hSw; try dsimp only at hSw
        go_simp; try (with_reducible rfl)
      try simp only [Act.put, List.getElem_toArray, List.getElem_cons_succ, List.getElem_cons_zero, List.setIfInBounds_toArray, List.set_cons_zero, List.set_cons_succ]
      refine wpAnyH_take (i := 9) (v := ?_) rfl (by kernel_rfl) (by kernel_rfl) (by kernel_rfl) (fun _ _ _ h => h) (Or.inl ⟨by rfl, ?_⟩) hHeld ?_
      rotate_left
      · intro w' hSw; try dsimp only at hSw
        have v0 := hSw.cell' (i := 0) rfl
        have v1 := hSw.cell' (i := 1) rfl
        have v2 := hSw.cell' (i := 2) rfl
        go_simp; try (with_reducible rfl)
      try simp only [Act.put, List.getElem_toArray, List.getElem_cons_succ, List.getElem_cons_zero, List.setIfInBounds_toArray, List.set_cons_zero, List.set_cons_succ]
      refine wpAnyH_take (i := 10) (v := ?_) rfl (by kernel_rfl) (by kernel_rfl) (by kernel_rfl) (fun _ _ _ h => h) (Or.inl ⟨by rfl, ?_⟩) hHeld ?_
      rotate_left
      · intro w' hSw; try dsimp only at hSw
        go_simp; try (with_reducible rfl)
      try simp only [Act.put, List.getElem_toArray, List.getElem_cons_succ, List.getElem_cons_zero, List.setIfInBounds_toArray, List.set_cons_zero, List.set_cons_succ]
      refine wpAnyH_take (i := 11) (v := ?_) rfl (by kernel_rfl) (by kernel_rfl) (by kernel_rfl) (fun _ _ _ h => h) (Or.inl ⟨by rfl, ?_⟩) hHeld ?_
      rotate_left
      · intro w' hSw; try dsimp only at hSw
        go_simp; try (with_reducible rfl)
      try simp only [Act.put, List.getElem_toArray, List.getElem_cons_succ, List.getElem_cons_zero, List.setIfInBounds_toArray, List.set_cons_zero, List.set_cons_succ]
      refine wpAnyH_take (i := 12) (v := ?_) rfl (by kernel_rfl) (by kernel_rfl) (by kernel_rfl) (fun _ _ _ h => h) (Or.inl ⟨by rfl, ?_⟩) hHeld ?_
      rotate_left
      · intro w' hSw; try dsimp only at hSw
        have v0 := hSw.cell' (i := 0) rfl
        have v1 := hSw.cell' (i := 1) rfl
        have v2 := hSw.cell' (i := 2) rfl
        go_simp; try (with_reducible rfl)
      try simp only [Act.put, List.getElem_toArray, List.getElem_cons_succ, List.getElem_cons_zero, List.setIfInBounds_toArray, List.set_cons_zero, List.set_cons_succ]
      refine wpAnyH_take (i := 13) (v := ?_) rfl (by kernel_rfl) (by kernel_rfl) (by kernel_rfl) (fun _ _ _ h => h) (Or.inl ⟨by rfl, ?_⟩) hHeld ?_
      rotate_left
      · intro w' hSw; try dsimp only at hSw
        go_simp; try (with_reducible rfl)
      try simp only [Act.put, List.getElem_toArray, List.getElem_cons_succ, List.getElem_cons_zero, List.setIfInBounds_toArray, List.set_cons_zero, List.set_cons_succ]
      refine wpAnyH_take (i := 14) (v := ?_) rfl (by kernel_rfl) (by kernel_rfl) (by kernel_rfl) (fun _ _ _ h => h) (Or.inl ⟨by rfl, ?_⟩) hHeld ?_
      rotate_left
      · intro w' hSw; try dsimp only at hSw
        go_simp; try (with_reducible rfl)
      try simp only [Act.put, List.getElem_toArray, List.getElem_cons_succ, List.getElem_cons_zero, List.setIfInBounds_toArray, List.set_cons_zero, List.set_cons_succ]
      refine wpAnyH_ready (rs := [15]) (by kernel_rfl) (by simp) ?_
      refine AllReadyH.cons rfl (fun K hK => ?_) AllReadyH.nil
      skip
      refine wp_store_cell 54 (.tmp 55) (.tmp 48) rfl G q (.int .u64 (x1 : Int)) rfl rfl hb'.drew (by simp [hlen]; omega) size_u64 rfl ?_ rfl
      intro w7 b7 t7
      refine hK.out _ _ (hHeld.turned t7 (by omega)) (fun hHeld => ?_)
      clear hK K
      try simp only [Act.put, List.getElem_toArray, List.getElem_cons_succ, List.getElem_cons_zero, List.setIfInBounds_toArray, List.set_cons_zero, List.set_cons_succ]
      refine wpAnyH_take (i := 16) (v := ?_) rfl (by kernel_rfl) (by kernel_rfl) (by kernel_rfl) (fun _ _ _ h => h) (Or.inl ⟨by rfl, ?_⟩) hHeld ?_
      rotate_left
      · intro w' hSw; try dsimp only at hSw
        go_simp; try (with_reducible rfl)
      try simp only [Act.put, List.getElem_toArray, List.getElem_cons_succ, List.getElem_cons_zero, List.setIfInBounds_toArray, List.set_cons_zero, List.set_cons_succ]
      refine wpAnyH_ready (rs := [17]) (by kernel_rfl) (by simp) ?_
      refine AllReadyH.cons rfl (fun K hK => ?_) AllReadyH.nil
      skip
      refine wp_store_cell 54 (.tmp 56) (.tmp 51) rfl G q1 (.int .u64 (x2 : Int)) rfl rfl b7 (by simp [hlen]; omega) size_u64 rfl ?_ rfl
      intro w8 b8 t8
      refine hK.out _ _ (hHeld.turned t8 (by omega)) (fun hHeld => ?_)
      clear hK K
      try simp only [Act.put, List.getElem_toArray, List.getElem_cons_succ, List.getElem_cons_zero, List.setIfInBounds_toArray, List.set_cons_zero, List.set_cons_succ]
      refine wpAnyH_take (i := 18) (v := ?_) rfl (by kernel_rfl) (by kernel_rfl) (by kernel_rfl) (fun _ _ _ h => h) (Or.inl ⟨by rfl, ?_⟩) hHeld ?_
      rotate_left
      · intro w' hSw; try dsimp only at hSw
        go_simp; try (with_reducible rfl)
      try simp only [Act.put, List.getElem_toArray, List.getElem_cons_succ, List.getElem_cons_zero, List.setIfInBounds_toArray, List.set_cons_zero, List.set_cons_succ]
      refine wpAnyH_ready (rs := [19]) (by kernel_rfl) (by simp) ?_
      refine AllReadyH.cons rfl (fun K hK => ?_) AllReadyH.nil
      skip
      refine wp_store_cell 54 (.tmp 57) (.tmp 54) rfl G q2 (.int .u64 (x3 : Int)) rfl rfl b8 (by simp [hlen]; omega) size_u64 rfl ?_ rfl
      intro w9 b9 t9
      refine hK.out _ _ (hHeld.turned t9 (by omega)) (fun hHeld => ?_)
      clear hK K
      try simp only [Act.put, List.getElem_toArray, List.getElem_cons_succ, List.getElem_cons_zero, List.setIfInBounds_toArray, List.set_cons_zero, List.set_cons_succ]
      refine wpAnyH_done (by kernel_rfl) ?_ _
      refine NoPanic.normal ?_
      go_wp2
      go_roundw
      case rel => exact ⟨k + 1, by omega, by go_num, by rw [← hset]; exact b9, ((hz'.drew.turned t7 (by have := hGG.out; omega)).turned t8 (by have := hGG.out; omega)).turned t9 (by have := hGG.out; omega), t9.below (t8.below (t7.below hbm.drew (by have := hGG.out; omega)) (by have := hGG.out; omega)) (by have := hGG.out; omega)⟩
      case measure => simp [intOf]; omega
    · have hkn : ¬ (k : Int) < (n : Int) := by omega
      have hk4 : k = n := by omega
      rw [hk4] at hb
      have hsn := hlen n
      have hon := hone n
      clear hk4 hlt
      go_wp2_with (first
        | (guard_target = wpList _ _ _ (Oper.mk _ (Op.load 55 (Operand.tmp 3)) _ _ _ _ :: _) _ _; refine wpList_load_mid rfl 55 (.tmp 3) rfl G 0 rfl (fc n) _ (hb.range 0 20 _ (by rw [List.drop_zero, List.take_of_length_le (Nat.le_of_eq hsn)])) Try.underlying55 rfl (size_arrU hsn) ?_)
        | (guard_target = wpList _ _ _ (Oper.mk _ (Op.store 55 (Operand.tmp 2) _) _ _ _ _ :: _) _ _; refine wpList_store_blk rfl 55 (.tmp 2) (.tmp 59) rfl _ 0 (fc n) rfl rfl hz (by simp [hsn]) (size_arrU hsn) hon ?_; intro w8 b8 t8))
      rw [whole_row (by rw [hsn]; rfl)] at b8
      exact ret_arrU rfl rfl b8 hsn rfl ⟨rfl, t8.below hbel (by omega)⟩
end Go.Proofs.Ytgeomfgfeemciaa

/-
  What gather, and so Image, answers of a disk in memory.
-/
import Derived.Test.YtdmnddikcpfmfaaGreatDkRows
import Derived.RecoverIn
namespace Go.Proofs.YtdmnddikcpfmfaaGreat
open Go.RowKit Go.Shelf
attribute [local go_sem] Oper.semAt_some
/-- The first error of the reads, or 0; all their bytes. -/
def imgE (s : DS) : Int := ((rdL s s.secs.length).find? (fun x => x.2 != 0)).elim 0 (·.2)
def imgD (s : DS) : List (List Nat) := (rdL s s.secs.length).map (·.1)
theorem imgE_zero {s : DS} (h : ∀ x ∈ rdL s s.secs.length, x.2 = 0) : imgE s = 0 := by
  have : (rdL s s.secs.length).find? (fun x => x.2 != 0) = none := by
    rw [List.find?_eq_none]
    intro x hx
    simp [h x hx]
  rw [imgE, this]; rfl
theorem rdL_take (s : DS) (k m : Nat) (h : k ≤ m) : (rdL s m).take k = rdL s k := by
  rw [rdL, rdL, ← List.map_take, List.take_range, Nat.min_eq_left h]
theorem imgE_stop {s : DS} {k : Nat} (hk : k < s.secs.length) (h : ∀ x ∈ rdL s k, x.2 = 0) (he : readE s (k : Int) ≠ 0) : imgE s = readE s (k : Int) := by
  have e : rdL s s.secs.length = rdL s (k + 1) ++ (rdL s s.secs.length).drop (k + 1) := by
    rw [← rdL_take s (k + 1) s.secs.length hk, List.take_append_drop]
  have f : (rdL s s.secs.length).find? (fun x => x.2 != 0) = some (readD s (k : Int), readE s (k : Int)) := by
    rw [e, rdL_succ, List.append_assoc, List.find?_append]
    have n : (rdL s k).find? (fun x => x.2 != 0) = none := by
      rw [List.find?_eq_none]
      intro x hx
      simp [h x hx]
    rw [n, Option.none_or, List.singleton_append, List.find?_cons_of_pos (by simpa using he)]
  rw [imgE, f]; rfl
/-- The image under way: the named result's cell, the error's cell, the iterator's box, the row of slices, their bytes. -/
structure GImg (d : Nat) (w W : World) (v : Value) (rs : List SR) (Ds : List (List Nat)) : Prop where
  img : Blk W w.heap.size 45 [v]
  err : Blk W (w.heap.size + 1) 25 [.int .i64 0]
  box : Blk W (w.heap.size + 2) 68 [ramI d]
  row : W.ownsRow w.heap.size 52 1 v rs.length (rs.map srV)
  each : EachIn W rs Ds
  u8 : AllU8 W rs
  bel : Below w.heap.size w W
theorem GImg.abide {d : Nat} {w W W' : World} {v : Value} {rs : List SR} {Ds : List (List Nat)} (h : GImg d w W v rs Ds) {row : Option Nat} {B : Nat} (hB : w.heap.size ≤ B) (hg : W.grownBy W' row) (hr : ∀ r, row = some r → B ≤ r ∧ ∃ o : Obj, W.heap[r]? = some o ∧ o.isCells = false) : GImg d w W' v rs Ds := by
  have hs : ∀ (k : Nat) (o : Obj), W.heap[k]? = some o → o.isCells = true → W'.heap[k]? = W.heap[k]? := fun k o hk hc => grownBy_keeps_cells hg (fun r e => (hr r e).2) hk hc
  refine ⟨h.img.same (hs _ _ h.img rfl), h.err.same (hs _ _ h.err rfl), h.box.same (hs _ _ h.box rfl), owns_same h.row (fun k hk => ?_), h.each.cellsSame hs, h.u8.same (fun r hr a ha => ?_), h.bel.grown hg h.bel.size (fun r e => Nat.le_trans hB (hr r e).1)⟩
  · obtain ⟨cs, hc, _⟩ := owns_row h.row hk
    exact hs k _ hc rfl
  · obtain ⟨cs, hc⟩ := h.u8 r hr a ha
    exact hs _ _ hc rfl
theorem KeepsOthers.of_below {A B : World} (h : Below A.heap.size A B) : KeepsOthers A B := ⟨h.size, fun k _ hk _ => (h.block k (Array.getElem?_eq_some_iff.1 hk).1).trans hk⟩
theorem row_cells {w : World} {B : Nat} {e : TypeId} {s : Nat} {v : Value} {n : Nat} {xs : List Value} (h : w.ownsRow B e s v n xs) {j : Nat} {ob : Obj} (ej : v.ownBlock = some j) (hj : w.heap[j]? = some ob) : ob.isCells = true := by
  obtain ⟨cs, hc, _⟩ := owns_row h ej
  rw [hc] at hj; cases hj; rfl
/-- One more slice was appended; then the cell of the named result is turned. -/
theorem GImg.grown {d : Nat} {w W w4 wc : World} {v : Value} {rs : List SR} {Ds : List (List Nat)} {pc : Option Addr} {m cc : Nat} {D : List Nat} (h : GImg d w W v rs Ds) (ha : Below W.heap.size W (wc.alloc (.cells #[.slice pc m cc] 52))) (hin : In wc pc m cc D) (hu : U8 wc pc) (hg : (wc.alloc (.cells #[.slice pc m cc] 52)).grownBy w4 v.ownBlock)
    {p1 : Option Addr} {c1 : Nat} (hp : w4.ownsRow w.heap.size 52 1 (.slice p1 (rs.length + 1) c1) (rs.length + 1) ((rs ++ [(⟨pc, m, cc⟩ : SR)]).map srV)) :
    Blk w4 w.heap.size 45 [v] ∧ KeepsOthers W (w4.setCell ⟨w.heap.size, 0, none⟩ (.slice p1 (rs.length + 1) c1)) ∧ GImg d w (w4.setCell ⟨w.heap.size, 0, none⟩ (.slice p1 (rs.length + 1) c1)) (.slice p1 (rs.length + 1) c1) (rs ++ [⟨pc, m, cc⟩]) (Ds ++ [D]) := by
  have hrA := owns_below h.row ha
  have n0 : ∀ k, v.ownBlock = some k → k ≠ w.heap.size := fun k hk => owns_ne h.row hk h.img (by decide)
  have n1 : ∀ k, v.ownBlock = some k → k ≠ w.heap.size + 1 := fun k hk => owns_ne h.row hk h.err (by decide)
  have n2 : ∀ k, v.ownBlock = some k → k ≠ w.heap.size + 2 := fun k hk => owns_ne h.row hk h.box (by decide)
  have i4 : Blk w4 w.heap.size 45 [v] := (h.img.kept ha).grown hg (fun e => n0 _ e.symm rfl)
  have e4 : Blk w4 (w.heap.size + 1) 25 [.int .i64 0] := (h.err.kept ha).grown hg (fun e => n1 _ e.symm rfl)
  have b4 : Blk w4 (w.heap.size + 2) 68 [ramI d] := (h.box.kept ha).grown hg (fun e => n2 _ e.symm rfl)
  have uA : AllU8 (wc.alloc (.cells #[.slice pc m cc] 52)) (rs ++ [⟨pc, m, cc⟩]) := (h.u8.below ha).snoc (hu.below (below_alloc wc _))
  have eA : EachIn (wc.alloc (.cells #[.slice pc m cc] 52)) (rs ++ [⟨pc, m, cc⟩]) (Ds ++ [D]) := (h.each.below ha).snoc (r := ⟨pc, m, cc⟩) (hin.below (below_alloc wc _))
  have s4 := grow_same uA hrA (by decide) hg
  have u4 := uA.same s4
  have E4 := eA.sameU uA s4
  have s5 := set_same u4 i4 (by decide) 0 (.slice p1 (rs.length + 1) c1)
  have np : ∀ k, (Value.slice p1 (rs.length + 1) c1).ownBlock = some k → k ≠ w.heap.size := fun k hk => owns_ne hp hk i4 (by decide)
  have rl := hp.lt
  have b4' : Below w.heap.size w w4 := (bt h.bel ha).grown hg (Nat.le_trans h.bel.size ha.size) (fun k hk => (h.row.lt k hk).1)
  refine ⟨i4, ((KeepsOthers.of_below ha).trans (KeepsOthers.of_grownBy hg (fun j ob ej hj => row_cells hrA ej hj))).trans (KeepsOthers.setCell _ _ _), i4.set 0 _, e4.setOther _ _ (by simp), b4.setOther _ _ (by simp), ?_, E4.sameU u4 s5, u4.same s5, b4'.trans ((Turned.setCell w4 ⟨w.heap.size, 0, none⟩ _).below (Below.refl _ _) (Nat.le_refl _))⟩
  rw [List.length_append]
  exact owns_same hp (fun k hk => heap_setCell_other _ _ _ _ (np k hk))
theorem GImg.kpr {d sb : Nat} {lv : Value} {w W W' : World} {v v' : Value} {rs rs' : List SR} {Ds Ds' : List (List Nat)} (h : GImg d w W v rs Ds) (h' : GImg d w W' v' rs' Ds') (hf : ∀ k, fpD d sb lv k → k < w.heap.size) (hs : W.heap.size ≤ W'.heap.size) : KpR d sb lv (w.heap.size + 2) W W' :=
  ⟨fun k hk => by
    rcases hk with hk | rfl
    · exact (h'.bel.block k (hf k hk)).trans (h.bel.block k (hf k hk)).symm
    · exact (show W'.heap[_]? = _ from h'.box).trans (show W.heap[_]? = _ from h.box).symm, hs⟩
/-- The deferred function of gather, where nothing panicked, in a fence. -/
theorem catch_idleIn (n : Nat) (a b : Addr) (w : World) : CallsDIn Fence.wide n Tryz.prog 90 #[.pointer (some a), .pointer (some b)] .returning w fun e u' w' => e = .returned (.tuple #[]) ∧ u' = .returning ∧ w' = w := by
  refine callsDIn_of_wpSIn Tryz.func90 rfl trivial fun c₀ cs hu => ?_
  apply wpSIn_seq
  apply wpSIn_region
  simp [wpOpsSIn, go_sem, recoverD, hu, Tryz.ntmps90, Exit.thenS]
  refine wpSIn_cond (t := false) (by simp [Act.eval, Array.replicate]) ?_
  simp only [Bool.false_eq_true, if_false]
  refine wpSIn_of_wpIn rfl (wpIn_skip ?_)
  cases c₀
  simp_all [bodyPostS, results, Tryz.results90]
theorem missing_no {w : World} {d sb : Nat} {lv : Value} {s : DS} (h : DiskIn w d sb lv s) : Calls Tryz.prog 91 #[ramI d] w fun e w' => e = .returned (.bool false) ∧ w' = w := by
  have hm1 : ∀ W : World, (method 275 24 (.pointer (some ⟨d, 0, none⟩)) "Size").run Tryz.prog W = .ok (147, .pointer (some ⟨d, 0, none⟩)) W := fun _ => by kernel_rfl
  have hz := size_any h
  have hn : (0 : Int) < (s.secs.length : Int) := by have := h.n1; omega
  unfold ramI
  go_enter Tryz.func91, Tryz.ntmps91
  go_wp2_with (refine hz.mono ?_; rintro e w' ⟨rfl, hw'⟩; have hw2 := hw'.symm; subst hw2; clear hw')
  go_ret
  exact ⟨rfl, rfl⟩
theorem reads_any (d : Nat) (w : World) : Calls Tryz.prog 92 #[ramI d] w fun e w' => e = .returned (.func (.func 106) #[] #[.pointer (some ⟨w.heap.size, 0, none⟩)]) ∧ w' = w.alloc (.cells #[ramI d] 68) := by
  have hmf : ∀ (fn : Fn) (first cap : Array Value) (w : World), (Instr.makeFunc fn first cap).run Tryz.prog w = .ok (.func fn first cap) w := fun _ _ _ _ => rfl
  unfold ramI
  go_enter Tryz.func92, Tryz.ntmps92
  go_wp2
  go_ret
  exact ⟨rfl, rfl⟩
set_option linter.unusedSimpArgs false in
set_option maxRecDepth 100000 in
set_option maxHeartbeats 4000000 in
theorem gather_in (n : Nat) (hn : 6 ≤ n) {w : World} {d sb : Nat} {lv : Value} {s : DS} (hD : DiskIn w d sb lv s) :
    CallsIn Fence.wide n Tryz.prog 54 #[ramI d] w fun e w' => Below w.heap.size w w' ∧ ((imgE s = 0 ∧ ∃ v rs, e = .returned (.tuple #[v, .int .i64 0]) ∧ w'.ownsRow w.heap.size 52 1 v rs.length (rs.map srV) ∧ EachIn w' rs (imgD s) ∧ AllU8 w' rs) ∨
      (imgE s ≠ 0 ∧ e = .returned (.tuple #[.slice none 0 0, .int .i64 (imgE s)]))) := by
  have h1 : 1 ≤ n := by omega
  have hmf : ∀ (fn : Fn) (first cap : Array Value) (w : World), (Instr.makeFunc fn first cap).run Tryz.prog w = .ok (.func fn first cap) w := fun _ _ _ _ => rfl
  have hf0 : ∀ k, fpD d sb lv k → k < w.heap.size := fun k hk => hD.lt hk
  have hb1 := bt (below_alloc w (.cells #[.slice none 0 0] 45)) (below_alloc (w.alloc (.cells #[.slice none 0 0] 45)) (.cells #[.int .i64 0] 25))
  have hD1 := hD.below hb1
  have hmi := missing_no hD1
  refine callsIn_of_wp_marks Tryz.func54 rfl trivial ?_ rfl
  simp only [Tryz.ntmps54, List.size_toArray, List.length_cons, List.length_nil, Nat.reduceAdd, Nat.reduceSub, Array.replicate_succ, Array.replicate_zero, List.push_toArray, List.append_toArray, List.nil_append, List.cons_append]
  gi_wp2
  refine ⟨trivial, ?_⟩
  refine (callsIn_wide.2 hmi).mono ?_
  rintro e w' ⟨rfl, hw'⟩
  have hw2 := hw'.symm
  subst hw2
  clear hw' hmi
  gi_wp2
  refine ⟨trivial, ?_⟩
  refine (callsIn_wide.2 (reads_any d _)).mono ?_
  rintro e w' ⟨rfl, hw'⟩
  have g1 := ((Blk.new' w 45 #[.slice none 0 0]).alloc (.cells #[.int .i64 0] 25)).alloc (.cells #[ramI d] 68)
  have g2 := (Blk.new' (w.alloc (.cells #[.slice none 0 0] 45)) 25 #[.int .i64 0]).alloc (.cells #[ramI d] 68)
  have g3 := Blk.new' ((w.alloc (.cells #[.slice none 0 0] 45)).alloc (.cells #[.int .i64 0] 25)) 68 #[ramI d]
  have hb3 := bt hb1 (below_alloc ((w.alloc (.cells #[.slice none 0 0] 45)).alloc (.cells #[.int .i64 0] 25)) (.cells #[ramI d] 68))
  simp only [World.size_alloc] at g2 g3
  have hsz3 : (((w.alloc (.cells #[.slice none 0 0] 45)).alloc (.cells #[.int .i64 0] 25)).alloc (.cells #[ramI d] 68)).heap.size = w.heap.size + 3 := by simp
  rw [World.size_alloc, World.size_alloc]
  rw [← hw'] at g1 g2 g3 hb3 hsz3
  clear hw' hb1 hD1
  have hD3 := hD.below hb3
  have hG0 : GImg d w w' (.slice none 0 0) [] [] := ⟨g1, g2, g3, World.ownsRow_nil _ _ _ _, EachIn.nil _, (fun r hr => by simp at hr), hb3⟩
  have hs3 : w.heap.size ≤ w'.heap.size := hb3.size
  gi_wp2
  refine range_feeds (α := Fed) h1 (gf := 106) (lb := #[.pointer (some ⟨w.heap.size + 1 + 1, 0, none⟩)]) rfl (enters_of Tryz.func106 (by kernel_rfl) rfl)
    (reads_feeds (n - 1) (by omega) (w.heap.size + 1 + 1) d sb lv s w' hD3 (g3.cell' rfl) g3.lt) (fun _ => rfl) (fun h k => h.trans k)
    (fun W l o o' hl _ _ => ⟨fun k hk => World.putObj_heap_other (by rcases hk with hk | hk; have := hf0 k hk; omega; omega), by rw [World.putObj_size]; exact Nat.le_refl _⟩)
    (fun x W l o o' hl ho hx => In.cellsSame hx (fun k ob hk hc => World.putObj_heap_other (by rintro rfl; rw [hl] at hk; cases hk; rw [ho] at hc; cases hc)))
    (fun pre W => ∃ v rs, GImg d w W v rs (pre.map (·.D)) ∧ ∀ x ∈ pre, x.E = 0)
    (fun pre W => Blk W w.heap.size 45 [.slice none 0 0] ∧ (∃ ini x, pre = ini ++ [x] ∧ x.E ≠ 0 ∧ (∀ y ∈ ini, y.E = 0) ∧ Blk W (w.heap.size + 1) 25 [.int .i64 x.E]) ∧ Below w.heap.size w W)
    (fun pre X Y row hs hg hr => by obtain ⟨v, rs, h, he⟩ := hs; exact ⟨v, rs, h.abide hs3 hg hr, he⟩)
    (fun pre X Y row hs hg hr => by
      obtain ⟨h1, ⟨ini, x, e1, e2, e3, h2⟩, h3⟩ := hs
      have hk : ∀ (k : Nat) (o : Obj), X.heap[k]? = some o → o.isCells = true → Y.heap[k]? = X.heap[k]? := fun k o hk hc => grownBy_keeps_cells hg (fun r e => (hr r e).2) hk hc
      exact ⟨h1.same (hk _ _ h1 rfl), ⟨ini, x, e1, e2, e3, h2.same (hk _ _ h2 rfl)⟩, h3.grown hg h3.size (fun r e => Nat.le_trans hs3 (hr r e).1)⟩)
    ⟨_, _, hG0, (fun x hx => by simp at hx)⟩
    ?A ?assign ?body ?done ?stop
  case A => exact fun x => { tmps := #[ramI d, undef, .pointer (some ⟨w.heap.size, 0, none⟩), .pointer (some ⟨w.heap.size + 1, 0, none⟩), .slice x.p x.D.length x.c, .int .i64 x.E, .func (.func 90) #[] #[.pointer (some ⟨w.heap.size, 0, none⟩), .pointer (some ⟨w.heap.size + 1, 0, none⟩)], ramI d, .bool false, ramI d, .func (.func 106) #[] #[.pointer (some ⟨w.heap.size + 1 + 1, 0, none⟩)], .slice x.p x.D.length x.c, .int .i64 x.E, undef, undef, undef, undef, undef, undef, undef, undef, undef], defers := [] }
  case assign =>
    intro l x W K hK
    dsimp only [encF]
    gi_wp2
    exact hK
  case stop =>
    rintro D pre W hDD ⟨k, hk, hpre⟩ ⟨i1, ⟨ini, x, rfl, hx, hini, i2⟩, i3⟩ hdef
    rw [List.map_append, rdL_succ] at hpre
    obtain ⟨hp1, hp2⟩ := List.append_inj' hpre rfl
    have hxe : x.E = readE s (k : Int) := by simp at hp2; exact hp2.2
    have himg : imgE s = x.E := by
      rw [hxe] at hx ⊢
      exact imgE_stop hk (fun y hy => by
        rw [← hp1] at hy
        obtain ⟨z, hz, rfl⟩ := List.mem_map.1 hy
        exact hini z hz) hx
    have j1 := i1.same (World.putObj_heap_other (o := .deferred none) (r := D) (by rintro rfl; rw [show W.heap[w.heap.size]? = _ from i1] at hdef; cases hdef))
    have j2 := i2.same (World.putObj_heap_other (o := .deferred none) (r := D) (by rintro rfl; rw [show W.heap[w.heap.size + 1]? = _ from i2] at hdef; cases hdef))
    have hbD : Below w.heap.size w (W.putObj D (.deferred none)) := i3.trans (belowK_b (w := w) (Nat.le_refl _) _ D _ _ (Nat.le_trans hs3 hDD) hdef rfl rfl)
    have d1 := j1.cell' (i := 0) (v := .slice none 0 0) rfl
    have d2 := j2.cell' (i := 0) (v := .int .i64 x.E) rfl
    gi_wp2
    refine ⟨by simp, .inl ⟨_, _, rfl, run_takeDeferred hdef, ?_⟩⟩
    refine ⟨by simp, .inr ⟨fun _ => h1, _, _, 90, #[.pointer (some ⟨w.heap.size, 0, none⟩), .pointer (some ⟨w.heap.size + 1, 0, none⟩)], rfl, by simp [invoke, go_sem, enters_of Tryz.func90 (by kernel_rfl) rfl], fun _ _ => trivial, ?_⟩⟩
    refine (catch_idleIn _ _ _ _).mono ?_
    rintro e u' w'' ⟨rfl, rfl, rfl⟩
    simp [LeavesInM, LeavesIn, settle, results, Tryz.results54, go_sem, d1, d2]
    exact ⟨hbD, .inr ⟨by rw [himg]; exact hx, himg.symm⟩⟩
  case done =>
    rintro D xs W hDD hxs ⟨v, rs, hG, hE⟩ hdef
    have himg : imgE s = 0 := imgE_zero (fun y hy => by
      rw [← hxs] at hy
      obtain ⟨z, hz, rfl⟩ := List.mem_map.1 hy
      exact hE z hz)
    have himd : xs.map (·.D) = imgD s := by rw [imgD, ← hxs, List.map_map]; rfl
    rw [himd] at hG
    have HI : Hid (imgE s = 0) := himg
    clear himg himd hxs
    obtain ⟨pv, cv, rfl⟩ := owns_slice hG.row
    have c1 := hG.img.cell' (i := 0) (v := .slice pv rs.length cv) rfl
    have f1 := hG.img.frozen 0
    have k1 := hG.img.set 0 (.slice pv rs.length cv)
    have k2 := hG.err.setOther ⟨w.heap.size, 0, none⟩ (.slice pv rs.length cv) (by simp)
    have c2 := k2.cell' (i := 0) (v := .int .i64 0) rfl
    have f2 := k2.frozen 0
    have m1 := k1.setOther ⟨w.heap.size + 1, 0, none⟩ (.int .i64 0) (by simp)
    have m2 := k2.set 0 (.int .i64 0)
    have t1 := Turned.setCell W ⟨w.heap.size, 0, none⟩ (.slice pv rs.length cv)
    have t2 := Turned.setCell (W.setCell ⟨w.heap.size, 0, none⟩ (.slice pv rs.length cv)) ⟨w.heap.size + 1, 0, none⟩ (.int .i64 0)
    dsimp only at t1 t2
    have u1 := set_same hG.u8 hG.img (by decide) 0 (.slice pv rs.length cv)
    have U1 := hG.u8.same u1
    have u2 := set_same U1 k2 (by decide) 0 (.int .i64 0)
    have E2 := (hG.each.sameU hG.u8 u1).sameU U1 u2
    have U2 := U1.same u2
    have R2 := owns_same (owns_same hG.row (fun k hk => t1.block k (owns_ne hG.row hk hG.img (by decide)))) (fun k hk => t2.block k (owns_ne hG.row hk hG.err (by decide)))
    have B2 := hG.bel.trans ((t1.below (Below.refl w.heap.size _) (Nat.le_refl _)).trans (t2.below (Below.refl w.heap.size _) (by omega)))
    have nD1 : w.heap.size ≠ D := by rintro rfl; rw [show W.heap[w.heap.size]? = _ from hG.img] at hdef; cases hdef
    have nD2 : w.heap.size + 1 ≠ D := by rintro rfl; rw [show W.heap[w.heap.size + 1]? = _ from hG.err] at hdef; cases hdef
    have hdef2 := (t2.block D (Ne.symm nD2)).trans ((t1.block D (Ne.symm nD1)).trans hdef)
    clear u1 u2 U1 hdef
    gi_wp2
    generalize (W.setCell ⟨w.heap.size, 0, none⟩ (.slice pv rs.length cv)).setCell ⟨w.heap.size + 1, 0, none⟩ (.int .i64 0) = W2 at *
    have hs : ∀ (k : Nat) (o : Obj), W2.heap[k]? = some o → o.isCells = true → (W2.putObj D (.deferred none)).heap[k]? = W2.heap[k]? := fun k ob hk hc => World.putObj_heap_other (by rintro rfl; rw [hdef2] at hk; cases hk; cases hc)
    have d1 := (m1.same (World.putObj_heap_other (o := .deferred none) (r := D) nD1)).cell' (i := 0) (v := .slice pv rs.length cv) rfl
    have d2 := (m2.same (World.putObj_heap_other (o := .deferred none) (r := D) nD2)).cell' (i := 0) (v := .int .i64 0) rfl
    have hbD : Below w.heap.size w (W2.putObj D (.deferred none)) := B2.trans (belowK_b (w := w) (Nat.le_refl _) _ D _ _ (Nat.le_trans hs3 hDD) hdef2 rfl rfl)
    refine ⟨by simp, .inl ⟨_, _, rfl, run_takeDeferred hdef2, ?_⟩⟩
    refine ⟨by simp, .inr ⟨fun _ => h1, _, _, 90, #[.pointer (some ⟨w.heap.size, 0, none⟩), .pointer (some ⟨w.heap.size + 1, 0, none⟩)], rfl, by simp [invoke, go_sem, enters_of Tryz.func90 (by kernel_rfl) rfl], fun _ _ => trivial, ?_⟩⟩
    refine (catch_idleIn _ _ _ _).mono ?_
    rintro e u' w'' ⟨rfl, rfl, rfl⟩
    simp [LeavesInM, LeavesIn, settle, results, Tryz.results54, go_sem, d1, d2]
    refine ⟨hbD, .inl ⟨HI.out, rs, owns_same R2 (fun k hk => ?_), E2.cellsSame hs, U2.same (fun r hr a ha => ?_)⟩⟩
    · obtain ⟨cs, hc, _⟩ := owns_row R2 hk
      exact hs k _ hc rfl
    · obtain ⟨cs, hc⟩ := U2 r hr a ha
      exact hs _ _ hc rfl
  case body =>
    rintro l pre x W hl hsz0 ⟨v, rs, hG, hE⟩ hgv hlen
    have hsz : w.heap.size ≤ W.heap.size := hG.bel.size
    by_cases he : x.E = 0
    · have hrs : rs.length < 100000 := by have h1 := hG.each.len; rw [List.length_map] at h1; have := hD.n2; omega
      have hgv' : In W.drew x.p x.D.length x.c x.D := In.below (show In W x.p x.D.length x.c x.D from hgv) ((Below.refl _ _).drew)
      rw [he]
      gi_wp2
      refine wpIn_region_held_round (S := fun _ => True) (by kernel_rfl) (by kernel_rfl) trivial (fun hHeld => ?_)
      refine wpAnyH_take (i := 1) (v := ?_) rfl (by kernel_rfl) (by kernel_rfl) (by kernel_rfl) (fun _ _ _ h => h) (Or.inl ⟨by rfl, ?_⟩) hHeld ?_
      rotate_left
      · intro w' hSw; try dsimp only at hSw
        go_simp; try (with_reducible rfl)
      try simp only [Act.put, List.getElem_toArray, List.getElem_cons_succ, List.getElem_cons_zero, List.setIfInBounds_toArray, List.set_cons_zero, List.set_cons_succ]
      refine wpAnyH_ready (rs := [0, 2]) (by kernel_rfl) (by simp) ?_
      refine AllReadyH.cons rfl (fun K hK => ?_) ?_
      · have c0 : (W.drew).cell? ⟨w.heap.size, 0, none⟩ = some v := hG.img.cell' rfl
        go_simp
        refine hK.out _ _ trivial (fun hHeld => ?_)
        clear hK K
        try simp only [Act.put, List.getElem_toArray, List.getElem_cons_succ, List.getElem_cons_zero, List.setIfInBounds_toArray, List.set_cons_zero, List.set_cons_succ]
        refine wpAnyH_ready (rs := [2]) (by kernel_rfl) (by simp) ?_
        refine AllReadyH.cons rfl (fun K hK => ?_) AllReadyH.nil
        go_simp
        refine (clone_u8 _ _ _ _ _ hgv').mono ?_
        rintro e wc ⟨pc, cc, rfl, hinc, hbc, _, huc⟩
        have hbA : Below W.heap.size W (wc.alloc (.cells #[.slice pc x.D.length cc] 52)) := bt (bt ((Below.refl _ W).drew) hbc) (below_alloc wc _)
        try go_wp2_with fail
        refine hK.out _ _ trivial (fun hHeld => ?_)
        clear hK K
        try simp only [Act.put, List.getElem_toArray, List.getElem_cons_succ, List.getElem_cons_zero, List.setIfInBounds_toArray, List.set_cons_zero, List.set_cons_succ]
        refine wpAnyH_ready (rs := [3]) (by kernel_rfl) (by simp) ?_
        refine AllReadyH.cons rfl (fun K hK => ?_) AllReadyH.nil
        go_simp
        refine hK.out _ _ trivial (fun hHeld => ?_)
        clear hK K
        try simp only [Act.put, List.getElem_toArray, List.getElem_cons_succ, List.getElem_cons_zero, List.setIfInBounds_toArray, List.set_cons_zero, List.set_cons_succ]
        refine wpAnyH_ready (rs := [4]) (by kernel_rfl) (by simp) ?_
        refine AllReadyH.cons rfl (fun K hK => ?_) AllReadyH.nil
        rw [if_pos (by rfl)]
        refine wp_appendB w.heap.size (.tmp 16) (.tmp 19) rfl v rs rfl (owns_below hG.row hbA) (Nat.le_trans hsz hbA.size) wc.heap.size 0 ⟨pc, x.D.length, cc⟩ rfl (Blk.new' wc 52 #[.slice pc x.D.length cc] |>.cell' rfl) (by omega) ?_
        intro p1 c1 w4 hp1 hg1 hat1
        have H4 := hG.grown hbA hinc huc hg1 hp1
        have c4 := H4.1.cell' (i := 0) (v := v) rfl
        have f4 := H4.1.frozen 0
        refine hK.out _ _ trivial (fun hHeld => ?_)
        clear hK K
        try simp only [Act.put, List.getElem_toArray, List.getElem_cons_succ, List.getElem_cons_zero, List.setIfInBounds_toArray, List.set_cons_zero, List.set_cons_succ]
        refine wpAnyH_ready (rs := [5]) (by kernel_rfl) (by simp) ?_
        refine AllReadyH.cons rfl (fun K hK => ?_) AllReadyH.nil
        go_simp
        refine hK.out _ _ trivial (fun hHeld => ?_)
        clear hK K
        try simp only [Act.put, List.getElem_toArray, List.getElem_cons_succ, List.getElem_cons_zero, List.setIfInBounds_toArray, List.set_cons_zero, List.set_cons_succ]
        refine wpAnyH_done (by kernel_rfl) ?_ _
        refine NoBad.normal ?_
        gi_wp2
        exact ⟨H4.2.1.from _, hG.kpr H4.2.2 hf0 H4.2.1.size, _, _, by rw [List.map_append]; exact H4.2.2, fun y hy => by { rcases List.mem_append.1 hy with h' | h'; exact hE y h'; rw [List.mem_singleton.1 h']; exact he }⟩
      refine AllReadyH.cons rfl (fun K hK => ?_) AllReadyH.nil
      go_simp
      refine (clone_u8 _ _ _ _ _ hgv').mono ?_
      rintro e wc ⟨pc, cc, rfl, hinc, hbc, _, huc⟩
      have hbA : Below W.heap.size W (wc.alloc (.cells #[.slice pc x.D.length cc] 52)) := bt (bt ((Below.refl _ W).drew) hbc) (below_alloc wc _)
      try go_wp2_with fail
      refine hK.out _ _ trivial (fun hHeld => ?_)
      clear hK K
      try simp only [Act.put, List.getElem_toArray, List.getElem_cons_succ, List.getElem_cons_zero, List.setIfInBounds_toArray, List.set_cons_zero, List.set_cons_succ]
      refine wpAnyH_ready (rs := [0, 3]) (by kernel_rfl) (by simp) ?_
      refine AllReadyH.cons rfl (fun K hK => ?_) ?_
      · have c0 : (wc).cell? ⟨w.heap.size, 0, none⟩ = some v := (hG.img.kept (bt ((Below.refl _ W).drew) hbc)).cell' rfl
        go_simp
        refine hK.out _ _ trivial (fun hHeld => ?_)
        clear hK K
        try simp only [Act.put, List.getElem_toArray, List.getElem_cons_succ, List.getElem_cons_zero, List.setIfInBounds_toArray, List.set_cons_zero, List.set_cons_succ]
        refine wpAnyH_ready (rs := [3]) (by kernel_rfl) (by simp) ?_
        refine AllReadyH.cons rfl (fun K hK => ?_) AllReadyH.nil
        go_simp
        refine hK.out _ _ trivial (fun hHeld => ?_)
        clear hK K
        try simp only [Act.put, List.getElem_toArray, List.getElem_cons_succ, List.getElem_cons_zero, List.setIfInBounds_toArray, List.set_cons_zero, List.set_cons_succ]
        refine wpAnyH_ready (rs := [4]) (by kernel_rfl) (by simp) ?_
        refine AllReadyH.cons rfl (fun K hK => ?_) AllReadyH.nil
        rw [if_pos (by rfl)]
        refine wp_appendB w.heap.size (.tmp 16) (.tmp 19) rfl v rs rfl (owns_below hG.row hbA) (Nat.le_trans hsz hbA.size) wc.heap.size 0 ⟨pc, x.D.length, cc⟩ rfl (Blk.new' wc 52 #[.slice pc x.D.length cc] |>.cell' rfl) (by omega) ?_
        intro p1 c1 w4 hp1 hg1 hat1
        have H4 := hG.grown hbA hinc huc hg1 hp1
        have c4 := H4.1.cell' (i := 0) (v := v) rfl
        have f4 := H4.1.frozen 0
        refine hK.out _ _ trivial (fun hHeld => ?_)
        clear hK K
        try simp only [Act.put, List.getElem_toArray, List.getElem_cons_succ, List.getElem_cons_zero, List.setIfInBounds_toArray, List.set_cons_zero, List.set_cons_succ]
        refine wpAnyH_ready (rs := [5]) (by kernel_rfl) (by simp) ?_
        refine AllReadyH.cons rfl (fun K hK => ?_) AllReadyH.nil
        go_simp
        refine hK.out _ _ trivial (fun hHeld => ?_)
        clear hK K
        try simp only [Act.put, List.getElem_toArray, List.getElem_cons_succ, List.getElem_cons_zero, List.setIfInBounds_toArray, List.set_cons_zero, List.set_cons_succ]
        refine wpAnyH_done (by kernel_rfl) ?_ _
        refine NoBad.normal ?_
        gi_wp2
        exact ⟨H4.2.1.from _, hG.kpr H4.2.2 hf0 H4.2.1.size, _, _, by rw [List.map_append]; exact H4.2.2, fun y hy => by { rcases List.mem_append.1 hy with h' | h'; exact hE y h'; rw [List.mem_singleton.1 h']; exact he }⟩
      refine AllReadyH.cons rfl (fun K hK => ?_) AllReadyH.nil
      go_simp
      refine hK.out _ _ trivial (fun hHeld => ?_)
      clear hK K
      try simp only [Act.put, List.getElem_toArray, List.getElem_cons_succ, List.getElem_cons_zero, List.setIfInBounds_toArray, List.set_cons_zero, List.set_cons_succ]
      refine wpAnyH_ready (rs := [0]) (by kernel_rfl) (by simp) ?_
      refine AllReadyH.cons rfl (fun K hK => ?_) AllReadyH.nil
      have c0 : (wc.alloc (.cells #[.slice pc x.D.length cc] 52)).cell? ⟨w.heap.size, 0, none⟩ = some v := (hG.img.kept hbA).cell' rfl
      go_simp
      refine hK.out _ _ trivial (fun hHeld => ?_)
      clear hK K
      try simp only [Act.put, List.getElem_toArray, List.getElem_cons_succ, List.getElem_cons_zero, List.setIfInBounds_toArray, List.set_cons_zero, List.set_cons_succ]
      refine wpAnyH_ready (rs := [4]) (by kernel_rfl) (by simp) ?_
      refine AllReadyH.cons rfl (fun K hK => ?_) AllReadyH.nil
      rw [if_pos (by rfl)]
      refine wp_appendB w.heap.size (.tmp 16) (.tmp 19) rfl v rs rfl (owns_below hG.row hbA) (Nat.le_trans hsz hbA.size) wc.heap.size 0 ⟨pc, x.D.length, cc⟩ rfl (Blk.new' wc 52 #[.slice pc x.D.length cc] |>.cell' rfl) (by omega) ?_
      intro p1 c1 w4 hp1 hg1 hat1
      have H4 := hG.grown hbA hinc huc hg1 hp1
      have c4 := H4.1.cell' (i := 0) (v := v) rfl
      have f4 := H4.1.frozen 0
      refine hK.out _ _ trivial (fun hHeld => ?_)
      clear hK K
      try simp only [Act.put, List.getElem_toArray, List.getElem_cons_succ, List.getElem_cons_zero, List.setIfInBounds_toArray, List.set_cons_zero, List.set_cons_succ]
      refine wpAnyH_ready (rs := [5]) (by kernel_rfl) (by simp) ?_
      refine AllReadyH.cons rfl (fun K hK => ?_) AllReadyH.nil
      go_simp
      refine hK.out _ _ trivial (fun hHeld => ?_)
      clear hK K
      try simp only [Act.put, List.getElem_toArray, List.getElem_cons_succ, List.getElem_cons_zero, List.setIfInBounds_toArray, List.set_cons_zero, List.set_cons_succ]
      refine wpAnyH_done (by kernel_rfl) ?_ _
      refine NoBad.normal ?_
      gi_wp2
      exact ⟨H4.2.1.from _, hG.kpr H4.2.2 hf0 H4.2.1.size, _, _, by rw [List.map_append]; exact H4.2.2, fun y hy => by { rcases List.mem_append.1 hy with h' | h'; exact hE y h'; rw [List.mem_singleton.1 h']; exact he }⟩
    · have c1 := hG.img.cell' (i := 0) (v := v) rfl
      have f1 := hG.img.frozen 0
      have k1 := hG.img.set 0 (.slice none 0 0)
      have k2 := hG.err.setOther ⟨w.heap.size, 0, none⟩ (.slice none 0 0) (by simp)
      have c2 := k2.cell' (i := 0) (v := .int .i64 0) rfl
      have f2 := k2.frozen 0
      have t1 := Turned.setCell W ⟨w.heap.size, 0, none⟩ (.slice none 0 0)
      have t2 := Turned.setCell (W.setCell ⟨w.heap.size, 0, none⟩ (.slice none 0 0)) ⟨w.heap.size + 1, 0, none⟩ (.int .i64 x.E)
      dsimp only at t1 t2
      gi_wp2
      exact ⟨((KeepsOthers.setCell _ _ _).trans (KeepsOthers.setCell _ _ _)).from _, k1.setOther _ _ (by simp), ⟨pre, x, rfl, he, hE, k2.set 0 _⟩, hG.bel.trans ((t1.below (Below.refl w.heap.size _) (Nat.le_refl _)).trans (t2.below (Below.refl w.heap.size _) (by omega)))⟩
end Go.Proofs.YtdmnddikcpfmfaaGreat

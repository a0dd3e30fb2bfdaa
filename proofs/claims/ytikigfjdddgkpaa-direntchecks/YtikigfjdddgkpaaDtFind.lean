/-
  What dirent.Find answers.
-/
import Derived.Test.YtikigfjdddgkpaaDtTold
namespace Go.Proofs.Ytikigfjdddgkpaa
open Go.RowKit Go.Shelf
attribute [local go_sem] Oper.semAt_some
/-- The entry of a name. -/
def findO (xs : List Nat) (l : List UInt8) : Option Ent := (entsL (recsL xs)).find? fun x => x.nm == l
theorem find_hit {l : List UInt8} {L ini : List Ent} {x : Ent} (hp : ini ++ [x] <+: L) (hn : ∀ y ∈ ini, (y.nm == l) = false) (hx : (x.nm == l) = true) : L.find? (fun x => x.nm == l) = some x := by
  obtain ⟨t, rfl⟩ := hp
  rw [List.append_assoc, List.find?_append, List.find?_eq_none.2 (fun y hy => by rw [hn y hy]; exact Bool.false_ne_true)]
  simp [hx]
theorem infoBool : (Try.prog.info? 4).map (·.size) = some 1 := by kernel_rfl
theorem ret_find {fn : Func} {p u : Tmp} (h : fn.results = #[.cell p 24, .cell u 4]) {tmps : Array Value} {w : World} {g k : Nat} {t t2 : TypeId} {x0 x1 x2 y0 : Value} (hp : tmps.getD p undef = .pointer (some ⟨g, 0, none⟩)) (hu : tmps.getD u undef = .pointer (some ⟨k, 0, none⟩))
    (hb : Blk w g t [x0, x1, x2]) (hk : Blk w k t2 [y0]) : (results fn tmps).run Try.prog w = .ok (.tuple #[.agg #[x0, x1, x2], y0]) w := by
  rw [results_cell2 h, hp, hu]
  have h1 := run_loadVar_mid w g 0 24 [x0, x1, x2] _ (hb.range 0 3 _ rfl) Try.underlying24 rfl (by kernel_rfl)
  have h2 : (loadVar 4 ⟨k, 0, none⟩).run Try.prog w = .ok y0 w := by
    have hc := hk.cell' (i := 0) (v := y0) rfl
    simp [loadVar, Try.isAgg4, hc]
  simp only [asAddr, Sem.run_pure, Result.andThen_ok, h1, h2]
/-- Both results laid. -/
theorem set_find {W : World} {b4 b5 : Nat} {t t2 : TypeId} {x0 x1 x2 y0 : Value} (q2 : Blk W b4 t [x0, x1, x2]) (q3 : Blk W b5 t2 [y0]) (hne : b4 ≠ b5) (v0 v1 v2 u : Value) :
    Blk ((((W.setCell ⟨b4, 0, none⟩ v0).setCell ⟨b4, 1, none⟩ v1).setCell ⟨b4, 2, none⟩ v2).setCell ⟨b5, 0, none⟩ u) b4 t [v0, v1, v2] ∧ Blk ((((W.setCell ⟨b4, 0, none⟩ v0).setCell ⟨b4, 1, none⟩ v1).setCell ⟨b4, 2, none⟩ v2).setCell ⟨b5, 0, none⟩ u) b5 t2 [u] ∧ KeepsOthers W ((((W.setCell ⟨b4, 0, none⟩ v0).setCell ⟨b4, 1, none⟩ v1).setCell ⟨b4, 2, none⟩ v2).setCell ⟨b5, 0, none⟩ u) ∧
      (∀ B w, Below B w W → B ≤ b4 → B ≤ b5 → Below B w ((((W.setCell ⟨b4, 0, none⟩ v0).setCell ⟨b4, 1, none⟩ v1).setCell ⟨b4, 2, none⟩ v2).setCell ⟨b5, 0, none⟩ u)) ∧ ∀ k, k ≠ b4 → k ≠ b5 → ((((W.setCell ⟨b4, 0, none⟩ v0).setCell ⟨b4, 1, none⟩ v1).setCell ⟨b4, 2, none⟩ v2).setCell ⟨b5, 0, none⟩ u).heap[k]? = W.heap[k]? := by
  refine ⟨(((q2.set 0 v0).set 1 v1).set 2 v2).setOther ⟨b5, 0, none⟩ u hne, (((q3.setOther ⟨b4, 0, none⟩ v0 hne.symm).setOther ⟨b4, 1, none⟩ v1 hne.symm).setOther ⟨b4, 2, none⟩ v2 hne.symm).set 0 u, (((KeepsOthers.setCell W _ v0).trans (KeepsOthers.setCell _ _ v1)).trans (KeepsOthers.setCell _ _ v2)).trans (KeepsOthers.setCell _ _ u), fun B w hb h4 h5 => (((hb.setCell (p := ⟨b4, 0, none⟩) h4 v0).setCell (p := ⟨b4, 1, none⟩) h4 v1).setCell (p := ⟨b4, 2, none⟩) h4 v2).setCell (p := ⟨b5, 0, none⟩) h5 u, fun k h4 h5 => ?_⟩
  rw [heap_setCell_other _ _ k u h5, heap_setCell_other _ _ k v2 h4, heap_setCell_other _ _ k v1 h4, heap_setCell_other _ _ k v0 h4]
/-- What Find answers. -/
def FindAns (O : Option Ent) (w w' : World) (e : Ending) : Prop := e = .returned (.tuple #[(O.getD en0).val, .bool O.isSome]) ∧ Below w.heap.size w w'
set_option linter.unusedSimpArgs false in
set_option linter.unusedVariables false in
set_option maxRecDepth 100000 in
set_option maxHeartbeats 4000000 in
theorem find_in (nf : Nat) (hnf : 4 ≤ nf) (p : Option Addr) (n c : Nat) (xs : List Nat) (l : List UInt8) (w : World) (hx : In w p n c xs) :
    CallsIn Fence.wide nf Try.prog 7 #[.slice p n c, .string ⟨l.toArray⟩] w fun e w' => FindAns (findO xs l) w w' e := by
  have h1 : 1 ≤ nf := by omega
  obtain ⟨L, hL⟩ : ∃ L, entsL (recsL xs) = L := ⟨_, rfl⟩
  rw [show findO xs l = L.find? (fun x => x.nm == l) from by rw [findO, hL]]
  have b3 := ((Blk.new' w 9 #[.string ⟨l.toArray⟩]).alloc (.cells #[.string ⟨#[]⟩, .int .i64 0, .int .i64 0] 24)).alloc (.cells #[.bool false] 4)
  have b4 := (Blk.newAt (w := w.alloc (.cells #[.string ⟨l.toArray⟩] 9)) (g := w.heap.size + 1) 24 #[.string ⟨#[]⟩, .int .i64 0, .int .i64 0] (by simp)).alloc (.cells #[.bool false] 4)
  have b5 := Blk.newAt (w := (w.alloc (.cells #[.string ⟨l.toArray⟩] 9)).alloc (.cells #[.string ⟨#[]⟩, .int .i64 0, .int .i64 0] 24)) (g := w.heap.size + 1 + 1) 4 #[.bool false] (by simp)
  have hb0 : Below w.heap.size w (((w.alloc (.cells #[.string ⟨l.toArray⟩] 9)).alloc (.cells #[.string ⟨#[]⟩, .int .i64 0, .int .i64 0] 24)).alloc (.cells #[.bool false] 4)) := ((below_alloc w _).alloc (by simp) _).alloc (by simp; omega) _
  refine callsIn_of_wp_marks Try.func7 rfl trivial ?_ rfl
  simp only [Try.ntmps7, List.size_toArray, List.length_cons, List.length_nil, Nat.reduceAdd, Nat.reduceSub, Array.replicate_succ, Array.replicate_zero, List.push_toArray, List.append_toArray, List.nil_append, List.cons_append]
  gi_wp2_with fail
  generalize ((w.alloc _).alloc _).alloc _ = U0 at b3 b4 b5 hb0 ⊢
  refine ⟨trivial, (callsIn_wide.2 (entries_any p n c xs U0 (hx.below hb0))).mono ?_⟩
  rintro e9 V0 ⟨gr, q, m, d, rfl, hR, hbV⟩
  have k3 := b3.kept hbV
  have k4 := b4.kept hbV
  have k5 := b5.kept hbV
  have hBV := hb0.trans (hbV.mono hb0.size)
  have hlt5 := b5.lt
  have hsUV := hbV.size
  have hlow := hR.low
  have hgr := hR.bs.lt
  have hsv := hBV.size
  clear b3 b4 b5 hb0 hx
  gi_wp2
  have hst := ent_stops (nf - 1) (by omega) gr q m d (recsL xs) V0 hR
  rw [hL] at hst
  clear hL hR
  refine wpIn_rangeFunc_ownH rfl h1 (gf := 44) (lb := #[.pointer (some ⟨gr, 0, none⟩)]) rfl trivial (enters_of Try.func44 (by kernel_rfl) rfl)
    hst (fun h k => h.trans k) (fun W' l o o' hl _ _ _ => ⟨World.putObj_heap_other (by omega), by simp [World.putObj], fun a e => World.putObj_heap_other (by have := hlow a e; omega)⟩) (Below.refl _ _) (fun _ => rfl)
    (fun pre W' => Blk W' w.heap.size 9 [.string ⟨l.toArray⟩] ∧ Blk W' (w.heap.size + 1) 24 [.string ⟨#[]⟩, .int .i64 0, .int .i64 0] ∧ Blk W' (w.heap.size + 1 + 1) 4 [.bool false] ∧ (Below w.heap.size w W' ∧ V0.heap.size ≤ W'.heap.size) ∧ ∀ y ∈ pre, (y.nm == l) = false)
    (fun c pre W' => (∃ ini last, pre = ini ++ [last] ∧ c = .ret ∧ (∀ y ∈ ini, (y.nm == l) = false) ∧ (last.nm == l) = true ∧ Blk W' (w.heap.size + 1) 24 last.cells ∧ Blk W' (w.heap.size + 1 + 1) 4 [.bool true]) ∧ Below w.heap.size w W')
    (OwnFrom.and (Own.from (blk_own w.heap.size 9 (fun _ : List Ent => [.string ⟨l.toArray⟩])) _) (OwnFrom.and (Own.from (blk_own (w.heap.size + 1) 24 (fun _ : List Ent => [.string ⟨#[]⟩, .int .i64 0, .int .i64 0])) _) (OwnFrom.and (Own.from (blk_own (w.heap.size + 1 + 1) 4 (fun _ : List Ent => [.bool false])) _) (OwnFrom.and (OwnFrom.and (ownFrom_below (Nat.le_refl _) (by omega)) (fun _ _ _ _ hs hg _ => Nat.le_trans hs hg.size)) (fun _ _ _ _ hs _ _ => hs)))))
    (fun c => OwnFrom.and (fun s A B row hs hg hr => by
      obtain ⟨ini, last, e1, e2, e3, e4, e5, e6⟩ := hs
      exact ⟨ini, last, e1, e2, e3, e4, (blk_own (β := Unit) (w.heap.size + 1) 24 (fun _ => last.cells)).from V0.heap.size () A B row e5 hg hr, (blk_own (β := Unit) (w.heap.size + 1 + 1) 4 (fun _ => [.bool true])).from V0.heap.size () A B row e6 hg hr⟩) (ownFrom_below (Nat.le_refl _) (by omega)))
    ⟨k3, k4, k5, ⟨hBV, Nat.le_refl _⟩, fun y hy => by cases hy⟩
    (fun x a' W => ∃ Bx, V0.heap.size ≤ Bx ∧ Blk W Bx 24 x.cells ∧ a' = { tmps := #[.slice p n c, .string ⟨l.toArray⟩, undef, .pointer (some ⟨w.heap.size, 0, none⟩), .pointer (some ⟨w.heap.size + 1, 0, none⟩), .pointer (some ⟨w.heap.size + 1 + 1, 0, none⟩), .pointer (some ⟨Bx, 0, none⟩), .slice p n c, (.func (.func 44) #[] #[.pointer (some ⟨gr, 0, none⟩)]), (.agg #[.string ⟨x.nm.toArray⟩, .int .i64 x.ino, .int .i64 x.kd]), undef, undef, undef, undef, undef, undef], defers := [] })
    (fun x a' s X Y row ⟨Bx, h1, h2, h3⟩ hg hr => ⟨Bx, h1, (blk_own (β := Unit) Bx 24 (fun _ => x.cells)).from V0.heap.size () X Y row h2 hg hr, h3⟩)
    ?assign ?body ?done ?stop
  case assign =>
    rintro l2 pre x W K ⟨q1, q2, q3, ⟨q5, q6⟩, q7⟩ hK
    obtain ⟨xn, xi, xk⟩ := x
    dsimp only [encE, Ent.val]
    have hb9 := below_alloc W (.cells #[.string ⟨xn.toArray⟩, .int .i64 xi, .int .i64 xk] 24)
    gi_wp2
    exact hK _ _ ((KeepsOthers.alloc _ _).from _) (KpT.of_below hb9 (by omega) (fun a e => by have := hlow a e; omega)) ⟨q1.alloc _, q2.alloc _, q3.alloc _, ⟨q5.trans (hb9.mono q5.size), by rw [World.size_alloc]; omega⟩, q7⟩ ⟨W.heap.size, q6, Blk.new' _ _ _, rfl⟩
  case body =>
    rintro l2 pre x a' W' hl2 ⟨r, hr⟩ ⟨q1, q2, q3, ⟨hB, hsV⟩, q7⟩ ⟨Bx, hx1, hx2, rfl⟩ hlen
    have x0 := hx2.cell' (i := 0) rfl
    have x1 := hx2.cell' (i := 1) rfl
    have x2 := hx2.cell' (i := 2) rfl
    have g3 := q1.cell' (i := 0) rfl
    have s0 := q2.cell' (i := 0) rfl
    have s1 := q2.cell' (i := 1) rfl
    have s2 := q2.cell' (i := 2) rfl
    have s3 := q3.cell' (i := 0) rfl
    have u0 := q2.frozen 0
    have u1 := q2.frozen 1
    have u2 := q2.frozen 2
    have u3 := q3.frozen 0
    have HQ : Hid (∀ y ∈ pre, (y.nm == l) = false) := q7
    clear q7
    cases hxl : (x.nm == l) with
    | false =>
      have HX : Hid ((x.nm == l) = false) := hxl
      gi_wp2
      refine ⟨(KeepsOthers.refl _).from _, KpT.refl _ _ _, q1, q2, q3, ⟨hB, hsV⟩, fun y hy => ?_⟩
      rcases List.mem_append.1 hy with h | h
      · exact HQ.out y h
      · simp at h; subst h; exact HX.out
    | true =>
      have HX : Hid ((x.nm == l) = true) := hxl
      gi_wp2
      obtain ⟨z4, z5, zk, zb, -⟩ := set_find q2 q3 (by omega) (.string ⟨x.nm.toArray⟩) (.int .i64 x.ino) (.int .i64 x.kd) (.bool true)
      exact ⟨zk.from _, ⟨pre, x, rfl, rfl, HQ.out, HX.out, z4, z5⟩, zb _ _ hB (by omega) (by omega)⟩
  case done =>
    rintro D ys W' hD rfl ⟨q1, q2, q3, ⟨hB, hsV⟩, q7⟩ hK
    have HT : Hid (ys.find? (fun x => x.nm == l) = none) := List.find?_eq_none.2 (fun y hy => by rw [q7 y hy]; exact Bool.false_ne_true)
    clear q7
    have s0 := q2.cell' (i := 0) rfl
    have s1 := q2.cell' (i := 1) rfl
    have s2 := q2.cell' (i := 2) rfl
    have s3 := q3.cell' (i := 0) rfl
    have u0 := q2.frozen 0
    have u1 := q2.frozen 1
    have u2 := q2.frozen 2
    have u3 := q3.frozen 0
    gi_wp2
    obtain ⟨z4, z5, zk, zb, zo⟩ := set_find q2 q3 (by omega) (.string ⟨#[]⟩) (.int .i64 0) (.int .i64 0) (.bool false)
    generalize (((W'.setCell _ _).setCell _ _).setCell _ _).setCell _ _ = X at z4 z5 zk zb zo ⊢
    have hK2 := (zo D (by omega) (by omega)).trans hK
    have hBX := zb _ _ hB (by omega) (by omega)
    refine ⟨by simp, .inl ⟨_, _, rfl, run_takeDeferred hK2, ?_⟩⟩
    have hbD : Below w.heap.size X (X.putObj D (.deferred none)) := belowK_b (w := w) (Nat.le_refl _) X D _ _ (by omega) hK2 rfl rfl
    exact ⟨_, ret_find Try.results7 rfl rfl (z4.same (World.putObj_heap_other (by omega))) (z5.same (World.putObj_heap_other (by omega))), by rw [HT.out]; rfl, hBX.trans hbD⟩
  case stop =>
    rintro D cc pre W' hD hsp ⟨⟨ini, last, e1, rfl, e3, e4, e5, e6⟩, hB⟩ hK
    have HT : Hid (L.find? (fun x => x.nm == l) = some last) := find_hit (by rw [← e1]; exact hsp) e3 e4
    clear e1 e3 e4
    gi_wp2
    refine ⟨by simp, .inl ⟨_, _, rfl, run_takeDeferred hK, ?_⟩⟩
    have hbD : Below w.heap.size W' (W'.putObj D (.deferred none)) := belowK_b (w := w) (Nat.le_refl _) W' D _ _ (by omega) hK rfl rfl
    exact ⟨_, ret_find Try.results7 rfl rfl (e5.same (World.putObj_heap_other (by omega))) (e6.same (World.putObj_heap_other (by omega))), by rw [HT.out]; rfl, hB.trans hbD⟩
theorem find_any (p : Option Addr) (n c : Nat) (xs : List Nat) (l : List UInt8) (w : World) (hx : In w p n c xs) : Calls Try.prog 7 #[.slice p n c, .string ⟨l.toArray⟩] w fun e w' => FindAns (findO xs l) w w' e :=
  (callsIn_wide (n := 4)).1 (find_in 4 (Nat.le_refl _) p n c xs l w hx)
end Go.Proofs.Ytikigfjdddgkpaa

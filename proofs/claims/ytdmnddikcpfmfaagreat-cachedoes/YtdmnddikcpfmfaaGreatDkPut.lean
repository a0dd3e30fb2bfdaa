/-
  A write into a sector, kept in mind.
-/
import Derived.Test.YtdmnddikcpfmfaaGreatDkRead
import Derived.Laws.CopyRow
import Derived.Laws.Tables
namespace Go.Proofs.YtdmnddikcpfmfaaGreat
open Go.RowKit
/-- A store of a whole value into a block that is known whole: the operation. -/
theorem wp_store_blk {op : Oper} {a : Act} {w : World} {K : Act → World → Prop} {Q : Exit → Act → World → Prop} (ty : TypeId) (x y : Operand) (ho : op.op = .store ty x y)
    (g o : Nat) (xs : List Value) (hx : a.eval x = .pointer (some ⟨g, o, none⟩)) (hy : a.eval y = .agg xs.toArray) {t : TypeId} {cs : List Value} (h : Blk w g t cs) (hle : o + xs.length ≤ cs.length)
    (hi : (Tryz.prog.info? ty).map (·.size) = some xs.length) (h1 : ∀ v ∈ xs, v.oneCell' = true)
    (hK : ∀ w', Blk w' g t (cs.take o ++ xs ++ cs.drop (o + xs.length)) → Turned w w' g → K (a.put op.dst undef) w') : op.wp Tryz.prog a w K Q := by
  have hst := h.store o xs hle h1
  have hrun : (storeVar ty ⟨g, o, none⟩ (.agg xs.toArray)).run Tryz.prog w = .ok () (w.setRow g (cs.take o ++ xs ++ cs.drop (o + xs.length)).toArray) := by
    cases hq : Tryz.prog.info? ty with
    | none => simp [hq] at hi
    | some i =>
      have hs : xs.length = i.size := by simp [hq] at hi; omega
      simp only [storeVar, sizeOf, typeInfo, Sem.run_bind, Value.cells]
      simp [hs, hq, hst]
  unfold Oper.wp execOp
  simp only [ho, hx, hy, Instr.storeAt, Instr.sureAddr, Sem.run_bind, Sem.run_pure, Result.andThen_ok, hrun]
  exact hK _ (h.setRow _) (Turned.setRow _ _ _)
theorem Turned.cell {w w' : World} {g : Nat} (h : Turned w w' g) {a : Addr} (ha : a.block ≠ g) : w'.cell? a = w.cell? a := by
  simp only [World.cell?, h.block a.block ha]
theorem build_wr (k : Nat) (w : World) : (Instr.build 173 #[(0, .int .i64 (k : Int))]).run Tryz.prog w = .ok (.agg (wrV (k, z256)).toArray) w := run_build w 173 _ _ (by kernel_rfl)
theorem fill_sec (z : List Value) (xs : List Value) (n : Nat) (hz : n ≤ z.length) (hx : xs.length = n) (pl : Nat → Option (Nat × Nat)) (hp : pl 0 = some (0, n)) : Instr.fill pl z.toArray [(0, .agg xs.toArray)] = some (xs ++ z.drop n).toArray := by
  have e := fold_set xs 0 z (by omega)
  rw [List.take_zero, List.nil_append, Nat.zero_add, hx] at e
  simp only [Instr.fill, Value.cells, List.size_toArray, hp]
  rw [if_neg (by simp; omega)]
  rw [← Array.foldl_toList, Array.toList_zipIdx]
  simpa using e
theorem build_sec (xs : List Nat) (hx : xs.length = 256) (w : World) : (Instr.build 102 #[(0, .agg (vals xs).toArray)]).run Tryz.prog w = .ok (.agg (secV (xs, false)).toArray) w := by
  refine run_build w 102 _ _ ?_
  have h := fill_sec (secV (z256, false)) (vals xs) 256 (by rw [secV_length z256_length]; omega) (by rw [vals_length, hx]) (fun i => (#[(0, 256), (256, 1)] : Array (Nat × Nat))[i]?) rfl
  have e : (secV (z256, false)).drop 256 = [.bool false] := by rw [secV, List.drop_left' (by rw [vals_length]; exact z256_length)]
  rw [e] at h
  have hb : Tryz.prog.built 102 [(0, .agg (vals xs).toArray)] = Instr.fill (fun i => (#[(0, 256), (256, 1)] : Array (Nat × Nat))[i]?) (secV (z256, false)).toArray [(0, .agg (vals xs).toArray)] := by kernel_rfl
  exact hb.trans h
theorem exec_build {ρ : Operand → Value} {o : Oper} {t : TypeId} (x : Operand) (ho : o.op = .build t #[(0, x)]) {v u : Value} {w : World} (hx : ρ x = v) (hb : (Instr.build t #[(0, v)]).run Tryz.prog w = .ok u w) : (execOp ρ o).run Tryz.prog w = .ok (.value u) w := by
  unfold execOp
  simp only [ho, Sem.run_bind, List.map_toArray, List.map_cons, List.map_nil, hx, hb, Result.andThen_ok, Sem.run_pure]
theorem buildWr (x : Nat × List Nat) (hx : x.2.length = 256) (w : World) : (Instr.buildSlice 60 1 #[(0, .agg (wrV x).toArray)]).run Tryz.prog w = .ok (.slice (some ⟨w.heap.size, 0, none⟩) 1 1) (w.alloc (.cells (wrV x).toArray 173)) := by
  obtain ⟨i0, hi, hz0, hz1, hz2⟩ := info_parts infoWr
  refine run_buildSlice w 60 173 1 _ _ i0 _ Tryz.underlying60 hi hz0 (by rw [hz1]; decide) (by rw [hz1]; decide) ?_
  rw [hz1]
  have hm : ((Array.range (1 * 257)).map ((Value.agg (wrV (0, z256)).toArray).cells[· % (Value.agg (wrV (0, z256)).toArray).cells.size]!)) = ((Array.range (1 * 257)).map ((Value.agg (wrV (0, z256)).toArray).cells[· % (Value.agg (wrV (0, z256)).toArray).cells.size]!)).toList.toArray := Array.toArray_toList.symm
  rw [hm]
  exact fill_one _ _ 257 (by simp) (wrV_length hx)
/-- The operation that lays a slice of one write. -/
theorem wp_buildWr {o : Oper} {a : Act} {w : World} {K : Act → World → Prop} {Q : Exit → Act → World → Prop} (x : Operand) (ho : o.op = .buildSlice 60 1 #[(0, x)]) (y : Nat × List Nat) (hx : a.eval x = .agg (wrV y).toArray) (hl : y.2.length = 256)
    (h : K (a.put o.dst (.slice (some ⟨w.heap.size, 0, none⟩) 1 1)) (w.alloc (.cells (wrV y).toArray 173))) : o.wp Tryz.prog a w K Q := by
  unfold Oper.wp execOp
  simp only [ho, Sem.run_bind, List.map_toArray, List.map_cons, List.map_nil, hx, buildWr y hl w, Result.andThen_ok]
  exact h
/-- A write appended to a slice of writes: the operation. -/
theorem wp_appendWr {o : Oper} {a : Act} {w : World} {K : Act → World → Prop} {Q : Exit → Act → World → Prop} (s x : Operand) (ho : o.op = .call { callee := .builtin .append, args := #[s, x], argTypes := #[60, 60] }) (v : Value) (l : List (Nat × List Nat)) (hs : a.eval s = v)
    (hp : w.ownsRow 0 173 257 v l.length (flatW l)) (_hok : ∀ x ∈ l, Is x.2) (ad : Addr) (y : Nat × List Nat) (hx : a.eval x = .slice (some ad) 1 1) (hy : Is y.2) (hnews : ∀ j u, (wrV y)[j]? = some u → w.cell? (ad.add j) = some u) (hlen : l.length < 100000)
    (h : ∀ p1 c1 w', w'.ownsRow 0 173 257 (.slice p1 (l.length + 1) c1) (l.length + 1) (flatW (l ++ [y])) → w.grownBy w' v.ownBlock → ((Value.slice p1 (l.length + 1) c1).ownBlock = v.ownBlock ∨ (Value.slice p1 (l.length + 1) c1).ownBlock = some w.heap.size) → K (a.put o.dst (.slice p1 (l.length + 1) c1)) w') : o.wp Tryz.prog a w K Q := by
  obtain ⟨i0, hi, hz0, hz1, hz2⟩ := info_parts infoWr
  obtain ⟨v', w', hr, h2, h3, _, h5⟩ := run_append_own_at (P := Tryz.prog) w 0 60 o.type 173 i0 _ 257 264 Tryz.underlying60 hi hz0 hz1 hz2 (by rw [Value.cells, List.size_toArray, wrV_length z256_length]) (by decide) v l.length (flatW l) hp ad 1 1 (wrV y) (by rw [wrV_length hy.1]) hnews (wrV_one _) (by unfold maxLen; omega) (by omega) (Nat.zero_le _)
  obtain ⟨p1, c1, rfl⟩ := owns_slice h2
  unfold Oper.wp execOp
  simp only [ho, resolve, invoke, builtin, Sem.run_bind, Sem.run_pure, Result.andThen_ok, List.map_toArray, List.map_cons, List.map_nil, hs, hx, hr]
  exact h p1 c1 w' (by rw [flatW_snoc]; exact h2) h3 h5
theorem wrV_data {k : Nat} {xs : List Nat} (hl : xs.length = 256) : ((wrV (k, xs)).drop 1).take 256 = vals xs := by
  rw [wrV, List.drop_succ_cons, List.drop_zero, List.take_of_length_le (by rw [vals_length, hl]; exact Nat.le_refl _)]
/-- A sector is written. -/
theorem DiskIn.sector {w w' : World} {d sb : Nat} {lv : Value} {s : DS} (h : DiskIn w d sb lv s) {k : Nat} {xs : List Nat} {u : Bool} (hk : k < s.secs.length) (hl : Is xs) (hb : Blk w' sb 102 ((flatS s.secs ++ s.sp).take (k * 257) ++ secV (xs, u) ++ (flatS s.secs ++ s.sp).drop (k * 257 + (secV (xs, u)).length))) (ht : Turned w w' sb) :
    DAfter w w' d sb lv lv { s with secs := s.secs.set k (xs, u) } := by
  have e : (flatS s.secs ++ s.sp).take (k * 257) ++ secV (xs, u) ++ (flatS s.secs ++ s.sp).drop (k * 257 + (secV (xs, u)).length) = flatS (s.secs.set k (xs, u)) ++ s.sp := by
    have hfl := flatS_length h.okS
    have hfs : (flatS s.secs).take (k * 257) ++ secV (xs, u) ++ (flatS s.secs).drop (k * 257 + 257) = flatS (s.secs.set k (xs, u)) := flat_set secV 257 s.secs (fun y hy => secV_length (h.okS y hy).1) k (xs, u) hk
    rw [secV_length hl.1, List.take_append_of_le_length (by omega), List.drop_append_of_le_length (by omega), ← List.append_assoc, hfs]
  rw [e] at hb
  have hr := h.ram.turned ht h.nds
  refine ⟨⟨?_, hb, owns_same h.log (fun j hj => ht.block j (h.ndl hj).2), fun x hx => ?_, h.okL, ?_, ?_, h.ll, h.lw, ?_, h.le⟩, Keep.of_turned ht (.inr (.inl rfl)), fun j hj => .inl hj⟩
  · rw [ramV] at hr ⊢
    simpa using hr
  · rcases List.mem_or_eq_of_mem_set hx with h' | h'
    · exact h.okS x h'
    · rw [h']; exact hl
  · simpa using h.n1
  · simpa using h.n2
  · simpa using h.capn
/-- What a call did behind an alloc of its own. -/
theorem DAfter.drop {w w2 w' : World} {d sb : Nat} {lv lv' : Value} {s' : DS} (h : DAfter w2 w' d sb lv lv' s') (hb : Below w.heap.size w w2) : DAfter w w' d sb lv lv' s' :=
  ⟨h.disk, (Keep.of_below (S := fpD d sb lv) hb).trans h.keep (fun _ _ e => e), fun k hk => (h.fr k hk).elim .inl (fun e => .inr (Nat.le_trans hb.size e))⟩
/-- A write is kept in mind: the log's row has grown, and the disk's cell is to be turned. -/
theorem DiskIn.logged {w wa w1 : World} {d sb : Nat} {lv : Value} {s : DS} (h : DiskIn w d sb lv s) (x : Nat × List Nat) (hx : Is x.2) (ha : Below w.heap.size w wa) {p1 : Option Addr} {c1 : Nat} (hg : wa.grownBy w1 lv.ownBlock)
    (hp : w1.ownsRow 0 173 257 (.slice p1 (s.log.length + 1) c1) (s.log.length + 1) (flatW (s.log ++ [x]))) (hat : (Value.slice p1 (s.log.length + 1) c1).ownBlock = lv.ownBlock ∨ (Value.slice p1 (s.log.length + 1) c1).ownBlock = some wa.heap.size) (hw : s.writes < 1024) :
    w1.cell? ⟨d, 4, none⟩ = some lv ∧ Blk w1 d 62 (ramV sb lv s) ∧ ∀ v, v = .int .i64 ((s.writes + 1 : Nat) : Int) → DAfter w ((w1.setCell ⟨d, 4, none⟩ (.slice p1 (s.log.length + 1) c1)).setCell ⟨d, 3, none⟩ v) d sb lv (.slice p1 (s.log.length + 1) c1) { s with log := s.log ++ [x], writes := s.writes + 1 } := by
  have hr : Blk w1 d 62 (ramV sb lv s) := (h.ram.kept ha).grown hg (fun e => (h.ndl e.symm).1 rfl)
  have hq : Blk w1 sb 102 (flatS s.secs ++ s.sp) := (h.row.kept ha).grown hg (fun e => (h.ndl e.symm).2 rfl)
  have hd := h.ram.lt
  have hne : ∀ k, (Value.slice p1 (s.log.length + 1) c1).ownBlock = some k → k ≠ d := by
    intro k hk
    rcases hat with e | e
    · exact (h.ndl (e ▸ hk)).1
    · rw [hk] at e; cases e; have := ha.size; omega
  refine ⟨hr.cell' rfl, hr, fun v hv => ?_⟩
  subst hv
  have k1 : Keep (fpD d sb lv) w w1 := (Keep.of_below (S := fpD d sb lv) ha).trans (Keep.of_grown (S := fpD d sb lv) hg (fun k e _ => .inr (.inr e))) (fun j _ e => e)
  have k2 := k1.trans (Keep.of_turned (S := fpD d sb lv) (Turned.setCell w1 ⟨d, 4, none⟩ (.slice p1 (s.log.length + 1) c1)) (.inl rfl)) (fun j _ e => e)
  have k3 := k2.trans (Keep.of_turned (S := fpD d sb lv) (Turned.setCell _ ⟨d, 3, none⟩ (.int .i64 ((s.writes + 1 : Nat) : Int))) (.inl rfl)) (fun j _ e => e)
  refine ⟨⟨(hr.set 4 _).set 3 _, (hq.setOther _ _ (fun e => h.nds e.symm)).setOther _ _ (fun e => h.nds e.symm), ?_, h.okS, fun y hy => ?_, h.n1, h.n2, ?_, ?_, h.capn, h.le⟩, k3, fun k hk => ?_⟩
  · have hp' : w1.ownsRow 0 173 257 (.slice p1 (s.log.length + 1) c1) (s.log ++ [x]).length (flatW (s.log ++ [x])) := by rw [List.length_append]; exact hp
    exact owns_same (owns_same hp' (fun k hk => heap_setCell_other _ _ _ _ (hne k hk))) (fun k hk => heap_setCell_other _ _ _ _ (hne k hk))
  · rcases List.mem_append.1 hy with h' | h'
    · exact h.okL y h'
    · rw [List.mem_singleton.1 h']; exact hx
  · show (s.log ++ [x]).length = s.writes + 1
    rw [List.length_append, h.ll]; rfl
  · show s.writes + 1 ≤ 1024
    omega
  · rcases hat with e | e
    · exact .inl (e ▸ hk)
    · rw [hk] at e; cases e; exact .inr ha.size
/-- The disk behind a write of a sector. -/
def putS (s : DS) (k : Nat) (xs : List Nat) : DS := { s with secs := s.secs.set k (xs, false), log := s.log ++ [(k, xs)], writes := s.writes + 1 }
/-- The bytes of a new write, laid by copy. -/
theorem copy_wr {w : World} {g k : Nat} {xs : List Nat} {p : Option Addr} {c : Nat} (hg : Blk w g 173 (wrV (k, z256))) (hx : In w p 256 c xs) :
    ∃ w', (Builtin.copy_ #[52, 52] 3 #[.slice (some ⟨g, 1, none⟩) 256 256, .slice p 256 c]).run Tryz.prog w = .ok (.int .i64 256) w' ∧ Blk w' g 173 (wrV (k, xs)) ∧ Turned w w' g := by
  obtain ⟨b, o, rfl, _, hc⟩ := hx.at' (by omega)
  have hl : (vals xs).length = 256 := by rw [vals_length, hx.len]
  have hrun := run_copy_row (P := Tryz.prog) w 52 52 3 5 g 1 256 256 ⟨b, o, none⟩ 256 c (wrV (k, z256)).toArray 173 (vals xs) Tryz.underlying52 size5 hg
    (by rw [hl]; rfl) (fun i v hi => hx.cells rfl i v hi) (by rw [hl, List.size_toArray, wrV_length z256_length]; omega) (vals_one _)
  rw [hl, List.toList_toArray] at hrun
  have e : (wrV (k, z256)).take 1 ++ vals xs ++ (wrV (k, z256)).drop (1 + 256) = wrV (k, xs) := by
    rw [List.drop_of_length_le (by rw [wrV_length z256_length]; omega), List.append_nil]
    rfl
  rw [e] at hrun
  exact ⟨_, hrun, hg.setRow _, Turned.setRow _ _ _⟩
set_option linter.unusedSimpArgs false in
set_option maxRecDepth 100000 in
set_option maxHeartbeats 2000000 in
theorem put_any {w : World} {d sb : Nat} {lv : Value} {s : DS} (hD : DiskIn w d sb lv s) (k : Nat) (hk : k < s.secs.length) (p : Option Addr) (c : Nat) (xs : List Nat) (hx : In w p 256 c xs) (hw1 : s.writes < 1024) :
    Calls Tryz.prog 149 #[.pointer (some ⟨d, 0, none⟩), .int .i64 (k : Int), .slice p 256 c] w fun e w' => (∃ u, e = .returned u) ∧ ∃ lv', DAfter w w' d sb lv lv' (putS s k xs) := by
  have hl : xs.length = 256 := hx.len
  have hz : ∀ W, (zeroValue 173).run Tryz.prog W = .ok (.agg (wrV (0, z256)).toArray) W := fun W => (zero_of_info (P := Tryz.prog) (t := 173) (v := .agg (wrV (0, z256)).toArray) (n := 257) (by kernel_rfl)).1 W
  have hbw := build_wr k
  have hsl := slice_arr w.heap.size 1
  have hb0 := below_alloc w (.cells (wrV (0, z256)).toArray 173)
  have g0 := Blk.new w 173 (wrV (0, z256))
  have hk8 : (k : Int) ≤ 8192 := by have := hD.n2; omega
  go_enter Tryz.func149, Tryz.ntmps149
  go_wp2_with (refine wpList_store_blk rfl 173 _ _ rfl _ _ (wrV (k, z256)) rfl rfl g0 (by rw [wrV_length z256_length, wrV_length z256_length]; exact Nat.le_refl _) (by rw [wrV_length z256_length]; kernel_rfl) (wrV_one _) ?_; intro w1 h1 t1; rw [whole_row (by rw [wrV_length z256_length, wrV_length z256_length])] at h1; have hB1 := t1.below hb0 (Nat.le_refl _); obtain ⟨w2, hcp, g2, t2⟩ := copy_wr h1 (hx.below hB1))
  have hB2 := t2.below hB1 (Nat.le_refl _)
  have hD2 := hD.below hB2
  clear hcp hB1 h1 t1 t2 hb0 g0 hz hbw hsl
  refine wp_region_noPanic ?_
  refine wp_region_held_drew (S := fun w' => w'.cell? ⟨d, 0, none⟩ = some (.slice (some ⟨sb, 0, none⟩) s.secs.length s.cap) ∧ Blk w' w.heap.size 173 (wrV (k, xs))) (by kernel_rfl) ⟨hD2.c0, g2⟩ (fun hHeld => ?_)
  refine wpAnyH_take (i := 0) (v := ?_) rfl (by kernel_rfl) (by kernel_rfl) (by kernel_rfl) (fun _ _ _ h => h) (Or.inl ⟨by rfl, ?_⟩) hHeld ?_
  rotate_left
  · intro w' hSw; try dsimp only at hSw
    go_simp; try (with_reducible rfl)
  try simp only [Act.put, List.getElem_toArray, List.getElem_cons_succ, List.getElem_cons_zero, List.setIfInBounds_toArray, List.set_cons_zero, List.set_cons_succ]
  refine wpAnyH_take (i := 1) (v := ?_) rfl (by kernel_rfl) (by kernel_rfl) (by kernel_rfl) (fun _ _ _ h => h) (Or.inl ⟨by rfl, ?_⟩) hHeld ?_
  rotate_left
  · intro w' hSw; try dsimp only at hSw
    go_simp; try (with_reducible rfl)
  try simp only [Act.put, List.getElem_toArray, List.getElem_cons_succ, List.getElem_cons_zero, List.setIfInBounds_toArray, List.set_cons_zero, List.set_cons_succ]
  refine wpAnyH_take (i := 2) (v := ?_) rfl (by kernel_rfl) (by kernel_rfl) (by kernel_rfl) (fun _ _ _ h => h) (Or.inl ⟨by rfl, ?_⟩) hHeld ?_
  rotate_left
  · intro w' hSw; try dsimp only at hSw
    go_simp; try (with_reducible rfl)
  try simp only [Act.put, List.getElem_toArray, List.getElem_cons_succ, List.getElem_cons_zero, List.setIfInBounds_toArray, List.set_cons_zero, List.set_cons_succ]
  refine wpAnyH_take (i := 3) (v := ?_) rfl (by kernel_rfl) (by kernel_rfl) (by kernel_rfl) (fun _ _ _ h => h) (Or.inl ⟨by rfl, ?_⟩) hHeld ?_
  rotate_left
  · intro w' hSw; try dsimp only at hSw
    have h0 := hSw.1
    go_simp; try (with_reducible rfl)
  try simp only [Act.put, List.getElem_toArray, List.getElem_cons_succ, List.getElem_cons_zero, List.setIfInBounds_toArray, List.set_cons_zero, List.set_cons_succ]
  refine wpAnyH_take (i := 4) (v := ?_) rfl (by kernel_rfl) (by kernel_rfl) (by kernel_rfl) (fun _ _ _ h => h) (Or.inl ⟨by rfl, ?_⟩) hHeld ?_
  rotate_left
  · intro w' hSw; try dsimp only at hSw
    go_simp; try (with_reducible rfl)
  try simp only [Act.put, List.getElem_toArray, List.getElem_cons_succ, List.getElem_cons_zero, List.setIfInBounds_toArray, List.set_cons_zero, List.set_cons_succ]
  refine wpAnyH_take (i := 5) (v := ?_) rfl (by kernel_rfl) (by kernel_rfl) (by kernel_rfl) (fun _ _ _ h => h) (Or.inl ⟨by rfl, ?_⟩) hHeld ?_
  rotate_left
  · intro w' hSw; try dsimp only at hSw
    go_simp; try (with_reducible rfl)
  try simp only [Act.put, List.getElem_toArray, List.getElem_cons_succ, List.getElem_cons_zero, List.setIfInBounds_toArray, List.set_cons_zero, List.set_cons_succ]
  refine wpAnyH_take (i := 6) (v := .agg (vals xs).toArray) rfl (by kernel_rfl) (by kernel_rfl) (by kernel_rfl) (fun _ _ _ h => h) (yieldsIf_load_mid (by rfl) _ _ rfl (w.heap.size) 1 rfl (vals xs) _ (fun w' hSw => hSw.2.range 1 256 _ (wrV_data hl)) Tryz.underlying100 rfl (by rw [vals_length, hl]; kernel_rfl)) hHeld ?_
  try simp only [Act.put, List.getElem_toArray, List.getElem_cons_succ, List.getElem_cons_zero, List.setIfInBounds_toArray, List.set_cons_zero, List.set_cons_succ]
  refine wpAnyH_take (i := 7) (v := .agg (secV (xs, false)).toArray) rfl (by kernel_rfl) (by kernel_rfl) (by kernel_rfl) (fun _ _ _ h => h) (Or.inl ⟨by rfl, fun w' _ => exec_build (.tmp 19) rfl rfl (build_sec xs hl w')⟩) hHeld ?_
  try simp only [Act.put, List.getElem_toArray, List.getElem_cons_succ, List.getElem_cons_zero, List.setIfInBounds_toArray, List.set_cons_zero, List.set_cons_succ]
  refine wpAnyH_take (i := 8) (v := ?_) rfl (by kernel_rfl) (by kernel_rfl) (by kernel_rfl) (fun _ _ _ h => h) (Or.inl ⟨by rfl, ?_⟩) hHeld ?_
  rotate_left
  · intro w' hSw; try dsimp only at hSw
    go_simp; try (with_reducible rfl)
  try simp only [Act.put, List.getElem_toArray, List.getElem_cons_succ, List.getElem_cons_zero, List.setIfInBounds_toArray, List.set_cons_zero, List.set_cons_succ]
  refine wpAnyH_ready (rs := [9]) (by kernel_rfl) (by simp) ?_
  refine AllReadyH.cons rfl (fun K hK => ?_) AllReadyH.nil
  rw [if_pos (by rfl)]
  refine wp_store_blk 102 (.tmp 21) (.tmp 20) rfl sb (k * 257) (secV (xs, false)) (by kernel_rfl) rfl hD2.row.drew (by rw [secV_length hl, List.length_append, flatS_length hD.okS]; omega) (by rw [secV_length hl]; kernel_rfl) (secV_one _) ?_
  intro w3 h3 t3
  refine hK.out _ _ ⟨(t3.cell (by exact hD.nds)).trans hD2.c0, g2.drew.turned t3 (by exact (Nat.ne_of_lt (hD.lt (.inr (.inl rfl)))).symm)⟩ (fun hHeld => ?_)
  clear hK K
  try simp only [Act.put, List.getElem_toArray, List.getElem_cons_succ, List.getElem_cons_zero, List.setIfInBounds_toArray, List.set_cons_zero, List.set_cons_succ]
  refine wpAnyH_done (by kernel_rfl) ?_ _
  refine NoPanic.normal ?_
  have A3 := DiskIn.sector (w := w2.drew) (hD2.below ((Below.refl _ _).drew)) hk ⟨hl, hx.byte⟩ h3 t3
  have D3 := A3.disk
  have g3 := hHeld.2
  clear h3 t3 g2 hHeld
  obtain ⟨q, cq, rfl⟩ := owns_slice hD.log
  have c4 := D3.c4
  have hlog : (s.log.length : Int) < 1024 := by have := hD.ll; omega
  have hld := D3.ram.lt
  go_wp2_with fail
  refine wp_region_noPanic ?_
  refine wp_region_held_drew (S := fun w' => Blk w' w.heap.size 173 (wrV (k, xs))) (by kernel_rfl) g3.drew (fun hHeld => ?_)
  refine wpAnyH_take (i := 0) (v := ?_) rfl (by kernel_rfl) (by kernel_rfl) (by kernel_rfl) (fun _ _ _ h => h) (Or.inl ⟨by rfl, ?_⟩) hHeld ?_
  rotate_left
  · intro w' hSw; try dsimp only at hSw
    go_simp; try (with_reducible rfl)
  try simp only [Act.put, List.getElem_toArray, List.getElem_cons_succ, List.getElem_cons_zero, List.setIfInBounds_toArray, List.set_cons_zero, List.set_cons_succ]
  refine wpAnyH_take (i := 1) (v := ?_) rfl (by kernel_rfl) (by kernel_rfl) (by kernel_rfl) (fun _ _ _ h => h) (Or.inl ⟨by rfl, ?_⟩) hHeld ?_
  rotate_left
  · intro w' hSw; try dsimp only at hSw
    go_simp; try (with_reducible rfl)
  try simp only [Act.put, List.getElem_toArray, List.getElem_cons_succ, List.getElem_cons_zero, List.setIfInBounds_toArray, List.set_cons_zero, List.set_cons_succ]
  refine wpAnyH_take (i := 2) (v := ?_) rfl (by kernel_rfl) (by kernel_rfl) (by kernel_rfl) (fun _ _ _ h => h) (Or.inl ⟨by rfl, ?_⟩) hHeld ?_
  rotate_left
  · intro w' hSw; try dsimp only at hSw
    go_simp; try (with_reducible rfl)
  try simp only [Act.put, List.getElem_toArray, List.getElem_cons_succ, List.getElem_cons_zero, List.setIfInBounds_toArray, List.set_cons_zero, List.set_cons_succ]
  refine wpAnyH_take (i := 3) (v := ?_) rfl (by kernel_rfl) (by kernel_rfl) (by kernel_rfl) (fun _ _ _ h => h) (Or.inl ⟨by rfl, ?_⟩) hHeld ?_
  rotate_left
  · intro w' hSw; try dsimp only at hSw
    go_simp; try (with_reducible rfl)
  try simp only [Act.put, List.getElem_toArray, List.getElem_cons_succ, List.getElem_cons_zero, List.setIfInBounds_toArray, List.set_cons_zero, List.set_cons_succ]
  refine wpAnyH_take (i := 5) (v := .agg (wrV (k, xs)).toArray) rfl (by kernel_rfl) (by kernel_rfl) (by kernel_rfl) (fun _ _ _ h => h) (yieldsIf_load_mid (by rfl) _ _ rfl (w.heap.size) 0 rfl (wrV (k, xs)) _ (fun w' hSw => hSw.range 0 257 _ (by rw [List.drop_zero, List.take_of_length_le (by rw [wrV_length hl]; exact Nat.le_refl _)])) Tryz.underlying173 rfl (by rw [wrV_length hl]; kernel_rfl)) hHeld ?_
  try simp only [Act.put, List.getElem_toArray, List.getElem_cons_succ, List.getElem_cons_zero, List.setIfInBounds_toArray, List.set_cons_zero, List.set_cons_succ]
  refine wpAnyH_ready (rs := [4, 6]) (by kernel_rfl) (by simp) ?_
  refine AllReadyH.cons rfl (fun K hK => ?_) ?_
  · go_simp
    refine hK.out _ _ g3.drew (fun hHeld => ?_)
    clear hK K
    try simp only [Act.put, List.getElem_toArray, List.getElem_cons_succ, List.getElem_cons_zero, List.setIfInBounds_toArray, List.set_cons_zero, List.set_cons_succ]
    refine wpAnyH_ready (rs := [6]) (by kernel_rfl) (by simp) ?_
    refine AllReadyH.cons rfl (fun K hK => ?_) AllReadyH.nil
    rw [if_pos (by rfl)]
    refine wp_buildWr (.tmp 33) rfl (k, xs) rfl hl ?_
    refine hK.out _ _ (g3.drew.alloc _) (fun hHeld => ?_)
    clear hK K
    try simp only [Act.put, List.getElem_toArray, List.getElem_cons_succ, List.getElem_cons_zero, List.setIfInBounds_toArray, List.set_cons_zero, List.set_cons_succ]
    refine wpAnyH_ready (rs := [7]) (by kernel_rfl) (by simp) ?_
    refine AllReadyH.cons rfl (fun K hK => ?_) AllReadyH.nil
    rw [if_pos (by rfl)]
    refine wp_appendWr (.tmp 32) (.tmp 34) rfl (.slice q s.log.length cq) s.log rfl (owns_below D3.log ((Below.refl _ w3).drew.alloc (by exact Nat.le_refl _) _)) hD.okL ⟨w3.heap.size, 0, none⟩ (k, xs) rfl ⟨hl, hx.byte⟩ (newRange _) (by omega) ?_
    intro p1 c1 w4 hp1 hg1 hat1
    have R4 := D3.logged (k, xs) ⟨hl, hx.byte⟩ ((Below.refl _ w3).drew.alloc (by exact Nat.le_refl _) _) hg1 hp1 hat1 hw1
    have g4 : Blk w4 w.heap.size 173 (wrV (k, xs)) := (g3.kept ((Below.refl _ w3).drew.alloc (by exact Nat.le_refl _) _)).grown hg1 (fun e => by have := hD.lt (.inr (.inr e.symm)); omega)
    have hc4 := R4.1
    have hf4 := R4.2.1.frozen 4
    refine hK.out _ _ g4 (fun hHeld => ?_)
    clear hK K
    try simp only [Act.put, List.getElem_toArray, List.getElem_cons_succ, List.getElem_cons_zero, List.setIfInBounds_toArray, List.set_cons_zero, List.set_cons_succ]
    refine wpAnyH_take (i := 8) (v := ?_) rfl (by kernel_rfl) (by kernel_rfl) (by kernel_rfl) (fun _ _ _ h => h) (Or.inl ⟨by rfl, ?_⟩) hHeld ?_
    rotate_left
    · intro w' hSw; try dsimp only at hSw
      go_simp; try (with_reducible rfl)
    try simp only [Act.put, List.getElem_toArray, List.getElem_cons_succ, List.getElem_cons_zero, List.setIfInBounds_toArray, List.set_cons_zero, List.set_cons_succ]
    refine wpAnyH_take (i := 9) (v := ?_) rfl (by kernel_rfl) (by kernel_rfl) (by kernel_rfl) (fun _ _ _ h => h) (Or.inl ⟨by rfl, ?_⟩) hHeld ?_
    rotate_left
    · intro w' hSw; try dsimp only at hSw
      go_simp; try (with_reducible rfl)
    try simp only [Act.put, List.getElem_toArray, List.getElem_cons_succ, List.getElem_cons_zero, List.setIfInBounds_toArray, List.set_cons_zero, List.set_cons_succ]
    refine wpAnyH_ready (rs := [10]) (by kernel_rfl) (by simp) ?_
    refine AllReadyH.cons rfl (fun K hK => ?_) AllReadyH.nil
    go_simp
    refine hK.out _ _ (g4.setOther _ _ (by exact (Nat.ne_of_lt (hD.lt (.inl rfl))).symm)) (fun hHeld => ?_)
    clear hK K
    try simp only [Act.put, List.getElem_toArray, List.getElem_cons_succ, List.getElem_cons_zero, List.setIfInBounds_toArray, List.set_cons_zero, List.set_cons_succ]
    refine wpAnyH_done (by kernel_rfl) ?_ _
    refine NoPanic.normal ?_
    have c5 := (R4.2.1.set 4 (.slice p1 (s.log.length + 1) c1)).cell' (i := 3) (v := .int .i64 (s.writes : Int)) rfl
    have f5 := (R4.2.1.set 4 (.slice p1 (s.log.length + 1) c1)).frozen 3
    clear hc4 hf4 hp1 hg1 hat1
    have hbw : (s.writes : Int) < 1024 := by omega
    go_wp2_with fail
    go_end0
    exact ⟨⟨_, rfl⟩, _, (A3.drop hB2.drew).trans (R4.2.2 _ (val_int (by omega)))⟩
  refine AllReadyH.cons rfl (fun K hK => ?_) AllReadyH.nil
  rw [if_pos (by rfl)]
  refine wp_buildWr (.tmp 33) rfl (k, xs) rfl hl ?_
  refine hK.out _ _ (g3.drew.alloc _) (fun hHeld => ?_)
  clear hK K
  try simp only [Act.put, List.getElem_toArray, List.getElem_cons_succ, List.getElem_cons_zero, List.setIfInBounds_toArray, List.set_cons_zero, List.set_cons_succ]
  refine wpAnyH_ready (rs := [4]) (by kernel_rfl) (by simp) ?_
  refine AllReadyH.cons rfl (fun K hK => ?_) AllReadyH.nil
  have c4b := (World.cell?_alloc_lt w3.drew (.cells (wrV (k, xs)).toArray 173) ⟨d, 4, none⟩ hld).trans c4
  go_simp
  refine hK.out _ _ (g3.drew.alloc _) (fun hHeld => ?_)
  clear hK K
  try simp only [Act.put, List.getElem_toArray, List.getElem_cons_succ, List.getElem_cons_zero, List.setIfInBounds_toArray, List.set_cons_zero, List.set_cons_succ]
  refine wpAnyH_ready (rs := [7]) (by kernel_rfl) (by simp) ?_
  refine AllReadyH.cons rfl (fun K hK => ?_) AllReadyH.nil
  rw [if_pos (by rfl)]
  refine wp_appendWr (.tmp 32) (.tmp 34) rfl (.slice q s.log.length cq) s.log rfl (owns_below D3.log ((Below.refl _ w3).drew.alloc (by exact Nat.le_refl _) _)) hD.okL ⟨w3.heap.size, 0, none⟩ (k, xs) rfl ⟨hl, hx.byte⟩ (newRange _) (by omega) ?_
  intro p1 c1 w4 hp1 hg1 hat1
  have R4 := D3.logged (k, xs) ⟨hl, hx.byte⟩ ((Below.refl _ w3).drew.alloc (by exact Nat.le_refl _) _) hg1 hp1 hat1 hw1
  have g4 : Blk w4 w.heap.size 173 (wrV (k, xs)) := (g3.kept ((Below.refl _ w3).drew.alloc (by exact Nat.le_refl _) _)).grown hg1 (fun e => by have := hD.lt (.inr (.inr e.symm)); omega)
  have hc4 := R4.1
  have hf4 := R4.2.1.frozen 4
  refine hK.out _ _ g4 (fun hHeld => ?_)
  clear hK K
  try simp only [Act.put, List.getElem_toArray, List.getElem_cons_succ, List.getElem_cons_zero, List.setIfInBounds_toArray, List.set_cons_zero, List.set_cons_succ]
  refine wpAnyH_take (i := 8) (v := ?_) rfl (by kernel_rfl) (by kernel_rfl) (by kernel_rfl) (fun _ _ _ h => h) (Or.inl ⟨by rfl, ?_⟩) hHeld ?_
  rotate_left
  · intro w' hSw; try dsimp only at hSw
    go_simp; try (with_reducible rfl)
  try simp only [Act.put, List.getElem_toArray, List.getElem_cons_succ, List.getElem_cons_zero, List.setIfInBounds_toArray, List.set_cons_zero, List.set_cons_succ]
  refine wpAnyH_take (i := 9) (v := ?_) rfl (by kernel_rfl) (by kernel_rfl) (by kernel_rfl) (fun _ _ _ h => h) (Or.inl ⟨by rfl, ?_⟩) hHeld ?_
  rotate_left
  · intro w' hSw; try dsimp only at hSw
    go_simp; try (with_reducible rfl)
  try simp only [Act.put, List.getElem_toArray, List.getElem_cons_succ, List.getElem_cons_zero, List.setIfInBounds_toArray, List.set_cons_zero, List.set_cons_succ]
  refine wpAnyH_ready (rs := [10]) (by kernel_rfl) (by simp) ?_
  refine AllReadyH.cons rfl (fun K hK => ?_) AllReadyH.nil
  go_simp
  refine hK.out _ _ (g4.setOther _ _ (by exact (Nat.ne_of_lt (hD.lt (.inl rfl))).symm)) (fun hHeld => ?_)
  clear hK K
  try simp only [Act.put, List.getElem_toArray, List.getElem_cons_succ, List.getElem_cons_zero, List.setIfInBounds_toArray, List.set_cons_zero, List.set_cons_succ]
  refine wpAnyH_done (by kernel_rfl) ?_ _
  refine NoPanic.normal ?_
  have c5 := (R4.2.1.set 4 (.slice p1 (s.log.length + 1) c1)).cell' (i := 3) (v := .int .i64 (s.writes : Int)) rfl
  have f5 := (R4.2.1.set 4 (.slice p1 (s.log.length + 1) c1)).frozen 3
  clear hc4 hf4 hp1 hg1 hat1
  have hbw : (s.writes : Int) < 1024 := by omega
  go_wp2_with fail
  go_end0
  exact ⟨⟨_, rfl⟩, _, (A3.drop hB2.drew).trans (R4.2.2 _ (val_int (by omega)))⟩
end Go.Proofs.YtdmnddikcpfmfaaGreat

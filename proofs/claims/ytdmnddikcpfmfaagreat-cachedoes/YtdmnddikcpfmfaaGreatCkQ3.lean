/-
  What the reference's cache leaves as it was; its drop.
-/
import Derived.Test.YtdmnddikcpfmfaaGreatCkWriteP
namespace Go.Proofs.YtdmnddikcpfmfaaGreat
open Go.RowKit Go.Shelf
def fpQ (s : QS) (k : Nat) : Prop := k = s.q ∨ s.lv.ownBlock = some k ∨ fpR s.g s.V k
structure QAfter (w w' : World) (s s' : QS) : Prop where
  qin : QIn w' s'
  keep : Keep (fpQ s) w w'
  fr : ∀ k, fpQ s' k → fpQ s k ∨ w.heap.size ≤ k
  q : s'.q = s.q
  g : s'.g = s.g
  room : s'.room = s.room
theorem QIn.lt {w : World} {s : QS} (h : QIn w s) {k : Nat} (hk : fpQ s k) : k < w.heap.size := by
  rcases hk with rfl | hk | hk
  · exact h.blk.lt
  · exact (owns_row h.row hk).choose_spec.2
  · exact h.ref.lt hk
theorem QIn.same {w w' : World} {s : QS} (h : QIn w s) (hs : ∀ k, fpQ s k → w'.heap[k]? = w.heap[k]?) (h5 : ∀ (k : Nat) (cs : Array Value), w.heap[k]? = some (Obj.cells cs 5 (0, 0)) → w'.heap[k]? = w.heap[k]?) : QIn w' s := by
  have e5 : ∀ x ∈ s.L, ∀ a, x.p = some a → w'.heap[a.block]? = w.heap[a.block]? := fun x hx a ha => by
    obtain ⟨cs, hc⟩ := (h.dat x hx).2 a ha
    exact h5 _ _ hc
  exact ⟨h.blk.same (hs _ (.inl rfl)), owns_same h.row (fun k hk => hs k (.inr (.inl hk))), fun x hx => ⟨(h.dat x hx).1.same (fun a ha _ => e5 x hx a ha), (h.dat x hx).2.same (e5 x hx)⟩, h.ref.same (fun k hk => hs k (.inr (.inr hk))) h5, h.r2, h.len⟩
theorem QIn.below {w w' : World} {s : QS} (h : QIn w s) (hb : Below w.heap.size w w') : QIn w' s := h.same (fun k hk => hb.block k (h.lt hk)) (fun k _ hc => hb.block k (Array.getElem?_eq_some_iff.1 hc).1)
theorem QAfter.refl {w : World} {s : QS} (h : QIn w s) : QAfter w w s s := ⟨h, Keep.refl _ _, fun _ h => .inl h, rfl, rfl, rfl⟩
theorem QAfter.trans {w w' w'' : World} {s s' s'' : QS} (h : QAfter w w' s s') (k : QAfter w' w'' s' s'') : QAfter w w'' s s'' := by
  refine ⟨k.qin, h.keep.trans k.keep (fun j hj e => ?_), fun j hj => ?_, k.q.trans h.q, k.g.trans h.g, k.room.trans h.room⟩
  · rcases h.fr j e with e | e
    · exact e
    · omega
  · rcases k.fr j hj with e | e
    · exact h.fr j e
    · exact .inr (Nat.le_trans h.keep.size e)
theorem QAfter.drop {w w2 w' : World} {s s' : QS} (hb : Below w.heap.size w w2) (h : QAfter w2 w' s s') : QAfter w w' s s' :=
  ⟨h.qin, (Keep.of_below (S := fpQ s) hb).trans h.keep (fun _ _ e => e), fun k hk => (h.fr k hk).imp id (Nat.le_trans hb.size), h.q, h.g, h.room⟩
theorem QAfter.kept {w w' w2 : World} {s s' : QS} (h : QAfter w w' s s') (hb : Below w'.heap.size w' w2) : QAfter w w2 s s' :=
  ⟨h.qin.below hb, h.keep.trans (Keep.of_below (S := fpQ s) hb) (fun _ _ e => e), h.fr, h.q, h.g, h.room⟩
theorem QAfter.belowB {w w' : World} {s s' : QS} {B : Nat} (h : QAfter w w' s s') (hB : B ≤ w.heap.size) (hf : ∀ k, fpQ s k → B ≤ k) : Below B w w' := h.keep.below hB hf
theorem QAfter.fp {w w' : World} {s s' : QS} {B : Nat} (h : QAfter w w' s s') (hB : B ≤ w.heap.size) (hf : ∀ k, fpQ s k → B ≤ k) : ∀ k, fpQ s' k → B ≤ k := by
  intro k hk
  rcases h.fr k hk with e | e
  · exact hf k e
  · omega
theorem ref_ne {w : World} {r : Nat} {V : RV} {t : RS} (h : RefIn w r V t) {g : Nat} {cs : List Value} (hb : Blk w g 77 cs) {k : Nat} (hk : fpR r V k) : k ≠ g := by
  rcases hk with rfl | hk | hk | hk
  · exact blk_ne h.blk hb (by decide)
  · exact owns_ne h.srow hk hb (by decide)
  · exact owns_ne h.brow hk hb (by decide)
  · exact owns_ne h.wrow hk hb (by decide)
theorem QIn.relist {w w2 : World} {s : QS} (h : QIn w s) (hk : Keep (fpQ s) w w2) (hb : Blk w2 s.q 77 [.pointer (some ⟨s.g, 0, none⟩), .int .i64 (s.room : Int), s.lv]) (href : RefIn w2 s.g s.V s.t) {lv' : Value} {L' : List QB} (hrow : w2.ownsRow 0 86 4 lv' L'.length (flatQ L')) (hdat : ∀ x ∈ L', In w2 x.p x.b.D.length x.cap x.b.D ∧ U8 w2 x.p) (hlen : L'.length ≤ s.room) (hfr : ∀ k, lv'.ownBlock = some k → s.lv.ownBlock = some k ∨ w.heap.size ≤ k) :
    QAfter w (w2.setCell ⟨s.q, 2, none⟩ lv') s { s with lv := lv', L := L' } := by
  have e5 : ∀ x ∈ L', ∀ a, x.p = some a → (w2.setCell ⟨s.q, 2, none⟩ lv').heap[a.block]? = w2.heap[a.block]? := fun x hx a ha => heap_setCell_other _ _ _ _ ((hdat x hx).2.ne ha hb (by decide))
  refine ⟨⟨hb.set 2 lv', owns_same hrow (fun k hk => heap_setCell_other _ _ _ _ (owns_ne hrow hk hb (by decide))), fun x hx => ⟨(hdat x hx).1.same (fun a ha _ => e5 x hx a ha), (hdat x hx).2.same (e5 x hx)⟩, href.same (fun k hk => heap_setCell_other _ _ _ _ (ref_ne href hb hk)) (fun k cs hc => heap_setCell_other _ _ _ _ ?_), h.r2, hlen⟩, hk.trans (Keep.of_turned (S := fpQ s) (Turned.setCell w2 ⟨s.q, 2, none⟩ lv') (.inl rfl)) (fun _ _ e => e), fun k hk => ?_, rfl, rfl, rfl⟩
  · rintro rfl
    rw [Blk, hc] at hb
    simp at hb
  · rcases hk with hk | hk | hk
    · exact .inl (.inl hk)
    · exact (hfr k hk).imp (fun e => .inr (.inl e)) id
    · exact .inl (.inr (.inr hk))
theorem infoRBuf : (Tryz.prog.info? 86).map (fun i => (i.zero, i.size, i.bytes)) = some (some (.agg #[.int .i64 0, .slice none 0 0, .int .i64 0, .int .i64 0]), 4, 48) := by kernel_rfl
theorem flatQ_append (l m : List QB) : flatQ (l ++ m) = flatQ l ++ flatQ m := by simp [flatQ]
theorem flatQ_one (l : List QB) : ∀ u ∈ flatQ l, u.oneCell' = true := by
  intro u hu
  obtain ⟨x, _, hx⟩ := List.mem_flatMap.1 hu
  simp only [qrow, List.mem_cons, List.not_mem_nil, or_false] at hx
  rcases hx with rfl | rfl | rfl | rfl <;> rfl
theorem wp_appendQ {o : Oper} {a : Act} {w : World} {K : Act → World → Prop} {Q : Exit → Act → World → Prop} (s x : Operand) (ho : o.op = .call { callee := .builtin .append, args := #[s, x], argTypes := #[75, 75] }) (v : Value) (n : Nat) (l : List QB) (hs : a.eval s = v)
    (hp : w.ownsRow 0 86 4 v n (flatQ l)) (ad : Addr) (m c : Nat) (l2 : List QB) (hx : a.eval x = .slice (some ad) m c) (hl : l2.length = m) (hnews : ∀ j u, (flatQ l2)[j]? = some u → w.cell? (ad.add j) = some u) (hlen : n + m ≤ 100000)
    (h : ∀ p1 c1 w', w'.ownsRow 0 86 4 (.slice p1 (n + m) c1) (n + m) (flatQ (l ++ l2)) → w.grownBy w' v.ownBlock → ((Value.slice p1 (n + m) c1).ownBlock = v.ownBlock ∨ (Value.slice p1 (n + m) c1).ownBlock = some w.heap.size) → K (a.put o.dst (.slice p1 (n + m) c1)) w') : o.wp Tryz.prog a w K Q := by
  obtain ⟨i0, hi, hz0, hz1, hz2⟩ := info_parts infoRBuf
  obtain ⟨v', w', hr, h2, h3, _, h5⟩ := run_append_own_at (P := Tryz.prog) w 0 75 o.type 86 i0 _ 4 48 Tryz.underlying75 hi hz0 hz1 hz2 rfl (by decide) v n (flatQ l) hp ad m c (flatQ l2) (by rw [flatQ_len, hl]) hnews (flatQ_one l2) (by unfold maxLen; omega) (by omega) (Nat.zero_le _)
  obtain ⟨p1, c1, rfl⟩ := owns_slice h2
  unfold Oper.wp execOp
  simp only [ho, resolve, invoke, builtin, Sem.run_bind, Sem.run_pure, Result.andThen_ok, List.map_toArray, List.map_cons, List.map_nil, hs, hx, hr]
  exact h p1 c1 w' (by rw [flatQ_append]; exact h2) h3 h5
theorem wp_appendQ0 {o : Oper} {a : Act} {w : World} {K : Act → World → Prop} {Q : Exit → Act → World → Prop} (s x : Operand) (ho : o.op = .call { callee := .builtin .append, args := #[s, x], argTypes := #[75, 75] }) (hs : a.eval s = .slice none 0 0)
    (ad : Addr) (m c : Nat) (l2 : List QB) (hx : a.eval x = .slice (some ad) m c) (hl : l2.length = m) (hnews : ∀ j u, (flatQ l2)[j]? = some u → w.cell? (ad.add j) = some u) (hlen : m ≤ 100000)
    (h : ∀ p1 c1 w', w'.ownsRow 0 86 4 (.slice p1 m c1) m (flatQ l2) → w.grownBy w' (Value.slice none 0 0).ownBlock → ((Value.slice p1 m c1).ownBlock = (Value.slice none 0 0).ownBlock ∨ (Value.slice p1 m c1).ownBlock = some w.heap.size) → K (a.put o.dst (.slice p1 m c1)) w') : o.wp Tryz.prog a w K Q := by
  refine wp_appendQ s x ho (.slice none 0 0) 0 [] hs (owns_nil _ _ _ _) ad m c l2 hx hl hnews (by omega) ?_
  rw [Nat.zero_add]
  exact h
theorem flatQ_get {l : List QB} {j : Nat} {u : Value} (h : (flatQ l)[j]? = some u) : ∃ i k x, j = i * 4 + k ∧ k < 4 ∧ l[i]? = some x ∧ (qrow x)[k]? = some u := by
  have hj : j < l.length * 4 := by
    rcases Nat.lt_or_ge j (l.length * 4) with h' | h'
    · exact h'
    · rw [List.getElem?_eq_none (by rw [flatQ_len]; exact h')] at h; cases h
  refine ⟨j / 4, j % 4, l[j / 4]'(by omega), by omega, by omega, List.getElem?_eq_getElem (by omega), ?_⟩
  rw [← flatQ_at l (j / 4) (j % 4) _ (List.getElem?_eq_getElem (by omega)) (by omega), ← h]
  congr 1
  omega
theorem QIn.dropped {w w1 w2 : World} {s : QS} (h : QIn w s) (hg1 : w.drew.grownBy w1 (Value.slice none 0 0).ownBlock) {v1 : Value} (hat1 : v1.ownBlock = (Value.slice none 0 0).ownBlock ∨ v1.ownBlock = some w.drew.heap.size) (hg2 : w1.grownBy w2 v1.ownBlock) {lv' : Value} {m : Nat} {L' : List QB} (hrow : w2.ownsRow 0 86 4 lv' m (flatQ L')) (hm : L'.length = m) (hsub : ∀ x ∈ L', x ∈ s.L) (hle : L'.length ≤ s.L.length) (hat2 : lv'.ownBlock = v1.ownBlock ∨ lv'.ownBlock = some w1.heap.size) :
    QAfter w (w2.setCell ⟨s.q, 2, none⟩ lv') s { s with lv := lv', L := L' } := by
  have hv1 : ∀ k, v1.ownBlock = some k → w.heap.size ≤ k := fun k hk => by
    rw [hk] at hat1
    rcases hat1 with e | e
    · simp [Value.ownBlock] at e
    · have e' : k = w.heap.size := Option.some.inj e
      omega
  have b1 : Below w.heap.size w w1 := ((Below.refl w.heap.size w).drew).grown hg1 (Nat.le_refl _) (fun k hk => by simp [Value.ownBlock] at hk)
  have b2 : Below w.heap.size w w2 := b1.grown hg2 b1.size hv1
  have h2 := h.below b2
  subst hm
  refine h.relist (Keep.of_below b2) h2.blk h2.ref hrow (fun x hx => h2.dat x (hsub x hx)) (Nat.le_trans hle h.len) (fun k hk => .inr ?_)
  rw [hk] at hat2
  rcases hat2 with e | e
  · exact hv1 k e.symm
  · have e' : k = w1.heap.size := Option.some.inj e
    have := b1.size
    omega
set_option linter.unusedSimpArgs false in
set_option maxHeartbeats 4000000 in
set_option maxRecDepth 100000 in
theorem qdrop_any {w : World} {s : QS} (h : QIn w s) {i : Nat} (hi : i < s.L.length) : Calls Tryz.prog 86 #[.pointer (some ⟨s.q, 0, none⟩), .int .i64 (i : Int)] w fun e w' => (∃ u, e = .returned u) ∧ ∃ lv', QAfter w w' s { s with lv := lv', L := s.L.take i ++ s.L.drop (i + 1) } := by
  obtain ⟨g, cap, hv, hgl, hcap⟩ := owns_at h.row (by omega)
  have h0 := h.blk
  have hr2 := h.r2
  have hlr := h.len
  rw [hv] at h0
  obtain ⟨n, HN⟩ : ∃ n, Hid (s.L.length = n) := ⟨_, rfl⟩
  obtain ⟨i1, HI⟩ : ∃ i1, Hid (i + 1 = i1) := ⟨_, rfl⟩
  have HV : Hid (s.lv = .slice (some ⟨g, 0, none⟩) s.L.length cap) := hv
  have HC1 : Hid (∀ j u, (flatQ (s.L.take i))[j]? = some u → w.drew.cell? ((⟨g, 0, none⟩ : Addr).add j) = some u) := by
    intro j u hj
    obtain ⟨a, b, x, rfl, hb, hx, hu⟩ := flatQ_get hj
    rw [addr_add, Nat.zero_add]
    refine h.cellAt hv (x := x) ?_ hb hu
    rw [List.getElem?_take] at hx
    split at hx
    · exact hx
    · cases hx
  have HC2 : ∀ w1 : World, w.drew.grownBy w1 none → ∀ j u, (flatQ (s.L.drop (i + 1)))[j]? = some u → w1.cell? ((⟨g, (i + 1) * 4, none⟩ : Addr).add j) = some u := by
    intro w1 hg1 j u hj
    obtain ⟨a, b, x, rfl, hb, hx, hu⟩ := flatQ_get hj
    rw [List.getElem?_drop] at hx
    have hc := h.cellAt hv (x := x) hx hb hu
    rw [addr_add]
    have he := World.cell?_of_block (a := ⟨g, (i + 1 + a) * 4 + b, none⟩) (hg1.block g hgl (by simp))
    rw [show (i + 1) * 4 + (a * 4 + b) = (i + 1 + a) * 4 + b from by omega]
    exact he.trans hc
  rw [HN.out] at h0 hi hlr hcap
  rw [HI.out] at HC2
  have hfr1 : ∀ v : Value, (v.ownBlock = (Value.slice none 0 0).ownBlock ∨ v.ownBlock = some w.drew.heap.size) → v.ownBlock = some s.q → False := fun v hv hq => by
    have := h.blk.lt
    rw [hq] at hv
    rcases hv with e | e
    · simp [Value.ownBlock] at e
    · have e' : s.q = w.heap.size := Option.some.inj e
      omega
  have hI := HI.out
  have hci : (i : Int) ≤ (cap : Int) := by omega
  have hwi : IntKind.i64.wrap ((i : Int) + 1) = (i1 : Int) := by rw [IntKind.wrap_i64]; omega
  have hi1 : (i1 : Int) ≤ (n : Int) := by omega
  clear hv
  by_cases hc : cap = i1
  · obtain rfl : n = i1 := by omega
    subst hc
    have HDN : Hid (s.L.drop cap = []) := List.drop_of_length_le (by rw [HN.out]; omega)
    clear hI
    go_enter Tryz.func86, Tryz.ntmps86
    refine wp_region_noPanic ?_
    refine wp_region_held_drew (S := fun _ => True) (by kernel_rfl) trivial (fun hHeld => ?_)
    refine wpAnyH_take (i := 0) (v := ?_) rfl (by kernel_rfl) (by kernel_rfl) (by kernel_rfl) (fun _ _ _ h => h) (Or.inl ⟨by kernel_rfl, ?_⟩) hHeld ?_
    rotate_left
    · intro w' hSw; try dsimp only at hSw
      go_simp; try (with_reducible rfl)
    try simp only [Act.put, List.getElem_toArray, List.getElem_cons_succ, List.getElem_cons_zero, List.setIfInBounds_toArray, List.set_cons_zero, List.set_cons_succ]
    refine wpAnyH_take (i := 1) (v := ?_) rfl (by kernel_rfl) (by kernel_rfl) (by kernel_rfl) (fun _ _ _ h => h) (Or.inl ⟨by kernel_rfl, ?_⟩) hHeld ?_
    rotate_left
    · intro w' hSw; try dsimp only at hSw
      go_simp; try (with_reducible rfl)
    try simp only [Act.put, List.getElem_toArray, List.getElem_cons_succ, List.getElem_cons_zero, List.setIfInBounds_toArray, List.set_cons_zero, List.set_cons_succ]
    refine wpAnyH_take (i := 2) (v := ?_) rfl (by kernel_rfl) (by kernel_rfl) (by kernel_rfl) (fun _ _ _ h => h) (Or.inl ⟨by kernel_rfl, ?_⟩) hHeld ?_
    rotate_left
    · intro w' hSw; try dsimp only at hSw
      go_simp; try (with_reducible rfl)
    try simp only [Act.put, List.getElem_toArray, List.getElem_cons_succ, List.getElem_cons_zero, List.setIfInBounds_toArray, List.set_cons_zero, List.set_cons_succ]
    refine wpAnyH_take (i := 3) (v := ?_) rfl (by kernel_rfl) (by kernel_rfl) (by kernel_rfl) (fun _ _ _ h => h) (Or.inl ⟨by kernel_rfl, ?_⟩) hHeld ?_
    rotate_left
    · intro w' hSw; try dsimp only at hSw
      go_simp; try (with_reducible rfl)
    try simp only [Act.put, List.getElem_toArray, List.getElem_cons_succ, List.getElem_cons_zero, List.setIfInBounds_toArray, List.set_cons_zero, List.set_cons_succ]
    refine wpAnyH_take (i := 5) (v := ?_) rfl (by kernel_rfl) (by kernel_rfl) (by kernel_rfl) (fun _ _ _ h => h) (Or.inl ⟨by kernel_rfl, ?_⟩) hHeld ?_
    rotate_left
    · intro w' hSw; try dsimp only at hSw
      go_simp; try (with_reducible rfl)
    try simp only [Act.put, List.getElem_toArray, List.getElem_cons_succ, List.getElem_cons_zero, List.setIfInBounds_toArray, List.set_cons_zero, List.set_cons_succ]
    refine wpAnyH_take (i := 8) (v := ?_) rfl (by kernel_rfl) (by kernel_rfl) (by kernel_rfl) (fun _ _ _ h => h) (Or.inl ⟨by kernel_rfl, ?_⟩) hHeld ?_
    rotate_left
    · intro w' hSw; try dsimp only at hSw
      go_simp; try (with_reducible rfl)
    try simp only [Act.put, List.getElem_toArray, List.getElem_cons_succ, List.getElem_cons_zero, List.setIfInBounds_toArray, List.set_cons_zero, List.set_cons_succ]
    refine wpAnyH_take (i := 9) (v := ?_) rfl (by kernel_rfl) (by kernel_rfl) (by kernel_rfl) (fun _ _ _ h => h) (Or.inl ⟨by kernel_rfl, ?_⟩) hHeld ?_
    rotate_left
    · intro w' hSw; try dsimp only at hSw
      go_simp; try (with_reducible rfl)
    try simp only [Act.put, List.getElem_toArray, List.getElem_cons_succ, List.getElem_cons_zero, List.setIfInBounds_toArray, List.set_cons_zero, List.set_cons_succ]
    refine wpAnyH_take (i := 10) (v := ?_) rfl (by kernel_rfl) (by kernel_rfl) (by kernel_rfl) (fun _ _ _ h => h) (Or.inl ⟨by kernel_rfl, ?_⟩) hHeld ?_
    rotate_left
    · intro w' hSw; try dsimp only at hSw
      go_simp; try (with_reducible rfl)
    try simp only [Act.put, List.getElem_toArray, List.getElem_cons_succ, List.getElem_cons_zero, List.setIfInBounds_toArray, List.set_cons_zero, List.set_cons_succ]
    refine wpAnyH_take (i := 12) (v := ?_) rfl (by kernel_rfl) (by kernel_rfl) (by kernel_rfl) (fun _ _ _ h => h) (Or.inl ⟨by kernel_rfl, ?_⟩) hHeld ?_
    rotate_left
    · intro w' hSw; try dsimp only at hSw
      go_simp; try (with_reducible rfl)
    try simp only [Act.put, List.getElem_toArray, List.getElem_cons_succ, List.getElem_cons_zero, List.setIfInBounds_toArray, List.set_cons_zero, List.set_cons_succ]
    refine wpAnyH_take (i := 13) (v := ?_) rfl (by kernel_rfl) (by kernel_rfl) (by kernel_rfl) (fun _ _ _ h => h) (Or.inl ⟨by kernel_rfl, ?_⟩) hHeld ?_
    rotate_left
    · intro w' hSw; try dsimp only at hSw
      go_simp; try (with_reducible rfl)
    try simp only [Act.put, List.getElem_toArray, List.getElem_cons_succ, List.getElem_cons_zero, List.setIfInBounds_toArray, List.set_cons_zero, List.set_cons_succ]
    refine wpAnyH_ready (rs := [4, 11]) (by kernel_rfl) (by simp) ?_
    refine AllReadyH.cons rfl (fun K hK => ?_) ?_
    · have c2 := h0.drew.cell' (i := 2) rfl
      go_simp
      refine hK.out _ _ trivial (fun hHeld => ?_)
      clear hK K
      try simp only [Act.put, List.getElem_toArray, List.getElem_cons_succ, List.getElem_cons_zero, List.setIfInBounds_toArray, List.set_cons_zero, List.set_cons_succ]
      refine wpAnyH_take (i := 6) (v := ?_) rfl (by kernel_rfl) (by kernel_rfl) (by kernel_rfl) (fun _ _ _ h => h) (Or.inl ⟨by kernel_rfl, ?_⟩) hHeld ?_
      rotate_left
      · intro w' hSw; try dsimp only at hSw
        go_simp; try (with_reducible rfl)
      try simp only [Act.put, List.getElem_toArray, List.getElem_cons_succ, List.getElem_cons_zero, List.setIfInBounds_toArray, List.set_cons_zero, List.set_cons_succ]
      refine wpAnyH_ready (rs := [7, 11]) (by kernel_rfl) (by simp) ?_
      refine AllReadyH.cons rfl (fun K hK => ?_) ?_
      · rw [if_pos (by rfl)]
        refine wp_appendQ0 (.const (.slice none 0 0)) (.tmp 10) rfl rfl ⟨g, 0, none⟩ i cap (s.L.take i) rfl (by have e1 := HN.out; rw [List.length_take]; omega) HC1.out (by omega) ?_
        intro p1 c1 w1 hown1 hgrow1 hat1
        have k1 := h0.drew.grown hgrow1 (by simp [Value.ownBlock])
        refine hK.out _ _ trivial (fun hHeld => ?_)
        clear hK K
        try simp only [Act.put, List.getElem_toArray, List.getElem_cons_succ, List.getElem_cons_zero, List.setIfInBounds_toArray, List.set_cons_zero, List.set_cons_succ]
        refine wpAnyH_ready (rs := [11]) (by kernel_rfl) (by simp) ?_
        refine AllReadyH.cons rfl (fun K hK => ?_) AllReadyH.nil
        have c2 := k1.cell' (i := 2) rfl
        go_simp
        refine hK.out _ _ trivial (fun hHeld => ?_)
        clear hK K
        try simp only [Act.put, List.getElem_toArray, List.getElem_cons_succ, List.getElem_cons_zero, List.setIfInBounds_toArray, List.set_cons_zero, List.set_cons_succ]
        refine wpAnyH_take (i := 14) (v := ?_) rfl (by kernel_rfl) (by kernel_rfl) (by kernel_rfl) (fun _ _ _ h => h) (Or.inl ⟨by kernel_rfl, ?_⟩) hHeld ?_
        rotate_left
        · intro w' hSw; try dsimp only at hSw
          go_simp; try (with_reducible rfl)
        try simp only [Act.put, List.getElem_toArray, List.getElem_cons_succ, List.getElem_cons_zero, List.setIfInBounds_toArray, List.set_cons_zero, List.set_cons_succ]
        refine wpAnyH_ready (rs := [15]) (by kernel_rfl) (by simp) ?_
        refine AllReadyH.cons rfl (fun K hK => ?_) AllReadyH.nil
        rw [if_pos (by rfl)]
        refine wp_appendQ (.tmp 11) (.tmp 18) rfl (.slice p1 i c1) i (s.L.take i) rfl hown1 ⟨g, 0, none⟩ 0 0 (s.L.drop cap) rfl (by have e1 := HN.out; rw [List.length_drop]; omega) (fun j u hj => by rw [HDN.out] at hj; simp [flatQ] at hj) (by omega) ?_
        intro p2 c2 w2 hown2 hgrow2 hat2
        have k2 := k1.grown hgrow2 (fun e => hfr1 _ hat1 e.symm)
        have c2' := k2.cell' (i := 2) rfl
        have f2 := k2.frozen 2
        have E := h.dropped hgrow1 hat1 hgrow2 hown2 (by have e1 := HN.out; have e2 := HI.out; rw [List.length_append, List.length_take, List.length_drop]; omega) (fun x hx => by rcases List.mem_append.1 hx with e | e; exact List.mem_of_mem_take e; exact List.mem_of_mem_drop e) (by have e1 := HN.out; have e2 := HI.out; rw [List.length_append, List.length_take, List.length_drop]; omega) hat2
        refine hK.out _ _ trivial (fun hHeld => ?_)
        clear hK K
        try simp only [Act.put, List.getElem_toArray, List.getElem_cons_succ, List.getElem_cons_zero, List.setIfInBounds_toArray, List.set_cons_zero, List.set_cons_succ]
        refine wpAnyH_take (i := 16) (v := ?_) rfl (by kernel_rfl) (by kernel_rfl) (by kernel_rfl) (fun _ _ _ h => h) (Or.inl ⟨by kernel_rfl, ?_⟩) hHeld ?_
        rotate_left
        · intro w' hSw; try dsimp only at hSw
          go_simp; try (with_reducible rfl)
        try simp only [Act.put, List.getElem_toArray, List.getElem_cons_succ, List.getElem_cons_zero, List.setIfInBounds_toArray, List.set_cons_zero, List.set_cons_succ]
        refine wpAnyH_take (i := 17) (v := ?_) rfl (by kernel_rfl) (by kernel_rfl) (by kernel_rfl) (fun _ _ _ h => h) (Or.inl ⟨by kernel_rfl, ?_⟩) hHeld ?_
        rotate_left
        · intro w' hSw; try dsimp only at hSw
          go_simp; try (with_reducible rfl)
        try simp only [Act.put, List.getElem_toArray, List.getElem_cons_succ, List.getElem_cons_zero, List.setIfInBounds_toArray, List.set_cons_zero, List.set_cons_succ]
        refine wpAnyH_ready (rs := [18]) (by kernel_rfl) (by simp) ?_
        refine AllReadyH.cons rfl (fun K hK => ?_) AllReadyH.nil
        go_simp
        refine hK.out _ _ trivial (fun hHeld => ?_)
        clear hK K
        try simp only [Act.put, List.getElem_toArray, List.getElem_cons_succ, List.getElem_cons_zero, List.setIfInBounds_toArray, List.set_cons_zero, List.set_cons_succ]
        refine wpAnyH_done (by kernel_rfl) ?_ _
        refine NoPanic.normal ?_
        try go_wp2_with fail
        go_end0
        rw [HI.out]
        exact ⟨⟨_, rfl⟩, _, E⟩
      refine AllReadyH.cons rfl (fun K hK => ?_) AllReadyH.nil
      have c2 := h0.drew.cell' (i := 2) rfl
      go_simp
      refine hK.out _ _ trivial (fun hHeld => ?_)
      clear hK K
      try simp only [Act.put, List.getElem_toArray, List.getElem_cons_succ, List.getElem_cons_zero, List.setIfInBounds_toArray, List.set_cons_zero, List.set_cons_succ]
      refine wpAnyH_take (i := 14) (v := ?_) rfl (by kernel_rfl) (by kernel_rfl) (by kernel_rfl) (fun _ _ _ h => h) (Or.inl ⟨by kernel_rfl, ?_⟩) hHeld ?_
      rotate_left
      · intro w' hSw; try dsimp only at hSw
        go_simp; try (with_reducible rfl)
      try simp only [Act.put, List.getElem_toArray, List.getElem_cons_succ, List.getElem_cons_zero, List.setIfInBounds_toArray, List.set_cons_zero, List.set_cons_succ]
      refine wpAnyH_ready (rs := [7]) (by kernel_rfl) (by simp) ?_
      refine AllReadyH.cons rfl (fun K hK => ?_) AllReadyH.nil
      rw [if_pos (by rfl)]
      refine wp_appendQ0 (.const (.slice none 0 0)) (.tmp 10) rfl rfl ⟨g, 0, none⟩ i cap (s.L.take i) rfl (by have e1 := HN.out; rw [List.length_take]; omega) HC1.out (by omega) ?_
      intro p1 c1 w1 hown1 hgrow1 hat1
      have k1 := h0.drew.grown hgrow1 (by simp [Value.ownBlock])
      refine hK.out _ _ trivial (fun hHeld => ?_)
      clear hK K
      try simp only [Act.put, List.getElem_toArray, List.getElem_cons_succ, List.getElem_cons_zero, List.setIfInBounds_toArray, List.set_cons_zero, List.set_cons_succ]
      refine wpAnyH_ready (rs := [15]) (by kernel_rfl) (by simp) ?_
      refine AllReadyH.cons rfl (fun K hK => ?_) AllReadyH.nil
      rw [if_pos (by rfl)]
      refine wp_appendQ (.tmp 11) (.tmp 18) rfl (.slice p1 i c1) i (s.L.take i) rfl hown1 ⟨g, 0, none⟩ 0 0 (s.L.drop cap) rfl (by have e1 := HN.out; rw [List.length_drop]; omega) (fun j u hj => by rw [HDN.out] at hj; simp [flatQ] at hj) (by omega) ?_
      intro p2 c2 w2 hown2 hgrow2 hat2
      have k2 := k1.grown hgrow2 (fun e => hfr1 _ hat1 e.symm)
      have c2' := k2.cell' (i := 2) rfl
      have f2 := k2.frozen 2
      have E := h.dropped hgrow1 hat1 hgrow2 hown2 (by have e1 := HN.out; have e2 := HI.out; rw [List.length_append, List.length_take, List.length_drop]; omega) (fun x hx => by rcases List.mem_append.1 hx with e | e; exact List.mem_of_mem_take e; exact List.mem_of_mem_drop e) (by have e1 := HN.out; have e2 := HI.out; rw [List.length_append, List.length_take, List.length_drop]; omega) hat2
      refine hK.out _ _ trivial (fun hHeld => ?_)
      clear hK K
      try simp only [Act.put, List.getElem_toArray, List.getElem_cons_succ, List.getElem_cons_zero, List.setIfInBounds_toArray, List.set_cons_zero, List.set_cons_succ]
      refine wpAnyH_take (i := 16) (v := ?_) rfl (by kernel_rfl) (by kernel_rfl) (by kernel_rfl) (fun _ _ _ h => h) (Or.inl ⟨by kernel_rfl, ?_⟩) hHeld ?_
      rotate_left
      · intro w' hSw; try dsimp only at hSw
        go_simp; try (with_reducible rfl)
      try simp only [Act.put, List.getElem_toArray, List.getElem_cons_succ, List.getElem_cons_zero, List.setIfInBounds_toArray, List.set_cons_zero, List.set_cons_succ]
      refine wpAnyH_take (i := 17) (v := ?_) rfl (by kernel_rfl) (by kernel_rfl) (by kernel_rfl) (fun _ _ _ h => h) (Or.inl ⟨by kernel_rfl, ?_⟩) hHeld ?_
      rotate_left
      · intro w' hSw; try dsimp only at hSw
        go_simp; try (with_reducible rfl)
      try simp only [Act.put, List.getElem_toArray, List.getElem_cons_succ, List.getElem_cons_zero, List.setIfInBounds_toArray, List.set_cons_zero, List.set_cons_succ]
      refine wpAnyH_ready (rs := [18]) (by kernel_rfl) (by simp) ?_
      refine AllReadyH.cons rfl (fun K hK => ?_) AllReadyH.nil
      go_simp
      refine hK.out _ _ trivial (fun hHeld => ?_)
      clear hK K
      try simp only [Act.put, List.getElem_toArray, List.getElem_cons_succ, List.getElem_cons_zero, List.setIfInBounds_toArray, List.set_cons_zero, List.set_cons_succ]
      refine wpAnyH_done (by kernel_rfl) ?_ _
      refine NoPanic.normal ?_
      try go_wp2_with fail
      go_end0
      rw [HI.out]
      exact ⟨⟨_, rfl⟩, _, E⟩
    refine AllReadyH.cons rfl (fun K hK => ?_) AllReadyH.nil
    have c2 := h0.drew.cell' (i := 2) rfl
    go_simp
    refine hK.out _ _ trivial (fun hHeld => ?_)
    clear hK K
    try simp only [Act.put, List.getElem_toArray, List.getElem_cons_succ, List.getElem_cons_zero, List.setIfInBounds_toArray, List.set_cons_zero, List.set_cons_succ]
    refine wpAnyH_take (i := 14) (v := ?_) rfl (by kernel_rfl) (by kernel_rfl) (by kernel_rfl) (fun _ _ _ h => h) (Or.inl ⟨by kernel_rfl, ?_⟩) hHeld ?_
    rotate_left
    · intro w' hSw; try dsimp only at hSw
      go_simp; try (with_reducible rfl)
    try simp only [Act.put, List.getElem_toArray, List.getElem_cons_succ, List.getElem_cons_zero, List.setIfInBounds_toArray, List.set_cons_zero, List.set_cons_succ]
    refine wpAnyH_ready (rs := [4]) (by kernel_rfl) (by simp) ?_
    refine AllReadyH.cons rfl (fun K hK => ?_) AllReadyH.nil
    have c2 := h0.drew.cell' (i := 2) rfl
    go_simp
    refine hK.out _ _ trivial (fun hHeld => ?_)
    clear hK K
    try simp only [Act.put, List.getElem_toArray, List.getElem_cons_succ, List.getElem_cons_zero, List.setIfInBounds_toArray, List.set_cons_zero, List.set_cons_succ]
    refine wpAnyH_take (i := 6) (v := ?_) rfl (by kernel_rfl) (by kernel_rfl) (by kernel_rfl) (fun _ _ _ h => h) (Or.inl ⟨by kernel_rfl, ?_⟩) hHeld ?_
    rotate_left
    · intro w' hSw; try dsimp only at hSw
      go_simp; try (with_reducible rfl)
    try simp only [Act.put, List.getElem_toArray, List.getElem_cons_succ, List.getElem_cons_zero, List.setIfInBounds_toArray, List.set_cons_zero, List.set_cons_succ]
    refine wpAnyH_ready (rs := [7]) (by kernel_rfl) (by simp) ?_
    refine AllReadyH.cons rfl (fun K hK => ?_) AllReadyH.nil
    rw [if_pos (by rfl)]
    refine wp_appendQ0 (.const (.slice none 0 0)) (.tmp 10) rfl rfl ⟨g, 0, none⟩ i cap (s.L.take i) rfl (by have e1 := HN.out; rw [List.length_take]; omega) HC1.out (by omega) ?_
    intro p1 c1 w1 hown1 hgrow1 hat1
    have k1 := h0.drew.grown hgrow1 (by simp [Value.ownBlock])
    refine hK.out _ _ trivial (fun hHeld => ?_)
    clear hK K
    try simp only [Act.put, List.getElem_toArray, List.getElem_cons_succ, List.getElem_cons_zero, List.setIfInBounds_toArray, List.set_cons_zero, List.set_cons_succ]
    refine wpAnyH_ready (rs := [15]) (by kernel_rfl) (by simp) ?_
    refine AllReadyH.cons rfl (fun K hK => ?_) AllReadyH.nil
    rw [if_pos (by rfl)]
    refine wp_appendQ (.tmp 11) (.tmp 18) rfl (.slice p1 i c1) i (s.L.take i) rfl hown1 ⟨g, 0, none⟩ 0 0 (s.L.drop cap) rfl (by have e1 := HN.out; rw [List.length_drop]; omega) (fun j u hj => by rw [HDN.out] at hj; simp [flatQ] at hj) (by omega) ?_
    intro p2 c2 w2 hown2 hgrow2 hat2
    have k2 := k1.grown hgrow2 (fun e => hfr1 _ hat1 e.symm)
    have c2' := k2.cell' (i := 2) rfl
    have f2 := k2.frozen 2
    have E := h.dropped hgrow1 hat1 hgrow2 hown2 (by have e1 := HN.out; have e2 := HI.out; rw [List.length_append, List.length_take, List.length_drop]; omega) (fun x hx => by rcases List.mem_append.1 hx with e | e; exact List.mem_of_mem_take e; exact List.mem_of_mem_drop e) (by have e1 := HN.out; have e2 := HI.out; rw [List.length_append, List.length_take, List.length_drop]; omega) hat2
    refine hK.out _ _ trivial (fun hHeld => ?_)
    clear hK K
    try simp only [Act.put, List.getElem_toArray, List.getElem_cons_succ, List.getElem_cons_zero, List.setIfInBounds_toArray, List.set_cons_zero, List.set_cons_succ]
    refine wpAnyH_take (i := 16) (v := ?_) rfl (by kernel_rfl) (by kernel_rfl) (by kernel_rfl) (fun _ _ _ h => h) (Or.inl ⟨by kernel_rfl, ?_⟩) hHeld ?_
    rotate_left
    · intro w' hSw; try dsimp only at hSw
      go_simp; try (with_reducible rfl)
    try simp only [Act.put, List.getElem_toArray, List.getElem_cons_succ, List.getElem_cons_zero, List.setIfInBounds_toArray, List.set_cons_zero, List.set_cons_succ]
    refine wpAnyH_take (i := 17) (v := ?_) rfl (by kernel_rfl) (by kernel_rfl) (by kernel_rfl) (fun _ _ _ h => h) (Or.inl ⟨by kernel_rfl, ?_⟩) hHeld ?_
    rotate_left
    · intro w' hSw; try dsimp only at hSw
      go_simp; try (with_reducible rfl)
    try simp only [Act.put, List.getElem_toArray, List.getElem_cons_succ, List.getElem_cons_zero, List.setIfInBounds_toArray, List.set_cons_zero, List.set_cons_succ]
    refine wpAnyH_ready (rs := [18]) (by kernel_rfl) (by simp) ?_
    refine AllReadyH.cons rfl (fun K hK => ?_) AllReadyH.nil
    go_simp
    refine hK.out _ _ trivial (fun hHeld => ?_)
    clear hK K
    try simp only [Act.put, List.getElem_toArray, List.getElem_cons_succ, List.getElem_cons_zero, List.setIfInBounds_toArray, List.set_cons_zero, List.set_cons_succ]
    refine wpAnyH_done (by kernel_rfl) ?_ _
    refine NoPanic.normal ?_
    try go_wp2_with fail
    go_end0
    rw [HI.out]
    exact ⟨⟨_, rfl⟩, _, E⟩
  · clear hI
    go_enter Tryz.func86, Tryz.ntmps86
    refine wp_region_noPanic ?_
    refine wp_region_held_drew (S := fun _ => True) (by kernel_rfl) trivial (fun hHeld => ?_)
    refine wpAnyH_take (i := 0) (v := ?_) rfl (by kernel_rfl) (by kernel_rfl) (by kernel_rfl) (fun _ _ _ h => h) (Or.inl ⟨by kernel_rfl, ?_⟩) hHeld ?_
    rotate_left
    · intro w' hSw; try dsimp only at hSw
      go_simp; try (with_reducible rfl)
    try simp only [Act.put, List.getElem_toArray, List.getElem_cons_succ, List.getElem_cons_zero, List.setIfInBounds_toArray, List.set_cons_zero, List.set_cons_succ]
    refine wpAnyH_take (i := 1) (v := ?_) rfl (by kernel_rfl) (by kernel_rfl) (by kernel_rfl) (fun _ _ _ h => h) (Or.inl ⟨by kernel_rfl, ?_⟩) hHeld ?_
    rotate_left
    · intro w' hSw; try dsimp only at hSw
      go_simp; try (with_reducible rfl)
    try simp only [Act.put, List.getElem_toArray, List.getElem_cons_succ, List.getElem_cons_zero, List.setIfInBounds_toArray, List.set_cons_zero, List.set_cons_succ]
    refine wpAnyH_take (i := 2) (v := ?_) rfl (by kernel_rfl) (by kernel_rfl) (by kernel_rfl) (fun _ _ _ h => h) (Or.inl ⟨by kernel_rfl, ?_⟩) hHeld ?_
    rotate_left
    · intro w' hSw; try dsimp only at hSw
      go_simp; try (with_reducible rfl)
    try simp only [Act.put, List.getElem_toArray, List.getElem_cons_succ, List.getElem_cons_zero, List.setIfInBounds_toArray, List.set_cons_zero, List.set_cons_succ]
    refine wpAnyH_take (i := 3) (v := ?_) rfl (by kernel_rfl) (by kernel_rfl) (by kernel_rfl) (fun _ _ _ h => h) (Or.inl ⟨by kernel_rfl, ?_⟩) hHeld ?_
    rotate_left
    · intro w' hSw; try dsimp only at hSw
      go_simp; try (with_reducible rfl)
    try simp only [Act.put, List.getElem_toArray, List.getElem_cons_succ, List.getElem_cons_zero, List.setIfInBounds_toArray, List.set_cons_zero, List.set_cons_succ]
    refine wpAnyH_take (i := 5) (v := ?_) rfl (by kernel_rfl) (by kernel_rfl) (by kernel_rfl) (fun _ _ _ h => h) (Or.inl ⟨by kernel_rfl, ?_⟩) hHeld ?_
    rotate_left
    · intro w' hSw; try dsimp only at hSw
      go_simp; try (with_reducible rfl)
    try simp only [Act.put, List.getElem_toArray, List.getElem_cons_succ, List.getElem_cons_zero, List.setIfInBounds_toArray, List.set_cons_zero, List.set_cons_succ]
    refine wpAnyH_take (i := 8) (v := ?_) rfl (by kernel_rfl) (by kernel_rfl) (by kernel_rfl) (fun _ _ _ h => h) (Or.inl ⟨by kernel_rfl, ?_⟩) hHeld ?_
    rotate_left
    · intro w' hSw; try dsimp only at hSw
      go_simp; try (with_reducible rfl)
    try simp only [Act.put, List.getElem_toArray, List.getElem_cons_succ, List.getElem_cons_zero, List.setIfInBounds_toArray, List.set_cons_zero, List.set_cons_succ]
    refine wpAnyH_take (i := 9) (v := ?_) rfl (by kernel_rfl) (by kernel_rfl) (by kernel_rfl) (fun _ _ _ h => h) (Or.inl ⟨by kernel_rfl, ?_⟩) hHeld ?_
    rotate_left
    · intro w' hSw; try dsimp only at hSw
      go_simp; try (with_reducible rfl)
    try simp only [Act.put, List.getElem_toArray, List.getElem_cons_succ, List.getElem_cons_zero, List.setIfInBounds_toArray, List.set_cons_zero, List.set_cons_succ]
    refine wpAnyH_take (i := 10) (v := ?_) rfl (by kernel_rfl) (by kernel_rfl) (by kernel_rfl) (fun _ _ _ h => h) (Or.inl ⟨by kernel_rfl, ?_⟩) hHeld ?_
    rotate_left
    · intro w' hSw; try dsimp only at hSw
      go_simp; try (with_reducible rfl)
    try simp only [Act.put, List.getElem_toArray, List.getElem_cons_succ, List.getElem_cons_zero, List.setIfInBounds_toArray, List.set_cons_zero, List.set_cons_succ]
    refine wpAnyH_take (i := 12) (v := ?_) rfl (by kernel_rfl) (by kernel_rfl) (by kernel_rfl) (fun _ _ _ h => h) (Or.inl ⟨by kernel_rfl, ?_⟩) hHeld ?_
    rotate_left
    · intro w' hSw; try dsimp only at hSw
      go_simp; try (with_reducible rfl)
    try simp only [Act.put, List.getElem_toArray, List.getElem_cons_succ, List.getElem_cons_zero, List.setIfInBounds_toArray, List.set_cons_zero, List.set_cons_succ]
    refine wpAnyH_take (i := 13) (v := ?_) rfl (by kernel_rfl) (by kernel_rfl) (by kernel_rfl) (fun _ _ _ h => h) (Or.inl ⟨by kernel_rfl, ?_⟩) hHeld ?_
    rotate_left
    · intro w' hSw; try dsimp only at hSw
      go_simp; try (with_reducible rfl)
    try simp only [Act.put, List.getElem_toArray, List.getElem_cons_succ, List.getElem_cons_zero, List.setIfInBounds_toArray, List.set_cons_zero, List.set_cons_succ]
    refine wpAnyH_ready (rs := [4, 11]) (by kernel_rfl) (by simp) ?_
    refine AllReadyH.cons rfl (fun K hK => ?_) ?_
    · have c2 := h0.drew.cell' (i := 2) rfl
      go_simp
      refine hK.out _ _ trivial (fun hHeld => ?_)
      clear hK K
      try simp only [Act.put, List.getElem_toArray, List.getElem_cons_succ, List.getElem_cons_zero, List.setIfInBounds_toArray, List.set_cons_zero, List.set_cons_succ]
      refine wpAnyH_take (i := 6) (v := ?_) rfl (by kernel_rfl) (by kernel_rfl) (by kernel_rfl) (fun _ _ _ h => h) (Or.inl ⟨by kernel_rfl, ?_⟩) hHeld ?_
      rotate_left
      · intro w' hSw; try dsimp only at hSw
        go_simp; try (with_reducible rfl)
      try simp only [Act.put, List.getElem_toArray, List.getElem_cons_succ, List.getElem_cons_zero, List.setIfInBounds_toArray, List.set_cons_zero, List.set_cons_succ]
      refine wpAnyH_ready (rs := [7, 11]) (by kernel_rfl) (by simp) ?_
      refine AllReadyH.cons rfl (fun K hK => ?_) ?_
      · rw [if_pos (by rfl)]
        refine wp_appendQ0 (.const (.slice none 0 0)) (.tmp 10) rfl rfl ⟨g, 0, none⟩ i cap (s.L.take i) rfl (by have e1 := HN.out; rw [List.length_take]; omega) HC1.out (by omega) ?_
        intro p1 c1 w1 hown1 hgrow1 hat1
        have k1 := h0.drew.grown hgrow1 (by simp [Value.ownBlock])
        refine hK.out _ _ trivial (fun hHeld => ?_)
        clear hK K
        try simp only [Act.put, List.getElem_toArray, List.getElem_cons_succ, List.getElem_cons_zero, List.setIfInBounds_toArray, List.set_cons_zero, List.set_cons_succ]
        refine wpAnyH_ready (rs := [11]) (by kernel_rfl) (by simp) ?_
        refine AllReadyH.cons rfl (fun K hK => ?_) AllReadyH.nil
        have c2 := k1.cell' (i := 2) rfl
        go_simp
        refine hK.out _ _ trivial (fun hHeld => ?_)
        clear hK K
        try simp only [Act.put, List.getElem_toArray, List.getElem_cons_succ, List.getElem_cons_zero, List.setIfInBounds_toArray, List.set_cons_zero, List.set_cons_succ]
        refine wpAnyH_take (i := 14) (v := ?_) rfl (by kernel_rfl) (by kernel_rfl) (by kernel_rfl) (fun _ _ _ h => h) (Or.inl ⟨by kernel_rfl, ?_⟩) hHeld ?_
        rotate_left
        · intro w' hSw; try dsimp only at hSw
          go_simp; try (with_reducible rfl)
        try simp only [Act.put, List.getElem_toArray, List.getElem_cons_succ, List.getElem_cons_zero, List.setIfInBounds_toArray, List.set_cons_zero, List.set_cons_succ]
        refine wpAnyH_ready (rs := [15]) (by kernel_rfl) (by simp) ?_
        refine AllReadyH.cons rfl (fun K hK => ?_) AllReadyH.nil
        rw [if_pos (by rfl)]
        refine wp_appendQ (.tmp 11) (.tmp 18) rfl (.slice p1 i c1) i (s.L.take i) rfl hown1 ⟨g, i1 * 4, none⟩ (n - i1) (cap - i1) (s.L.drop i1) rfl (by have e1 := HN.out; rw [List.length_drop]; omega) (HC2 _ hgrow1) (by omega) ?_
        intro p2 c2 w2 hown2 hgrow2 hat2
        have k2 := k1.grown hgrow2 (fun e => hfr1 _ hat1 e.symm)
        have c2' := k2.cell' (i := 2) rfl
        have f2 := k2.frozen 2
        have E := h.dropped hgrow1 hat1 hgrow2 hown2 (by have e1 := HN.out; have e2 := HI.out; rw [List.length_append, List.length_take, List.length_drop]; omega) (fun x hx => by rcases List.mem_append.1 hx with e | e; exact List.mem_of_mem_take e; exact List.mem_of_mem_drop e) (by have e1 := HN.out; have e2 := HI.out; rw [List.length_append, List.length_take, List.length_drop]; omega) hat2
        refine hK.out _ _ trivial (fun hHeld => ?_)
        clear hK K
        try simp only [Act.put, List.getElem_toArray, List.getElem_cons_succ, List.getElem_cons_zero, List.setIfInBounds_toArray, List.set_cons_zero, List.set_cons_succ]
        refine wpAnyH_take (i := 16) (v := ?_) rfl (by kernel_rfl) (by kernel_rfl) (by kernel_rfl) (fun _ _ _ h => h) (Or.inl ⟨by kernel_rfl, ?_⟩) hHeld ?_
        rotate_left
        · intro w' hSw; try dsimp only at hSw
          go_simp; try (with_reducible rfl)
        try simp only [Act.put, List.getElem_toArray, List.getElem_cons_succ, List.getElem_cons_zero, List.setIfInBounds_toArray, List.set_cons_zero, List.set_cons_succ]
        refine wpAnyH_take (i := 17) (v := ?_) rfl (by kernel_rfl) (by kernel_rfl) (by kernel_rfl) (fun _ _ _ h => h) (Or.inl ⟨by kernel_rfl, ?_⟩) hHeld ?_
        rotate_left
        · intro w' hSw; try dsimp only at hSw
          go_simp; try (with_reducible rfl)
        try simp only [Act.put, List.getElem_toArray, List.getElem_cons_succ, List.getElem_cons_zero, List.setIfInBounds_toArray, List.set_cons_zero, List.set_cons_succ]
        refine wpAnyH_ready (rs := [18]) (by kernel_rfl) (by simp) ?_
        refine AllReadyH.cons rfl (fun K hK => ?_) AllReadyH.nil
        go_simp
        refine hK.out _ _ trivial (fun hHeld => ?_)
        clear hK K
        try simp only [Act.put, List.getElem_toArray, List.getElem_cons_succ, List.getElem_cons_zero, List.setIfInBounds_toArray, List.set_cons_zero, List.set_cons_succ]
        refine wpAnyH_done (by kernel_rfl) ?_ _
        refine NoPanic.normal ?_
        try go_wp2_with fail
        go_end0
        rw [HI.out]
        exact ⟨⟨_, rfl⟩, _, E⟩
      refine AllReadyH.cons rfl (fun K hK => ?_) AllReadyH.nil
      have c2 := h0.drew.cell' (i := 2) rfl
      go_simp
      refine hK.out _ _ trivial (fun hHeld => ?_)
      clear hK K
      try simp only [Act.put, List.getElem_toArray, List.getElem_cons_succ, List.getElem_cons_zero, List.setIfInBounds_toArray, List.set_cons_zero, List.set_cons_succ]
      refine wpAnyH_take (i := 14) (v := ?_) rfl (by kernel_rfl) (by kernel_rfl) (by kernel_rfl) (fun _ _ _ h => h) (Or.inl ⟨by kernel_rfl, ?_⟩) hHeld ?_
      rotate_left
      · intro w' hSw; try dsimp only at hSw
        go_simp; try (with_reducible rfl)
      try simp only [Act.put, List.getElem_toArray, List.getElem_cons_succ, List.getElem_cons_zero, List.setIfInBounds_toArray, List.set_cons_zero, List.set_cons_succ]
      refine wpAnyH_ready (rs := [7]) (by kernel_rfl) (by simp) ?_
      refine AllReadyH.cons rfl (fun K hK => ?_) AllReadyH.nil
      rw [if_pos (by rfl)]
      refine wp_appendQ0 (.const (.slice none 0 0)) (.tmp 10) rfl rfl ⟨g, 0, none⟩ i cap (s.L.take i) rfl (by have e1 := HN.out; rw [List.length_take]; omega) HC1.out (by omega) ?_
      intro p1 c1 w1 hown1 hgrow1 hat1
      have k1 := h0.drew.grown hgrow1 (by simp [Value.ownBlock])
      refine hK.out _ _ trivial (fun hHeld => ?_)
      clear hK K
      try simp only [Act.put, List.getElem_toArray, List.getElem_cons_succ, List.getElem_cons_zero, List.setIfInBounds_toArray, List.set_cons_zero, List.set_cons_succ]
      refine wpAnyH_ready (rs := [15]) (by kernel_rfl) (by simp) ?_
      refine AllReadyH.cons rfl (fun K hK => ?_) AllReadyH.nil
      rw [if_pos (by rfl)]
      refine wp_appendQ (.tmp 11) (.tmp 18) rfl (.slice p1 i c1) i (s.L.take i) rfl hown1 ⟨g, i1 * 4, none⟩ (n - i1) (cap - i1) (s.L.drop i1) rfl (by have e1 := HN.out; rw [List.length_drop]; omega) (HC2 _ hgrow1) (by omega) ?_
      intro p2 c2 w2 hown2 hgrow2 hat2
      have k2 := k1.grown hgrow2 (fun e => hfr1 _ hat1 e.symm)
      have c2' := k2.cell' (i := 2) rfl
      have f2 := k2.frozen 2
      have E := h.dropped hgrow1 hat1 hgrow2 hown2 (by have e1 := HN.out; have e2 := HI.out; rw [List.length_append, List.length_take, List.length_drop]; omega) (fun x hx => by rcases List.mem_append.1 hx with e | e; exact List.mem_of_mem_take e; exact List.mem_of_mem_drop e) (by have e1 := HN.out; have e2 := HI.out; rw [List.length_append, List.length_take, List.length_drop]; omega) hat2
      refine hK.out _ _ trivial (fun hHeld => ?_)
      clear hK K
      try simp only [Act.put, List.getElem_toArray, List.getElem_cons_succ, List.getElem_cons_zero, List.setIfInBounds_toArray, List.set_cons_zero, List.set_cons_succ]
      refine wpAnyH_take (i := 16) (v := ?_) rfl (by kernel_rfl) (by kernel_rfl) (by kernel_rfl) (fun _ _ _ h => h) (Or.inl ⟨by kernel_rfl, ?_⟩) hHeld ?_
      rotate_left
      · intro w' hSw; try dsimp only at hSw
        go_simp; try (with_reducible rfl)
      try simp only [Act.put, List.getElem_toArray, List.getElem_cons_succ, List.getElem_cons_zero, List.setIfInBounds_toArray, List.set_cons_zero, List.set_cons_succ]
      refine wpAnyH_take (i := 17) (v := ?_) rfl (by kernel_rfl) (by kernel_rfl) (by kernel_rfl) (fun _ _ _ h => h) (Or.inl ⟨by kernel_rfl, ?_⟩) hHeld ?_
      rotate_left
      · intro w' hSw; try dsimp only at hSw
        go_simp; try (with_reducible rfl)
      try simp only [Act.put, List.getElem_toArray, List.getElem_cons_succ, List.getElem_cons_zero, List.setIfInBounds_toArray, List.set_cons_zero, List.set_cons_succ]
      refine wpAnyH_ready (rs := [18]) (by kernel_rfl) (by simp) ?_
      refine AllReadyH.cons rfl (fun K hK => ?_) AllReadyH.nil
      go_simp
      refine hK.out _ _ trivial (fun hHeld => ?_)
      clear hK K
      try simp only [Act.put, List.getElem_toArray, List.getElem_cons_succ, List.getElem_cons_zero, List.setIfInBounds_toArray, List.set_cons_zero, List.set_cons_succ]
      refine wpAnyH_done (by kernel_rfl) ?_ _
      refine NoPanic.normal ?_
      try go_wp2_with fail
      go_end0
      rw [HI.out]
      exact ⟨⟨_, rfl⟩, _, E⟩
    refine AllReadyH.cons rfl (fun K hK => ?_) AllReadyH.nil
    have c2 := h0.drew.cell' (i := 2) rfl
    go_simp
    refine hK.out _ _ trivial (fun hHeld => ?_)
    clear hK K
    try simp only [Act.put, List.getElem_toArray, List.getElem_cons_succ, List.getElem_cons_zero, List.setIfInBounds_toArray, List.set_cons_zero, List.set_cons_succ]
    refine wpAnyH_take (i := 14) (v := ?_) rfl (by kernel_rfl) (by kernel_rfl) (by kernel_rfl) (fun _ _ _ h => h) (Or.inl ⟨by kernel_rfl, ?_⟩) hHeld ?_
    rotate_left
    · intro w' hSw; try dsimp only at hSw
      go_simp; try (with_reducible rfl)
    try simp only [Act.put, List.getElem_toArray, List.getElem_cons_succ, List.getElem_cons_zero, List.setIfInBounds_toArray, List.set_cons_zero, List.set_cons_succ]
    refine wpAnyH_ready (rs := [4]) (by kernel_rfl) (by simp) ?_
    refine AllReadyH.cons rfl (fun K hK => ?_) AllReadyH.nil
    have c2 := h0.drew.cell' (i := 2) rfl
    go_simp
    refine hK.out _ _ trivial (fun hHeld => ?_)
    clear hK K
    try simp only [Act.put, List.getElem_toArray, List.getElem_cons_succ, List.getElem_cons_zero, List.setIfInBounds_toArray, List.set_cons_zero, List.set_cons_succ]
    refine wpAnyH_take (i := 6) (v := ?_) rfl (by kernel_rfl) (by kernel_rfl) (by kernel_rfl) (fun _ _ _ h => h) (Or.inl ⟨by kernel_rfl, ?_⟩) hHeld ?_
    rotate_left
    · intro w' hSw; try dsimp only at hSw
      go_simp; try (with_reducible rfl)
    try simp only [Act.put, List.getElem_toArray, List.getElem_cons_succ, List.getElem_cons_zero, List.setIfInBounds_toArray, List.set_cons_zero, List.set_cons_succ]
    refine wpAnyH_ready (rs := [7]) (by kernel_rfl) (by simp) ?_
    refine AllReadyH.cons rfl (fun K hK => ?_) AllReadyH.nil
    rw [if_pos (by rfl)]
    refine wp_appendQ0 (.const (.slice none 0 0)) (.tmp 10) rfl rfl ⟨g, 0, none⟩ i cap (s.L.take i) rfl (by have e1 := HN.out; rw [List.length_take]; omega) HC1.out (by omega) ?_
    intro p1 c1 w1 hown1 hgrow1 hat1
    have k1 := h0.drew.grown hgrow1 (by simp [Value.ownBlock])
    refine hK.out _ _ trivial (fun hHeld => ?_)
    clear hK K
    try simp only [Act.put, List.getElem_toArray, List.getElem_cons_succ, List.getElem_cons_zero, List.setIfInBounds_toArray, List.set_cons_zero, List.set_cons_succ]
    refine wpAnyH_ready (rs := [15]) (by kernel_rfl) (by simp) ?_
    refine AllReadyH.cons rfl (fun K hK => ?_) AllReadyH.nil
    rw [if_pos (by rfl)]
    refine wp_appendQ (.tmp 11) (.tmp 18) rfl (.slice p1 i c1) i (s.L.take i) rfl hown1 ⟨g, i1 * 4, none⟩ (n - i1) (cap - i1) (s.L.drop i1) rfl (by have e1 := HN.out; rw [List.length_drop]; omega) (HC2 _ hgrow1) (by omega) ?_
    intro p2 c2 w2 hown2 hgrow2 hat2
    have k2 := k1.grown hgrow2 (fun e => hfr1 _ hat1 e.symm)
    have c2' := k2.cell' (i := 2) rfl
    have f2 := k2.frozen 2
    have E := h.dropped hgrow1 hat1 hgrow2 hown2 (by have e1 := HN.out; have e2 := HI.out; rw [List.length_append, List.length_take, List.length_drop]; omega) (fun x hx => by rcases List.mem_append.1 hx with e | e; exact List.mem_of_mem_take e; exact List.mem_of_mem_drop e) (by have e1 := HN.out; have e2 := HI.out; rw [List.length_append, List.length_take, List.length_drop]; omega) hat2
    refine hK.out _ _ trivial (fun hHeld => ?_)
    clear hK K
    try simp only [Act.put, List.getElem_toArray, List.getElem_cons_succ, List.getElem_cons_zero, List.setIfInBounds_toArray, List.set_cons_zero, List.set_cons_succ]
    refine wpAnyH_take (i := 16) (v := ?_) rfl (by kernel_rfl) (by kernel_rfl) (by kernel_rfl) (fun _ _ _ h => h) (Or.inl ⟨by kernel_rfl, ?_⟩) hHeld ?_
    rotate_left
    · intro w' hSw; try dsimp only at hSw
      go_simp; try (with_reducible rfl)
    try simp only [Act.put, List.getElem_toArray, List.getElem_cons_succ, List.getElem_cons_zero, List.setIfInBounds_toArray, List.set_cons_zero, List.set_cons_succ]
    refine wpAnyH_take (i := 17) (v := ?_) rfl (by kernel_rfl) (by kernel_rfl) (by kernel_rfl) (fun _ _ _ h => h) (Or.inl ⟨by kernel_rfl, ?_⟩) hHeld ?_
    rotate_left
    · intro w' hSw; try dsimp only at hSw
      go_simp; try (with_reducible rfl)
    try simp only [Act.put, List.getElem_toArray, List.getElem_cons_succ, List.getElem_cons_zero, List.setIfInBounds_toArray, List.set_cons_zero, List.set_cons_succ]
    refine wpAnyH_ready (rs := [18]) (by kernel_rfl) (by simp) ?_
    refine AllReadyH.cons rfl (fun K hK => ?_) AllReadyH.nil
    go_simp
    refine hK.out _ _ trivial (fun hHeld => ?_)
    clear hK K
    try simp only [Act.put, List.getElem_toArray, List.getElem_cons_succ, List.getElem_cons_zero, List.setIfInBounds_toArray, List.set_cons_zero, List.set_cons_succ]
    refine wpAnyH_done (by kernel_rfl) ?_ _
    refine NoPanic.normal ?_
    try go_wp2_with fail
    go_end0
    rw [HI.out]
    exact ⟨⟨_, rfl⟩, _, E⟩
end Go.Proofs.YtdmnddikcpfmfaaGreat

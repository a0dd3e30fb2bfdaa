/-
  Pages in new memory; what Records and the reference's Records answer.
-/
import Derived.Test.YtpikaagdiafieaaMjPage
import Derived.Test.YtpikaagdiafieaaMjDiff
namespace Go.Proofs.Ytpikaagdiafieaa
open Go.RowKit
/-- A page whose rows lie in new memory. -/
structure OwnP (B : Nat) (w : World) (V : PV) (P : MP) : Prop where
  b : w.ownsRow B 4 1 (.slice V.pb V.nb V.cb) V.nb (valsB P.bad)
  v : w.ownsRow B 2 1 (.slice V.pw V.nw V.cw) V.nw (valsI P.wear)
  r : w.ownsRow B 65 3 (.slice V.pr V.nr V.cr) V.nr (flatM P.recs)
  hb : V.nb ≤ 1000000
  hv : V.nw ≤ 1000000
  hr : V.nr ≤ 1000000
theorem OwnP.next {B : Nat} {w w' : World} {V : PV} {P : MP} (h : OwnP B w V P) (hb : Below w.heap.size w w') : OwnP B w' V P := ⟨owns_below h.b hb, owns_below h.v hb, owns_below h.r hb, h.hb, h.hv, h.hr⟩
theorem OwnP.low {A B : Nat} {w : World} {V : PV} {P : MP} (h : OwnP B w V P) (hb : A ≤ B) : OwnP A w V P := ⟨owns_mono h.b hb, owns_mono h.v hb, owns_mono h.r hb, h.hb, h.hv, h.hr⟩
theorem OwnP.inP {B : Nat} {w : World} {V : PV} {P : MP} (h : OwnP B w V P) : InP w V P := by
  refine ⟨?_, ?_, ?_⟩
  · obtain ⟨p', c', hv, hin⟩ := in_of_ownsB h.b (by have := h.hb; omega)
    cases hv; exact hin
  · obtain ⟨p', c', hv, hin⟩ := in_of_ownsI h.v (by have := h.hv; omega)
    cases hv; exact hin
  · obtain ⟨p', c', hv, hin⟩ := in_of_ownsR h.r (by have := h.hr; omega)
    cases hv; exact hin
theorem OwnP.turned {B g : Nat} {t : TypeId} {cs : List Value} {w w' : World} {V : PV} {P : MP} (h : OwnP B w V P) (ht : Turned w w' g) (hg : Blk w g t cs) (h4 : t ≠ 4) (h2 : t ≠ 2) (hr : t ≠ 65) : OwnP B w' V P :=
  ⟨owns_turned h.b ht (owns_blk_ne (fun e => h4 e.symm) h.b hg), owns_turned h.v ht (owns_blk_ne (fun e => h2 e.symm) h.v hg), owns_turned h.r ht (owns_blk_ne (fun e => hr e.symm) h.r hg), h.hb, h.hv, h.hr⟩
def MP.zero : MP := ⟨0, 0, 0, 0, [], [], []⟩
def PV.zero : PV := ⟨none, 0, 0, none, 0, 0, none, 0, 0⟩
theorem ownP_zero (B : Nat) (w : World) : OwnP B w PV.zero MP.zero := ⟨⟨rfl, .inl ⟨rfl, rfl⟩⟩, ⟨rfl, .inl ⟨rfl, rfl⟩⟩, ⟨rfl, .inl ⟨rfl, rfl⟩⟩, Nat.zero_le _, Nat.zero_le _, Nat.zero_le _⟩
theorem mpSize (V : PV) (P : MP) : (Try.prog.info? 42).map (·.size) = some (V.cells P).length := by show _ = some 7; kernel_rfl
theorem mpOne (V : PV) (P : MP) : ∀ v ∈ V.cells P, v.oneCell' = true := by simp [PV.cells, Value.oneCell']
/-- A function with a page and an error for its results. -/
theorem ret_mpE {fn : Func} {p u : Tmp} (h : fn.results = #[.cell p 42, .tmp u]) {R : Ending → World → Prop} {a : Act} {w : World} {g : Nat} {t : TypeId} {V : PV} {P : MP} {v : Value} (hp : a.tmps.getD p undef = .pointer (some ⟨g, 0, none⟩))
    (hb : Blk w g t (V.cells P)) (hd : a.defers = []) (hu : a.tmps.getD u undef = v) (hR : R (.returned (.tuple #[V.val P, v])) w) : bodyPost Try.prog fn R .ret a w := by
  refine bodyPost_ret (v := .tuple #[V.val P, v]) ?_ hd hR
  rw [results_cell_tmp h, hp, hu]
  have := run_loadVar_mid w g 0 42 (V.cells P) _ (hb.range 0 7 _ rfl) Try.underlying42 rfl (by kernel_rfl)
  simp only [asAddr, Sem.run_pure, Result.andThen_ok, this]
  rfl
/-- A page and an error, in new memory. -/
def ResP (w : World) (r : MP × Int) (e : Ending) (w' : World) : Prop := ∃ V : PV, e = .returned (.tuple #[V.val r.1, .int .i64 r.2]) ∧ OwnP w.heap.size w' V r.1 ∧ Below w.heap.size w w'
/-- What Records answers. -/
def recsR (gen : Int) (l : List MR) : MP × Int :=
  if okGen gen then (if l.length ≤ 24 then (if l.all okMR then (⟨2, gen, 0, 0, [], [], l⟩, 0) else (MP.zero, 61)) else (MP.zero, 3)) else (MP.zero, 1)
theorem InR.flat {w : World} {p : Option Addr} {n c : Nat} {l : List MR} (h : InR w p n c l) {a : Addr} (ha : p = some a) : ∀ j u, (flatM l)[j]? = some u → w.cell? (a.add j) = some u := by
  intro j u hu
  have hj : j < l.length * 3 := by
    rcases Nat.lt_or_ge j (l.length * 3) with h' | h'
    · exact h'
    · rw [List.getElem?_eq_none (by rw [flatM_length]; exact h')] at hu; simp at hu
  have hl := h.len
  obtain ⟨b, o, hp, _, hc⟩ := h.at' (by omega)
  rw [ha] at hp
  cases hp
  obtain ⟨i, r, hir, hr⟩ : ∃ i r, j = i * 3 + r ∧ r < 3 := ⟨j / 3, j % 3, by omega, by omega⟩
  subst hir
  obtain ⟨k0, k1, k2⟩ := hc i (by omega)
  obtain ⟨f0, f1, f2⟩ := flatM_at (l := l) (k := i) (by omega)
  rw [addr_add]
  match r, hr with
  | 0, _ => rw [Nat.add_zero, f0] at hu; cases hu; simpa using k0
  | 1, _ => rw [f1] at hu; cases hu; rw [← Nat.add_assoc]; exact k1
  | 2, _ => rw [f2] at hu; cases hu; rw [← Nat.add_assoc]; exact k2
theorem owns_sliceR {w : World} {B : Nat} {v : Value} {n : Nat} {l : List MR} (h : w.ownsRow B 65 3 v n (flatM l)) : ∃ p c, v = .slice p n c := by
  rcases h.2 with ⟨rfl, rfl⟩ | ⟨g, cap, cur, rfl, _⟩
  · exact ⟨none, 0, rfl⟩
  · exact ⟨_, _, rfl⟩
/-- append(nil, x...): a row of its own. -/
theorem wpList_append_nilR {ops : Array Oper} {rest : List Oper} {o : Oper} {a : Act} {w : World} {Q : Exit → Act → World → Prop} (hgd : o.guard = none) (s x : Operand) (ho : o.op = .call { callee := .builtin .append, args := #[s, x], argTypes := #[34, 34] }) (hs : a.eval s = .slice none 0 0)
    (p : Option Addr) (n c : Nat) (l : List MR) (hx : a.eval x = .slice p n c) (hin : InR w p n c l) (hn : n ≤ 1000000)
    (h : ∀ p' c' w', w'.ownsRow w.heap.size 65 3 (.slice p' n c') n (flatM l) → Below w.heap.size w w' → wpList Try.prog ops Q rest (a.put o.dst (.slice p' n c')) w') : wpList Try.prog ops Q (o :: rest) a w := by
  obtain ⟨i0, hi, hz0, hz1, hz2⟩ := info_parts infoR
  cases p with
  | none =>
    have h1 := hin.nil rfl
    have h2 := hin.cap
    have h3 : n = 0 := by omega
    subst h1
    subst h3
    have h4 : l = [] := List.eq_nil_of_length_eq_zero hin.len
    subst h4
    have hrun := run_append_owned_none (P := Try.prog) (w := w) w.heap.size 34 o.type 65 i0 3 Try.underlying34 hi (.slice none 0 0) 0 [] (World.ownsRow_nil w _ _ _)
    refine wpList_plain hgd fun K hK => ?_
    unfold Oper.wp
    simp [execOp, ho, resolve, invoke, builtin, hs, hx, hrun, Result.andThen]
    exact hK _ _ (h none 0 w (World.ownsRow_nil w _ _ _) (Below.refl _ _))
  | some ad =>
    refine wpList_append_own _ hgd s x 34 ho w.heap.size 65 i0 (.agg #[.int .i64 0, .int .i64 0, .int .i64 0]) 3 24 Try.underlying34 hi hz0 hz1 hz2 rfl (by decide) (.slice none 0 0) 0 [] hs (World.ownsRow_nil w _ _ _) ad n c (flatM l) hx (by rw [flatM_length, hin.len]) (hin.flat rfl) (flatM_one l) (by unfold maxLen; omega) (by omega) (Nat.le_refl _) ?_
    intro v' w' hown hgrow _
    rw [List.nil_append, Nat.zero_add] at hown
    obtain ⟨p', c', hv⟩ := owns_sliceR hown
    subst hv
    exact h p' c' w' hown (below_grown0 hgrow)
theorem cloneR_any (p : Option Addr) (n c : Nat) (l : List MR) (w : World) (hx : InR w p n c l) (hn : n ≤ 1000000000000) :
    Calls Try.prog 41 #[.slice p n c] w fun e w' => ∃ p' c', e = .returned (.slice p' n c') ∧ w'.ownsRow w.heap.size 65 3 (.slice p' n c') n (flatM l) ∧ Below w.heap.size w w' := by
  have HX : Hid (l.length = n) := hx.len
  obtain ⟨i0, hi, hz0, hz1, hz2⟩ := info_parts infoR
  have hq := fun (w : World) => Lib.run_eql_slice_nil (P := Try.prog) w 34 65 p n c 0 0 Try.underlying34
  cases p with
  | none =>
    have h1 := hx.nil rfl
    have h2 := hx.cap
    have h3 : n = 0 := by omega
    subst h1
    subst h3
    have h4 : l = [] := List.eq_nil_of_length_eq_zero hx.len
    subst h4
    go_enter Try.func41, Try.ntmps41
    go_wp2
    go_ret
    exact ⟨_, _, rfl, ⟨rfl, .inl ⟨rfl, rfl⟩⟩, Below.refl _ _⟩
  | some a =>
    have ho := World.ownsRow_lit (e := 65) (size := 3) (base := w.heap.size) w #[] 0 (Nat.le_refl _) (by unfold maxLen; omega) (by simp)
    have HO : Hid ((w.alloc (.cells #[] 65)).ownsRow w.heap.size 65 3 (.slice (some ⟨w.heap.size, 0, none⟩) 0 0) 0 []) := ho
    clear ho
    go_enter Try.func41, Try.ntmps41
    go_wp2_with (at_builtin; refine wpList_append_own _ rfl (.tmp 5) (.tmp 6) 34 rfl w.heap.size 65 i0 (.agg #[.int .i64 0, .int .i64 0, .int .i64 0]) 3 24 Try.underlying34 hi hz0 hz1 hz2 rfl (by decide) (.slice (some ⟨w.heap.size, 0, none⟩) 0 0) 0 [] rfl HO.out a n c (flatM l) rfl (by rw [flatM_length, HX.out]) ((hx.below (below_alloc _ _)).flat rfl) (flatM_one l) (by unfold maxLen; omega) (by omega) (by simp) ?_; intro v1 w1 hown1 hgrow1 _)
    go_ret
    rw [List.nil_append, Nat.zero_add] at hown1
    obtain ⟨p', c', hv⟩ := owns_sliceR hown1
    subst hv
    exact ⟨p', c', rfl, hown1, (below_alloc w _).grown hgrow1 (by simp) (fun k hk => by simp [Value.ownBlock] at hk; omega)⟩
set_option linter.unusedSimpArgs false in
set_option maxHeartbeats 1000000 in
theorem records_any (gen : Int) (p : Option Addr) (n c : Nat) (l : List MR) (w : World) (hl : InR w p n c l) :
    Calls Try.prog 27 #[.int .i64 gen, .slice p n c] w (ResP w (recsR gen l)) := by
  have r0 := Blk.new' w 42 #[.int .i64 0, .int .i64 0, .int .i64 0, .int .i64 0, .slice none 0 0, .slice none 0 0, .slice none 0 0]
  have hb0 := below_alloc w (.cells #[.int .i64 0, .int .i64 0, .int .i64 0, .int .i64 0, .slice none 0 0, .slice none 0 0, .slice none 0 0] 42)
  have HL : Hid (l.length = n) := hl.len
  have hlb := hl.below hb0
  by_cases hg : 0 ≤ gen ∧ gen ≤ 1152921504606846976
  · by_cases hn : (n : Int) > 24
    · have E : Hid (recsR gen l = (MP.zero, 3)) := by show _ = _; unfold recsR; rw [if_pos (show okGen gen from hg), if_neg (by rw [HL.out]; omega)]
      go_enter Try.func27, Try.ntmps27
      go_wp2_with (first
        | (go_at_call 53; refine (withinL_yes _ hg.1 hg.2).mono ?_; rintro e w' ⟨rfl, hw'⟩; have hw2 := hw'.symm; subst hw2; clear hw')
        | (guard_target = wpList _ _ _ (Oper.mk _ (Op.store 42 (Operand.tmp 4) _) _ _ _ _ :: _) _ _; refine wpList_store_blk rfl 42 (.tmp 4) (.tmp 13) rfl _ _ [.int .i64 0, .int .i64 0, .int .i64 0, .int .i64 0, .slice none 0 0, .slice none 0 0, .slice none 0 0] rfl rfl r0 (by simp) (mpSize PV.zero MP.zero) (mpOne PV.zero MP.zero) ?_; intro w9 h9 ht9))
      first
        | (refine ret_mpE Try.results27 rfl (show Blk _ _ _ (PV.cells PV.zero MP.zero) from h9) rfl rfl ?_
           rw [E.out]
           exact ⟨_, rfl, ownP_zero _ _, ht9.below hb0 (Nat.le_refl _)⟩)
        | (refine ret_mpE Try.results27 rfl (show Blk _ _ _ (PV.cells PV.zero MP.zero) from r0) rfl rfl ?_
           rw [E.out]
           exact ⟨_, rfl, ownP_zero _ _, hb0⟩)
    · cases hq : l.all okMR with
      | false =>
        have E : Hid (recsR gen l = (MP.zero, 61)) := by show _ = _; unfold recsR; rw [if_pos (show okGen gen from hg), if_pos (by rw [HL.out]; omega), hq]; rfl
        go_enter Try.func27, Try.ntmps27
        go_wp2_with (first
          | (go_at_call 53; refine (withinL_yes _ hg.1 hg.2).mono ?_; rintro e w' ⟨rfl, hw'⟩; have hw2 := hw'.symm; subst hw2; clear hw')
          | (go_at_call 63; refine (recsMayBe_any p n c l _ hlb).mono ?_; rw [hq]; rintro e w1 ⟨rfl, hb1⟩; have r1 := r0.kept hb1; have hB1 := bt hb0 hb1)
          | (guard_target = wpList _ _ _ (Oper.mk _ (Op.store 42 (Operand.tmp 4) _) _ _ _ _ :: _) _ _; refine wpList_store_blk rfl 42 (.tmp 4) (.tmp 17) rfl _ _ [.int .i64 0, .int .i64 0, .int .i64 0, .int .i64 0, .slice none 0 0, .slice none 0 0, .slice none 0 0] rfl rfl r1 (by simp) (mpSize PV.zero MP.zero) (mpOne PV.zero MP.zero) ?_; intro w9 h9 ht9))
        first
          | (refine ret_mpE Try.results27 rfl (show Blk _ _ _ (PV.cells PV.zero MP.zero) from h9) rfl rfl ?_
             rw [E.out]
             exact ⟨_, rfl, ownP_zero _ _, ht9.below hB1 (Nat.le_refl _)⟩)
          | (refine ret_mpE Try.results27 rfl (show Blk _ _ _ (PV.cells PV.zero MP.zero) from r1) rfl rfl ?_
             rw [E.out]
             exact ⟨_, rfl, ownP_zero _ _, hB1⟩)
      | true =>
        have E : Hid (recsR gen l = (⟨2, gen, 0, 0, [], [], l⟩, 0)) := by show _ = _; unfold recsR; rw [if_pos (show okGen gen from hg), if_pos (by rw [HL.out]; omega), hq]; rfl
        go_enter Try.func27, Try.ntmps27
        go_wp2_with (first
          | (go_at_call 53; refine (withinL_yes _ hg.1 hg.2).mono ?_; rintro e w' ⟨rfl, hw'⟩; have hw2 := hw'.symm; subst hw2; clear hw')
          | (go_at_call 63; refine (recsMayBe_any p n c l _ hlb).mono ?_; rw [hq]; rintro e w1 ⟨rfl, hb1⟩; have r1 := r0.kept hb1; have hB1 := bt hb0 hb1)
          | (go_at_call 41; refine (cloneR_any p n c l _ (hlb.below hb1) (by omega)).mono ?_; rintro e w2 ⟨p2, c2, rfl, ho2, hb2⟩; have r2 := r1.kept hb2; have hB2 := bt hB1 hb2)
          | (guard_target = wpList _ _ _ (Oper.mk _ (Op.store 42 (Operand.tmp 4) _) _ _ _ _ :: _) _ _; refine wpList_store_blk rfl 42 (.tmp 4) (.tmp 21) rfl _ _ [.int .i64 2, .int .i64 gen, .int .i64 0, .int .i64 0, .slice none 0 0, .slice none 0 0, .slice p2 n c2] rfl rfl r2 (by simp) (mpSize ⟨none, 0, 0, none, 0, 0, p2, n, c2⟩ ⟨2, gen, 0, 0, [], [], l⟩) (mpOne ⟨none, 0, 0, none, 0, 0, p2, n, c2⟩ ⟨2, gen, 0, 0, [], [], l⟩) ?_; intro w9 h9 ht9))
        have h9' : Blk w9 w.heap.size 42 (PV.cells ⟨none, 0, 0, none, 0, 0, p2, n, c2⟩ ⟨2, gen, 0, 0, [], [], l⟩) := h9
        refine ret_mpE Try.results27 rfl h9' rfl rfl ?_
        rw [E.out]
        have hop : OwnP w.heap.size w2 ⟨none, 0, 0, none, 0, 0, p2, n, c2⟩ ⟨2, gen, 0, 0, [], [], l⟩ := ⟨⟨rfl, .inl ⟨rfl, rfl⟩⟩, ⟨rfl, .inl ⟨rfl, rfl⟩⟩, owns_mono ho2 hB1.size, Nat.zero_le _, Nat.zero_le _, by show n ≤ _; omega⟩
        exact ⟨_, rfl, hop.turned ht9 r2 (by decide) (by decide) (by decide), ht9.below hB2 (Nat.le_refl _)⟩
  · have E : Hid (recsR gen l = (MP.zero, 1)) := by show _ = _; unfold recsR; rw [if_neg (show ¬ okGen gen from hg)]
    go_enter Try.func27, Try.ntmps27
    go_wp2_with (first
      | (go_at_call 53; refine (withinL_no _ hg).mono ?_; rintro e w' ⟨rfl, hw'⟩; have hw2 := hw'.symm; subst hw2; clear hw')
      | (guard_target = wpList _ _ _ (Oper.mk _ (Op.store 42 (Operand.tmp 4) _) _ _ _ _ :: _) _ _; refine wpList_store_blk rfl 42 (.tmp 4) (.tmp 9) rfl _ _ [.int .i64 0, .int .i64 0, .int .i64 0, .int .i64 0, .slice none 0 0, .slice none 0 0, .slice none 0 0] rfl rfl r0 (by simp) (mpSize PV.zero MP.zero) (mpOne PV.zero MP.zero) ?_; intro w9 h9 ht9))
    first
      | (refine ret_mpE Try.results27 rfl (show Blk _ _ _ (PV.cells PV.zero MP.zero) from h9) rfl rfl ?_
         rw [E.out]
         exact ⟨_, rfl, ownP_zero _ _, ht9.below hb0 (Nat.le_refl _)⟩)
      | (refine ret_mpE Try.results27 rfl (show Blk _ _ _ (PV.cells PV.zero MP.zero) from r0) rfl rfl ?_
         rw [E.out]
         exact ⟨_, rfl, ownP_zero _ _, hb0⟩)
set_option linter.unusedSimpArgs false in
set_option maxHeartbeats 1000000 in
theorem rrecords_any (gen : Int) (p : Option Addr) (n c : Nat) (l : List MR) (w : World) (hl : InR w p n c l) :
    Calls Try.prog 28 #[.int .i64 gen, .slice p n c] w (ResP w (recsR gen l)) := by
  have r0 := Blk.new' w 42 #[.int .i64 0, .int .i64 0, .int .i64 0, .int .i64 0, .slice none 0 0, .slice none 0 0, .slice none 0 0]
  have hb0 := below_alloc w (.cells #[.int .i64 0, .int .i64 0, .int .i64 0, .int .i64 0, .slice none 0 0, .slice none 0 0, .slice none 0 0] 42)
  have HL : Hid (l.length = n) := hl.len
  have hroom := hl.room
  by_cases hg0 : gen < 0
  · have E : Hid (recsR gen l = (MP.zero, 1)) := by show _ = _; unfold recsR; rw [if_neg (show ¬ okGen gen by unfold okGen; omega)]
    go_enter Try.func28, Try.ntmps28
    go_wp2_with (guard_target = wpList _ _ _ (Oper.mk _ (Op.store 42 (Operand.tmp 4) _) _ _ _ _ :: _) _ _; refine wpList_store_blk rfl 42 (.tmp 4) (.tmp 13) rfl _ _ [.int .i64 0, .int .i64 0, .int .i64 0, .int .i64 0, .slice none 0 0, .slice none 0 0, .slice none 0 0] rfl rfl r0 (by simp) (mpSize PV.zero MP.zero) (mpOne PV.zero MP.zero) ?_; intro w9 h9 ht9)
    first
      | (refine ret_mpE Try.results28 rfl (show Blk _ _ _ (PV.cells PV.zero MP.zero) from h9) rfl rfl ?_
         rw [E.out]
         exact ⟨_, rfl, ownP_zero _ _, ht9.below hb0 (Nat.le_refl _)⟩)
      | (refine ret_mpE Try.results28 rfl (show Blk _ _ _ (PV.cells PV.zero MP.zero) from r0) rfl rfl ?_
         rw [E.out]
         exact ⟨_, rfl, ownP_zero _ _, hb0⟩)
  · by_cases hg1 : gen > 1152921504606846976
    · have E : Hid (recsR gen l = (MP.zero, 1)) := by show _ = _; unfold recsR; rw [if_neg (show ¬ okGen gen by unfold okGen; omega)]
      go_enter Try.func28, Try.ntmps28
      go_wp2_with (guard_target = wpList _ _ _ (Oper.mk _ (Op.store 42 (Operand.tmp 4) _) _ _ _ _ :: _) _ _; refine wpList_store_blk rfl 42 (.tmp 4) (.tmp 13) rfl _ _ [.int .i64 0, .int .i64 0, .int .i64 0, .int .i64 0, .slice none 0 0, .slice none 0 0, .slice none 0 0] rfl rfl r0 (by simp) (mpSize PV.zero MP.zero) (mpOne PV.zero MP.zero) ?_; intro w9 h9 ht9)
      first
        | (refine ret_mpE Try.results28 rfl (show Blk _ _ _ (PV.cells PV.zero MP.zero) from h9) rfl rfl ?_
           rw [E.out]
           exact ⟨_, rfl, ownP_zero _ _, ht9.below hb0 (Nat.le_refl _)⟩)
        | (refine ret_mpE Try.results28 rfl (show Blk _ _ _ (PV.cells PV.zero MP.zero) from r0) rfl rfl ?_
           rw [E.out]
           exact ⟨_, rfl, ownP_zero _ _, hb0⟩)
    · have hg : okGen gen := by unfold okGen; omega
      by_cases hn : (n : Int) > 24
      · have E : Hid (recsR gen l = (MP.zero, 3)) := by show _ = _; unfold recsR; rw [if_pos hg, if_neg (by rw [HL.out]; omega)]
        go_enter Try.func28, Try.ntmps28
        go_wp2_with (guard_target = wpList _ _ _ (Oper.mk _ (Op.store 42 (Operand.tmp 4) _) _ _ _ _ :: _) _ _; refine wpList_store_blk rfl 42 (.tmp 4) (.tmp 17) rfl _ _ [.int .i64 0, .int .i64 0, .int .i64 0, .int .i64 0, .slice none 0 0, .slice none 0 0, .slice none 0 0] rfl rfl r0 (by simp) (mpSize PV.zero MP.zero) (mpOne PV.zero MP.zero) ?_; intro w9 h9 ht9)
        first
          | (refine ret_mpE Try.results28 rfl (show Blk _ _ _ (PV.cells PV.zero MP.zero) from h9) rfl rfl ?_
             rw [E.out]
             exact ⟨_, rfl, ownP_zero _ _, ht9.below hb0 (Nat.le_refl _)⟩)
          | (refine ret_mpE Try.results28 rfl (show Blk _ _ _ (PV.cells PV.zero MP.zero) from r0) rfl rfl ?_
             rw [E.out]
             exact ⟨_, rfl, ownP_zero _ _, hb0⟩)
      · have HG : Hid (okGen gen) := hg
        clear hg
        go_enter Try.func28, Try.ntmps28
        go_wp2
        go_loopw [6] (fun i wr => ∃ k : Nat, k ≤ n ∧ i = .int .i64 k ∧ Below (w.heap.size + 1) (w.alloc (.cells #[.int .i64 0, .int .i64 0, .int .i64 0, .int .i64 0, .slice none 0 0, .slice none 0 0, .slice none 0 0] 42)) wr ∧ ∀ j, j < k → okMR (eR l j) = true) (fun i _ => n - (intOf i).toNat)
        case atStart => exact ⟨0, Nat.zero_le _, rfl, Below.refl _ _, fun j h => by omega⟩
        case round =>
          obtain ⟨k, hk, rfl, hbel, hall⟩ := hrel
          have HA : Hid (∀ j, j < k → okMR (eR l j) = true) := hall
          clear hall
          have r1 := r0.below hbel (by omega)
          have hB1 : Below w.heap.size w wr := hb0.trans (hbel.mono (by omega))
          have hsz1 : w.heap.size + 1 ≤ wr.heap.size := by have := hbel.size; rw [World.size_alloc] at this; exact this
          by_cases hlt : k < n
          · obtain ⟨b, o, hpp, hb', hc⟩ := (hl.below hB1).at' (by omega)
            subst hpp
            obtain ⟨c0, c1, c2⟩ := hc k hlt
            clear hc
            cases hok : okMR (eR l k) with
            | true =>
              have HO : Hid (okMR (eR l k) = true) := hok
              go_wp2_with (go_at_call 59; refine (rmay_any (eR l k) _).mono ?_; rw [HO.out]; rintro e w1 ⟨rfl, hb1⟩)
              go_roundw
              case rel =>
                refine ⟨k + 1, by omega, by go_num, hbel.trans (hb1.mono hsz1), fun j hj => ?_⟩
                rcases Nat.lt_succ_iff_lt_or_eq.1 hj with h | h
                · exact HA.out j h
                · rw [h]; exact HO.out
              case measure => simp [intOf]; omega
            | false =>
              have E : Hid (recsR gen l = (MP.zero, 61)) := by show _ = _; unfold recsR; rw [if_pos HG.out, if_pos (by rw [HL.out]; omega), allR_not (by rw [HL.out]; exact hlt) hok]; rfl
              go_wp2_with (first
                | (go_at_call 59; refine (rmay_any (eR l k) _).mono ?_; rw [hok]; rintro e w1 ⟨rfl, hb1⟩; have r2 := r1.kept hb1; have hB2 := bt hB1 hb1)
                | (guard_target = wpList _ _ _ (Oper.mk _ (Op.store 42 (Operand.tmp 4) _) _ _ _ _ :: _) _ _; refine wpList_store_blk rfl 42 (.tmp 4) (.tmp 30) rfl _ _ [.int .i64 0, .int .i64 0, .int .i64 0, .int .i64 0, .slice none 0 0, .slice none 0 0, .slice none 0 0] rfl rfl r2 (by simp) (mpSize PV.zero MP.zero) (mpOne PV.zero MP.zero) ?_; intro w9 h9 ht9))
              first
                | (refine ret_mpE Try.results28 rfl (show Blk _ _ _ (PV.cells PV.zero MP.zero) from h9) rfl rfl ?_
                   rw [E.out]
                   exact ⟨_, rfl, ownP_zero _ _, ht9.below hB2 (Nat.le_refl _)⟩)
                | (refine ret_mpE Try.results28 rfl (show Blk _ _ _ (PV.cells PV.zero MP.zero) from r2) rfl rfl ?_
                   rw [E.out]
                   exact ⟨_, rfl, ownP_zero _ _, hB2⟩)
          · have E : Hid (recsR gen l = (⟨2, gen, 0, 0, [], [], l⟩, 0)) := by show _ = _; unfold recsR; rw [if_pos HG.out, if_pos (by rw [HL.out]; omega), eR_all.2 fun j hj => HA.out j (by have := HL.out; omega)]; rfl
            go_wp2_with (first
              | (at_builtin; refine wpList_append_nilR rfl _ (.tmp 32) rfl rfl p n c l rfl (hl.below hB1) (by omega) ?_; intro p2 c2 w2 ho2 hb2; have r2 := r1.kept hb2; have hB2 := bt hB1 hb2)
              | (guard_target = wpList _ _ _ (Oper.mk _ (Op.store 42 (Operand.tmp 4) _) _ _ _ _ :: _) _ _; refine wpList_store_blk rfl 42 (.tmp 4) (.tmp 34) rfl _ _ [.int .i64 2, .int .i64 gen, .int .i64 0, .int .i64 0, .slice none 0 0, .slice none 0 0, .slice p2 n c2] rfl rfl r2 (by simp) (mpSize ⟨none, 0, 0, none, 0, 0, p2, n, c2⟩ ⟨2, gen, 0, 0, [], [], l⟩) (mpOne ⟨none, 0, 0, none, 0, 0, p2, n, c2⟩ ⟨2, gen, 0, 0, [], [], l⟩) ?_; intro w9 h9 ht9))
            have h9' : Blk w9 w.heap.size 42 (PV.cells ⟨none, 0, 0, none, 0, 0, p2, n, c2⟩ ⟨2, gen, 0, 0, [], [], l⟩) := h9
            refine ret_mpE Try.results28 rfl h9' rfl rfl ?_
            rw [E.out]
            have hop : OwnP w.heap.size w2 ⟨none, 0, 0, none, 0, 0, p2, n, c2⟩ ⟨2, gen, 0, 0, [], [], l⟩ := ⟨⟨rfl, .inl ⟨rfl, rfl⟩⟩, ⟨rfl, .inl ⟨rfl, rfl⟩⟩, owns_mono ho2 hB1.size, Nat.zero_le _, Nat.zero_le _, by show n ≤ _; omega⟩
            exact ⟨_, rfl, hop.turned ht9 r2 (by decide) (by decide) (by decide), ht9.below hB2 (Nat.le_refl _)⟩
end Go.Proofs.Ytpikaagdiafieaa

/-
  slices.Sort on a row of ints of the call's own.
-/
import Derived.Test.YtdmnddikcpfmfaaGreatCkDirty2
import Derived.Test.YtdmnddikcpfmfaaGreatCkLayZ
import Derived.Lib.RowBridge
import Derived.Sort.OwnSortedInts
import Derived.Test.YtdmnddikcpfmfaaGreatCkPS
namespace Go.Proofs.YtdmnddikcpfmfaaGreat
open Go.RowKit Go.Sort Go.Shelf
theorem pq_block {enc : Int → Value} {w : World} {g off m k : Nat} {d : Array Int} {os : Array Obj} (hk : k < w.heap.size) (hne : k ≠ g) : (grow (putRow enc (Sort.ahead w m) g off d) os).heap[k]? = w.heap[k]? := by
  show ((putRow enc (Sort.ahead w m) g off d).heap ++ os)[k]? = _
  rw [Array.getElem?_append_left (by simpa [Sort.ahead] using hk)]
  have : g ≠ k := fun e => hne e.symm
  simp [putRow, mapBlock, Sort.ahead, Array.getElem?_modify, this]
theorem pq_below {enc : Int → Value} {w : World} {g off m B : Nat} {d : Array Int} {os : Array Obj} (hB : B ≤ g) (hs : B ≤ w.heap.size) : Below B w (grow (putRow enc (Sort.ahead w m) g off d) os) :=
  ⟨rfl, rfl, rfl, by simp [Sort.ahead], fun _ hk => pq_block (by omega) (by omega)⟩
theorem pq_holds {enc : Int → Value} {w : World} {g off m : Nat} {d0 d : Array Int} {os : Array Obj} (hg : g < w.heap.size) (h0 : Holds enc w g off d0) (hs : d.size = d0.size) : Holds enc (grow (putRow enc (Sort.ahead w m) g off d) os) g off d :=
  holds_grow enc _ os g off d (by simpa [Sort.ahead] using hg) (holds_putRow enc (Sort.ahead w m) g off d0 d h0 hs)
theorem sorts_own : SortsI := by
  intro B v xs w h hn hB
  rcases Nat.eq_zero_or_pos xs.length with h0 | h0
  · have hx : xs = [] := List.eq_nil_of_length_eq_zero h0
    subst hx
    obtain ⟨p, c, rfl⟩ := owns_slice h
    have hS := Any.slices_Sort_int_none sortI p c w
    change Calls Tryz.prog 103 _ _ _ at hS
    refine hS.mono ?_
    rintro e w' ⟨rfl, rfl⟩
    refine ⟨⟨_, rfl⟩, ?_, Below.refl _ _⟩
    have e : sortL [] = [] := by simp [sortL]
    rw [e]
    exact h
  · obtain ⟨g, cap, cur, rfl, hg, hh, hcp, hcm, hsz, ht⟩ : ∃ g cap cur, v = .slice (some ⟨g, 0, none⟩) xs.length cap ∧ B ≤ g ∧ w.heap[g]? = some (.cells cur 3 (0, 0)) ∧ xs.length ≤ cap ∧ cap ≤ maxLen ∧ cur.size = cap * 1 ∧ (cur.toList.take (xs.length * 1)) = valsI xs := by
      rcases h.2 with ⟨_, hn⟩ | ⟨g, cap, cur, rfl, hg, hh, hc, hm, hs, ht⟩
      · omega
      · exact ⟨g, cap, cur, rfl, hg, hh, hc, hm, hs, ht⟩
    have hlt : g < w.heap.size := (Array.getElem?_eq_some_iff.1 hh).1
    have hH : Holds (Value.int .i64) w g 0 xs.toArray := by
      intro j hj
      have hj' : j < xs.length := by simpa using hj
      refine ⟨?_, by rw [Nat.zero_add]; exact h.frozenAt j⟩
      rw [Nat.zero_add, h.cellAt j (by omega), valsI_get xs j hj']
      simp [eI, hj']
    have hS := Any.slices_Sort_int sortI g 0 cap xs w hH hlt (by omega)
    change Calls Tryz.prog 103 _ _ _ at hS
    refine hS.mono ?_
    rintro e w' ⟨rfl, m1, os1, rfl⟩
    have hb := pq_below (enc := Value.int .i64) (w := w) (g := g) (off := 0) (m := m1) (d := (sortL xs).toArray) (os := os1) hg hB
    refine ⟨⟨_, rfl⟩, ?_, hb⟩
    have hyl : (sortL xs).length = xs.length := by unfold sortL; rw [List.length_mergeSort]
    exact ownsRow_sortedI (ts := sortL xs) hyl hg hh hcp hcm hsz
end Go.Proofs.YtdmnddikcpfmfaaGreat

namespace Go.Proofs.YtdmnddikcpfmfaaGreat
open Go.RowKit Go.Shelf
def CRes (w : World) (c : CS) (E : Int) (P1 : List BP) (D1 : DS) (e : Ending) (w' : World) : Prop := e = .returned (.int .i64 E) ∧ ∃ c1, CAfter w w' c c1 ∧ c1.P = P1 ∧ c1.ds = D1
def QRes (w : World) (q : QS) (E : Int) (P1 : List BP) (D1 : DS) (e : Ending) (w' : World) : Prop := e = .returned (.int .i64 E) ∧ ∃ q1, QAfter w w' q q1 ∧ q1.P = P1 ∧ DRel D1 q1.t
theorem Twin.got {B0 : Nat} {w : World} {tw : Nat} {c : CS} {q : QS} {N : Nat} (T : Twin B0 w tw c q N) (hN : N ≤ 900) (i : Int) : ((getQ q.room q.P q.t i).1 = 0 → (gotQ q.room q.P q.t i).D.length = 256 ∧ (dropK (getQ q.room q.P q.t i).2.1 (gotQ q.room q.P q.t i).k).length + 1 ≤ q.room ∧ (gotQ q.room q.P q.t i).pins ≤ 1000 ∧ lastD (fetC c.room c.P c.ds i).2.1 = (gotQ q.room q.P q.t i).D ∧ dropK (getQ q.room q.P q.t i).2.1 (gotQ q.room q.P q.t i).k ++ [gotQ q.room q.P q.t i] = (fetC c.room c.P c.ds i).2.1) ∧ (gotQ q.room q.P q.t i).pins ≤ 1000 := by
  have hp : (gotQ q.room q.P q.t i).pins ≤ 1000 := by
    unfold gotQ
    rw [T.P]
    split
    · rename_i p x r hc
      obtain ⟨e, -, -⟩ := cutAt_spec hc
      have := T.pi.p x (by rw [e]; simp)
      omega
    · exact Nat.zero_le _
  refine ⟨fun h0 => ?_, hp⟩
  obtain ⟨e1, e2, -⟩ := get_rel T.rel T.Q.ref.lc c.room c.P i
  have hf := T.pi.fet T.ok c.room i
  rw [T.room, T.P] at h0 ⊢
  rw [if_pos h0] at e2
  rw [e1] at h0
  have hm : gotQ c.room c.P q.t i ∈ (fetC c.room c.P c.ds i).2.1 := by rw [← e2]; simp
  have hl : (fetC c.room c.P c.ds i).2.1.length ≤ c.room := by
    unfold fetC at h0 ⊢
    split at h0
    · cases h0
    · rename_i hb
      rw [if_neg hb]
      unfold fetchR at h0 ⊢
      split
      · rename_i p x r hc
        obtain ⟨e, -, -⟩ := cutAt_spec hc
        have hh := T.C.fit.len
        have : c.P.length = c.L.length := by simp [CS.P]
        rw [e] at this
        simp at this ⊢
        omega
      · rename_i hc
        rw [hc] at h0
        dsimp only at h0
        have hh := T.C.fit.len
        have hpl : c.P.length = c.L.length := by simp [CS.P]
        split
        · rename_i hr
          have := roomR_len hr (by omega)
          split
          · simp; omega
          · dsimp only; omega
        · rename_i hr
          rw [if_neg hr] at h0
          exact absurd h0 hr
  refine ⟨hf.d _ hm, ?_, by rw [← T.room, ← T.P]; exact hp, ?_, e2⟩
  · rw [← e2] at hl
    simp at hl
    omega
  · rw [← e2, lastD]
    simp
theorem pin_two {B0 : Nat} {w : World} {tw : Nat} {c : CS} {q : QS} {N : Nat} (T : Twin B0 w tw c q N) (hN : N ≤ 900) (i : Int) : ∃ E P1 D1, PI P1 D1 (N + 1) ∧ Calls Tryz.prog 29 #[.pointer (some ⟨c.c, 0, none⟩), .int .i64 i] w (CRes w c E P1 D1) ∧ ∀ w1, QIn w1 q → Calls Tryz.prog 30 #[.pointer (some ⟨q.q, 0, none⟩), .int .i64 i] w1 (QRes w1 q E P1 D1) := by
  obtain ⟨h1, h2, h3, h4, h5, h6⟩ := T.wrB (by omega)
  obtain ⟨hg, hgp⟩ := T.got hN i
  have hf := T.pi.fet T.ok c.room i
  obtain ⟨e1, e2, e3⟩ := get_rel T.rel T.Q.ref.lc c.room c.P i
  refine ⟨_, _, _, T.pi.pinC T.ok c.room i, cPin_any T.C i h1 (fun b hb => by have := hf.p b hb; omega), fun w1 hq1 => ?_⟩
  refine (qpin_any hq1 i (fun b hb => T.pi.c b (by rw [← T.P]; exact hb)) h3 h4 rfl rfl (by omega) (fun h0 => (hg h0).2.1)).mono ?_
  rintro e w2 ⟨rfl, q1, A, hP, ht⟩
  rw [T.room, T.P] at hP ht ⊢
  refine ⟨by rw [e1]; rfl, q1, A, ?_, by rw [ht]; exact e3⟩
  rw [hP]
  show _ = if (fetC c.room c.P c.ds i).1 = 0 then pinLast (fetC c.room c.P c.ds i).2.1 else (fetC c.room c.P c.ds i).2.1
  rw [e1] at e2 ⊢
  by_cases h0 : (fetC c.room c.P c.ds i).1 = 0
  · rw [if_pos h0] at e2
    rw [if_pos h0, if_pos h0, ← e2, pinLast]
    simp
  · rw [if_neg h0] at e2
    rw [if_neg h0, if_neg h0]
    exact e2
set_option linter.unusedVariables false in
theorem unpin_two {B0 : Nat} {w : World} {tw : Nat} {c : CS} {q : QS} {N : Nat} (T : Twin B0 w tw c q N) (hN : N ≤ 900) (i : Int) : ∃ E P1 D1, PI P1 D1 (N + 1) ∧ Calls Tryz.prog 31 #[.pointer (some ⟨c.c, 0, none⟩), .int .i64 i] w (CRes w c E P1 D1) ∧ ∀ w1, QIn w1 q → Calls Tryz.prog 32 #[.pointer (some ⟨q.q, 0, none⟩), .int .i64 i] w1 (QRes w1 q E P1 D1) := by
  refine ⟨_, _, c.ds, (T.pi.unp c.ds.secs.length i).mono (Nat.le_succ _), cUnpin_any T.C i (fun b hb => by have := T.pi.p b hb; omega), fun w1 hq1 => ?_⟩
  refine (qunpin_any hq1 i (fun b hb => by have := T.pi.p b (by rw [← T.P]; exact hb); omega)).mono ?_
  rintro e w2 ⟨rfl, q1, A, hP, ht⟩
  rw [T.P, T.rel.len] at hP ⊢
  exact ⟨rfl, q1, A, hP, by rw [ht]; exact T.rel⟩
theorem clean_two {B0 : Nat} {w : World} {tw : Nat} {c : CS} {q : QS} {N : Nat} (T : Twin B0 w tw c q N) (hN : N ≤ 900) (p : Option Addr) (n cc : Nat) (xs : List Int) (hI : InI w p n cc xs) (hlow : ∀ a, p = some a → 0 < n → a.block < B0) : ∃ E P1 D1, PI P1 D1 (N + 1) ∧ Calls Tryz.prog 33 #[.pointer (some ⟨c.c, 0, none⟩), .slice p n cc] w (CRes w c E P1 D1) ∧ ∀ w1, QIn w1 q → InI w1 p n cc xs → Calls Tryz.prog 34 #[.pointer (some ⟨q.q, 0, none⟩), .slice p n cc] w1 (QRes w1 q E P1 D1) := by
  obtain ⟨h1, h2, h3, h4, h5, h6⟩ := T.wrB (by omega)
  obtain ⟨e1, e2, e3⟩ := clL_rel xs T.rel T.Q.ref.lc c.P
  refine ⟨_, _, _, (PI.clL xs T.pi).mono (Nat.le_succ _), cClean_any T.C p n cc xs ⟨hI, fun a ha h0 hf => by have := hlow a ha h0; have := T.fc _ hf; omega⟩ h2, fun w1 hq1 hI1 => ?_⟩
  refine (qclean_any hq1 p n cc xs ⟨hI1, fun a ha h0 hf => by have := hlow a ha h0; have := T.fq _ hf; omega⟩ (by rw [T.P]; exact h5) (by rw [T.P]; exact h6)).mono ?_
  rintro e w2 ⟨rfl, q1, A, hP, ht⟩
  rw [T.P] at hP ht ⊢
  exact ⟨by rw [e1], q1, A, by rw [hP, e2], by rw [ht]; exact e3⟩
theorem forget_two {B0 : Nat} {w : World} {tw : Nat} {c : CS} {q : QS} {N : Nat} (T : Twin B0 w tw c q N) (p : Option Addr) (n cc : Nat) (xs : List Int) (hI : InI w p n cc xs) (hlow : ∀ a, p = some a → 0 < n → a.block < B0) : ∃ E P1 D1, PI P1 D1 (N + 1) ∧ Calls Tryz.prog 39 #[.pointer (some ⟨c.c, 0, none⟩), .slice p n cc] w (CRes w c E P1 D1) ∧ ∀ w1, QIn w1 q → InI w1 p n cc xs → Calls Tryz.prog 40 #[.pointer (some ⟨q.q, 0, none⟩), .slice p n cc] w1 (QRes w1 q E P1 D1) := by
  refine ⟨_, _, c.ds, (T.pi.forR c.ds.secs.length xs).mono (Nat.le_succ _), cForget_any T.C p n cc xs ⟨hI, fun a ha h0 hf => by have := hlow a ha h0; have := T.fc _ hf; omega⟩, fun w1 hq1 hI1 => ?_⟩
  refine (qforget_any hq1 p n cc xs ⟨hI1, fun a ha h0 hf => by have := hlow a ha h0; have := T.fq _ hf; omega⟩).mono ?_
  rintro e w2 ⟨rfl, q1, A, hP, ht⟩
  rw [T.P, T.rel.len] at hP ⊢
  exact ⟨rfl, q1, A, hP, by rw [ht]; exact T.rel⟩
theorem sync_two {B0 : Nat} {w : World} {tw : Nat} {c : CS} {q : QS} {N : Nat} (T : Twin B0 w tw c q N) (hN : N ≤ 900) (cl : Int) : ∃ E P1 D1, PI P1 D1 (N + 1) ∧ Calls Tryz.prog 35 #[.pointer (some ⟨c.c, 0, none⟩), .int .i64 cl] w (CRes w c E P1 D1) ∧ ∀ w1, QIn w1 q → Calls Tryz.prog 36 #[.pointer (some ⟨q.q, 0, none⟩), .int .i64 cl] w1 (QRes w1 q E P1 D1) := by
  obtain ⟨h1, h2, h3, h4, h5, h6⟩ := T.wrB (by omega)
  by_cases hc : cl = 1 ∨ cl = 2
  · obtain ⟨CL, rfl⟩ : ∃ k : Nat, cl = (k : Int) := ⟨cl.toNat, by omega⟩
    have hC : CL = 1 ∨ CL = 2 := by omega
    obtain ⟨e1, e2, e3⟩ := sy_rel T.rel T.Q.ref.lc T.kd CL hC
    refine ⟨_, _, _, (T.pi.sync (CL : Int)).mono (Nat.le_succ _), csync_any sorts_own T.C CL hC h2, fun w1 hq1 => ?_⟩
    refine (qsync_any hq1 CL hC (by rw [T.P]; exact h5) (by rw [T.P]; exact h6)).mono ?_
    rintro e w2 ⟨rfl, q1, A, hP, ht⟩
    rw [T.P] at hP ht ⊢
    exact ⟨by rw [e1], q1, A, by rw [hP, e2], by rw [ht]; exact e3⟩
  · refine ⟨1, c.P, c.ds, T.pi.mono (Nat.le_succ _), (csync_bad T.C cl hc).mono fun e w' ⟨he, hb⟩ => ⟨he, c, (CAfter.refl T.C).kept hb, rfl, rfl⟩, fun w1 hq1 => ?_⟩
    refine (qsync_no cl hc).mono ?_
    rintro e w2 ⟨rfl, rfl⟩
    exact ⟨rfl, q, QAfter.refl hq1, T.P, T.rel⟩
theorem flush_two {B0 : Nat} {w : World} {tw : Nat} {c : CS} {q : QS} {N : Nat} (T : Twin B0 w tw c q N) : ∃ E P1 D1, PI P1 D1 (N + 1) ∧ Calls Tryz.prog 37 #[.pointer (some ⟨c.c, 0, none⟩)] w (CRes w c E P1 D1) ∧ ∀ w1, QIn w1 q → Calls Tryz.prog 38 #[.pointer (some ⟨q.g, 0, none⟩)] w1 (QRes w1 q E P1 D1) := by
  refine ⟨_, c.P, c.ds, T.pi.mono (Nat.le_succ _), (cFlush_any T.C).mono fun e w' ⟨he, hb⟩ => ⟨he, c, (CAfter.refl T.C).kept hb, rfl, rfl⟩, fun w1 hq1 => ?_⟩
  refine (rflush_any hq1.ref).mono ?_
  rintro e w2 ⟨rfl, rfl⟩
  exact ⟨by rw [T.rel.power], q, QAfter.refl hq1, T.P, T.rel⟩
theorem hurt_two {B0 : Nat} {w : World} {tw : Nat} {c : CS} {q : QS} {N : Nat} (T : Twin B0 w tw c q N) (i : Int) : ∃ E P1 D1, PI P1 D1 (N + 1) ∧ Calls Tryz.prog 43 #[.pointer (some ⟨c.d, 0, none⟩), .int .i64 i] w (CRes w c E P1 D1) ∧ ∀ w1, QIn w1 q → Calls Tryz.prog 44 #[.pointer (some ⟨q.g, 0, none⟩), .int .i64 i] w1 (QRes w1 q E P1 D1) := by
  obtain ⟨e1, e2⟩ := T.rel.hurt i
  refine ⟨_, c.P, hurtS c.ds i, ((T.pi.disk (ds' := hurtS c.ds i) (by unfold hurtS; split <;> rfl)).mono (Nat.le_succ _)), (hurt_any T.C.base.disk i).mono fun e w' ⟨he, A⟩ => ⟨he, _, T.C.disked A (by unfold hurtS; split <;> simp), rfl, rfl⟩, fun w1 hq1 => ?_⟩
  refine (rhurt_any hq1.ref i).mono ?_
  rintro e w2 ⟨rfl, A⟩
  exact ⟨by rw [e1], _, hq1.disked A, T.P, e2⟩
theorem write_two {B0 : Nat} {w : World} {tw : Nat} {c : CS} {q : QS} {N : Nat} (T : Twin B0 w tw c q N) (hN : N ≤ 900) (i : Int) (p : Option Addr) (n cc : Nat) (D : List Nat) (hd : In w p n cc D ∧ U8 w p) (cl : Int) : ∃ E P1 D1, PI P1 D1 (N + 1) ∧ Calls Tryz.prog 16 #[.pointer (some ⟨c.c, 0, none⟩), .int .i64 i, .slice p n cc, .int .i64 cl] w (CRes w c E P1 D1) ∧ ∀ w1, QIn w1 q → (In w1 p n cc D ∧ U8 w1 p) → Calls Tryz.prog 28 #[.pointer (some ⟨q.q, 0, none⟩), .int .i64 i, .slice p n cc, .int .i64 cl] w1 (QRes w1 q E P1 D1) := by
  obtain ⟨h1, h2, h3, h4, h5, h6⟩ := T.wrB (by omega)
  obtain ⟨e1, e2, e3⟩ := wr_rel T.rel T.Q.ref.lc c.room c.P i D cl
  refine ⟨_, _, _, T.pi.wrC c.room i D cl, cwrite_any T.C i p n cc D hd cl h1, fun w1 hq1 hd1 => ?_⟩
  have hres : ∀ e w2, (e = .returned (.int .i64 (wrQ q.room q.P q.t i D cl).1) ∧ ∃ s', QAfter w1 w2 q s' ∧ s'.P = (wrQ q.room q.P q.t i D cl).2.1 ∧ s'.t = (wrQ q.room q.P q.t i D cl).2.2) → QRes w1 q (wrC c.room c.P c.ds i D cl).1 (wrC c.room c.P c.ds i D cl).2.1 (wrC c.room c.P c.ds i D cl).2.2 e w2 := by
    rintro e w2 ⟨rfl, q1, A, hP, ht⟩
    rw [T.room, T.P] at hP ht ⊢
    exact ⟨by rw [e1], q1, A, by rw [hP, e2], by rw [ht]; exact e3⟩
  by_cases hno : hasB q.t.secs.length i = false ∨ D.length ≠ 256 ∨ ¬ (cl = 1 ∨ cl = 2)
  · exact (qwrite_no hq1 i p n cc D hd1.1 cl hno).mono hres
  · have hb : hasB q.t.secs.length i = true := by
      cases hh : hasB q.t.secs.length i
      · exact absurd (.inl hh) hno
      · rfl
    have hD : D.length = 256 := by
      rcases Nat.decEq D.length 256 with e | e
      · exact absurd (.inr (.inl e)) hno
      · exact e
    have hcl : cl = 1 ∨ cl = 2 := by
      rcases Classical.em (cl = 1 ∨ cl = 2) with e | e
      · exact e
      · exact absurd (.inr (.inr e)) hno
    obtain ⟨k, rfl, hk⟩ := hasB_nat hb
    obtain ⟨CL, rfl⟩ : ∃ m : Nat, cl = (m : Int) := ⟨cl.toNat, by omega⟩
    have hC : CL = 1 ∨ CL = 2 := by omega
    have hn : n = 256 := by rw [← hd1.1.len]; exact hD
    subst hn
    have hw : wrQ q.room q.P q.t (k : Int) D (CL : Int) = match cutAt (isK k) q.P with
      | some (_, x, _) => (0, dropK q.P x.k ++ [⟨x.k, D, CL, x.pins⟩], q.t)
      | none => if (roomQ q.room q.P q.t).1 = 0 then (0, dropK (roomQ q.room q.P q.t).2.1 k ++ [⟨k, D, CL, 0⟩], (roomQ q.room q.P q.t).2.2) else roomQ q.room q.P q.t := by
      unfold wrQ
      rw [if_neg (by rw [hb]; simp), if_neg (fun h => by rcases h with h | h; exact h hD; exact h hcl)]
      simp only [Int.toNat_natCast]
      rcases cutAt (isK k) q.P with _ | ⟨a, b, d⟩ <;> rfl
    cases hc : cutAt (isK k) q.P with
    | some y =>
      obtain ⟨P1, y, Q1⟩ := y
      rw [hc] at hw
      dsimp only at hw
      refine (qwrite_old hq1 k p cc D hd1.1 CL hC hb hc).mono fun e w2 hr => hres e w2 ?_
      rw [hw]
      exact hr
    | none =>
      rw [hc] at hw
      dsimp only at hw
      have hsub := roomR_sub c.room c.P c.ds
      obtain ⟨f1, f2, -⟩ := room_rel T.rel T.Q.ref.lc c.room c.P
      have hno2 : ∀ b ∈ (roomQ q.room q.P q.t).2.1, b.k ≠ k := fun b hb => by
        rw [T.room, T.P, f2] at hb
        exact cut_none_iff hc b (by rw [T.P]; exact hsub b hb)
      refine (qwrite_new hq1 k p cc D hd1.1 (fun a ha hf => by obtain ⟨cs, hcs⟩ := hd1.2 a ha; exact hq1.u8_ne hcs hf) CL hC hb hc (fun b hb => T.pi.c b (by rw [← T.P]; exact hb)) h3 h4 rfl (fun h0 => ?_)).mono fun e w2 hr => hres e w2 ?_
      · rw [dropK_none hno2]
        rw [T.room, T.P] at h0 ⊢
        rw [f1] at h0
        rw [f2]
        have hh := T.C.fit.len
        have hpl : c.P.length = c.L.length := by simp [CS.P]
        have := roomR_len h0 (by omega)
        omega
      · rw [hw]
        obtain ⟨he, q1, A, hP, ht⟩ := hr
        by_cases h0 : (roomQ q.room q.P q.t).1 = 0
        · rw [if_pos h0] at hP ⊢
          exact ⟨by rw [he, h0], q1, A, hP, ht⟩
        · rw [if_neg h0] at hP ⊢
          exact ⟨he, q1, A, hP, ht⟩
end Go.Proofs.YtdmnddikcpfmfaaGreat

/-
  What records a block has; what Add makes, plainly.
-/
import Derived.Test.YtikigfjdddgkpaaDtRecs
import Derived.Test.YtikigfjdddgkpaaDtWith
namespace Go.Proofs.Ytikigfjdddgkpaa
open Go.RowKit
/-- A record of a block. -/
structure RcOk (r : Rc) : Prop where
  pl : 0 ≤ r.pl
  nmp : r.pl + 8 + (r.nm.length : Int) ≤ 256
  need : needE r.nm ≤ r.ln
  fit : r.pl + r.ln ≤ 256
  four : r.ln % 4 = 0
  ino0 : 0 ≤ r.ino
  ino1 : r.ino < 4294967296
  kd0 : 0 ≤ r.kd
  kd1 : r.kd < 256
  ok : (if r.has then nmOk r.nm && inoOk r.ino r.kd else r.nm == [] && r.kd == 0) = true
theorem RcOk.of {xs : List Nat} {a : Nat} {r : Rc} (hl : xs.length = 256) (hb : ∀ x ∈ xs, x < 256) (h : recAt xs a = some r) : RcOk r := by
  obtain ⟨h0, h1, h2, h3, h4, h5⟩ := recAt_some h
  rw [hl] at h0 h4
  have hK := byteAt_lt hb (a + 6)
  have hkd := byteAt_lt hb (a + 7)
  have hin : inAt xs a < 4294967296 := by
    have h := numB_lt (xs := (xs.drop a).take 4) (fun x hx => hb x (List.mem_of_mem_drop (List.mem_of_mem_take hx)))
    rw [List.length_take, List.length_drop, hl, Nat.min_eq_left (by omega)] at h
    exact h
  have hpl : r.pl = (a : Int) := by rw [h1]; rfl
  have hnl : (r.nm.length : Int) ≤ r.ln - 8 := by unfold needE at h3; omega
  refine ⟨by omega, by omega, h3, by omega, h2, ?_, ?_, ?_, ?_, h5⟩
  · rw [h1]; show (0 : Int) ≤ (inAt xs a : Nat); omega
  · rw [h1]; show ((inAt xs a : Nat) : Int) < 4294967296; omega
  · rw [h1]; show (0 : Int) ≤ (kdAt xs a : Nat); omega
  · rw [h1]; show ((kdAt xs a : Nat) : Int) < 256; unfold kdAt; omega
theorem recsFrom_mem {xs : List Nat} : ∀ (f a : Nat) (acc rs : List Rc), recsFrom xs f a acc = some rs → ∀ r ∈ rs, r ∈ acc ∨ ∃ a', recAt xs a' = some r
  | 0, _, _, _, h => by simp [recsFrom] at h
  | f + 1, a, acc, rs, h => by
    intro r hr
    rw [recsFrom] at h
    split at h
    · split at h
      · cases h
      · rename_i r' hr'
        split at h
        · rcases recsFrom_mem f _ _ rs h r hr with h1 | h1
          · rcases List.mem_append.1 h1 with h2 | h2
            · exact .inl h2
            · simp at h2; subst h2; exact .inr ⟨a, hr'⟩
          · exact .inr h1
        · cases h
    · cases h; exact .inl hr
theorem recsO_len {xs : List Nat} {rs : List Rc} (h : recsO xs = some rs) : xs.length = 256 := by
  unfold recsO at h
  split at h
  · assumption
  · cases h
theorem recsO_ok {xs : List Nat} {rs : List Rc} (hb : ∀ x ∈ xs, x < 256) (h : recsO xs = some rs) : ∀ r ∈ rs, RcOk r := by
  have hl := recsO_len h
  unfold recsO at h
  rw [if_pos hl] at h
  intro r hr
  rcases recsFrom_mem _ _ _ _ h r hr with h1 | ⟨a, h1⟩
  · simp at h1
  · exact RcOk.of hl hb h1
theorem recsFrom_count {xs : List Nat} : ∀ (f a : Nat) (acc rs : List Rc), xs.length = 256 → a ≤ 256 → 8 * acc.length ≤ a → recsFrom xs f a acc = some rs → rs.length ≤ 32
  | 0, _, _, _, _, _, _, h => by simp [recsFrom] at h
  | f + 1, a, acc, rs, hl, ha, hc, h => by
    rw [recsFrom] at h
    split at h
    · split at h
      · cases h
      · rename_i r' hr'
        obtain ⟨l8, lle, -⟩ := recAt_ln hr'
        rw [hl] at lle
        split at h
        · exact recsFrom_count f _ _ rs hl (by omega) (by rw [List.length_append, List.length_singleton]; omega) h
        · cases h
    · cases h; omega
theorem recsO_count {xs : List Nat} {rs : List Rc} (h : recsO xs = some rs) : rs.length ≤ 32 := by
  have hl := recsO_len h
  unfold recsO at h
  rw [if_pos hl] at h
  exact recsFrom_count _ _ _ _ hl (by omega) (by simp) h
theorem RcOk.lay {r : Rc} (h : RcOk r) : LayOk r := ⟨h.pl, h.nmp, by have := h.need; have := needE_ge r.nm; omega, by have := h.pl; have := h.fit; omega, h.ino0, h.ino1, h.kd0, h.kd1⟩
theorem RcOk.len {r : Rc} (h : RcOk r) : r.nm.length < 256 := by have := h.pl; have := h.nmp; omega
theorem RcOk.spare {r : Rc} (h : RcOk r) : 0 ≤ spareE r ∧ spareE r ≤ r.ln := by
  have := h.need
  have := needE_ge r.nm
  unfold spareE
  split <;> omega
theorem RcOk.left {r : Rc} (h : RcOk r) : LayOk (leftR r) := by
  have h1 := h.lay
  have h2 := h.spare
  exact ⟨h1.1, h1.2.1, by show 0 ≤ r.ln - spareE r; omega, by show r.ln - spareE r < 65536; have := h1.2.2.2.1; omega, h.ino0, h.ino1, h.kd0, h.kd1⟩
/-- The new record, with an entry. -/
def newR (r : Rc) (x : Ent) : Rc := ⟨(addR r).pl, (addR r).ln, x.nm, x.ino, x.kd⟩
theorem RcOk.new {r : Rc} (h : RcOk r) {x : Ent} (hx : chkE x.nm x.ino x.kd = 0) (hs : needE x.nm ≤ spareE r) : LayOk (newR r x) := by
  obtain ⟨h1, h2⟩ := chkE_zero.1 hx
  obtain ⟨i1, i2, i3⟩ := inoOk_iff.1 h2
  have h3 := h.spare
  have h4 := h.pl
  have h5 := h.fit
  have h6 : 8 + (x.nm.length : Int) ≤ needE x.nm := by unfold needE; omega
  refine ⟨?_, ?_, ?_, ?_, by show 0 ≤ x.ino; omega, by show x.ino < 4294967296; omega, by show 0 ≤ x.kd; omega, by show x.kd < 256; omega⟩
  · show 0 ≤ r.pl + (r.ln - spareE r); omega
  · show r.pl + (r.ln - spareE r) + 8 + (x.nm.length : Int) ≤ 256; omega
  · show 0 ≤ spareE r; omega
  · show spareE r < 65536; omega
/-- Does an entry fit into what a record can spare? -/
def fitsB (x : Ent) (r : Rc) : Bool := decide (needE x.nm ≤ spareE r)
def fitE (rs : List Rc) (x : Ent) : Int := idxOf (fitsB x) rs 0
/-- What Add answers of a block's records. -/
def addO (xs : List Nat) (x : Ent) : Int × List Nat :=
  if chkE x.nm x.ino x.kd ≠ 0 then (chkE x.nm x.ino x.kd, [])
  else match recsO xs with
    | none => (160, [])
    | some rs => if 0 ≤ placeE rs x.nm then (5, []) else if fitE rs x < 0 then (6, []) else (0, layR (layR xs (leftR (eR rs (fitE rs x).toNat))) (newR (eR rs (fitE rs x).toNat) x))
theorem layR_length {xs : List Nat} {r : Rc} (hx : xs.length = 256) (h : LayOk r) : (layR xs r).length = 256 := by
  unfold layR
  rw [spl_length (by rw [encN_length, hx]; have := h.1; have := h.2.1; omega), hx]
theorem idxOf_sat {α : Type} (F : α → Bool) : ∀ (l : List α) (m : Nat), 0 ≤ idxOf F l m → ∃ k x, idxOf F l m = ((m + k : Nat) : Int) ∧ l[k]? = some x ∧ F x = true ∧ ∀ j y, j < k → l[j]? = some y → F y = false
  | [], m, h => by rw [idxOf] at h; omega
  | y :: l, m, h => by
    rw [idxOf] at h ⊢
    by_cases hy : F y = true
    · rw [if_pos hy]
      exact ⟨0, y, rfl, rfl, hy, fun j z hj => absurd hj (Nat.not_lt_zero _)⟩
    · rw [if_neg hy] at h ⊢
      obtain ⟨k, x, h1, h2, h3, h4⟩ := idxOf_sat F l (m + 1) h
      refine ⟨k + 1, x, by rw [h1]; congr 1; omega, by simpa using h2, h3, fun j z hj hz => ?_⟩
      cases j with
      | zero => simp at hz; subst hz; simpa using hy
      | succ j => exact h4 j z (by omega) (by simpa using hz)
theorem fit_sat {rs : List Rc} {x : Ent} (h : 0 ≤ fitE rs x) : ∃ k : Nat, fitE rs x = (k : Int) ∧ k < rs.length ∧ needE x.nm ≤ spareE (eR rs k) := by
  obtain ⟨k, r, h1, h2, h3, -⟩ := idxOf_sat (fitsB x) rs 0 h
  have hk : k < rs.length := (List.getElem?_eq_some_iff.1 h2).1
  rw [eR_get hk] at h2
  cases h2
  exact ⟨k, by rw [Nat.zero_add] at h1; exact h1, hk, of_decide_eq_true h3⟩
theorem addO_chk {xs : List Nat} {x : Ent} (h : chkE x.nm x.ino x.kd ≠ 0) : addO xs x = (chkE x.nm x.ino x.kd, []) := by unfold addO; rw [if_pos h]
theorem addO_dir {xs : List Nat} {x : Ent} (h : chkE x.nm x.ino x.kd = 0) (hr : recsO xs = none) : addO xs x = (160, []) := by unfold addO; rw [if_neg (by omega), hr]
theorem addO_twice {xs : List Nat} {x : Ent} {rs : List Rc} (h : chkE x.nm x.ino x.kd = 0) (hr : recsO xs = some rs) (hp : 0 ≤ placeE rs x.nm) : addO xs x = (5, []) := by
  unfold addO; rw [if_neg (by omega), hr]; exact if_pos hp
theorem addO_full {xs : List Nat} {x : Ent} {rs : List Rc} (h : chkE x.nm x.ino x.kd = 0) (hr : recsO xs = some rs) (hp : ¬ 0 ≤ placeE rs x.nm) (hf : fitE rs x < 0) : addO xs x = (6, []) := by
  unfold addO; rw [if_neg (by omega), hr]; show (if _ then _ else _) = _; rw [if_neg hp, if_pos hf]
theorem addO_ok {xs : List Nat} {x : Ent} {rs : List Rc} {k : Nat} (h : chkE x.nm x.ino x.kd = 0) (hr : recsO xs = some rs) (hp : ¬ 0 ≤ placeE rs x.nm) (hf : fitE rs x = (k : Int)) : addO xs x = (0, layR (layR xs (leftR (eR rs k))) (newR (eR rs k) x)) := by
  unfold addO; rw [if_neg (by omega), hr]; show (if _ then _ else _) = _; rw [if_neg hp, if_neg (by omega), hf, Int.toNat_natCast]
/-- A row of records as a literal. -/
theorem inR_lit (w : World) (rs : List Rc) (hn : rs.length ≤ 1000) : InR (w.alloc (.cells (flatR rs).toArray 69)) (some ⟨w.heap.size, 0, none⟩) rs.length rs.length rs := by
  have k := Blk.new w 69 (flatR rs)
  refine ⟨rfl, Nat.le_refl _, by unfold maxLen; omega, by omega, fun h => ⟨w.heap.size, 0, rfl, k.lt, fun i hi => ?_⟩, fun h => by cases h⟩
  rw [Nat.zero_add]
  obtain ⟨f0, f1, f2, f3, f4⟩ := flatR_at (l := rs) (k := i) hi
  exact ⟨k.cell' f0, k.cell' f1, k.cell' f2, k.cell' f3, k.cell' f4⟩
end Go.Proofs.Ytikigfjdddgkpaa

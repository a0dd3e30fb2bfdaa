/-
  Lists of extents, plain: which may be, where blocks stand, parts, holes, the one form.
-/
import Derived.Test.YtgeomfgfeemciaaXtBase
namespace Go.Proofs.Ytgeomfgfeemciaa
/-- Whether an extent may be. -/
def oneB (e : Ext) : Bool := decide (1 ≤ e.ln ∧ e.ln ≤ 4096 ∧ 0 ≤ e.lo ∧ e.lo + e.ln ≤ 65536 ∧ 1 ≤ e.ph ∧ e.ph + e.ln ≤ 8192)
theorem oneB_iff {e : Ext} : oneB e = true ↔ (1 ≤ e.ln ∧ e.ln ≤ 4096 ∧ 0 ≤ e.lo ∧ e.lo + e.ln ≤ 65536 ∧ 1 ≤ e.ph ∧ e.ph + e.ln ≤ 8192) := by simp [oneB]
def oneE (e : Ext) : Int := if oneB e = true then 0 else 130
theorem oneE_ok {e : Ext} (h : oneB e = true) : oneE e = 0 := by simp [oneE, h]
theorem oneE_no {e : Ext} (h : oneB e = false) : oneE e = 130 := by simp [oneE, h]
def endI (e : Ext) : Int := e.lo + e.ln
/-- Whether the second goes on where the first ends, and both have together no more than may be. -/
def goB (a b : Ext) : Bool := decide (b.lo = a.lo + a.ln ∧ b.ph = a.ph + a.ln ∧ a.ln + b.ln ≤ 4096)
theorem goB_iff {a b : Ext} : goB a b = true ↔ (b.lo = a.lo + a.ln ∧ b.ph = a.ph + a.ln ∧ a.ln + b.ln ≤ 4096) := by simp [goB]
/-- Whether the extent at place k may stand there. -/
def okAt (l : List Ext) (k : Nat) : Bool := oneB (eE l k) && (k == 0 || (decide (endI (eE l (k - 1)) ≤ (eE l k).lo) && !goB (eE l (k - 1)) (eE l k)))
def chkB (l : List Ext) : Bool := (List.range l.length).all (okAt l)
theorem chkB_iff {l : List Ext} : chkB l = true ↔ ∀ k, k < l.length → okAt l k = true := by simp [chkB]
theorem chkB_no {l : List Ext} {k : Nat} (hk : k < l.length) (h : okAt l k = false) : chkB l = false := by
  cases hc : chkB l with
  | false => rfl
  | true => rw [chkB_iff.1 hc k hk] at h; cases h
def chkE (l : List Ext) : Int := if chkB l = true then 0 else 130
theorem chkE_ok {l : List Ext} (h : chkB l = true) : chkE l = 0 := by simp [chkE, h]
theorem chkE_no {l : List Ext} (h : chkB l = false) : chkE l = 130 := by simp [chkE, h]
theorem chk_one {l : List Ext} (h : chkB l = true) {k : Nat} (hk : k < l.length) : oneB (eE l k) = true := by
  have := chkB_iff.1 h k hk
  unfold okAt at this
  exact (Bool.and_eq_true_iff.1 this).1
theorem chk_mem {l : List Ext} (h : chkB l = true) {e : Ext} (he : e ∈ l) : oneB e = true := by
  obtain ⟨k, hk, rfl⟩ := List.mem_iff_getElem.1 he
  have := chk_one h hk
  simpa [eE, hk] using this
theorem chkB_nil : chkB [] = true := rfl
end Go.Proofs.Ytgeomfgfeemciaa

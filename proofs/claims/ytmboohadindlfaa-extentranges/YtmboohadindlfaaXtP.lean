/-
  Lists of extents, plain: which may be, where blocks stand, parts, holes, the one form.
-/
import Derived.Test.YtmboohadindlfaaXtBase
namespace Go.Proofs.Ytmboohadindlfaa
/-- Whether an extent may be. -/
def oneB (e : Ext) : Bool := decide (1 ≤ e.ln ∧ e.ln ≤ 4096 ∧ 0 ≤ e.lo ∧ e.lo + e.ln ≤ 65536 ∧ 1 ≤ e.ph ∧ e.ph + e.ln ≤ 8192)
theorem oneB_iff {e : Ext} : oneB e = true ↔ (1 ≤ e.ln ∧ e.ln ≤ 4096 ∧ 0 ≤ e.lo ∧ e.lo + e.ln ≤ 65536 ∧ 1 ≤ e.ph ∧ e.ph + e.ln ≤ 8192) := by simp [oneB]
def oneE (e : Ext) : Int := if oneB e = true then 0 else 130
theorem oneE_ok {e : Ext} (h : oneB e = true) : oneE e = 0 := by simp [oneE, h]
theorem oneE_no {e : Ext} (h : oneB e = false) : oneE e = 130 := by simp [oneE, h]
def endI (e : Ext) : Int := e.lo + e.ln
/-- Whether the second goes on where the first ends, and both have together no more than may be. -/
def goB (a b : Ext) : Bool := decide (b.lo = a.lo + a.ln ∧ b.ph = a.ph + a.ln ∧ a.ln + b.ln ≤ 4096)
theorem goB_iff {a b : Ext} : goB a b = true ↔ (b.lo = a.lo + a.ln ∧ b.ph = a.ph + a.ln ∧ a.ln + b.ln ≤ 4096) := by simp [goB]
/-- Whether the extent at place k may stand there. -/
def okAt (l : List Ext) (k : Nat) : Bool := oneB (eE l k) && (k == 0 || (decide (endI (eE l (k - 1)) ≤ (eE l k).lo) && !goB (eE l (k - 1)) (eE l k)))
def chkB (l : List Ext) : Bool := (List.range l.length).all (okAt l)
theorem chkB_iff {l : List Ext} : chkB l = true ↔ ∀ k, k < l.length → okAt l k = true := by simp [chkB]
theorem chkB_no {l : List Ext} {k : Nat} (hk : k < l.length) (h : okAt l k = false) : chkB l = false := by
  cases hc : chkB l with
  | false => rfl
  | true => rw [chkB_iff.1 hc k hk] at h; cases h
def chkE (l : List Ext) : Int := if chkB l = true then 0 else 130
theorem chkE_ok {l : List Ext} (h : chkB l = true) : chkE l = 0 := by simp [chkE, h]
theorem chkE_no {l : List Ext} (h : chkB l = false) : chkE l = 130 := by simp [chkE, h]
theorem chk_one {l : List Ext} (h : chkB l = true) {k : Nat} (hk : k < l.length) : oneB (eE l k) = true := by
  have := chkB_iff.1 h k hk
  unfold okAt at this
  exact (Bool.and_eq_true_iff.1 this).1
theorem chk_mem {l : List Ext} (h : chkB l = true) {e : Ext} (he : e ∈ l) : oneB e = true := by
  obtain ⟨k, hk, rfl⟩ := List.mem_iff_getElem.1 he
  have := chk_one h hk
  simpa [eE, hk] using this
/-- What a list is taken for. -/
def takenL (l : List Ext) : List Ext := if chkB l = true then l else []
theorem chkB_nil : chkB [] = true := rfl
theorem takenL_chk (l : List Ext) : chkB (takenL l) = true := by
  unfold takenL; split
  · assumption
  · rfl
theorem takenL_len (l : List Ext) : (takenL l).length ≤ l.length := by
  unfold takenL; split
  · exact Nat.le_refl _
  · exact Nat.zero_le _
/-- Where a block stands. -/
def atL : List Ext → Int → Int × Int × Bool
  | [], b => (0, 65536 - b, false)
  | e :: l, b => if b < e.lo then (0, e.lo - b, false) else if b < e.lo + e.ln then (e.ph + (b - e.lo), e.ln - (b - e.lo), true) else atL l b
def atR (l : List Ext) (b : Int) : Int × Int × Bool := if b < 0 ∨ 65536 ≤ b then (0, 0, false) else atL (takenL l) b
theorem drop_eE {l : List Ext} {k : Nat} (h : k < l.length) : l.drop k = eE l k :: l.drop (k + 1) := by
  rw [List.drop_eq_getElem_cons h]; simp [eE, h]
/-- What of an extent is within a range. -/
def partB (f t : Int) (e : Ext) : Bool := decide (max e.lo f < min (e.lo + e.ln) t)
def partE (f t : Int) (e : Ext) : Ext := if partB f t e = true then ⟨max e.lo f, min (e.lo + e.ln) t - max e.lo f, e.ph + max e.lo f - e.lo⟩ else ⟨0, 0, 0⟩
theorem partB_iff {f t : Int} {e : Ext} : partB f t e = true ↔ max e.lo f < min (e.lo + e.ln) t := by simp [partB]
def runsL (f t : Int) (l : List Ext) : List Ext := (l.filter (partB f t)).map (partE f t)
theorem runsL_snoc_yes {f t : Int} {l : List Ext} {e : Ext} (h : partB f t e = true) : runsL f t (l ++ [e]) = runsL f t l ++ [partE f t e] := by simp [runsL, h]
theorem runsL_snoc_no {f t : Int} {l : List Ext} {e : Ext} (h : partB f t e = false) : runsL f t (l ++ [e]) = runsL f t l := by simp [runsL, h]
theorem runsL_len (f t : Int) (l : List Ext) : (runsL f t l).length ≤ l.length := by
  unfold runsL; rw [List.length_map]; exact List.length_filter_le _ _
theorem partE_yes {f t : Int} {e : Ext} (h : partB f t e = true) : partE f t e = ⟨max e.lo f, min (e.lo + e.ln) t - max e.lo f, e.ph + max e.lo f - e.lo⟩ := by simp [partE, h]
theorem partE_no {f t : Int} {e : Ext} (h : partB f t e = false) : partE f t e = ⟨0, 0, 0⟩ := by simp [partE, h]
/-- The hole from a to ahead of b, if there is one. -/
def holIf (a b : Int) : List Hol := if a < b then [⟨a, b - a⟩] else []
theorem holIf_yes {a b : Int} (h : a < b) : holIf a b = [⟨a, b - a⟩] := by unfold holIf; rw [if_pos h]
theorem holIf_no {a b : Int} (h : ¬ a < b) : holIf a b = [] := by unfold holIf; rw [if_neg h]
/-- The holes between runs. -/
def holesL (b : Int) : Int → List Ext → List Hol
  | a, [] => holIf a b
  | a, r :: rs => holIf a r.lo ++ holesL b (r.lo + r.ln) rs
/-- Holes ahead of the end: what the runs so far give, and where the next one begins. -/
def holesTo : Int → List Ext → List Hol
  | _, [] => []
  | a, r :: rs => holIf a r.lo ++ holesTo (r.lo + r.ln) rs
def nextTo : Int → List Ext → Int
  | a, [] => a
  | _, r :: rs => nextTo (r.lo + r.ln) rs
theorem holesTo_snoc (a : Int) (l : List Ext) (r : Ext) : holesTo a (l ++ [r]) = holesTo a l ++ holIf (nextTo a l) r.lo := by
  induction l generalizing a with
  | nil => simp [holesTo, nextTo]
  | cons x l ih => simp only [List.cons_append, holesTo, nextTo, ih, List.append_assoc]
theorem nextTo_snoc (a : Int) (l : List Ext) (r : Ext) : nextTo a (l ++ [r]) = r.lo + r.ln := by
  induction l generalizing a with
  | nil => rfl
  | cons x l ih => simp only [List.cons_append, nextTo, ih]
theorem holesL_eq (b a : Int) (l : List Ext) : holesL b a l = holesTo a l ++ holIf (nextTo a l) b := by
  induction l generalizing a with
  | nil => simp [holesL, holesTo, nextTo]
  | cons x l ih => simp only [holesL, holesTo, nextTo, ih, List.append_assoc]
def sumE (l : List Ext) : Int := (l.map Ext.ln).sum
theorem sumE_snoc (l : List Ext) (e : Ext) : sumE (l ++ [e]) = sumE l + e.ln := by simp [sumE]
def endL (l : List Ext) : Int := nextTo 0 l
/-- One step of the form: the next extent goes on with the last one, or is one of its own. -/
def normStep (out : List Ext) (e : Ext) : List Ext :=
  match out.getLast? with
  | some x => if goB x e = true then out.dropLast ++ [⟨x.lo, x.ln + e.ln, x.ph⟩] else out ++ [e]
  | none => [e]
def normL (s : List Ext) : List Ext := s.foldl normStep []
theorem normL_snoc (s : List Ext) (e : Ext) : normL (s ++ [e]) = normStep (normL s) e := by simp [normL]
theorem normStep_nil (e : Ext) : normStep [] e = [e] := rfl
theorem normStep_go {o : List Ext} {x e : Ext} (h : goB x e = true) : normStep (o ++ [x]) e = o ++ [⟨x.lo, x.ln + e.ln, x.ph⟩] := by simp [normStep, h]
theorem normStep_own {o : List Ext} {x e : Ext} (h : goB x e = false) : normStep (o ++ [x]) e = o ++ [x] ++ [e] := by simp [normStep, h]
/-- What the loop of Norm asks of the extent at place k: it may be, and begins behind the end of the one ahead. -/
def okN (s : List Ext) (k : Nat) : Bool := oneB (eE s k) && (k == 0 || decide (endI (eE s (k - 1)) ≤ (eE s k).lo))
def chkN (s : List Ext) : Bool := (List.range s.length).all (okN s)
theorem chkN_iff {l : List Ext} : chkN l = true ↔ ∀ k, k < l.length → okN l k = true := by simp [chkN]
theorem chkN_no {l : List Ext} {k : Nat} (hk : k < l.length) (h : okN l k = false) : chkN l = false := by
  cases hc : chkN l with
  | false => rfl
  | true => rw [chkN_iff.1 hc k hk] at h; cases h
theorem normStep_len (o : List Ext) (e : Ext) : (normStep o e).length ≤ o.length + 1 := by
  rcases List.eq_nil_or_concat o with rfl | ⟨o', x, rfl⟩
  · simp [normStep]
  · rw [List.concat_eq_append]
    cases h : goB x e with
    | true => rw [normStep_go h]; simp
    | false => rw [normStep_own h]; simp
theorem normL_len (s : List Ext) : (normL s).length ≤ s.length := by
  have : ∀ (s o : List Ext), (s.foldl normStep o).length ≤ o.length + s.length := by
    intro s
    induction s with
    | nil => intro o; simp
    | cons e s ih =>
      intro o
      have h1 := ih (normStep o e)
      have h2 := normStep_len o e
      simp only [List.foldl_cons, List.length_cons]
      omega
  have := this s []
  simpa [normL] using this
/-- What is formed so far: its last one may be, and ends where the last one that came ends. -/
theorem normL_last {s : List Ext} {k : Nat} (hk : k < s.length) (h : ∀ i, i ≤ k → okN s i = true) :
    ∃ o x, normL (s.take (k + 1)) = o ++ [x] ∧ oneB x = true ∧ endI x = endI (eE s k) := by
  induction k with
  | zero =>
    have h0 := h 0 (Nat.le_refl _)
    unfold okN at h0
    have h1 := (Bool.and_eq_true_iff.1 h0).1
    refine ⟨[], eE s 0, ?_, h1, rfl⟩
    rw [takeE_succ s 0 hk]
    simp [normL, normStep]
  | succ k ih =>
    obtain ⟨o, x, he, hx, hend⟩ := ih (by omega) (fun i hi => h i (by omega))
    have h0 := h (k + 1) (Nat.le_refl _)
    unfold okN at h0
    have h1 := (Bool.and_eq_true_iff.1 h0).1
    rw [takeE_succ s (k + 1) hk, normL_snoc, he]
    generalize eE s (k + 1) = e at *
    cases hg : goB x e with
    | true =>
      refine ⟨o, ⟨x.lo, x.ln + e.ln, x.ph⟩, normStep_go hg, ?_, ?_⟩
      · rw [goB_iff] at hg; rw [oneB_iff] at *; dsimp only; omega
      · rw [goB_iff] at hg; unfold endI at *; dsimp only; omega
    | false => exact ⟨o ++ [x], e, normStep_own hg, h1, rfl⟩
end Go.Proofs.Ytmboohadindlfaa

/-
  The plain heart of P5.5 and of what may be: what the steps that are no merge make of a table that may be, and where its pages stand then.
-/
import Derived.Test.YthibaefoioeghaaPlOpen
import Derived.Test.YthibaefoioeghaaPlWhere
namespace Go.Proofs.Ythibaefoioeghaa
open Go.RowKit
/-- A page's place by one log's pages: the last of them that is it. -/
def hit1 (k phys : Int) (pg : List Int) : Nat → Int × Int → Int × Int
  | 0, d => d
  | j + 1, d => if eI pg j = k then (phys, (j : Int)) else hit1 k phys pg j d
theorem hit1_succ (k phys : Int) (pg : List Int) (j : Nat) (d : Int × Int) : hit1 k phys pg (j + 1) d = if eI pg j = k then (phys, (j : Int)) else hit1 k phys pg j d := rfl
/-- A page's place by all logs. -/
def hitA (k : Int) (logs : List LogS) (d : Int × Int) : Int × Int := logs.foldl (fun d l => hit1 k l.phys l.pages l.pages.length d) d
theorem hit1_same {k phys : Int} {pg qg : List Int} (m : Nat) (d : Int × Int) (h : ∀ j, j < m → (eI pg j = k ↔ eI qg j = k)) : hit1 k phys pg m d = hit1 k phys qg m d := by
  induction m with
  | zero => rfl
  | succ j ih =>
    unfold hit1
    have h1 := h j (Nat.lt_succ_self _)
    rw [ih (fun i hi => h i (by omega))]
    by_cases e : eI pg j = k
    · rw [if_pos e, if_pos (h1.1 e)]
    · rw [if_neg e, if_neg (fun e2 => e (h1.2 e2))]
theorem hit1_none {k phys : Int} {pg : List Int} (m : Nat) (d : Int × Int) (h : ∀ j, j < m → eI pg j ≠ k) : hit1 k phys pg m d = d := by
  induction m with
  | zero => rfl
  | succ j ih =>
    unfold hit1
    rw [if_neg (h j (Nat.lt_succ_self _)), ih (fun i hi => h i (by omega))]
theorem putTo_at {P b o : Nat} {phys : Int} {pg : List Int} (hP : 0 < P) (ho : o < P) (L : List (Int × Int)) (hL : L.length = P) (d0 : Int × Int) (m : Nat) (hm : m ≤ pg.length) (hp : ∀ i, i < pg.length → eI pg i = -1 ∨ 0 ≤ eI pg i) :
    (putTo P b phys pg m L).getD o d0 = hit1 ((b * P + o : Nat) : Int) phys pg m (L.getD o d0) := by
  induction m with
  | zero => rfl
  | succ j ih =>
    have ihj := ih (by omega)
    have hlen := putTo_length P b phys pg j L
    unfold putTo hit1
    have hx := hp j (by omega)
    by_cases e : eI pg j = ((b * P + o : Nat) : Int)
    · rw [if_pos e]
      have h1 : isOfP P (eI pg j) (b : Int) = true := by
        unfold isOfP
        rw [e]
        have h2 : (((b * P + o : Nat) : Int)) / (P : Int) = (b : Int) := by
          rw [← Int.natCast_ediv, Nat.mul_comm, Nat.mul_add_div hP, Nat.div_eq_of_lt ho, Nat.add_zero]
        rw [h2]
        simp
        omega
      have h3 : (eI pg j % (P : Int)).toNat = o := by
        rw [e, ← Int.natCast_emod, Int.toNat_natCast, Nat.mul_comm, Nat.mul_add_mod, Nat.mod_eq_of_lt ho]
      rw [if_pos h1, h3, List.getD_eq_getElem?_getD, List.getElem?_set_self (by omega)]
      rfl
    · rw [if_neg e, ← ihj]
      split
      · rename_i h1
        unfold isOfP at h1
        simp only [Bool.and_eq_true, bne_iff_ne, ne_eq, beq_iff_eq] at h1
        have h0 : 0 ≤ eI pg j := by rcases hx with hx | hx; exact absurd hx h1.1; exact hx
        rw [List.getD_eq_getElem?_getD, List.getD_eq_getElem?_getD, List.getElem?_set_ne]
        intro h3
        apply e
        have h4 := Int.mul_ediv_add_emod (eI pg j) (P : Int)
        have h5 : 0 ≤ eI pg j % (P : Int) := Int.emod_nonneg _ (by omega)
        rw [h1.2] at h4
        have h6 : ((eI pg j % (P : Int)).toNat : Int) = eI pg j % (P : Int) := Int.toNat_of_nonneg h5
        rw [Int.natCast_add, Int.natCast_mul]
        have h7 : (P : Int) * (b : Int) = (b : Int) * (P : Int) := Int.mul_comm _ _
        omega
      · rfl
theorem logsTo_at {P b o : Nat} (hP : 0 < P) (ho : o < P) (L : List (Int × Int)) (hL : L.length = P) (d0 : Int × Int) (logs : List LogS) (hp : ∀ l ∈ logs, ∀ i, i < l.pages.length → eI l.pages i = -1 ∨ 0 ≤ eI l.pages i) (n : Nat) (hn : n ≤ logs.length) :
    (logsTo P b logs n L).getD o d0 = hitA ((b * P + o : Nat) : Int) (logs.take n) (L.getD o d0) := by
  induction n with
  | zero => rfl
  | succ n ih =>
    have hlt : n < logs.length := by omega
    have hl : logs[n]? = some logs[n] := List.getElem?_eq_getElem hlt
    unfold logsTo
    rw [hl]
    dsimp only
    rw [putTo_at hP ho _ (by rw [logsTo_length]; exact hL) d0 _ (Nat.le_refl _) (hp _ (List.getElem_mem hlt)), ih (by omega), List.take_succ_eq_append_getElem hlt]
    unfold hitA
    rw [List.foldl_append]
    rfl
theorem pg_mem {T : Tab} (h : PgOk T) : ∀ l ∈ T.logs, ∀ i, i < l.pages.length → eI l.pages i = -1 ∨ 0 ≤ eI l.pages i := by
  intro l hl i hi
  obtain ⟨n, hn⟩ := List.mem_iff_getElem?.1 hl
  exact (h n l hn i hi).imp id (fun h => h.1)
theorem whereP_eq {T : Tab} {P : Nat} (hP : 0 < P) (h : PgOk T) (k : Nat) : whereP T P k = hitA (k : Int) T.logs (baseP T P (k / P) (k % P)) := by
  have ho : k % P < P := Nat.mod_lt _ hP
  unfold whereP standP
  rw [logsTo_at hP ho _ (by simp) _ _ (pg_mem h) _ (Nat.le_refl _), List.take_of_length_le (Nat.le_refl _)]
  have e : k / P * P + k % P = k := by rw [Nat.mul_comm]; exact Nat.div_add_mod k P
  rw [e]
  congr 1
  rw [List.getD_eq_getElem?_getD, List.getElem?_map, List.getElem?_range ho]
  rfl
/-- What is left of logs when a page is forgotten. -/
def forgetL (n : Int) (logs : List LogS) : List LogS := logs.map fun l => ⟨l.phys, l.pages.map fun x => if x = n then -1 else x⟩
theorem eI_map (f : Int → Int) (pg : List Int) {j : Nat} (h : j < pg.length) : eI (pg.map f) j = f (eI pg j) := by simp [eI, h]
theorem hitA_forget {k n : Int} (hk : k ≠ n) (h1 : k ≠ -1) (logs : List LogS) (d : Int × Int) : hitA k (forgetL n logs) d = hitA k logs d := by
  unfold hitA forgetL
  induction logs generalizing d with
  | nil => rfl
  | cons l t ih =>
    rw [List.map_cons, List.foldl_cons, List.foldl_cons, ih]
    congr 1
    dsimp only
    rw [List.length_map]
    refine hit1_same _ _ (fun j hj => ?_)
    rw [eI_map _ _ hj]
    by_cases e : eI l.pages j = n
    · rw [if_pos e, e]
      constructor
      · intro h; exact absurd h.symm h1
      · intro h; exact absurd h.symm hk
    · rw [if_neg e]
theorem hitA_gone {n : Int} (h1 : n ≠ -1) (logs : List LogS) (d : Int × Int) : hitA n (forgetL n logs) d = d := by
  unfold hitA forgetL
  induction logs generalizing d with
  | nil => rfl
  | cons l t ih =>
    rw [List.map_cons, List.foldl_cons, ih]
    refine hit1_none _ _ (fun j hj => ?_)
    dsimp only at hj ⊢
    rw [List.length_map] at hj
    rw [eI_map _ _ hj]
    by_cases e : eI l.pages j = n
    · rw [if_pos e]; exact fun h => h1 h.symm
    · rw [if_neg e]; exact e
theorem eI_snoc_lt {pg : List Int} {x : Int} {j : Nat} (h : j < pg.length) : eI (pg ++ [x]) j = eI pg j := by
  unfold eI; rw [List.getD_eq_getElem?_getD, List.getD_eq_getElem?_getD, List.getElem?_append_left h]
theorem eI_snoc {pg : List Int} {x : Int} : eI (pg ++ [x]) pg.length = x := by
  unfold eI; rw [List.getD_eq_getElem?_getD, List.getElem?_append_right (Nat.le_refl _), Nat.sub_self]; rfl
theorem hitA_snoc (k : Int) (A : List LogS) (l : LogS) (x : Int) (d : Int × Int) : hitA k (A ++ [⟨l.phys, l.pages ++ [x]⟩]) d = if x = k then (l.phys, (l.pages.length : Int)) else hitA k (A ++ [l]) d := by
  unfold hitA
  rw [List.foldl_append, List.foldl_append]
  show hit1 k l.phys (l.pages ++ [x]) (l.pages ++ [x]).length _ = _
  rw [List.length_append]
  show hit1 k l.phys (l.pages ++ [x]) (l.pages.length + 1) _ = _
  rw [hit1_succ, eI_snoc]
  by_cases e : x = k
  · rw [if_pos e, if_pos e]
  · rw [if_neg e, if_neg e]
    exact hit1_same (pg := l.pages ++ [x]) (qg := l.pages) _ _ (fun j hj => by rw [eI_snoc_lt (pg := l.pages) (x := x) hj])
theorem hitA_open (k : Int) (A : List LogS) (phys : Int) (d : Int × Int) : hitA k (A ++ [⟨phys, []⟩]) d = hitA k A d := by
  unfold hitA
  rw [List.foldl_append]
  rfl
theorem firstOf_all {xs : List Int} (h : firstOf xs = -1) : ∀ x ∈ xs, x = -1 := by
  induction xs with
  | nil => intro x hx; cases hx
  | cons a t ih =>
    unfold firstOf at h
    split at h
    · rename_i ha
      intro x hx
      rcases List.mem_cons.1 hx with rfl | hx
      · exact ha
      · exact ih h x hx
    · rename_i ha
      exact absurd h ha
theorem hitA_drop {k : Int} (hk : k ≠ -1) {l : LogS} (h : ∀ x ∈ l.pages, x = -1) (A : List LogS) (d : Int × Int) : hitA k (l :: A) d = hitA k A d := by
  unfold hitA
  rw [List.foldl_cons, hit1_none _ _ (fun j hj => by rw [h _ (eI_mem hj)]; exact fun e => hk e.symm)]
/-- The pages that logs hold. -/
def newest (logs : List LogS) : List Int := (logs.map (·.pages)).flatten.filter fun x => x != -1
def lensOk (P : Nat) (logs : List LogS) : Prop := ∀ n l, logs[n]? = some l → l.pages.length ≤ P ∧ (P ≤ l.pages.length ∨ n + 1 = logs.length)
def pagesOk (T : Tab) (logs : List LogS) : Prop := ∀ l ∈ logs, ∀ p ∈ l.pages, p = -1 ∨ hasPg T p = true
/-- What a table that may be is, part by part. -/
structure OkS (T : Tab) : Prop where
  sh : okShape T = true
  bl : ∀ x ∈ blocksL T, 0 ≤ x ∧ x ≤ 255
  bn : (blocksL T).Nodup
  hv : okHv T.pages.toNat T.data T.have' = true
  sq : okSeq T = true
  le : lensOk T.pages.toNat T.logs
  pa : pagesOk T T.logs
  nn : (newest T.logs).Nodup
theorem okT_iff {T : Tab} : okT T = true ↔ OkS T := by
  unfold okT okBlocks okBl okLogs twice
  have e : flatTo T.logs T.logs.length = newest T.logs := by unfold flatTo newest; rw [List.take_of_length_le (Nat.le_refl _)]
  rw [e]
  simp only [Bool.and_eq_true, List.all_eq_true, decide_eq_true_eq, Bool.not_eq_true', decide_eq_false_iff_not, Classical.not_not]
  constructor
  · rintro ⟨h1, ⟨⟨⟨h2, h3⟩, h4⟩, h5⟩, h6, h7⟩
    rw [okAll_iff] at h6
    refine ⟨h1, h2, h3, h4, h5, fun n l hl => ?_, fun l hl p hp => ?_, h7⟩
    · have := h6 n l hl
      unfold okOne at this
      simp only [Bool.and_eq_true, Bool.or_eq_true, decide_eq_true_eq] at this
      exact ⟨this.1.1, this.1.2⟩
    · obtain ⟨n, hn⟩ := List.mem_iff_getElem?.1 hl
      have := h6 n l hn
      unfold okOne at this
      simp only [Bool.and_eq_true, List.all_eq_true, Bool.or_eq_true, beq_iff_eq] at this
      exact this.2 p hp
  · intro h
    refine ⟨h.sh, ⟨⟨⟨h.bl, h.bn⟩, h.hv⟩, h.sq⟩, ?_, h.nn⟩
    rw [okAll_iff]
    intro n l hl
    unfold okOne
    simp only [Bool.and_eq_true, Bool.or_eq_true, decide_eq_true_eq, List.all_eq_true, beq_iff_eq]
    exact ⟨h.le n l hl, fun p hp => h.pa l (List.mem_of_getElem? hl) p hp⟩
theorem OkS.pgOk {T : Tab} (h : OkS T) : PgOk T := by
  obtain ⟨⟨r1, r2, r3⟩, s1, s2, s3⟩ := okShape_iff.1 h.sh
  intro n l hl i hi
  rcases h.pa l (List.mem_of_getElem? hl) _ (eI_mem hi) with e | e
  · exact .inl e
  · unfold hasPg at e
    simp only [Bool.and_eq_true, decide_eq_true_eq] at e
    have : T.logical * T.pages ≤ 256 * 32 := Int.mul_le_mul r2.2 r1.2 (by omega) (by omega)
    exact .inr (by omega)
theorem forget_phys (n : Int) (logs : List LogS) : (forgetL n logs).map (·.phys) = logs.map (·.phys) := by unfold forgetL; rw [List.map_map]; rfl
theorem forget_length (n : Int) (logs : List LogS) : (forgetL n logs).length = logs.length := by unfold forgetL; rw [List.length_map]
theorem newest_cons (l : LogS) (A : List LogS) : newest (l :: A) = (l.pages.filter fun x => x != -1) ++ newest A := by unfold newest; rw [List.map_cons, List.flatten_cons, List.filter_append]
theorem newest_app (A B : List LogS) : newest (A ++ B) = newest A ++ newest B := by unfold newest; rw [List.map_append, List.flatten_append, List.filter_append]
theorem newest_forget {n : Int} (logs : List LogS) : newest (forgetL n logs) = (newest logs).filter fun x => x != n := by
  induction logs with
  | nil => rfl
  | cons l t ih =>
    have e : forgetL n (l :: t) = ⟨l.phys, l.pages.map fun x => if x = n then -1 else x⟩ :: forgetL n t := rfl
    rw [e, newest_cons, newest_cons, List.filter_append, ih]
    congr 1
    dsimp only
    induction l.pages with
    | nil => rfl
    | cons a r ihr =>
      rw [List.map_cons, List.filter_cons, List.filter_cons]
      by_cases h1 : a = n
      · rw [if_pos h1, if_neg (by simp), ihr]
        by_cases h2 : a = -1
        · rw [if_neg (by simp [h2])]
        · rw [if_pos (by simp [h2]), List.filter_cons, if_neg (by simp [h1])]
      · rw [if_neg h1]
        by_cases h2 : a = -1
        · rw [if_neg (by simp [h2]), if_neg (by simp [h2]), ihr]
        · rw [if_pos (by simp [h2]), if_pos (by simp [h2]), List.filter_cons, if_pos (by simp [h1]), ihr]
theorem newest_snoc {x : Int} (A : List LogS) (l : LogS) (hx : x ≠ -1) : newest (A ++ [⟨l.phys, l.pages ++ [x]⟩]) = newest (A ++ [l]) ++ [x] := by
  rw [newest_app, newest_app, newest_cons, newest_cons, List.append_assoc]
  congr 1
  dsimp only
  rw [List.filter_append, List.append_assoc, List.append_assoc]
  congr 1
  simp [newest, hx]
theorem newest_gone (A : List LogS) (l : LogS) : newest (A ++ [⟨l.phys, l.pages ++ [-1]⟩]) = newest (A ++ [l]) := by
  rw [newest_app, newest_app, newest_cons, newest_cons]
  dsimp only
  rw [List.filter_append]
  simp [newest]
theorem lens_forget {P : Nat} {n : Int} {logs : List LogS} (h : lensOk P logs) : lensOk P (forgetL n logs) := by
  intro i l hl
  unfold forgetL at hl
  rw [List.getElem?_map] at hl
  obtain ⟨l0, h0, rfl⟩ := Option.map_eq_some_iff.1 hl
  dsimp only
  rw [List.length_map, forget_length]
  exact h i l0 h0
theorem pages_forget {T : Tab} {n : Int} {logs : List LogS} (h : pagesOk T logs) : pagesOk T (forgetL n logs) := by
  intro l hl p hp
  unfold forgetL at hl
  obtain ⟨l0, h0, rfl⟩ := List.mem_map.1 hl
  obtain ⟨q, hq, rfl⟩ := List.mem_map.1 hp
  by_cases e : q = n
  · rw [if_pos e]; exact .inl rfl
  · rw [if_neg e]; exact h l0 h0 q hq
theorem lens_snoc {P : Nat} {A : List LogS} {l l' : LogS} (h : lensOk P (A ++ [l])) (h' : l'.pages.length ≤ P) : lensOk P (A ++ [l']) := by
  intro i x hx
  rw [List.length_append, List.length_singleton]
  by_cases hi : i < A.length
  · rw [List.getElem?_append_left hi] at hx
    have := h i x (by rw [List.getElem?_append_left hi]; exact hx)
    rwa [List.length_append, List.length_singleton] at this
  · rw [List.getElem?_append_right (by omega)] at hx
    have hil := (List.getElem?_eq_some_iff.1 hx).1
    simp only [List.length_singleton] at hil
    have : i - A.length = 0 := by omega
    rw [this] at hx
    cases hx
    exact ⟨h', .inr (by omega)⟩
theorem lens_open {P : Nat} {A : List LogS} {phys : Int} (h : lensOk P A) (hr : ∀ l, A.getLast? = some l → P ≤ l.pages.length) : lensOk P (A ++ [⟨phys, []⟩]) := by
  intro i x hx
  rw [List.length_append, List.length_singleton]
  by_cases hi : i < A.length
  · rw [List.getElem?_append_left hi] at hx
    have := h i x hx
    refine ⟨this.1, .inl ?_⟩
    rcases this.2 with h2 | h2
    · exact h2
    · refine hr x ?_
      rw [List.getLast?_eq_getElem?, show A.length - 1 = i from by omega]
      exact hx
  · rw [List.getElem?_append_right (by omega)] at hx
    have hil := (List.getElem?_eq_some_iff.1 hx).1
    simp only [List.length_singleton] at hil
    have : i - A.length = 0 := by omega
    rw [this] at hx
    cases hx
    exact ⟨Nat.zero_le _, .inr (by omega)⟩
theorem lens_tail {P : Nat} {l : LogS} {A : List LogS} (h : lensOk P (l :: A)) : lensOk P A := by
  intro i x hx
  have := h (i + 1) x (by rw [List.getElem?_cons_succ]; exact hx)
  rw [List.length_cons] at this
  exact ⟨this.1, this.2.imp id (fun e => by omega)⟩
theorem last_split {logs : List LogS} {l : LogS} (h : logs.getLast? = some l) : ∃ A, logs = A ++ [l] := List.getLast?_eq_some_iff.1 h
theorem addPg_logs {T : Tab} {A : List LogS} {l : LogS} (h : T.logs = A ++ [l]) (x : Int) : addPg T x = { T with logs := A ++ [⟨l.phys, l.pages ++ [x]⟩] } := by
  have hg : T.logs.getD (T.logs.length - 1) ⟨0, []⟩ = l := by
    rw [h, List.length_append, List.length_singleton, List.getD_eq_getElem?_getD, List.getElem?_append_right (by omega), show A.length + 1 - 1 - A.length = 0 from by omega]
    rfl
  unfold addPg
  rw [hg, h, List.length_append, List.length_singleton, List.set_append_right _ _ (by omega), show A.length + 1 - 1 - A.length = 0 from by omega]
  rfl
theorem room_split {T : Tab} (h : room T = true) : ∃ A l, T.logs = A ++ [l] ∧ (l.pages.length : Int) < T.pages := by
  unfold room at h
  split at h
  · rename_i l hl
    obtain ⟨A, hA⟩ := last_split hl
    exact ⟨A, l, hA, by simpa using h⟩
  · cases h
def forgetT (T : Tab) (n : Int) : Tab := { T with logs := forgetL n T.logs }
def putSq (T : Tab) (n : Int) : Tab := { T with logs := forgetL n T.logs, su := T.su + 1 }
def putRn (T : Tab) (n : Int) : Tab := addPg (forgetT T n) n
def dropT (T : Tab) : Tab := { T with logs := T.logs.tail }
theorem OkS.p0 {T : Tab} (h : OkS T) : 0 < T.pages.toNat := by have := (okShape_iff.1 h.sh).1.1; omega
theorem baseP_logs (T : Tab) (L : List LogS) (P b o : Nat) : baseP { T with logs := L } P b o = baseP T P b o := rfl
theorem OkS.setLogs {T : Tab} (h : OkS T) {L : List LogS} (hb : L.map (·.phys) = T.logs.map (·.phys)) (hl : lensOk T.pages.toNat L) (hp : pagesOk T L) (hn : (newest L).Nodup) : OkS { T with logs := L } := by
  have hlen : L.length = T.logs.length := by rw [← List.length_map (f := (·.phys)), hb, List.length_map]
  obtain ⟨r, s1, s2, s3⟩ := okShape_iff.1 h.sh
  have e : blocksL { T with logs := L } = blocksL T := by unfold blocksL seqL; rw [hb]
  exact ⟨okShape_iff.2 ⟨r, s1, s2, by rw [hlen]; exact s3⟩, by rw [e]; exact h.bl, by rw [e]; exact h.bn, h.hv, h.sq, hl, hp, hn⟩
theorem OkS.forget {T : Tab} (h : OkS T) (n : Int) : OkS (forgetT T n) := by
  refine h.setLogs (forget_phys _ _) (lens_forget h.le) (pages_forget h.pa) ?_
  rw [newest_forget]
  exact List.Pairwise.filter _ h.nn
theorem room_forget (T : Tab) (n : Int) : room (forgetT T n) = room T := by
  unfold room forgetT forgetL
  dsimp only
  rw [List.getLast?_map]
  cases T.logs.getLast? with
  | none => rfl
  | some l => simp
theorem OkS.add {T : Tab} (h : OkS T) (hr : room T = true) {x : Int} (hx : x = -1 ∨ (hasPg T x = true ∧ x ∉ newest T.logs)) : OkS (addPg T x) := by
  obtain ⟨A, l, hA, hlt⟩ := room_split hr
  have hp0 := h.p0
  rw [addPg_logs hA]
  refine h.setLogs (by rw [hA, List.map_append, List.map_append]; rfl) ?_ ?_ ?_
  · have := h.le
    rw [hA] at this
    exact lens_snoc this (by dsimp only; rw [List.length_append, List.length_singleton]; omega)
  · intro l' hl' p hp
    rcases List.mem_append.1 hl' with h1 | h1
    · exact h.pa l' (by rw [hA]; exact List.mem_append.2 (.inl h1)) p hp
    · rw [List.mem_singleton.1 h1] at hp
      rcases List.mem_append.1 hp with h2 | h2
      · exact h.pa l (by rw [hA]; simp) p h2
      · rw [List.mem_singleton.1 h2]
        exact hx.imp id (fun h => h.1)
  · have hn := h.nn
    rw [hA] at hn
    by_cases h1 : x = -1
    · subst h1; rw [newest_gone]; exact hn
    · rw [newest_snoc A l h1]
      rcases hx with hx | hx
      · exact absurd hx h1
      · refine List.nodup_append.2 ⟨hn, by simp, fun a ha b hb => ?_⟩
        rw [List.mem_singleton.1 hb]
        rintro rfl
        exact hx.2 (by rw [hA]; exact ha)
theorem skip_where {T : Tab} (h : OkS T) (hr : room T = true) : OkS (addPg T (-1)) ∧ ∀ k : Nat, whereP (addPg T (-1)) T.pages.toNat k = whereP T T.pages.toNat k := by
  have h2 := h.add hr (x := -1) (.inl rfl)
  refine ⟨h2, fun k => ?_⟩
  rw [whereP_eq h.p0 h2.pgOk, whereP_eq h.p0 h.pgOk]
  obtain ⟨A, l, hA, _⟩ := room_split hr
  rw [addPg_logs hA]
  show hitA (k : Int) (A ++ [⟨l.phys, l.pages ++ [-1]⟩]) (baseP T _ _ _) = _
  rw [hitA_snoc, if_neg (by omega), hA]
theorem mid_nodup {α : Type} {A B : List α} {x : α} (h : (A ++ B).Nodup) (hx : x ∉ A ++ B) : (A ++ [x] ++ B).Nodup := by
  rw [List.nodup_append] at h
  simp only [List.mem_append, not_or] at hx
  rw [List.nodup_append, List.nodup_append]
  refine ⟨⟨h.1, by simp, fun a ha b hb => ?_⟩, h.2.1, fun a ha b hb => ?_⟩
  · rw [List.mem_singleton.1 hb]; rintro rfl; exact hx.1 ha
  · rcases List.mem_append.1 ha with h1 | h1
    · exact h.2.2 a h1 b hb
    · rw [List.mem_singleton.1 h1]; rintro rfl; exact hx.2 hb
theorem openSq_where {T : Tab} (h : OkS T) {blk phys : Int} (hph : 0 ≤ phys ∧ phys ≤ 255) (hf : phys ∉ blocksL T) (hb : hasBk T blk = true) (hs : T.sp = -1) :
    OkS { T with sp := phys, sl := blk, su := 0 } ∧ ∀ k : Nat, whereP { T with sp := phys, sl := blk, su := 0 } T.pages.toNat k = whereP T T.pages.toNat k := by
  obtain ⟨r, s1, s2, s3⟩ := okShape_iff.1 h.sh
  have e0 : blocksL T = (T.data.filter fun x => x != -1) ++ T.logs.map (·.phys) := by unfold blocksL seqL; rw [if_pos hs, List.append_nil]
  have e1 : blocksL { T with sp := phys, sl := blk, su := 0 } = (T.data.filter fun x => x != -1) ++ [phys] ++ T.logs.map (·.phys) := by
    unfold blocksL seqL
    dsimp only
    rw [if_neg (by omega)]
  have h2 : OkS { T with sp := phys, sl := blk, su := 0 } := by
    refine ⟨okShape_iff.2 ⟨r, s1, s2, s3⟩, ?_, ?_, h.hv, ?_, h.le, h.pa, h.nn⟩
    · rw [e1]
      intro x hx
      simp only [List.mem_append, List.mem_singleton] at hx
      rcases hx with (hx | hx) | hx
      · exact h.bl x (by rw [e0]; exact List.mem_append.2 (.inl hx))
      · rw [hx]; exact hph
      · exact h.bl x (by rw [e0]; exact List.mem_append.2 (.inr hx))
    · rw [e1]
      have hn := h.bn
      rw [e0] at hn hf
      exact mid_nodup hn hf
    · unfold okSeq
      dsimp only
      rw [if_neg (by omega)]
      have hb' : hasBk { T with sp := phys, sl := blk, su := 0 } blk = true := hb
      rw [hb']
      simp only [Bool.true_and, Bool.and_eq_true, decide_eq_true_eq]
      omega
  refine ⟨h2, fun k => ?_⟩
  rw [whereP_eq h.p0 h2.pgOk, whereP_eq h.p0 h.pgOk]
  congr 1
  unfold baseP
  dsimp only
  have c1 : decide (((k % T.pages.toNat : Nat) : Int) < 0) = false := by simp only [decide_eq_false_iff_not]; omega
  have c2 : (T.sp != -1) = false := by simp [hs]
  rw [c1, c2, Bool.and_false, Bool.false_and, Bool.false_and]
  simp only [Bool.false_eq_true, if_false]
theorem openRn_where {T : Tab} (h : OkS T) {phys : Int} (hph : 0 ≤ phys ∧ phys ≤ 255) (hf : phys ∉ blocksL T) (hk : (T.logs.length : Int) < T.k) (hr : room T = false) :
    OkS { T with logs := T.logs ++ [⟨phys, []⟩] } ∧ ∀ k : Nat, whereP { T with logs := T.logs ++ [⟨phys, []⟩] } T.pages.toNat k = whereP T T.pages.toNat k := by
  obtain ⟨r, s1, s2, s3⟩ := okShape_iff.1 h.sh
  have e1 : blocksL { T with logs := T.logs ++ [⟨phys, []⟩] } = blocksL T ++ [phys] := by
    unfold blocksL seqL
    dsimp only
    rw [List.map_append, List.append_assoc, List.append_assoc, List.append_assoc]
    rfl
  have h2 : OkS { T with logs := T.logs ++ [⟨phys, []⟩] } := by
    refine ⟨okShape_iff.2 ⟨r, s1, s2, by rw [List.length_append]; show ((T.logs.length + 1 : Nat) : Int) ≤ T.k; omega⟩, ?_, ?_, h.hv, h.sq, lens_open h.le (fun l hl => ?_), ?_, ?_⟩
    · rw [e1]
      intro x hx
      rcases List.mem_append.1 hx with hx | hx
      · exact h.bl x hx
      · rw [List.mem_singleton.1 hx]; exact hph
    · rw [e1]
      refine List.nodup_append.2 ⟨h.bn, by simp, fun a ha b hb => ?_⟩
      rw [List.mem_singleton.1 hb]
      rintro rfl
      exact hf ha
    · unfold room at hr
      rw [hl] at hr
      simp only [decide_eq_false_iff_not] at hr
      show T.pages.toNat ≤ _
      omega
    · intro l hl p hp
      rcases List.mem_append.1 hl with h1 | h1
      · exact h.pa l h1 p hp
      · rw [List.mem_singleton.1 h1] at hp; cases hp
    · have e2 : newest (T.logs ++ [⟨phys, []⟩]) = newest T.logs := by rw [newest_app]; simp [newest]
      dsimp only
      rw [e2]
      exact h.nn
  refine ⟨h2, fun k => ?_⟩
  rw [whereP_eq h.p0 h2.pgOk, whereP_eq h.p0 h.pgOk]
  exact hitA_open _ _ _ _
theorem drop_where {T : Tab} (h : OkS T) (hv : victimP T = -1) : OkS (dropT T) ∧ ∀ k : Nat, whereP (dropT T) T.pages.toNat k = whereP T T.pages.toNat k := by
  obtain ⟨r, s1, s2, s3⟩ := okShape_iff.1 h.sh
  cases hl : T.logs with
  | nil =>
    have e : dropT T = T := by unfold dropT; rw [hl]; cases T; simp only at hl; subst hl; rfl
    rw [e]
    exact ⟨h, fun _ => rfl⟩
  | cons l A =>
    have e : dropT T = { T with logs := A } := by unfold dropT; rw [hl]; rfl
    have hva : ∀ x ∈ l.pages, x = -1 := by unfold victimP at hv; rw [hl] at hv; exact firstOf_all hv
    rw [e]
    have e1 : blocksL T = ((T.data.filter fun x => x != -1) ++ seqL T) ++ (l.phys :: A.map (·.phys)) := by unfold blocksL; rw [hl]; rfl
    have e2 : blocksL { T with logs := A } = ((T.data.filter fun x => x != -1) ++ seqL T) ++ A.map (·.phys) := rfl
    have hsub : List.Sublist (blocksL { T with logs := A }) (blocksL T) := by
      rw [e1, e2]
      exact List.Sublist.append (List.Sublist.refl _) (List.sublist_cons_self _ _)
    have h2 : OkS { T with logs := A } := by
      have hle := h.le
      have hnn := h.nn
      rw [hl] at hle hnn
      rw [newest_cons] at hnn
      refine ⟨okShape_iff.2 ⟨r, s1, s2, by rw [hl, List.length_cons] at s3; dsimp only; omega⟩, fun x hx => h.bl x (hsub.subset hx), List.Pairwise.sublist hsub h.bn, h.hv, h.sq, lens_tail hle, fun l' hl' p hp => h.pa l' (by rw [hl]; exact List.mem_cons_of_mem _ hl') p hp, (List.nodup_append.1 hnn).2.1⟩
    refine ⟨h2, fun k => ?_⟩
    rw [whereP_eq h.p0 h2.pgOk, whereP_eq h.p0 h.pgOk, hl, hitA_drop (by omega) hva]
    rfl
theorem putSq_where {T : Tab} (h : OkS T) {n : Nat} (hn : isNextP T T.pages.toNat n = true) :
    OkS (putSq T n) ∧ (∀ k : Nat, k ≠ n → whereP (putSq T n) T.pages.toNat k = whereP T T.pages.toNat k) ∧ whereP (putSq T n) T.pages.toNat n = (T.sp, ((n % T.pages.toNat : Nat) : Int)) ∧ T.sp ≠ -1 := by
  obtain ⟨r, s1, s2, s3⟩ := okShape_iff.1 h.sh
  have hf := h.forget n
  unfold isNextP at hn
  simp only [Bool.and_eq_true, bne_iff_ne, ne_eq, beq_iff_eq] at hn
  obtain ⟨⟨n1, n2⟩, n3⟩ := hn
  have ho : n % T.pages.toNat < T.pages.toNat := Nat.mod_lt _ h.p0
  have h2 : OkS (putSq T n) := by
    refine ⟨hf.sh, hf.bl, hf.bn, hf.hv, ?_, hf.le, hf.pa, hf.nn⟩
    have hsq := h.sq
    unfold okSeq at hsq ⊢
    rw [if_neg n1] at hsq
    have e : (putSq T n).sp = T.sp := rfl
    rw [e, if_neg n1]
    simp only [Bool.and_eq_true, decide_eq_true_eq] at hsq ⊢
    exact ⟨hsq.1, by show 0 ≤ T.su + 1; omega, by show T.su + 1 ≤ T.pages; omega⟩
  refine ⟨h2, fun k hk => ?_, ?_, n1⟩
  · rw [whereP_eq h.p0 h2.pgOk, whereP_eq h.p0 h.pgOk]
    show hitA (k : Int) (forgetL n T.logs) (baseP (putSq T n) _ _ _) = _
    rw [hitA_forget (by omega) (by omega)]
    congr 1
    unfold baseP putSq
    dsimp only
    by_cases hb : T.sl = ((k / T.pages.toNat : Nat) : Int)
    · have hkn : ((k % T.pages.toNat : Nat) : Int) ≠ T.su := by
        rw [n3]
        intro e
        apply hk
        have e1 : k / T.pages.toNat = n / T.pages.toNat := by rw [n2] at hb; exact Int.ofNat_inj.1 hb.symm
        have e2 : k % T.pages.toNat = n % T.pages.toNat := Int.ofNat_inj.1 e
        rw [← Nat.div_add_mod k T.pages.toNat, ← Nat.div_add_mod n T.pages.toNat, e1, e2]
      have e3 : decide (((k % T.pages.toNat : Nat) : Int) < T.su + 1) = decide (((k % T.pages.toNat : Nat) : Int) < T.su) := by
        rw [decide_eq_decide]; omega
      rw [e3]
    · have e3 : (T.sl == ((k / T.pages.toNat : Nat) : Int)) = false := by simpa using hb
      rw [e3]
      simp
  · rw [whereP_eq h.p0 h2.pgOk]
    show hitA (n : Int) (forgetL n T.logs) (baseP (putSq T n) _ _ _) = _
    rw [hitA_gone (by omega)]
    unfold baseP putSq
    dsimp only
    rw [if_pos]
    rw [n2, n3]
    simp [n1]
    omega
theorem putRn_where {T : Tab} (h : OkS T) {n : Nat} (hp : hasPg T n = true) (hr : room T = true) :
    OkS (putRn T n) ∧ (∀ k : Nat, k ≠ n → whereP (putRn T n) T.pages.toNat k = whereP T T.pages.toNat k) ∧ (whereP (putRn T n) T.pages.toNat n).1 ≠ -1 := by
  have hf := h.forget n
  have hr2 : room (forgetT T n) = true := by rw [room_forget]; exact hr
  have hnm : (n : Int) ∉ newest (forgetT T n).logs := by
    show (n : Int) ∉ newest (forgetL n T.logs)
    rw [newest_forget]
    intro hm
    have := (List.mem_filter.1 hm).2
    simp at this
  have h2 : OkS (putRn T n) := hf.add hr2 (.inr ⟨hp, hnm⟩)
  obtain ⟨A, l, hA, _⟩ := room_split hr2
  have eP : putRn T n = { forgetT T n with logs := A ++ [⟨l.phys, l.pages ++ [(n : Int)]⟩] } := addPg_logs hA _
  refine ⟨h2, fun k hk => ?_, ?_⟩
  · rw [whereP_eq h.p0 h2.pgOk, whereP_eq h.p0 h.pgOk, eP]
    show hitA (k : Int) (A ++ [⟨l.phys, l.pages ++ [(n : Int)]⟩]) (baseP T _ _ _) = _
    rw [hitA_snoc, if_neg (by omega), ← hA]
    exact hitA_forget (by omega) (by omega) _ _
  · rw [whereP_eq h.p0 h2.pgOk, eP]
    show (hitA (n : Int) (A ++ [⟨l.phys, l.pages ++ [(n : Int)]⟩]) (baseP T _ _ _)).1 ≠ -1
    rw [hitA_snoc, if_pos rfl]
    have := hf.bl l.phys (by unfold blocksL; rw [hA, List.map_append]; simp)
    dsimp only
    omega
end Go.Proofs.Ythibaefoioeghaa

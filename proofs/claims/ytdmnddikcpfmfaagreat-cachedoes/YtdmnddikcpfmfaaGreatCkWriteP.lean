/-
  What Write does, plain.
-/
import Derived.Test.YtdmnddikcpfmfaaGreatCkRoom
import Derived.Test.YtdmnddikcpfmfaaGreatDkRSet
import Derived.Test.YtdmnddikcpfmfaaGreatCkHome2
namespace Go.Proofs.YtdmnddikcpfmfaaGreat
open Go.RowKit Go.Maps Go.Shelf
/-- The bytes lie as they lay. -/
theorem CAfter.dat {w w' : World} {s s' : CS} (h : CIn w s) (hA : CAfter w w' s s') {p : Option Addr} {n c : Nat} {xs : List Nat} (hx : In w p n c xs ∧ U8 w p) : In w' p n c xs ∧ U8 w' p := by
  have hs : ∀ a, p = some a → w'.heap[a.block]? = w.heap[a.block]? := fun a ha => by
    obtain ⟨cs, hc⟩ := hx.2 a ha
    exact hA.keep.block _ (Array.getElem?_eq_some_iff.1 hc).1 (h.apart (cs := cs.toList) (t := 5) hc (by decide) (by decide) (by decide) (by decide))
  exact ⟨hx.1.same (fun a ha _ => hs a ha), hx.2.same hs⟩
/-- A block of the call's own lies as it lay. -/
theorem CAfter.blk {w w' : World} {s s' : CS} (h : CIn w s) (hA : CAfter w w' s s') {g : Nat} {t : TypeId} {cs : List Value} (hb : Blk w g t cs) (h1 : t ≠ 97) (h2 : t ≠ 62) (h3 : t ≠ 102) (h4 : t ≠ 173) : Blk w' g t cs := hb.keep hA.keep (h.apart hb h1 h2 h3 h4)
def isK (k : Nat) (b : BP) : Bool := decide (b.k = k)
/-- A new buffer, or one turned, as the last. -/
def putB (r : Nat) (l : List BP) (ds : DS) (k : Nat) (D : List Nat) (cl : Nat) : Int × List BP × DS :=
  match cutAt (isK k) l with
  | some (p, x, q) => (0, p ++ q ++ [⟨x.k, D, cl, x.pins⟩], ds)
  | none => if (roomR r l ds).1 = 0 then (0, (roomR r l ds).2.1 ++ [⟨k, D, cl, 0⟩], (roomR r l ds).2.2) else roomR r l ds
def wrC (r : Nat) (l : List BP) (ds : DS) (i : Int) (D : List Nat) (cl : Int) : Int × List BP × DS :=
  if hasB ds.secs.length i = false then (1, l, ds) else if D.length ≠ 256 ∨ ¬ (cl = 1 ∨ cl = 2) then (1, l, ds) else putB r l ds i.toNat D cl.toNat
theorem split_k {L : List BufS} (k : Nat) : (∃ p x q, L = p ++ x :: q ∧ x.b.k = k ∧ ∀ y ∈ p, y.b.k ≠ k) ∨ ∀ x ∈ L, x.b.k ≠ k := by
  induction L with
  | nil => exact .inr (by simp)
  | cons y r ih =>
    by_cases hy : y.b.k = k
    · exact .inl ⟨[], y, r, rfl, hy, by simp⟩
    · rcases ih with ⟨p, x, q, e, hx, hp⟩ | h
      · exact .inl ⟨y :: p, x, q, by rw [e]; rfl, hx, fun z hz => by rcases List.mem_cons.1 hz with rfl | hz; exact hy; exact hp z hz⟩
      · exact .inr (fun z hz => by rcases List.mem_cons.1 hz with rfl | hz; exact hy; exact h z hz)
theorem cut_k {p q : List BufS} {x : BufS} {k : Nat} (hx : x.b.k = k) (hp : ∀ y ∈ p, y.b.k ≠ k) : cutAt (isK k) ((p ++ x :: q).map (·.b)) = some (p.map (·.b), x.b, q.map (·.b)) := by
  rw [map_mid]
  refine cutAt_some (by simp [isK, hx]) (fun y hy => ?_)
  obtain ⟨z, hz, rfl⟩ := List.mem_map.1 hy
  simp [isK, hp z hz]
theorem cut_no {L : List BufS} {k : Nat} (h : ∀ x ∈ L, x.b.k ≠ k) : cutAt (isK k) (L.map (·.b)) = none :=
  cutAt_none (fun y hy => by
    obtain ⟨z, hz, rfl⟩ := List.mem_map.1 hy
    simp [isK, h z hz])
/-- What room leaves was there, and is less than room where it says OK. -/
theorem roomR_sub (r : Nat) (l : List BP) (ds : DS) : ∀ y ∈ (roomR r l ds).2.1, y ∈ l := by
  rcases roomR_cases r l ds with ⟨e, _⟩ | ⟨e, _⟩ | ⟨p, x, q, hl, _, _, _, ⟨_, e⟩ | ⟨_, _, e⟩ | ⟨_, _, e⟩⟩ <;> rw [e]
  · exact fun y hy => hy
  · exact fun y hy => hy
  · intro y hy
    rw [hl]
    simp at hy ⊢
    rcases hy with e | e
    · exact .inl e
    · exact .inr (.inr e)
  · intro y hy
    rw [hl]
    simp at hy ⊢
    rcases hy with e | e
    · exact .inl e
    · exact .inr (.inr e)
  · exact fun y hy => hy
theorem roomR_len {r : Nat} {l : List BP} {ds : DS} (h : (roomR r l ds).1 = 0) (hl : l.length ≤ r) : (roomR r l ds).2.1.length < r := by
  rcases roomR_cases r l ds with ⟨e, h1⟩ | ⟨e, _⟩ | ⟨p, x, q, hl', _, _, _, ⟨_, e⟩ | ⟨_, _, e⟩ | ⟨_, h0, e⟩⟩
  · rw [e]; exact h1
  · rw [e] at h; cases h
  · rw [e]; rw [hl'] at hl; simp at hl ⊢; omega
  · rw [e]; rw [hl'] at hl; simp at hl ⊢; omega
  · rw [e] at h; exact absurd h h0
theorem roomR_secs (r : Nat) (l : List BP) (ds : DS) : (roomR r l ds).2.2.secs.length = ds.secs.length := by
  rcases roomR_cases r l ds with ⟨e, _⟩ | ⟨e, _⟩ | ⟨p, x, q, hl, _, _, _, ⟨_, e⟩ | ⟨_, _, e⟩ | ⟨_, _, e⟩⟩ <;> rw [e]
  · exact writeS_len _ _ _
  · exact writeS_len _ _ _
/-- New data in a buffer of a cache. -/
def dataB (x : BufS) (p : Option Addr) (c : Nat) (D : List Nat) : BufS := ⟨x.g, p, c, ⟨x.b.k, D, x.b.cl, x.b.pins⟩⟩
def classB (x : BufS) (cl : Nat) : BufS := ⟨x.g, x.p, x.cap, ⟨x.b.k, x.b.D, cl, x.b.pins⟩⟩
/-- Bytes and class of a buffer are turned. -/
theorem CIn.filled {w : World} {s : CS} (h : CIn w s) {p q : List BufS} {x : BufS} (hL : s.L = p ++ x :: q) (pp : Option Addr) (cc : Nat) (D : List Nat) (cl : Nat) (hd : In w pp D.length cc D ∧ U8 w pp) :
    CAfter w ((w.setCell ⟨x.g, 1, none⟩ (.slice pp D.length cc)).setCell ⟨x.g, 2, none⟩ (.int .i64 (cl : Int))) s { s with L := p ++ classB (dataB x pp cc D) cl :: q } := by
  have A1 := h.field hL 1 (.slice pp D.length cc) (dataB x pp cc D) rfl rfl (fun _ _ => rfl) hd
  have hxL : x ∈ s.L := by rw [hL]; simp
  have hd1 := A1.dat h hd
  exact A1.trans (A1.cin.field (p := p) (q := q) (x := dataB x pp cc D) rfl 2 (.int .i64 (cl : Int)) (classB (dataB x pp cc D) cl) rfl rfl (fun _ _ => rfl) hd1)
end Go.Proofs.YtdmnddikcpfmfaaGreat

namespace Go.Proofs.YtdmnddikcpfmfaaGreat
open Go.RowKit Go.Shelf
/-- A buffer of the reference's, and where its bytes lie. -/
structure QB where
  b : BP
  p : Option Addr
  cap : Nat
structure QS where
  q : Nat
  g : Nat
  V : RV
  t : RS
  room : Nat
  lv : Value
  L : List QB
def QS.P (s : QS) : List BP := s.L.map (·.b)
def qrow (x : QB) : List Value := [.int .i64 (x.b.k : Int), .slice x.p x.b.D.length x.cap, .int .i64 (x.b.cl : Int), .int .i64 (x.b.pins : Int)]
def flatQ (l : List QB) : List Value := l.flatMap qrow
theorem flatQ_len (l : List QB) : (flatQ l).length = l.length * 4 := by
  induction l with
  | nil => rfl
  | cons x r ih => simp only [flatQ, List.flatMap_cons, List.length_append, List.length_cons] at *; rw [ih]; simp [qrow]; omega
theorem flatQ_at : ∀ (l : List QB) (i j : Nat) (x : QB), l[i]? = some x → j < 4 → (flatQ l)[i * 4 + j]? = (qrow x)[j]?
  | [], i, j, x, h, _ => by simp at h
  | y :: r, 0, j, x, h, hj => by
    simp at h
    subst h
    rw [Nat.zero_mul, Nat.zero_add, flatQ, List.flatMap_cons, List.getElem?_append_left (by simp [qrow]; omega)]
  | y :: r, i + 1, j, x, h, hj => by
    rw [flatQ, List.flatMap_cons, List.getElem?_append_right (by simp [qrow]; omega)]
    have := flatQ_at r i j x (by simpa using h) hj
    rw [← this, flatQ]
    congr 1
    simp [qrow]
    omega
structure QIn (w : World) (s : QS) : Prop where
  blk : Blk w s.q 77 [.pointer (some ⟨s.g, 0, none⟩), .int .i64 (s.room : Int), s.lv]
  row : w.ownsRow 0 86 4 s.lv s.L.length (flatQ s.L)
  dat : ∀ x ∈ s.L, In w x.p x.b.D.length x.cap x.b.D ∧ U8 w x.p
  ref : RefIn w s.g s.V s.t
  r2 : s.room ≤ 1024
  len : s.L.length ≤ s.room
theorem owns_cells {w : World} {B : Nat} {e : TypeId} {z g n m c : Nat} {xs : List Value} (h : w.ownsRow B e z (.slice (some ⟨g, 0, none⟩) m c) n xs) {i : Nat} {v : Value} (hi : xs[i]? = some v) : w.cell? ⟨g, i, none⟩ = some v := by
  have hl := h.1
  rcases h.2 with ⟨h1, _⟩ | ⟨g', cap, cur, h1, _, hh, _, _, hsz, htk⟩
  · cases h1
  · cases h1
    have hlt : i < xs.length := by
      rcases Nat.lt_or_ge i xs.length with h' | h'
      · exact h'
      · rw [List.getElem?_eq_none h'] at hi; cases hi
    rw [← htk, List.getElem?_take_of_lt (by omega)] at hi
    simp only [World.cell?, hh]
    simpa using hi
theorem qthere_any {w : World} {s : QS} (h : QIn w s) (i : Int) : Calls Tryz.prog 74 #[.pointer (some ⟨s.q, 0, none⟩), .int .i64 i] w fun e w' => e = .returned (.bool (hasB s.t.secs.length i)) ∧ w' = w := by
  have h0 := h.blk.cell' (i := 0) (v := .pointer (some ⟨s.g, 0, none⟩)) rfl
  have hs := rsize_any h.ref
  by_cases hi : 0 ≤ i
  · go_enter Tryz.func74, Tryz.ntmps74
    go_wp2_with (go_at_call 55; refine hs.mono ?_; rintro e w' ⟨rfl, hw'⟩; have hw2 := hw'.symm; subst hw2; clear hw')
    go_ret
    exact ⟨ret_bool (by simp [hasB, hi]), rfl⟩
  · go_enter Tryz.func74, Tryz.ntmps74
    go_wp2_with fail
    go_ret
    exact ⟨ret_bool (by simp [hasB]; omega), rfl⟩
def isI (t : Int) (b : BP) : Bool := decide ((b.k : Int) = t)
/-- A buffer's place; -1: there is none. -/
def atI (l : List BP) (t : Int) : Int :=
  match cutAt (isI t) l with
  | some (p, _, _) => (p.length : Int)
  | none => -1
theorem QIn.cellAt {w : World} {s : QS} (h : QIn w s) {g c : Nat} (hv : s.lv = .slice (some ⟨g, 0, none⟩) s.L.length c) {i : Nat} {x : QB} (hx : s.L[i]? = some x) {j : Nat} (hj : j < 4) {v : Value} (e : (qrow x)[j]? = some v) : w.cell? ⟨g, i * 4 + j, none⟩ = some v := by
  have hr := h.row
  rw [hv] at hr
  exact owns_cells hr ((flatQ_at s.L i j x hx hj).trans e)
theorem qat_any {w : World} {s : QS} (h : QIn w s) (t : Int) : Calls Tryz.prog 75 #[.pointer (some ⟨s.q, 0, none⟩), .int .i64 t] w fun e w' => e = .returned (.int .i64 (atI s.P t)) ∧ w' = w := by
  have h2 := h.blk.cell' (i := 2) (v := s.lv) rfl
  have hlen := h.len
  have hr2 := h.r2
  obtain ⟨p0, c0, hv⟩ := owns_slice h.row
  rw [hv] at h2
  obtain ⟨R, HR⟩ : ∃ R, Hid (R = atI s.P t) := ⟨_, rfl⟩
  rw [← HR.out]
  have HV : Hid (s.lv = .slice p0 s.L.length c0) := hv
  clear hv
  go_enter Tryz.func75, Tryz.ntmps75
  go_wp2_with fail
  go_loopg [5] s.L.length (fun j v wr => ∃ i : Nat, v = .int .i64 (i : Int) ∧ i ≤ s.L.length ∧ j = s.L.length - i ∧ wr = w ∧ ∀ y ∈ s.P.take i, isI t y = false)
  case atStart => exact ⟨0, rfl, by omega, rfl, rfl, fun y hy => by simp at hy⟩
  case round =>
    obtain ⟨i, rfl, hi, rfl, hw, hno⟩ := hrel
    subst hw
    by_cases hin : i < s.L.length
    · have hii : (i : Int) < (s.L.length : Int) := by omega
      obtain ⟨g, cap, hg, _, _⟩ := owns_at h.row (by omega)
      have hg2 := HV.out.symm.trans hg
      obtain ⟨x, hx⟩ : ∃ x, s.L[i]? = some x := ⟨_, List.getElem?_eq_getElem hin⟩
      have hc := h.cellAt hg hx (j := 0) (by omega) rfl
      have hpx : s.P[i]? = some x.b := by simp [QS.P, hx]
      have HT : Hid (s.P.take (i + 1) = s.P.take i ++ [x.b]) := by
        show _ = _
        rw [List.take_add_one, hpx]; rfl
      have HD : Hid (s.P = s.P.take i ++ x.b :: s.P.drop (i + 1)) := by
        show _ = _
        have hil : i < s.P.length := by simp [QS.P]; exact hin
        have e1 : s.P[i] = x.b := by rw [List.getElem?_eq_getElem hil] at hpx; exact Option.some.inj hpx
        rw [← e1, ← List.drop_eq_getElem_cons hil, List.take_append_drop]
      have HN : Hid (∀ y ∈ s.P.take i, isI t y = false) := hno
      have HL : Hid ((s.P.take i).length = i) := by
        show _ = _
        rw [List.length_take]; simp [QS.P]; omega
      cases hg2
      rw [Nat.add_zero] at hc
      clear hx hg hno hpx
      by_cases hk : (x.b.k : Int) = t
      · go_wp2_with fail
        go_ret
        have hR : R = (i : Int) := by
          rw [HR.out, atI, HD.out, cutAt_some (by simp [isI, hk]) HN.out]
          dsimp only
          rw [HL.out]
        exact ⟨by rw [hR]; rfl, rfl⟩
      · go_wp2_with fail
        go_roundg (s.L.length - (i + 1))
        case measure => omega
        case rel =>
          refine ⟨i + 1, by go_num, by omega, rfl, rfl, fun y hy => ?_⟩
          rw [HT.out] at hy
          rcases List.mem_append.1 hy with e | e
          · exact HN.out y e
          · rw [List.mem_singleton.1 e]; simp [isI, hk]
    · have hin' : i = s.L.length := by omega
      have HN : Hid (∀ y ∈ s.P.take i, isI t y = false) := hno
      clear hno
      subst hin'
      go_wp2_with fail
      go_ret
      have hR : R = -1 := by rw [HR.out, atI, cutAt_none (fun y hy => HN.out y (by rw [List.take_of_length_le (by simp [QS.P])]; exact hy))]
      exact ⟨by rw [hR]; rfl, rfl⟩
end Go.Proofs.YtdmnddikcpfmfaaGreat

namespace Go.Proofs.YtdmnddikcpfmfaaGreat
open Go.RowKit Go.Shelf
def pinI (l : List BP) (t : Int) : Int :=
  match cutAt (isI t) l with
  | some (_, x, _) => (x.pins : Int)
  | none => 0
theorem atI_cases (l : List BP) (t : Int) : (∃ (i : Nat) (x : BP), l[i]? = some x ∧ (x.k : Int) = t ∧ atI l t = (i : Int) ∧ pinI l t = (x.pins : Int)) ∨ (atI l t = -1 ∧ pinI l t = 0 ∧ ∀ p, cutAt (isI t) l ≠ some p) := by
  cases hc : cutAt (isI t) l with
  | none => exact .inr ⟨by rw [atI, hc], by rw [pinI, hc], fun p h => by cases h⟩
  | some r =>
    obtain ⟨p, x, q⟩ := r
    obtain ⟨e1, e2, _⟩ := cutAt_spec hc
    refine .inl ⟨p.length, x, ?_, by simpa [isI] using e2, by rw [atI, hc], by rw [pinI, hc]⟩
    rw [e1]; simp
theorem QS.at {s : QS} {i : Nat} {x : BP} (h : s.P[i]? = some x) : ∃ y, s.L[i]? = some y ∧ y.b = x := by
  simp only [QS.P, List.getElem?_map, Option.map_eq_some_iff] at h
  exact h
theorem qpins_any {w : World} {s : QS} (h : QIn w s) (t : Int) : Calls Tryz.prog 45 #[.pointer (some ⟨s.q, 0, none⟩), .int .i64 t] w fun e w' => e = .returned (.int .i64 (pinI s.P t)) ∧ w' = w := by
  have ha := qat_any h t
  have h2 := h.blk.cell' (i := 2) (v := s.lv) rfl
  rcases atI_cases s.P t with ⟨i, x, hx, _, e1, e2⟩ | ⟨e1, e2, _⟩
  · rw [e1] at ha
    rw [e2]
    obtain ⟨y, hy, rfl⟩ := QS.at hx
    have hil : i < s.L.length := by
      rcases Nat.lt_or_ge i s.L.length with h' | h'
      · exact h'
      · rw [List.getElem?_eq_none h'] at hy; cases hy
    have hii : (i : Int) < (s.L.length : Int) := by omega
    obtain ⟨g, cap, hg, _, _⟩ := owns_at h.row (by omega)
    have hc := h.cellAt hg hy (j := 3) (by omega) (v := .int .i64 (y.b.pins : Int)) rfl
    rw [hg] at h2
    clear hx hy e1 e2 hg
    go_enter Tryz.func45, Tryz.ntmps45
    go_wp2_with (go_at_call 75; refine ha.mono ?_; rintro e w' ⟨rfl, hw'⟩; have hw2 := hw'.symm; subst hw2; clear hw')
    go_ret
    exact ⟨rfl, rfl⟩
  · rw [e1] at ha
    rw [e2]
    go_enter Tryz.func45, Tryz.ntmps45
    go_wp2_with (go_at_call 75; refine ha.mono ?_; rintro e w' ⟨rfl, hw'⟩; have hw2 := hw'.symm; subst hw2; clear hw')
    go_ret
    exact ⟨rfl, rfl⟩
end Go.Proofs.YtdmnddikcpfmfaaGreat

/-
  The cache and the document's cache beside each other, plain.
-/
import Derived.Test.YtdmnddikcpfmfaaGreatDkSmall
import Derived.Test.YtdmnddikcpfmfaaGreatCkClean
namespace Go.Proofs.YtdmnddikcpfmfaaGreat
open Go.RowKit
def wroteOf (l : List (Nat × List Nat)) : List (Int × List Nat) := l.map fun x => ((x.1 : Int), x.2)
structure DRel (s : DS) (t : RS) : Prop where
  secs : t.secs = s.secs.map (·.1)
  bad : t.bad = s.secs.map (·.2)
  on : t.gone = !s.on
  cutT : t.cut = true → s.left = t.left
  cutF : t.cut = false → s.left < 0
  w : t.many = s.writes
  log : t.wrote = wroteOf s.log
theorem DRel.len {s : DS} {t : RS} (h : DRel s t) : t.secs.length = s.secs.length := by rw [h.secs, List.length_map]
theorem DRel.start (n : Nat) : DRel (newD n) (newR n) := ⟨by simp [newD, newR], by simp [newD, newR], rfl, fun h => by simp [newR] at h, fun _ => by simp [newD], rfl, by simp [newD, newR, wroteOf]⟩
theorem DRel.room {s : DS} {t : RS} (h : DRel s t) (cap : Nat) (sp : List Value) : DRel { s with cap := cap, sp := sp } t := ⟨h.secs, h.bad, h.on, h.cutT, h.cutF, h.w, h.log⟩
theorem DRel.power {s : DS} {t : RS} (h : DRel s t) : powE (!t.gone) = powE s.on := by rw [h.on, Bool.not_not]
theorem DRel.write {s : DS} {t : RS} (h : DRel s t) (hlc : t.cut = true → 0 ≤ t.left) (i : Int) (xs : List Nat) : rwE t i xs.length = writeE s i xs.length ∧ DRel (writeS s i xs) (rwS t i xs) := by
  have hlen := h.len
  have hc0 : (t.cut = true ∧ t.left = 0) ↔ s.left = 0 := by
    constructor
    · rintro ⟨a, b⟩; rw [h.cutT a]; exact b
    · intro e
      cases hc : t.cut
      · have := h.cutF hc; omega
      · exact ⟨rfl, by rw [← h.cutT hc]; exact e⟩
  have hon := h.on
  cases ho : s.on
  · rw [ho] at hon
    have hg : t.gone = true := hon
    simp only [rwE, writeE, writeS, rwS, ho, hg, if_pos]
    exact ⟨trivial, h⟩
  · rw [ho] at hon
    have hg : t.gone = false := hon
    by_cases hb : hasB s.secs.length i = false ∨ xs.length ≠ 256
    · have hb' : hasB t.secs.length i = false ∨ xs.length ≠ 256 := by rw [hlen]; exact hb
      simp only [rwE, writeE, writeS, rwS, ho, hg, if_pos hb, if_pos hb', Bool.true_eq_false, Bool.false_eq_true, if_false]
      exact ⟨trivial, h⟩
    · have hb' : ¬ (hasB t.secs.length i = false ∨ xs.length ≠ 256) := by rw [hlen]; exact hb
      by_cases h0 : s.left = 0
      · have h0' := hc0.2 h0
        simp only [rwE, writeE, writeS, rwS, ho, hg, if_neg hb, if_neg hb', Bool.true_eq_false, Bool.false_eq_true, if_false, if_pos h0, if_pos h0']
        exact ⟨trivial, h.secs, h.bad, rfl, h.cutT, h.cutF, h.w, h.log⟩
      · have h0' : ¬ (t.cut = true ∧ t.left = 0) := fun e => h0 (hc0.1 e)
        simp only [rwE, writeE, writeS, rwS, ho, hg, if_neg hb, if_neg hb', Bool.true_eq_false, Bool.false_eq_true, if_false, if_neg h0, if_neg h0']
        have hi : ∃ k : Nat, i = (k : Int) ∧ k < s.secs.length := hasB_nat (by
          cases hh : hasB s.secs.length i
          · exact absurd (.inl hh) hb
          · rfl)
        obtain ⟨k, rfl, hk⟩ := hi
        rw [Int.toNat_natCast]
        refine ⟨trivial, ?_, ?_, ?_, fun hc => ?_, fun hc => ?_, ?_, ?_⟩
        · show t.secs.set k xs = (s.secs.set k (xs, false)).map (·.1)
          rw [List.map_set, h.secs]
        · show t.bad.set k false = (s.secs.set k (xs, false)).map (·.2)
          rw [List.map_set, h.bad]
        · rfl
        · have hc' : t.cut = true := hc
          show lessL s.left = if t.cut = true then t.left - 1 else t.left
          have := h.cutT hc'
          have := hlc hc'
          rw [if_pos hc', lessL, if_pos (by omega)]; omega
        · have := h.cutF hc
          show lessL s.left < 0
          rw [lessL, if_neg (by omega)]; exact this
        · show t.many + 1 = s.writes + 1
          rw [h.w]
        · show t.wrote ++ [((k : Int), xs)] = wroteOf (s.log ++ [(k, xs)])
          rw [h.log, wroteOf, wroteOf, List.map_append]; rfl
theorem DRel.read {s : DS} {t : RS} (h : DRel s t) (i : Int) : rrE t i = readE s i ∧ rrD t i = readD s i := by
  have hlen := h.len
  have e2 : t.bad.getD i.toNat false = (s.secs.getD i.toNat ([], false)).2 := by
    rw [h.bad, List.getD_eq_getElem?_getD, List.getD_eq_getElem?_getD, List.getElem?_map]
    cases s.secs[i.toNat]? <;> rfl
  have e3 : t.secs.getD i.toNat [] = (s.secs.getD i.toNat ([], false)).1 := by
    rw [h.secs, List.getD_eq_getElem?_getD, List.getD_eq_getElem?_getD, List.getElem?_map]
    cases s.secs[i.toNat]? <;> rfl
  have e1 : rrE t i = readE s i := by
    unfold rrE readE
    rw [e2, hlen, h.on]
    cases s.on <;> rfl
  exact ⟨e1, by rw [rrD, readD, e1, e3]⟩
theorem DRel.images {s : DS} {t : RS} (h : DRel s t) : rimgE t = imgE s ∧ rimgD t = imgD s := by
  have e : rrL t t.secs.length = rdL s s.secs.length := by
    rw [rrL, rdL, h.len]
    apply List.map_congr_left
    intro i _
    rw [(h.read (i : Int)).1, (h.read (i : Int)).2]
  exact ⟨by rw [rimgE, imgE, e], by rw [rimgD, imgD, e]⟩
theorem DRel.hurt {s : DS} {t : RS} (h : DRel s t) (i : Int) : hurtE t.secs.length i = hurtE s.secs.length i ∧ DRel (hurtS s i) (hurtR t i) := by
  refine ⟨by rw [h.len], ?_⟩
  unfold hurtS hurtR
  rw [h.len]
  by_cases hb : hasB s.secs.length i = true
  · rw [if_pos hb, if_pos hb]
    obtain ⟨k, rfl, hk⟩ := hasB_nat hb
    rw [Int.toNat_natCast]
    refine ⟨?_, ?_, h.on, h.cutT, h.cutF, h.w, h.log⟩
    · show t.secs = (s.secs.set k _).map (·.1)
      rw [List.map_set, h.secs]
      apply List.ext_getElem?
      intro j
      rw [List.getElem?_set]
      by_cases hj : k = j
      · subst hj
        simp [hk, List.getD_eq_getElem?_getD]
      · simp [hj]
    · show t.bad.set k true = (s.secs.set k _).map (·.2)
      rw [List.map_set, h.bad]
  · rw [if_neg hb, if_neg hb]; exact h
theorem DRel.cut {s : DS} {t : RS} (h : DRel s t) (i : Int) : DRel { s with left := i } (rcutS t i) := by
  refine ⟨h.secs, h.bad, h.on, fun hc => ?_, fun hc => ?_, h.w, h.log⟩
  · have hc' : 0 ≤ i := of_decide_eq_true hc
    show i = if 0 ≤ i then i else 0
    rw [if_pos hc']
  · have hc' : ¬ 0 ≤ i := of_decide_eq_false hc
    show i < 0
    omega
theorem DRel.restart {s : DS} {t : RS} (h : DRel s t) : DRel { s with on := true, left := -1 } { t with gone := false, cut := false } :=
  ⟨h.secs, h.bad, rfl, (fun hc => by cases hc), fun _ => by show (-1 : Int) < 0; omega, h.w, h.log⟩
theorem isK_iff {k : Nat} {b : BP} : isK k b = true ↔ b.k = k := by simp [isK]
theorem cut_none_iff {l : List BP} {k : Nat} (h : cutAt (isK k) l = none) : ∀ b ∈ l, b.k ≠ k := by
  intro b hb e
  induction l with
  | nil => cases hb
  | cons y r ih =>
    unfold cutAt at h
    by_cases hy : isK k y = true
    · rw [if_pos hy] at h; cases h
    · rw [if_neg hy] at h
      rcases List.mem_cons.1 hb with rfl | hb
      · exact hy (isK_iff.2 e)
      · exact ih (by simpa using h) hb
theorem dropK_none {l : List BP} {k : Nat} (h : ∀ b ∈ l, b.k ≠ k) : dropK l k = l := by
  unfold dropK
  rw [cutAt_none fun y hy => by simp [isK, h y hy]]
theorem dropK_some {l p q : List BP} {x : BP} {k : Nat} (h : cutAt (isK k) l = some (p, x, q)) : dropK l x.k = p ++ q := by
  have e := isK_iff.1 (cutAt_spec h).2.1
  unfold dropK
  rw [e, h]
/-- Room. -/
theorem room_rel {ds : DS} {t : RS} (h : DRel ds t) (hlc : t.cut = true → 0 ≤ t.left) (r : Nat) (l : List BP) :
    (roomQ r l t).1 = (roomR r l ds).1 ∧ (roomQ r l t).2.1 = (roomR r l ds).2.1 ∧ DRel (roomR r l ds).2.2 (roomQ r l t).2.2 := by
  unfold roomQ roomR
  by_cases h0 : l.length < r
  · rw [if_pos h0, if_pos h0]; exact ⟨rfl, rfl, h⟩
  · rw [if_neg h0, if_neg h0]
    cases hc : cutAt goesB l with
    | none => exact ⟨rfl, rfl, h⟩
    | some y =>
      obtain ⟨p, x, q⟩ := y
      dsimp only
      by_cases hx : x.cl = 0
      · rw [if_pos hx, if_pos hx]; exact ⟨rfl, rfl, h⟩
      · rw [if_neg hx, if_neg hx]
        obtain ⟨e, hd⟩ := h.write hlc (x.k : Int) x.D
        dsimp only
        rw [e]
        exact ⟨rfl, rfl, hd⟩
theorem lc_write {t : RS} (h : t.cut = true → 0 ≤ t.left) (i : Int) (D : List Nat) : (rwS t i D).cut = true → 0 ≤ (rwS t i D).left := by
  unfold rwS
  split
  · exact h
  · split
    · exact h
    · split
      · exact h
      · rename_i h3
        intro hc
        have hc' : t.cut = true := hc
        have := h hc'
        show 0 ≤ if t.cut = true then t.left - 1 else t.left
        rw [if_pos hc']
        have : t.left ≠ 0 := fun e => h3 ⟨hc', e⟩
        omega
theorem lc_room {t : RS} (h : t.cut = true → 0 ≤ t.left) (r : Nat) (l : List BP) : (roomQ r l t).2.2.cut = true → 0 ≤ (roomQ r l t).2.2.left := by
  unfold roomQ
  split
  · exact h
  · split
    · exact h
    · split
      · exact h
      · exact lc_write h _ _
/-- A buffer, read if there is none. -/
theorem get_rel {ds : DS} {t : RS} (h : DRel ds t) (hlc : t.cut = true → 0 ≤ t.left) (r : Nat) (l : List BP) (i : Int) :
    (getQ r l t i).1 = (fetC r l ds i).1 ∧ (if (getQ r l t i).1 = 0 then dropK (getQ r l t i).2.1 (gotQ r l t i).k ++ [gotQ r l t i] else (getQ r l t i).2.1) = (fetC r l ds i).2.1 ∧ DRel (fetC r l ds i).2.2 (getQ r l t i).2.2 := by
  unfold getQ fetC
  rw [h.len]
  by_cases hb : hasB ds.secs.length i = false
  · rw [if_pos hb, if_pos hb]; exact ⟨rfl, rfl, h⟩
  · rw [if_neg hb, if_neg hb]
    have hb' : hasB ds.secs.length i = true := by cases hh : hasB ds.secs.length i <;> simp_all
    obtain ⟨k, rfl, hk⟩ := hasB_nat hb'
    rw [Int.toNat_natCast]
    unfold fetchR gotQ
    rw [Int.toNat_natCast]
    cases hc : cutAt (isK k) l with
    | some y =>
      obtain ⟨p, x, q⟩ := y
      dsimp only
      rw [if_pos rfl, dropK_some hc]
      exact ⟨rfl, rfl, h⟩
    | none =>
      dsimp only
      obtain ⟨e1, e2, hd⟩ := room_rel h hlc r l
      have hno := cut_none_iff hc
      have hno2 : ∀ b ∈ (roomR r l ds).2.1, b.k ≠ k := fun b hb => hno b (roomR_sub r l ds b hb)
      obtain ⟨e3, e4⟩ := hd.read (k : Int)
      rw [e1]
      by_cases h0 : (roomR r l ds).1 = 0
      · rw [if_pos h0, if_pos h0]
        dsimp only
        rw [e3, e4, e2]
        by_cases h1 : readE (roomR r l ds).2.2 (k : Int) = 0
        · rw [if_pos h1, if_pos h1, dropK_none hno2]
          exact ⟨h1, rfl, hd⟩
        · rw [if_neg h1, if_neg h1]
          exact ⟨rfl, rfl, hd⟩
      · rw [if_neg h0, if_neg h0]
        rw [if_neg (by rw [e1]; exact h0)]
        exact ⟨e1, e2, hd⟩
/-- Bytes are written. -/
theorem wr_rel {ds : DS} {t : RS} (h : DRel ds t) (hlc : t.cut = true → 0 ≤ t.left) (r : Nat) (l : List BP) (i : Int) (D : List Nat) (cl : Int) :
    (wrQ r l t i D cl).1 = (wrC r l ds i D cl).1 ∧ (wrQ r l t i D cl).2.1 = (wrC r l ds i D cl).2.1 ∧ DRel (wrC r l ds i D cl).2.2 (wrQ r l t i D cl).2.2 := by
  unfold wrQ wrC
  rw [h.len]
  by_cases hb : hasB ds.secs.length i = false
  · rw [if_pos hb, if_pos hb]; exact ⟨rfl, rfl, h⟩
  · rw [if_neg hb, if_neg hb]
    by_cases hd : D.length ≠ 256 ∨ ¬ (cl = 1 ∨ cl = 2)
    · rw [if_pos hd, if_pos hd]; exact ⟨rfl, rfl, h⟩
    · rw [if_neg hd, if_neg hd]
      unfold putB
      cases hc : cutAt (isK i.toNat) l with
      | some y =>
        obtain ⟨p, x, q⟩ := y
        dsimp only
        rw [dropK_some hc]
        exact ⟨rfl, rfl, h⟩
      | none =>
        dsimp only
        obtain ⟨e1, e2, hd⟩ := room_rel h hlc r l
        have hno := cut_none_iff hc
        have hno2 : ∀ b ∈ (roomR r l ds).2.1, b.k ≠ i.toNat := fun b hb => hno b (roomR_sub r l ds b hb)
        rw [e1]
        by_cases h0 : (roomR r l ds).1 = 0
        · rw [if_pos h0, if_pos h0]
          dsimp only
          rw [e2, dropK_none hno2]
          exact ⟨rfl, rfl, hd⟩
        · rw [if_neg h0, if_neg h0]
          exact ⟨e1, e2, hd⟩
theorem cl1_rel {ds : DS} {t : RS} (h : DRel ds t) (hlc : t.cut = true → 0 ≤ t.left) (l : List BP) (i : Int) :
    (clQ1 l t i).1 = (clean1 l ds i).1 ∧ (clQ1 l t i).2.1 = (clean1 l ds i).2.1 ∧ DRel (clean1 l ds i).2.2 (clQ1 l t i).2.2 ∧ ((clQ1 l t i).2.2.cut = true → 0 ≤ (clQ1 l t i).2.2.left) := by
  unfold clQ1 clean1
  rw [h.len]
  by_cases hb : hasB ds.secs.length i = false
  · rw [if_pos hb, if_pos hb]; exact ⟨rfl, rfl, h, hlc⟩
  · rw [if_neg hb, if_neg hb]
    have hb' : hasB ds.secs.length i = true := by cases hh : hasB ds.secs.length i <;> simp_all
    obtain ⟨k, rfl, hk⟩ := hasB_nat hb'
    rw [Int.toNat_natCast]
    cases hc : cutAt (isK k) l with
    | none => exact ⟨rfl, rfl, h, hlc⟩
    | some y =>
      obtain ⟨p, x, q⟩ := y
      have e := isK_iff.1 (cutAt_spec hc).2.1
      dsimp only
      by_cases h1 : x.cl = 0
      · rw [if_pos h1, if_pos h1]; exact ⟨rfl, rfl, h, hlc⟩
      · rw [if_neg h1, if_neg h1]
        by_cases h2 : 0 < x.pins
        · rw [if_pos h2, if_pos h2]; exact ⟨rfl, rfl, h, hlc⟩
        · rw [if_neg h2, if_neg h2]
          obtain ⟨e1, hd⟩ := h.write hlc (k : Int) x.D
          dsimp only
          rw [e1, e]
          exact ⟨rfl, rfl, hd, lc_write hlc _ _⟩
theorem clL_rel : ∀ (xs : List Int) {ds : DS} {t : RS}, DRel ds t → (t.cut = true → 0 ≤ t.left) → ∀ (l : List BP),
    (clQL l t xs).1 = (cleanL l ds xs).1 ∧ (clQL l t xs).2.1 = (cleanL l ds xs).2.1 ∧ DRel (cleanL l ds xs).2.2 (clQL l t xs).2.2
  | [], ds, t, h, _, l => ⟨rfl, rfl, h⟩
  | i :: r, ds, t, h, hlc, l => by
    obtain ⟨e1, e2, hd, hl⟩ := cl1_rel h hlc l i
    unfold clQL cleanL
    rw [e1]
    by_cases h0 : (clean1 l ds i).1 = 0
    · rw [if_pos h0, if_pos h0, e2]
      exact clL_rel r hd hl _
    · rw [if_neg h0, if_neg h0]
      exact ⟨e1, e2, hd⟩
end Go.Proofs.YtdmnddikcpfmfaaGreat

namespace Go.Proofs.YtdmnddikcpfmfaaGreat
open Go.RowKit Go.Maps Go.Shelf
theorem flush1_any {W : World} {s : CS} (h : CIn W s) (x : Nat) (hx : W.cell? ⟨x, 0, none⟩ = some (.pointer (some ⟨s.c, 0, none⟩))) : Calls Tryz.prog 83 #[.pointer (some ⟨x, 0, none⟩)] W fun e w' => e = .returned (.int .i64 (powE s.ds.on)) ∧ w' = W := by
  have hm1 : ∀ W : World, (method 275 24 (.pointer (some ⟨s.d, 0, none⟩)) "Flush").run Tryz.prog W = .ok (146, .pointer (some ⟨s.d, 0, none⟩)) W := fun _ => by kernel_rfl
  have hz := flush_any h.base.disk
  have h0 := h.c0
  unfold ramI at h0
  go_enter Tryz.func83, Tryz.ntmps83
  go_wp2_with (refine hz.mono ?_; rintro e w' ⟨rfl, hw'⟩; have hw2 := hw'.symm; subst hw2; clear hw')
  go_ret
  exact ⟨rfl, rfl⟩
theorem cFlush_any {w : World} {s : CS} (h : CIn w s) : Calls Tryz.prog 37 #[.pointer (some ⟨s.c, 0, none⟩)] w fun e w' => e = .returned (.int .i64 (powE s.ds.on)) ∧ Below w.heap.size w w' := by
  have hmf : ∀ (fn : Fn) (first cap : Array Value) (w : World), (Instr.makeFunc fn first cap).run Tryz.prog w = .ok (.func fn first cap) w := fun _ _ _ _ => rfl
  obtain ⟨W, HW⟩ : ∃ W, Hid (w.alloc (.cells #[.pointer (some ⟨s.c, 0, none⟩)] 31) = W) := ⟨_, rfl⟩
  have hbW : Below w.heap.size w W := HW.out ▸ below_alloc w _
  have hx : Blk W w.heap.size 31 [.pointer (some ⟨s.c, 0, none⟩)] := HW.out ▸ Blk.new w 31 [.pointer (some ⟨s.c, 0, none⟩)]
  have hW := h.kept hbW
  have hm := cmade_yes hW.c0
  have hbE := below_alloc W (.cells #[.int .i64 0] 25)
  have hE := Blk.new W 25 [.int .i64 0]
  have h1 := flush1_any (hW.kept hbE) w.heap.size ((hx.kept hbE).cell' rfl)
  have hc := caught_of (ents Tryz.func83 (by kernel_rfl) rfl) W (powE s.ds.on) (fun w' => w' = W.alloc (.cells #[.int .i64 0] 25)) (h1.mono fun e w' ⟨he, hw'⟩ => ⟨he, by rw [hw']; exact hE, hw'⟩)
  have hbZ : Below w.heap.size w ((W.alloc (.cells #[.int .i64 0] 25)).setCell ⟨W.heap.size, 0, none⟩ (.int .i64 (powE s.ds.on))) := (Turned.setCell _ _ _).below (bt hbW hbE) hbW.size
  have hc' := hc.mono (R' := fun e w' => e = .returned (.int .i64 (powE s.ds.on)) ∧ Below w.heap.size w w') (fun e w' ⟨he, w1, hw1, _, hw2⟩ => ⟨he, by rw [hw2, hw1]; exact hbZ⟩)
  clear h1 hc hbZ hbE hE
  go_enter Tryz.func37, Tryz.ntmps37
  go_wp2_with (first
    | (go_at_call 67; rw [HW.out]; refine hm.mono ?_; rintro e w' ⟨rfl, hw'⟩; have hw2 := hw'.symm; subst hw2; clear hw')
    | (go_at_call 82; refine hc'.mono ?_; rintro e w' ⟨rfl, hb⟩))
  go_ret
  exact ⟨rfl, hb⟩
end Go.Proofs.YtdmnddikcpfmfaaGreat

/-
  The reference's get.
-/
import Derived.Test.YtdmnddikcpfmfaaGreatCkQ5
import Derived.Test.YtdmnddikcpfmfaaGreatDkRRead
namespace Go.Proofs.YtdmnddikcpfmfaaGreat
open Go.RowKit Go.Shelf
theorem ret_bufE {fn : Func} {p u : Tmp} (h : fn.results = #[.cell p 86, .tmp u]) {R : Ending → World → Prop} {a : Act} {w : World} {g : Nat} {t : TypeId} {x0 x1 x2 x3 v : Value} (hp : a.tmps.getD p undef = .pointer (some ⟨g, 0, none⟩))
    (hb : Blk w g t [x0, x1, x2, x3]) (hd : a.defers = []) (hu : a.tmps.getD u undef = v) (hR : R (.returned (.tuple #[.agg #[x0, x1, x2, x3], v])) w) : bodyPost Tryz.prog fn R .ret a w := by
  refine bodyPost_ret (v := .tuple #[.agg #[x0, x1, x2, x3], v]) ?_ hd hR
  rw [results_cell_tmp h, hp, hu]
  have := run_loadVar_mid w g 0 86 [x0, x1, x2, x3] _ (hb.range 0 4 _ rfl) Tryz.underlying86 rfl (by kernel_rfl)
  simp only [asAddr, Sem.run_pure, Result.andThen_ok, this]
theorem size_buf {x0 x1 x2 x3 : Value} : (Tryz.prog.info? 86).map (·.size) = some [x0, x1, x2, x3].length := by kernel_rfl
theorem one4 {a c d : Int} {p : Option Addr} {n m : Nat} : ∀ v ∈ [Value.int .i64 a, .slice p n m, .int .i64 c, .int .i64 d], v.oneCell' = true := by simp [Value.oneCell']
def getQ (r : Nat) (l : List BP) (t : RS) (i : Int) : Int × List BP × RS :=
  if hasB t.secs.length i = false then (1, l, t) else
  match cutAt (isK i.toNat) l with
  | some _ => (0, l, t)
  | none => if (roomQ r l t).1 = 0 then (rrE (roomQ r l t).2.2 i, (roomQ r l t).2.1, (roomQ r l t).2.2) else roomQ r l t
def gotQ (r : Nat) (l : List BP) (t : RS) (i : Int) : BP :=
  match cutAt (isK i.toNat) l with
  | some (_, x, _) => x
  | none => ⟨i.toNat, rrD (roomQ r l t).2.2 i, 0, 0⟩
/-- What get answers. -/
def QGot (R : Int × List BP × RS) (G : BP) (w : World) (s : QS) (e : Ending) (w' : World) : Prop :=
  ∃ s', QAfter w w' s s' ∧ s'.P = R.2.1 ∧ s'.t = R.2.2 ∧ ∃ x : QB, e = .returned (.tuple #[.agg #[.int .i64 (x.b.k : Int), .slice x.p x.b.D.length x.cap, .int .i64 (x.b.cl : Int), .int .i64 (x.b.pins : Int)], .int .i64 R.1]) ∧ (R.1 = 0 → x.b = G ∧ In w' x.p x.b.D.length x.cap x.b.D ∧ U8 w' x.p)
/-- A block that a call made for itself is turned. -/
theorem QAfter.mine {w w0 w' w8 : World} {s s' : QS} (h : QIn w s) (hb : Below w.heap.size w w0) (hA : QAfter w0 w' s s') {g : Nat} (hg : w.heap.size ≤ g) (hl : g < w0.heap.size) (ht : Turned w' w8 g) (hu : ∀ (cs : Array Value), w'.heap[g]? ≠ some (Obj.cells cs 5 (0, 0))) : QAfter w w8 s s' := by
  have hne : ∀ k, fpQ s' k → k ≠ g := fun k hk e => by
    rcases hA.fr k hk with e' | e'
    · have := h.lt e'; omega
    · omega
  have hq : QIn w8 s' := hA.qin.same (fun k hk => ht.block k (hne k hk)) (fun k cs hc => ht.block k (fun e => hu cs (e ▸ hc)))
  have hK : Keep (fpQ s) w w8 := by
    have k1 : Keep (fpQ s) w w' := (Keep.of_below (S := fpQ s) hb).trans hA.keep (fun _ _ e => e)
    exact ⟨ht.os.trans k1.os, ht.tape.trans k1.tape, ht.output.trans k1.output, by rw [ht.size]; exact k1.size, fun k hk hn => (ht.block k (by omega)).trans (k1.block k hk hn)⟩
  exact ⟨hq, hK, fun k hk => (hA.fr k hk).imp id (Nat.le_trans hb.size), hA.q, hA.g, hA.room⟩
theorem blk_no5 {w : World} {g : Nat} {cs : List Value} (h : Blk w g 86 cs) : ∀ (ds : Array Value), w.heap[g]? ≠ some (Obj.cells ds 5 (0, 0)) := fun ds e => by
  rw [Blk, e] at h
  simp at h
set_option linter.unusedSimpArgs false in
set_option maxHeartbeats 4000000 in
set_option maxRecDepth 100000 in
theorem qget_any {w : World} {s : QS} (h : QIn w s) (i : Int) (hcl : ∀ b ∈ s.P, b.cl ≤ 2) (hw1 : s.t.many < 2000) (hw2 : s.t.wrote.length < 2000) : Calls Tryz.prog 71 #[.pointer (some ⟨s.q, 0, none⟩), .int .i64 i] w fun e w' => QGot (getQ s.room s.P s.t i) (gotQ s.room s.P s.t i) w s e w' := by
  have hb0 := below_alloc w (.cells #[.int .i64 0, .slice none 0 0, .int .i64 0, .int .i64 0] 86)
  have h1 := h.below hb0
  have k0 : Blk (w.alloc (.cells #[.int .i64 0, .slice none 0 0, .int .i64 0, .int .i64 0] 86)) w.heap.size 86 [.int .i64 0, .slice none 0 0, .int .i64 0, .int .i64 0] := Blk.new' w 86 #[.int .i64 0, .slice none 0 0, .int .i64 0, .int .i64 0]
  have ht := qthere_any h1 i
  have ha := qat_any h1 i
  have hsz : w.heap.size < (w.alloc (.cells #[.int .i64 0, .slice none 0 0, .int .i64 0, .int .i64 0] 86)).heap.size := by rw [World.size_alloc]; omega
  cases hh : hasB s.t.secs.length i with
  | false =>
    have e : getQ s.room s.P s.t i = (1, s.P, s.t) := by rw [getQ, if_pos hh]
    rw [hh] at ht
    rw [e]
    clear e hh
    go_enter Tryz.func71, Tryz.ntmps71
    go_wp2_with (first | (go_at_call 74; refine ht.mono ?_; rintro e w' ⟨rfl, hw'⟩; have hw2 := hw'.symm; subst hw2; clear hw') | (refine wpList_store_blk rfl 86 (.tmp 4) (.tmp 14) rfl _ 0 [.int .i64 0, .slice none 0 0, .int .i64 0, .int .i64 0] rfl rfl k0 (by simp) size_buf one4 ?_; intro w8 b8 t8))
    refine ret_bufE rfl rfl b8 rfl rfl ?_
    exact ⟨s, QAfter.mine h hb0 (QAfter.refl h1) (Nat.le_refl _) hsz t8 (blk_no5 k0), rfl, rfl, ⟨⟨0, [], 0, 0⟩, none, 0⟩, rfl, fun e => by cases e⟩
  | true =>
    rw [hh] at ht
    obtain ⟨k, rfl⟩ : ∃ k : Nat, i = (k : Int) := ⟨i.toNat, by simp [hasB] at hh; omega⟩
    cases hc : cutAt (isK k) s.P with
    | some r =>
      obtain ⟨p, y, q⟩ := r
      obtain ⟨hP, -, -⟩ := cutAt_spec hc
      have e1 : getQ s.room s.P s.t (k : Int) = (0, s.P, s.t) := by rw [getQ, if_neg (by rw [hh]; simp), Int.toNat_natCast, hc]
      have e2 : gotQ s.room s.P s.t (k : Int) = y := by rw [gotQ, Int.toNat_natCast, hc]
      have e3 : atI s.P (k : Int) = (p.length : Int) := by rw [atI, isI_isK, hc]
      rw [e3] at ha
      rw [e1, e2]
      have hpy : s.P[p.length]? = some y := by rw [hP]; simp
      obtain ⟨x, hx, hxy⟩ := QS.at hpy
      subst hxy
      have hil : p.length < s.L.length := (List.getElem?_eq_some_iff.1 hx).1
      obtain ⟨g, cap, hg, -, -⟩ := owns_at h1.row (by omega)
      have c2 := h1.blk.cell' (i := 2) (v := s.lv) rfl
      rw [hg] at c2
      have f0 := h1.cellAt hg hx (j := 0) (by omega) (v := .int .i64 (x.b.k : Int)) rfl
      have f1 := h1.cellAt hg hx (j := 1) (by omega) (v := .slice x.p x.b.D.length x.cap) rfl
      have f2 := h1.cellAt hg hx (j := 2) (by omega) (v := .int .i64 (x.b.cl : Int)) rfl
      have f3 := h1.cellAt hg hx (j := 3) (by omega) (v := .int .i64 (x.b.pins : Int)) rfl
      have hxL : x ∈ s.L := List.mem_of_getElem? hx
      rw [Nat.add_zero] at f0
      obtain ⟨n, HN⟩ : ∃ n, Hid (s.L.length = n) := ⟨_, rfl⟩
      rw [HN.out] at c2 hil
      generalize p.length = j at *
      have hji : (j : Int) < (n : Int) := by omega
      clear e1 e2 e3 hpy hP hc hh hx hg
      go_enter Tryz.func71, Tryz.ntmps71
      go_wp2_with (first | (go_at_call 74; refine ht.mono ?_; rintro e w' ⟨rfl, hw'⟩; have hw2 := hw'.symm; subst hw2; clear hw') | (go_at_call 75; refine ha.mono ?_; rintro e w' ⟨rfl, hw'⟩; have hw2 := hw'.symm; subst hw2; clear hw') | (refine wpList_store_blk rfl 86 (.tmp 4) (.tmp 26) rfl _ 0 [.int .i64 (x.b.k : Int), .slice x.p x.b.D.length x.cap, .int .i64 (x.b.cl : Int), .int .i64 (x.b.pins : Int)] rfl rfl k0 (by simp) size_buf one4 ?_; intro w8 b8 t8))
      refine ret_bufE rfl rfl b8 rfl rfl ?_
      have A := QAfter.mine h hb0 (QAfter.refl h1) (Nat.le_refl _) hsz t8 (blk_no5 k0)
      exact ⟨s, A, rfl, rfl, x, rfl, fun _ => ⟨rfl, A.qin.dat x hxL⟩⟩
    | none =>
      have e1 : getQ s.room s.P s.t (k : Int) = if (roomQ s.room s.P s.t).1 = 0 then (rrE (roomQ s.room s.P s.t).2.2 (k : Int), (roomQ s.room s.P s.t).2.1, (roomQ s.room s.P s.t).2.2) else roomQ s.room s.P s.t := by rw [getQ, if_neg (by rw [hh]; simp), Int.toNat_natCast, hc]
      have e2 : gotQ s.room s.P s.t (k : Int) = ⟨k, rrD (roomQ s.room s.P s.t).2.2 (k : Int), 0, 0⟩ := by rw [gotQ, Int.toNat_natCast, hc]
      have e3 : atI s.P (k : Int) = -1 := by rw [atI, isI_isK, hc]
      rw [e3] at ha
      rw [e1, e2]
      have hrm := qroom_any h1 hcl hw1 hw2
      generalize roomQ s.room s.P s.t = R at *
      obtain ⟨E, l2, t2⟩ := R
      dsimp only at hrm ⊢
      clear e1 e2 e3 hc hh
      by_cases hE : E = 0
      · subst hE
        rw [if_pos rfl]
        generalize hEE : rrE t2 (k : Int) = EE
        generalize hDD : rrD t2 (k : Int) = D
        have HEE : Hid (rrE t2 (k : Int) = EE) := hEE
        have HDD : Hid (rrD t2 (k : Int) = D) := hDD
        clear hEE hDD
        go_enter Tryz.func71, Tryz.ntmps71
        go_wp2_with (first
          | (go_at_call 74; refine ht.mono ?_; rintro e w' ⟨rfl, hw'⟩; have hw2 := hw'.symm; subst hw2; clear hw')
          | (go_at_call 75; refine ha.mono ?_; rintro e w' ⟨rfl, hw'⟩; have hw2 := hw'.symm; subst hw2; clear hw')
          | (go_at_call 76; refine hrm.mono ?_; rintro e w2 ⟨rfl, s2, hA2, hP2, ht2⟩; subst ht2; have k2 := k0.keep hA2.keep (fun e => Nat.lt_irrefl _ (h.lt e)); have d0 : w2.cell? ⟨s.q, 0, none⟩ = some (.pointer (some ⟨s2.g, 0, none⟩)) := (by rw [← hA2.q]; exact hA2.qin.blk.cell' (i := 0) rfl))
          | (go_at_call 56; refine (rread_any hA2.qin.ref (k : Int)).mono ?_; rw [HEE.out, HDD.out]; rintro e w3 ⟨p3, c3, rfl, hin3, hb3, hu3⟩; have k3 := k2.kept hb3)
          | (refine wpList_store_blk rfl 86 (.tmp 4) (.tmp 44) rfl _ 0 [.int .i64 (k : Int), .slice p3 D.length c3, .int .i64 0, .int .i64 0] rfl rfl k3 (by simp) size_buf one4 ?_; intro w8 b8 t8))
        refine ret_bufE rfl rfl b8 rfl rfl ?_
        have A := QAfter.mine h hb0 (hA2.kept hb3) (Nat.le_refl _) hsz t8 (blk_no5 k3)
        have hs : ∀ a, p3 = some a → w8.heap[a.block]? = w3.heap[a.block]? := fun a ha => t8.block _ (hu3.ne ha k3 (by decide))
        exact ⟨s2, A, hP2, rfl, ⟨⟨k, D, 0, 0⟩, p3, c3⟩, rfl, fun _ => ⟨rfl, hin3.same (fun a ha _ => hs a ha), hu3.same hs⟩⟩
      · rw [if_neg hE]
        have hEi : (E != 0) = true := by rw [bne_iff_ne]; exact hE
        go_enter Tryz.func71, Tryz.ntmps71
        go_wp2_with (first
          | (go_at_call 74; refine ht.mono ?_; rintro e w' ⟨rfl, hw'⟩; have hw2 := hw'.symm; subst hw2; clear hw')
          | (go_at_call 75; refine ha.mono ?_; rintro e w' ⟨rfl, hw'⟩; have hw2 := hw'.symm; subst hw2; clear hw')
          | (go_at_call 76; refine hrm.mono ?_; rintro e w2 ⟨rfl, s2, hA2, hP2, ht2⟩; have k2 := k0.keep hA2.keep (fun e => Nat.lt_irrefl _ (h.lt e)))
          | (refine wpList_store_blk rfl 86 (.tmp 4) (.tmp 31) rfl _ 0 [.int .i64 0, .slice none 0 0, .int .i64 0, .int .i64 0] rfl rfl k2 (by simp) size_buf one4 ?_; intro w8 b8 t8))
        refine ret_bufE rfl rfl b8 rfl rfl ?_
        exact ⟨s2, QAfter.mine h hb0 hA2 (Nat.le_refl _) hsz t8 (blk_no5 k2), hP2, ht2, ⟨⟨0, [], 0, 0⟩, none, 0⟩, rfl, fun e => absurd e hE⟩
end Go.Proofs.YtdmnddikcpfmfaaGreat

namespace Go.Proofs.YtdmnddikcpfmfaaGreat
open Go.RowKit Go.Shelf
set_option linter.unusedSimpArgs false in
set_option maxHeartbeats 4000000 in
set_option maxRecDepth 100000 in
theorem qread_any {w : World} {s : QS} (h : QIn w s) (i : Int) (hcl : ∀ b ∈ s.P, b.cl ≤ 2) (hw1 : s.t.many < 2000) (hw2 : s.t.wrote.length < 2000) {R : Int × List BP × RS} {G : BP} (eR : getQ s.room s.P s.t i = R) (eG : gotQ s.room s.P s.t i = G) (hG : R.1 = 0 → G.D.length = 256) (hGr : R.1 = 0 → (dropK R.2.1 G.k).length + 1 ≤ s.room) : Calls Tryz.prog 27 #[.pointer (some ⟨s.q, 0, none⟩), .int .i64 i] w fun e w' =>
    ∃ p n c, e = .returned (.tuple #[.slice p n c, .int .i64 R.1]) ∧ In w' p n c (if R.1 = 0 then G.D else []) ∧ ∃ s', QAfter w w' s s' ∧ s'.P = (if R.1 = 0 then dropK R.2.1 G.k ++ [G] else R.2.1) ∧ s'.t = R.2.2 := by
  have hg := qget_any h i hcl hw1 hw2
  rw [eR, eG] at hg
  obtain ⟨E, l, t⟩ := R
  dsimp only at hG hGr ⊢
  clear eR eG
  unfold QGot at hg
  dsimp only at hg
  by_cases hE : E = 0
  · subst hE
    have HG : Hid (G.D.length = 256) := hG rfl
    clear hG
    replace hGr := hGr rfl
    rw [if_pos rfl, if_pos rfl]
    go_enter Tryz.func27, Tryz.ntmps27
    go_wp2_with (go_at_call 71; refine hg.mono ?_; rintro e w1 ⟨s1, hA1, hP1, ht1, x, rfl, hx⟩; have HX : Hid _ := hx; clear hx; have hq1 := hA1.q; have h2 := hA1.qin.below (below_alloc w1 (.cells #[.int .i64 (x.b.k : Int), .slice x.p x.b.D.length x.cap, .int .i64 (x.b.cl : Int), .int .i64 (x.b.pins : Int)] 86)); have k2 : Blk (w1.alloc (.cells #[.int .i64 (x.b.k : Int), .slice x.p x.b.D.length x.cap, .int .i64 (x.b.cl : Int), .int .i64 (x.b.pins : Int)] 86)) w1.heap.size 86 (qrow x) := Blk.new' w1 86 #[.int .i64 (x.b.k : Int), .slice x.p x.b.D.length x.cap, .int .i64 (x.b.cl : Int), .int .i64 (x.b.pins : Int)])
    have hl := qlast_any h2 x ⟨(HX.out (by trivial)).2.1.below (below_alloc _ _), (HX.out (by trivial)).2.2.below (below_alloc _ _)⟩ (by rw [hP1, (HX.out (by trivial)).1, hA1.room]; exact hGr)
    rw [hq1] at hl
    refine hl.mono ?_
    rintro e w3 ⟨⟨u, rfl⟩, s3, hA3, hP3, -, ht3⟩
    have k3 := k2.keep hA3.keep (fun e => Nat.lt_irrefl _ (hA1.qin.lt e))
    have c1 := k3.cell' (i := 1) rfl
    have HD : Hid (x.b.D.length = 256) := by show _ = _; rw [(HX.out (by trivial)).1]; exact HG.out
    have hi3 := (hA3.dat h2 ⟨(HX.out (by trivial)).2.1.below (below_alloc w1 (.cells #[.int .i64 (x.b.k : Int), .slice x.p x.b.D.length x.cap, .int .i64 (x.b.cl : Int), .int .i64 (x.b.pins : Int)] 86)), (HX.out (by trivial)).2.2.below (below_alloc w1 (.cells #[.int .i64 (x.b.k : Int), .slice x.p x.b.D.length x.cap, .int .i64 (x.b.cl : Int), .int .i64 (x.b.pins : Int)] 86))⟩).1
    rw [HD.out] at hi3
    have ho := own_any x.p x.cap x.b.D w3 hi3
    rw [← HD.out] at ho
    clear hl hi3
    go_wp2_with fail
    refine ho.mono ?_
    rintro e w4 ⟨p4, c4, rfl, hin4, hb4, hu4⟩
    go_wp2_with fail
    go_ret2
    exact ⟨_, _, _, rfl, by rw [← (HX.out (by trivial)).1]; exact hin4, s3, ((hA1.trans (hA3.drop (below_alloc _ _))).kept hb4), by rw [hP3, hP1, (HX.out (by trivial)).1], by rw [ht3, ht1]⟩
  · rw [if_neg hE, if_neg hE]
    have hEi : (E != 0) = true := by rw [bne_iff_ne]; exact hE
    go_enter Tryz.func27, Tryz.ntmps27
    go_wp2_with (go_at_call 71; refine hg.mono ?_; rintro e w1 ⟨s1, hA1, hP1, ht1, x, rfl, hx⟩; have HX : Hid _ := hx; clear hx; have hq1 := hA1.q; have h2 := hA1.qin.below (below_alloc w1 (.cells #[.int .i64 (x.b.k : Int), .slice x.p x.b.D.length x.cap, .int .i64 (x.b.cl : Int), .int .i64 (x.b.pins : Int)] 86)); have k2 : Blk (w1.alloc (.cells #[.int .i64 (x.b.k : Int), .slice x.p x.b.D.length x.cap, .int .i64 (x.b.cl : Int), .int .i64 (x.b.pins : Int)] 86)) w1.heap.size 86 (qrow x) := Blk.new' w1 86 #[.int .i64 (x.b.k : Int), .slice x.p x.b.D.length x.cap, .int .i64 (x.b.cl : Int), .int .i64 (x.b.pins : Int)])
    go_ret2
    exact ⟨_, _, _, rfl, In.empty _, s1, hA1.kept (below_alloc _ _), hP1, ht1⟩
set_option linter.unusedSimpArgs false in
set_option maxHeartbeats 4000000 in
set_option maxRecDepth 100000 in
theorem qpin_any {w : World} {s : QS} (h : QIn w s) (i : Int) (hcl : ∀ b ∈ s.P, b.cl ≤ 2) (hw1 : s.t.many < 2000) (hw2 : s.t.wrote.length < 2000) {R : Int × List BP × RS} {G : BP} (eR : getQ s.room s.P s.t i = R) (eG : gotQ s.room s.P s.t i = G) (hGp : G.pins ≤ 100000) (hGr : R.1 = 0 → (dropK R.2.1 G.k).length + 1 ≤ s.room) : Calls Tryz.prog 30 #[.pointer (some ⟨s.q, 0, none⟩), .int .i64 i] w fun e w' =>
    e = .returned (.int .i64 R.1) ∧ ∃ s', QAfter w w' s s' ∧ s'.P = (if R.1 = 0 then dropK R.2.1 G.k ++ [⟨G.k, G.D, G.cl, G.pins + 1⟩] else R.2.1) ∧ s'.t = R.2.2 := by
  have hg := qget_any h i hcl hw1 hw2
  rw [eR, eG] at hg
  obtain ⟨E, l, t⟩ := R
  dsimp only at hGr ⊢
  clear eR eG
  unfold QGot at hg
  dsimp only at hg
  by_cases hE : E = 0
  · subst hE
    replace hGr := hGr rfl
    rw [if_pos rfl]
    go_enter Tryz.func30, Tryz.ntmps30
    go_wp2_with (go_at_call 71; refine hg.mono ?_; rintro e w1 ⟨s1, hA1, hP1, ht1, x, rfl, hx⟩; have HX : Hid _ := hx; clear hx; have hq1 := hA1.q; have h2 := hA1.qin.below (below_alloc w1 (.cells #[.int .i64 (x.b.k : Int), .slice x.p x.b.D.length x.cap, .int .i64 (x.b.cl : Int), .int .i64 (x.b.pins : Int)] 86)); have k2 : Blk (w1.alloc (.cells #[.int .i64 (x.b.k : Int), .slice x.p x.b.D.length x.cap, .int .i64 (x.b.cl : Int), .int .i64 (x.b.pins : Int)] 86)) w1.heap.size 86 (qrow x) := Blk.new' w1 86 #[.int .i64 (x.b.k : Int), .slice x.p x.b.D.length x.cap, .int .i64 (x.b.cl : Int), .int .i64 (x.b.pins : Int)]; have hxp : x.b.pins ≤ 100000 := (by rw [(HX.out (by trivial)).1]; exact hGp))
    have hb1 := below_alloc w1 (.cells #[.int .i64 (x.b.k : Int), .slice x.p x.b.D.length x.cap, .int .i64 (x.b.cl : Int), .int .i64 ((x.b.pins : Int) + 1)] 86)
    have hl := qlast_any (hA1.qin.below hb1) ⟨⟨x.b.k, x.b.D, x.b.cl, x.b.pins + 1⟩, x.p, x.cap⟩ ⟨(HX.out (by trivial)).2.1.below hb1, (HX.out (by trivial)).2.2.below hb1⟩ (by dsimp only; rw [hP1, (HX.out (by trivial)).1, hA1.room]; exact hGr)
    dsimp only at hl
    rw [hq1, show ((x.b.pins + 1 : Nat) : Int) = (x.b.pins : Int) + 1 from by omega] at hl
    refine hl.mono ?_
    rintro e w3 ⟨⟨u, rfl⟩, s3, hA3, hP3, -, ht3⟩
    clear hl
    go_wp2_with fail
    go_ret
    exact ⟨rfl, s3, hA1.trans (hA3.drop hb1), by rw [hP3, hP1, (HX.out (by trivial)).1], by rw [ht3, ht1]⟩
  · rw [if_neg hE]
    have hEi : (E != 0) = true := by rw [bne_iff_ne]; exact hE
    go_enter Tryz.func30, Tryz.ntmps30
    go_wp2_with (go_at_call 71; refine hg.mono ?_; rintro e w1 ⟨s1, hA1, hP1, ht1, x, rfl, hx⟩; have HX : Hid _ := hx; clear hx; have hq1 := hA1.q; have h2 := hA1.qin.below (below_alloc w1 (.cells #[.int .i64 (x.b.k : Int), .slice x.p x.b.D.length x.cap, .int .i64 (x.b.cl : Int), .int .i64 (x.b.pins : Int)] 86)); have k2 : Blk (w1.alloc (.cells #[.int .i64 (x.b.k : Int), .slice x.p x.b.D.length x.cap, .int .i64 (x.b.cl : Int), .int .i64 (x.b.pins : Int)] 86)) w1.heap.size 86 (qrow x) := Blk.new' w1 86 #[.int .i64 (x.b.k : Int), .slice x.p x.b.D.length x.cap, .int .i64 (x.b.cl : Int), .int .i64 (x.b.pins : Int)])
    go_ret
    exact ⟨rfl, s1, hA1.kept (below_alloc _ _), hP1, ht1⟩
end Go.Proofs.YtdmnddikcpfmfaaGreat

/-
  What Pins, Dirty and told answer; slices.Equal of ints; slices.ContainsFunc over the document's buffers.
-/
import Derived.Test.YtdmnddikcpfmfaaGreatCkTold2
import Derived.Test.YtdmnddikcpfmfaaGreatCkSort
import Derived.Test.YtdmnddikcpfmfaaGreatEqual
namespace Go.Proofs.YtdmnddikcpfmfaaGreat
open Go.RowKit Go.Maps Go.Shelf
theorem cpins_no {w : World} {s : CS} (h : CIn w s) (k : Nat) (hno : ∀ x ∈ s.L, x.b.k ≠ k) : Calls Tryz.prog 52 #[.pointer (some ⟨s.c, 0, none⟩), .int .i64 (k : Int)] w fun e w' => e = .returned (.int .i64 0) ∧ Below w.heap.size w w' := by
  have hh := chas_any h (k : Int)
  rw [hasK_no hno] at hh
  go_enter Tryz.func52, Tryz.ntmps52
  go_wp2_with (go_at_call 21; refine hh.mono ?_; rintro e w1 ⟨rfl, hb1⟩)
  go_ret
  exact ⟨rfl, hb1⟩
theorem cpins_yes {w : World} {s : CS} (h : CIn w s) {x : BufS} (hx : x ∈ s.L) : Calls Tryz.prog 52 #[.pointer (some ⟨s.c, 0, none⟩), .int .i64 (x.b.k : Int)] w fun e w' => e = .returned (.int .i64 (x.b.pins : Int)) ∧ Below w.heap.size w w' := by
  have hh := chas_any h (x.b.k : Int)
  rw [hasK_yes hx (h.fit.ok x hx)] at hh
  go_enter Tryz.func52, Tryz.ntmps52
  go_wp2_with (go_at_call 21; refine hh.mono ?_; rintro e w1 ⟨rfl, hb1⟩; have h1 := h.kept hb1; have hy1 := h1.mapy hx; have hc2 := h1.c2; have hbc := (h1.mem x (List.mem_cons_of_mem _ hx)).cell' (i := 3) (v := .int .i64 (x.b.pins : Int)) rfl)
  go_ret
  exact ⟨rfl, hb1⟩
theorem idxs (N : Nat) : ∀ xs : List Int, (∀ x ∈ xs, ∃ k : Nat, k < N ∧ (k : Int) = x) → ∃ ks : List (IdxT N), valsK ks = xs
  | [], _ => ⟨[], rfl⟩
  | x :: r, h => by
    obtain ⟨k, hk, e⟩ := h x (List.mem_cons_self ..)
    obtain ⟨ks, e2⟩ := idxs N r (fun y hy => h y (List.mem_cons_of_mem _ hy))
    exact ⟨⟨k, hk⟩ :: ks, by simp only [valsK, List.map_cons]; rw [← e2]; simp only [valsK]; rw [e]⟩
theorem owns_slice_lt {w : World} {B : Nat} {e : TypeId} {z : Nat} {p : Option Addr} {m n c : Nat} {xs : List Value} (h : w.ownsRow B e z (.slice p m c) n xs) : ∀ a, p = some a → a.block < w.heap.size := by
  rcases h.2 with ⟨h1, _⟩ | ⟨g, cap, cur, h1, hg, hh, _⟩
  · cases h1; intro a ha; cases ha
  · cases h1; intro a ha; cases ha
    rcases Nat.lt_or_ge g w.heap.size with h' | h'
    · exact h'
    · rw [Array.getElem?_eq_none h'] at hh; simp at hh
theorem cDirty_any {w : World} {s : CS} (h : CIn w s) (cl : Nat) (hc : cl = 1 ∨ cl = 2) : Calls Tryz.prog 50 #[.pointer (some ⟨s.c, 0, none⟩), .int .i64 (cl : Int)] w fun e w' =>
    ∃ Bs c1 p1, e = .returned (.func (.func 105) #[] #[.pointer (some ⟨Bs, 0, none⟩)]) ∧ Blk w' Bs 40 [.slice p1 (dirtyKs s.ds.secs.length s.P cl).length c1] ∧ InI w' p1 (dirtyKs s.ds.secs.length s.P cl).length c1 (dirtyKs s.ds.secs.length s.P cl) ∧ Below w.heap.size w w' ∧ ∀ a, p1 = some a → a.block < w'.heap.size := by
  have hd := cdirty_any sorts_own h cl hc
  have hl := dirtyKs_len s.ds.secs.length s.P cl
  have hn2 := h.base.disk.n2
  clear hc
  generalize dirtyKs s.ds.secs.length s.P cl = X at *
  go_enter Tryz.func50, Tryz.ntmps50
  go_wp2_with fail
  refine hd.mono ?_
  rintro e w1 ⟨v, rfl, hrow, hb1⟩
  obtain ⟨p1, c1, rfl, hin⟩ := in_of_ownsI hrow (by omega)
  have hv := values_any p1 X.length c1 w1
  go_wp2_with fail
  refine hv.mono ?_
  rintro e w2 ⟨rfl, hw2⟩
  subst hw2
  go_wp2_with fail
  go_ret
  refine ⟨_, c1, p1, rfl, Blk.new w1 40 [.slice p1 X.length c1], hin.below (below_alloc _ _), bt hb1 (below_alloc _ _), fun a ha => ?_⟩
  have := owns_slice_lt hrow a ha
  rw [World.size_alloc]
  omega
set_option linter.unusedSimpArgs false in
set_option maxHeartbeats 4000000 in
theorem equalI_yes (p q : Option Addr) (n c d : Nat) (l : List Int) (w : World) (hp : InI w p n c l) (hq : InI w q n d l) :
    Calls Tryz.prog 48 #[.slice p n c, .slice q n d] w fun e w' => e = .returned (.bool true) ∧ Below w.heap.size w w' := by
  have hroom := hp.room
  go_enter Tryz.func48, Tryz.ntmps48
  go_wp2
  go_loopw [13] (fun i wr => ∃ k : Nat, k ≤ n ∧ i = .int .i64 k ∧ Below w.heap.size w wr) (fun i _ => n - (intOf i).toNat)
  case atStart => exact ⟨0, Nat.zero_le _, rfl, Below.refl _ _⟩
  case round =>
    obtain ⟨k, hk, rfl, hbk⟩ := hrel
    by_cases hlt : k < n
    · obtain ⟨b, o, rfl, _, hc⟩ := (hp.below hbk).at' (by omega)
      obtain ⟨b', o', rfl, _, hd⟩ := (hq.below hbk).at' (by omega)
      have e0 := hc k hlt
      have d0 := hd k hlt
      have hki : (k : Int) < (n : Int) := by omega
      generalize eI l k = R at *
      clear hc hd
      go_wp2_with fail
      go_quiet (fail)
      go_wp2
      go_roundw
      case rel => exact ⟨k + 1, by omega, by go_num, ⟨hbk.os, hbk.tape, hbk.output, hbk.size, hbk.block⟩⟩
      case measure => simp [intOf]; omega
    · obtain rfl : k = n := by omega
      go_wp2
      go_ret
      exact ⟨rfl, hbk⟩
theorem told_dirt {w : World} {s : CS} (cl : Nat) (hn2 : s.ds.secs.length ≤ 8192) (Bs c1 : Nat) (p1 : Option Addr) (hbs : Blk w Bs 40 [.slice p1 (dirtyKs s.ds.secs.length s.P cl).length c1]) (hin : InI w p1 (dirtyKs s.ds.secs.length s.P cl).length c1 (dirtyKs s.ds.secs.length s.P cl)) (hlow : ∀ a, p1 = some a → a.block < w.heap.size) :
    Calls Tryz.prog 49 #[.func (.func 105) #[] #[.pointer (some ⟨Bs, 0, none⟩)], .int .i64 9999] w fun e w' => ∃ p' n' c', e = .returned (.slice p' n' c') ∧ InI w' p' n' c' (dirtyKs s.ds.secs.length s.P cl) ∧ Below w.heap.size w w' := by
  have hl := dirtyKs_len s.ds.secs.length s.P cl
  obtain ⟨ks, hks⟩ := idxs s.ds.secs.length (dirtyKs s.ds.secs.length s.P cl) (fun x hx => by
    simp only [dirtyKs, List.mem_map, List.mem_filter, List.mem_range] at hx
    obtain ⟨k, ⟨h1, _⟩, rfl⟩ := hx
    exact ⟨k, h1, rfl⟩)
  have hkl : (dirtyKs s.ds.secs.length s.P cl).length = ks.length := by rw [← hks, valsK_length]
  rw [hkl] at hbs hin
  rw [← hks] at hin
  refine (told_new9 Bs c1 p1 ks 9999 (by decide) w hbs hin hlow).mono ?_
  rintro e w' ⟨p', c', rfl, hi, hb, -⟩
  have ht : ks.take 9999 = ks := List.take_of_length_le (by omega)
  rw [ht, hks] at hi
  rw [ht]
  exact ⟨p', _, c', rfl, hi, hb⟩
/-- What Pins answers, of any number. -/
theorem cpinsI {w : World} {s : CS} (h : CIn w s) (i : Int) : Calls Tryz.prog 52 #[.pointer (some ⟨s.c, 0, none⟩), .int .i64 i] w fun e w' => e = .returned (.int .i64 (pinI s.P i)) ∧ Below w.heap.size w w' := by
  rcases Classical.em (∃ x ∈ s.L, (x.b.k : Int) = i) with ⟨x, hx, rfl⟩ | hno
  · have e : pinI s.P (x.b.k : Int) = (x.b.pins : Int) := by
      unfold pinI
      rw [isI_isK]
      have hxP : x.b ∈ s.P := List.mem_map.2 ⟨x, hx, rfl⟩
      cases hc : cutAt (isK x.b.k) s.P with
      | none => exact absurd rfl (cut_none_iff hc _ hxP)
      | some y =>
        obtain ⟨p, y, q⟩ := y
        have hkd : (s.P.map (·.k)).Nodup := by rw [CS.P, List.map_map]; exact h.fit.kd
        rw [key_one hkd hc hxP rfl]
    rw [e]
    exact cpins_yes h hx
  · have e : pinI s.P i = 0 := by
      unfold pinI
      rw [cutAt_none fun y hy => ?_]
      obtain ⟨x, hx, rfl⟩ := List.mem_map.1 hy
      simp only [isI, decide_eq_false_iff_not]
      exact fun e => hno ⟨x, hx, e⟩
    rw [e]
    have hh := chas_any h i
    have hk : hasK s.P s.ds.secs.length i = false := by
      unfold hasK
      cases hb : hasB s.ds.secs.length i with
      | false => rfl
      | true =>
        obtain ⟨k, rfl, _⟩ := hasB_nat hb
        rw [Bool.true_and, Int.toNat_natCast, List.any_eq_false]
        intro y hy hyk
        obtain ⟨x, hx, rfl⟩ := List.mem_map.1 hy
        exact hno ⟨x, hx, by rw [isK_iff.1 hyk]⟩
    rw [hk] at hh
    go_enter Tryz.func52, Tryz.ntmps52
    go_wp2_with (go_at_call 21; refine hh.mono ?_; rintro e w1 ⟨rfl, hb1⟩)
    go_ret
    exact ⟨rfl, hb1⟩
theorem same1_any {w : World} (Bt : Nat) (t : Int) (hb : Blk w Bt 3 [.int .i64 t]) (k : Int) (pp : Option Addr) (n c : Nat) (cl pn : Int) : Calls Tryz.prog 47 #[.agg #[.int .i64 k, .slice pp n c, .int .i64 cl, .int .i64 pn], .pointer (some ⟨Bt, 0, none⟩)] w fun e w' => e = .returned (.bool (k == t)) ∧ Below w.heap.size w w' := by
  have hb0 := below_alloc w (.cells #[.int .i64 k, .slice pp n c, .int .i64 cl, .int .i64 pn] 86)
  have c1 := (hb.kept hb0).cell' (i := 0) rfl
  have c0 := (Blk.new' w 86 #[.int .i64 k, .slice pp n c, .int .i64 cl, .int .i64 pn]).cell' (i := 0) rfl
  go_enter Tryz.func47, Tryz.ntmps47
  go_wp2
  go_ret
  exact ⟨rfl, hb0⟩
end Go.Proofs.YtdmnddikcpfmfaaGreat

namespace Go.Proofs.YtdmnddikcpfmfaaGreat
open Go.RowKit Go.Shelf
theorem any_take (f : BP → Bool) (l : List BP) (k : Nat) (h : k < l.length) : (l.take (k + 1)).any f = ((l.take k).any f || f l[k]) := by
  rw [List.take_succ_eq_append_getElem h, List.any_append]; simp
set_option linter.unusedSimpArgs false in
set_option maxHeartbeats 4000000 in
set_option maxRecDepth 100000 in
theorem index_any {w : World} {q : QS} (h : QIn w q) (Bt : Nat) (t : Int) (hb : Blk w Bt 3 [.int .i64 t]) : Calls Tryz.prog 88 #[q.lv, .func (.func 47) #[] #[.pointer (some ⟨Bt, 0, none⟩)]] w fun e w' => ∃ r : Int, e = .returned (.int .i64 r) ∧ decide (r ≥ 0) = q.P.any (isI t) ∧ Below w.heap.size w w' := by
  have hlen := h.len
  have hr2 := h.r2
  obtain ⟨n, hn⟩ : ∃ n, n = q.L.length := ⟨_, rfl⟩
  have HPL : Hid (q.P.length = n) := by show _ = _; rw [hn]; simp [QS.P]
  have hrow := h.row
  rw [← hn] at hrow
  obtain ⟨pv, cv, hv⟩ := owns_slice hrow
  rw [hv]
  have HV : Hid (q.lv = .slice pv n cv) := hv
  have hni : (n : Int) ≤ 1024 := by omega
  have HN : Hid (n = q.L.length) := hn
  clear hv hn hlen hr2
  go_enter Tryz.func88, Tryz.ntmps88
  go_wp2
  go_loopw [8] (fun i wr => ∃ k : Nat, k ≤ n ∧ i = .int .i64 k ∧ Hid ((q.P.take k).any (isI t) = false) ∧ Below w.heap.size w wr) (fun i _ => n - (intOf i).toNat)
  case atStart => exact ⟨0, Nat.zero_le _, rfl, rfl, Below.refl _ _⟩
  case round =>
    obtain ⟨k, hk, rfl, HA, hbk⟩ := hrel
    by_cases hlt : k < n
    · have hki : k < q.L.length := by rw [← HN.out]; exact hlt
      obtain ⟨g, cap, hg, -, -⟩ := owns_at h.row (by omega)
      have hgv := HV.out
      rw [hg, ← HN.out] at hgv
      cases hgv
      have hqk := h.below hbk
      have hx : q.L[k]? = some q.L[k] := List.getElem?_eq_getElem hki
      have c0 := hqk.cellAt hg hx (j := 0) (by omega) (v := .int .i64 (q.L[k].b.k : Int)) rfl
      have c1 := hqk.cellAt hg hx (j := 1) (by omega) (v := .slice q.L[k].p q.L[k].b.D.length q.L[k].cap) rfl
      have c2 := hqk.cellAt hg hx (j := 2) (by omega) (v := .int .i64 (q.L[k].b.cl : Int)) rfl
      have c3 := hqk.cellAt hg hx (j := 3) (by omega) (v := .int .i64 (q.L[k].b.pins : Int)) rfl
      rw [Nat.add_zero] at c0
      have hs := same1_any (w := wr) Bt t (hb.kept hbk) (q.L[k].b.k : Int) q.L[k].p q.L[k].b.D.length q.L[k].cap (q.L[k].b.cl : Int) (q.L[k].b.pins : Int)
      have ha := any_take (isI t) q.P k (by rw [HPL.out]; exact hlt)
      have hpk : q.P[k]'(by rw [HPL.out]; exact hlt) = q.L[k].b := by simp [QS.P]
      rw [hpk, HA.out, Bool.false_or] at ha
      have hiq : isI t q.L[k].b = ((q.L[k].b.k : Int) == t) := by unfold isI; rw [Bool.eq_iff_iff]; simp
      rw [hiq] at ha
      have HAN : Hid ((q.P.take (k + 1)).any (isI t) = ((q.L[k].b.k : Int) == t)) := ha
      generalize q.L[k] = x at *
      clear ha hiq hpk hqk hx hg hki
      cases hq : ((x.b.k : Int) == t) with
      | false =>
        rw [hq] at hs HAN
        clear hq
        go_wp2_with fail
        refine hs.mono ?_
        rintro e w1 ⟨rfl, hb1⟩
        go_wp2
        go_roundw
        case rel => exact ⟨k + 1, by omega, by go_num, HAN, bt hbk hb1⟩
        case measure => simp [intOf]; omega
      | true =>
        rw [hq] at hs HAN
        clear hq
        go_wp2_with fail
        refine hs.mono ?_
        rintro e w1 ⟨rfl, hb1⟩
        go_wp2
        go_ret
        refine ⟨_, rfl, ?_, bt hbk hb1⟩
        have : q.P.any (isI t) = true := by
          have h2 := HAN.out
          rw [List.any_eq_true] at h2 ⊢
          obtain ⟨y, hy, hyy⟩ := h2
          exact ⟨y, List.mem_of_mem_take hy, hyy⟩
        rw [this]
        simp
    · obtain rfl : k = n := by omega
      go_wp2
      go_ret
      refine ⟨_, rfl, ?_, hbk⟩
      have h2 := HA.out
      rw [List.take_of_length_le (by rw [HPL.out]; exact Nat.le_refl _)] at h2
      rw [h2]
      rfl
theorem contains_any {w : World} {q : QS} (h : QIn w q) (Bt : Nat) (t : Int) (hb : Blk w Bt 3 [.int .i64 t]) : Calls Tryz.prog 46 #[q.lv, .func (.func 47) #[] #[.pointer (some ⟨Bt, 0, none⟩)]] w fun e w' => e = .returned (.bool (q.P.any (isI t))) ∧ Below w.heap.size w w' := by
  have hi := index_any h Bt t hb
  generalize q.lv = lv at *
  go_enter Tryz.func46, Tryz.ntmps46
  go_wp2_with fail
  refine hi.mono ?_
  rintro e w1 ⟨r, rfl, hr, hb1⟩
  have HR : Hid (decide (r ≥ 0) = q.P.any (isI t)) := hr
  clear hr
  go_wp2
  go_ret
  exact ⟨ret_bool HR.out, hb1⟩
theorem has_rel {l : List BP} {n : Nat} (hok : ∀ b ∈ l, b.k < n) (i : Int) : hasK l n i = l.any (isI i) := by
  unfold hasK
  cases hb : hasB n i with
  | false =>
    symm
    rw [Bool.false_and, List.any_eq_false]
    intro b hb' h
    have := hok b hb'
    simp only [isI, decide_eq_true_eq] at h
    rw [← h, hasB_yes this] at hb
    cases hb
  | true =>
    obtain ⟨k, rfl, _⟩ := hasB_nat hb
    rw [Bool.true_and, Int.toNat_natCast, isI_isK]
theorem pin_has {l : List BP} {i : Int} (h : 0 < pinI l i) : l.any (isI i) = true := by
  unfold pinI at h
  split at h
  · rename_i p x q hc
    obtain ⟨e, hx, -⟩ := cutAt_spec hc
    rw [List.any_eq_true]
    exact ⟨x, by rw [e]; simp, hx⟩
  · omega
end Go.Proofs.YtdmnddikcpfmfaaGreat

namespace Go.Proofs.YtdmnddikcpfmfaaGreat
open Go.RowKit Go.Shelf
theorem wpAnyH_take_at {P : Program} {md : Region.Mode} {ops : Array Oper} {Q : Exit → Act → World → Prop} {S : World → Prop} {i : Nat} {oi : Oper} {v : Value} {fuel : Nat} {listed : Array Bool} {a : Act} {w : World} (t : Option Tmp) (hi : ops[i]? = some oi) (hd : oi.dst = t)
    (hs : Region.noSelect ops = true) (hf : Region.free md ops listed i = true) (hr : (Region.ready md ops listed).contains i = true)
    (hQ : ∀ c a w, Q (.panic c) (a.put oi.dst v) w → Q (.panic c) a w) (hy : YieldsIf P ops S oi v a) (hS : S w)
    (h : wpAnyH P md ops Q S fuel (listed.setIfInBounds i true) (a.put t v) w) : wpAnyH P md ops Q S (fuel + 1) listed a w := by
  subst hd
  exact wpAnyH_take hi hs hf hr hQ hy hS h
end Go.Proofs.YtdmnddikcpfmfaaGreat

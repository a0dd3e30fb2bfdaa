/-
  slices.IndexFunc and slices.DeleteFunc of ints.
-/
import Derived.Test.YtdmnddikcpfmfaaGreatCkDirty2
import Derived.Lib.SliceRun
namespace Go.Proofs.YtdmnddikcpfmfaaGreat
open Go.RowKit Go.Maps Go.Shelf
theorem Turned.trans {a b c : World} {g : Nat} (h : Turned a b g) (k : Turned b c g) : Turned a c g := ⟨k.os.trans h.os, k.tape.trans h.tape, k.output.trans h.output, k.size.trans h.size, fun j hj => (k.block j hj).trans (h.block j hj)⟩
theorem Turned.refl (w : World) (g : Nat) : Turned w w g := ⟨rfl, rfl, rfl, rfl, fun _ _ => rfl⟩
theorem turned_setCells (g : Nat) : ∀ (vs : List Value) (o : Nat) (w : World), Turned w (w.setCells g o vs) g
  | [], _, w => Turned.refl w g
  | v :: r, o, w => (Turned.setCell w ⟨g, o, none⟩ v).trans (turned_setCells g r (o + 1) _)
theorem sliceI_back (b n c k : Nat) (h : k < n) (hc : n ≤ c) (W : World) :
    (Instr.slice 40 (.slice (some ⟨b, 0, none⟩) n c) (some (.int .i64 (k : Int))) none none).run Tryz.prog W = .ok (.slice (some ⟨b, k, none⟩) (n - k) (c - k)) W := by
  have h1 : ¬ c = k := by omega
  simp [Instr.slice, Instr.sliceBounds, Instr.sliceBound, run_underlying Tryz.underlying40, asIntOf, h1, addr_add]
  intro h3; omega
theorem sliceI_front (p : Option Addr) (n c k : Nat) (h : k ≤ n) (hc : n ≤ c) (W : World) :
    (Instr.slice 40 (.slice p n c) none (some (.int .i64 (k : Int))) none).run Tryz.prog W = .ok (.slice p k c) W := by
  simp [Instr.slice, Instr.sliceBounds, Instr.sliceBound, run_underlying Tryz.underlying40, asIntOf]
  rw [if_pos (by omega)]
  have : (Option.map (fun x : Addr => x.add 0) p) = p := by
    cases p with
    | none => rfl
    | some a => obtain ⟨b, o, s⟩ := a; simp [Addr.add]
  simp_all
/-- A row of ints that is known whole. -/
theorem blk_cell {W : World} {g : Nat} {ys : List Int} {sp : List Value} (h : Blk W g 3 (valsI ys ++ sp)) {j : Nat} (hj : j < ys.length) : W.cell? ⟨g, j, none⟩ = some (.int .i64 (eI ys j)) := h.cell' (by rw [List.getElem?_append_left (by rw [valsI_length]; exact hj), valsI_get ys j hj])
set_option maxRecDepth 100000 in
theorem indexF_any {clo : Nat} {caps : Array Value} (hent : Enters Tryz.prog clo) (f : Int → Bool) (g c : Nat) (xs : List Int) (sp : List Value) (w : World) (hB : Blk w g 3 (valsI xs ++ sp)) (hn : xs.length ≤ 100000)
    (hclo : ∀ x ∈ xs, Calls Tryz.prog clo (#[.int .i64 x] ++ caps) w fun e w' => e = .returned (.bool (f x)) ∧ w' = w) :
    Calls Tryz.prog 102 #[.slice (some ⟨g, 0, none⟩) xs.length c, .func (.func clo) #[] caps] w fun e w' => w' = w ∧ ((e = .returned (.int .i64 (-1)) ∧ ∀ x ∈ xs, f x = false) ∨ ∃ k : Nat, e = .returned (.int .i64 (k : Int)) ∧ k < xs.length ∧ f (eI xs k) = true ∧ ∀ i, i < k → f (eI xs i) = false) := by
  have hent' : ∀ (args : Array Value) (w : World), (callFunc clo args).run Tryz.prog w = .ok (.enter clo args) w := hent
  obtain ⟨n, hnn⟩ : ∃ n, Hid (n = xs.length) := ⟨_, rfl⟩
  rw [← hnn.out]
  have hn' : n ≤ 100000 := by rw [hnn.out]; exact hn
  go_enter Tryz.func102, Tryz.ntmps102
  go_wp2_with fail
  go_loopg [8] n (fun j v wr => wr = w ∧ ∃ k : Nat, v = .int .i64 (k : Int) ∧ k ≤ n ∧ j = n - k ∧ ∀ i, i < k → f (eI xs i) = false)
  case atStart => exact ⟨rfl, 0, rfl, by omega, rfl, fun i hi => by omega⟩
  case round =>
    obtain ⟨rfl, k, rfl, hk, rfl, hf⟩ := hrel
    by_cases hkn : k < n
    · have hkx : k < xs.length := by rw [← hnn.out]; exact hkn
      have hcell := blk_cell hB hkx
      have hcl := hclo (eI xs k) (eI_mem hkx)
      cases hfk : f (eI xs k) with
      | false =>
        rw [hfk] at hcl
        have HFK : Hid (f (eI xs k) = false) := hfk
        clear hfk
        generalize hik : eI xs k = ik at hcl hcell
        clear hik
        go_wp2_with (refine hcl.mono ?_; rintro e w' ⟨rfl, hw'⟩; have hw2 := hw'.symm; subst hw2; clear hw')
        go_roundg (n - (k + 1))
        case measure => omega
        case rel => exact ⟨rfl, k + 1, by go_num, by omega, rfl, fun i hi => by
          rcases Nat.lt_succ_iff_lt_or_eq.1 hi with h' | h'
          · exact hf i h'
          · rw [h']; exact HFK.out⟩
      | true =>
        rw [hfk] at hcl
        have HFK : Hid (f (eI xs k) = true) := hfk
        clear hfk
        generalize hik : eI xs k = ik at hcl hcell
        clear hik
        go_wp2_with (refine hcl.mono ?_; rintro e w' ⟨rfl, hw'⟩; have hw2 := hw'.symm; subst hw2; clear hw')
        go_ret
        exact ⟨rfl, .inr ⟨k, rfl, hkn, HFK.out, hf⟩⟩
    · have hkn2 : k = n := by omega
      subst hkn2
      go_wp2_with fail
      go_ret
      refine ⟨rfl, .inl ⟨rfl, fun x hx => ?_⟩⟩
      obtain ⟨i, hi, rfl⟩ := List.getElem_of_mem hx
      have := hf i (by rw [hnn.out]; exact hi)
      simpa [eI, hi] using this
theorem valsI_app_set (ys : List Int) (sp : List Value) (i : Nat) (v : Int) (h : i < ys.length) : (valsI ys ++ sp).set i (.int .i64 v) = valsI (ys.set i v) ++ sp := by
  rw [List.set_append_left _ _ (by rw [valsI_length]; exact h)]
  simp [valsI, List.map_set]
set_option maxRecDepth 100000 in
set_option maxHeartbeats 1000000 in
theorem deleteF_any {clo : Nat} {caps : Array Value} (hent : Enters Tryz.prog clo) (f : Int → Bool) (B g c : Nat) (xs : List Int) (sp : List Value) (w : World) (hB : Blk w g 3 (valsI xs ++ sp)) (hg : B ≤ g) (hn : xs.length ≤ 100000) (hc : xs.length ≤ c) (hcm : c ≤ maxLen) (h0 : 0 < xs.length)
    (Inv : World → Prop) (hI0 : Inv w) (hIn : ∀ W W', Inv W → Turned W W' g → Inv W') (hclo : ∀ W, Inv W → ∀ x ∈ xs, Calls Tryz.prog clo (#[.int .i64 x] ++ caps) W fun e w' => e = .returned (.bool (f x)) ∧ w' = W) :
    Calls Tryz.prog 79 #[.slice (some ⟨g, 0, none⟩) xs.length c, .func (.func clo) #[] caps] w fun e w' => ∃ m, e = .returned (.slice (some ⟨g, 0, none⟩) m c) ∧ InI w' (some ⟨g, 0, none⟩) m c (xs.filter (fun x => !f x)) ∧ Below B w w' ∧ Inv w' := by
  have hent' : ∀ (args : Array Value) (w : World), (callFunc clo args).run Tryz.prog w = .ok (.enter clo args) w := hent
  have hix := indexF_any hent f g c xs sp w hB hn (hclo w hI0)
  obtain ⟨n, hnn⟩ : ∃ n, Hid (n = xs.length) := ⟨_, rfl⟩
  have hn' : n ≤ 100000 := by rw [hnn.out]; exact hn
  have hc' : n ≤ c := by rw [hnn.out]; exact hc
  rw [← hnn.out] at hix ⊢
  go_enter Tryz.func79, Tryz.ntmps79
  go_wp2_with (go_at_call 102; refine hix.mono ?_; rintro e w' ⟨hw', hor⟩; have hw2 := hw'.symm; subst hw2; clear hw'; rcases hor with ⟨rfl, hall⟩ | ⟨k0, rfl, hk0, hfk0, hlow0⟩)
  · go_ret
    have e : xs.filter (fun x => !f x) = xs := List.filter_eq_self.2 (fun x hx => by rw [hall x hx]; rfl)
    rw [e]
    refine ⟨n, rfl, ⟨hnn.out.symm, hc', hcm, by omega, fun _ => ⟨g, 0, rfl, hB.lt, fun i hi => ?_⟩, fun h => by cases h⟩, Below.refl _ _, hI0⟩
    rw [Nat.zero_add]
    exact blk_cell hB (by rw [← hnn.out]; exact hi)
  · have hk0x : k0 < xs.length := by rw [← hnn.out]; exact hk0
    have ht0 : xs.take k0 = (xs.take (k0 + 1)).filter (fun x => !f x) := by
      rw [takeI_succ xs k0 hk0x, List.filter_append, List.filter_cons_of_neg (by simp [hfk0]), List.filter_nil, List.append_nil]
      refine (List.filter_eq_self.2 (fun x hx => ?_)).symm
      obtain ⟨i, hi, rfl⟩ := List.getElem_of_mem hx
      rw [List.length_take] at hi
      have := hlow0 i (by omega)
      rw [List.getElem_take]
      simp [eI, show i < xs.length by omega] at this
      simp [this]
    clear hix
    go_loopg [5, 6] (n - (k0 + 1)) (fun j i jj wr => ∃ (a b : Nat) (ys : List Int), i = .int .i64 (a : Int) ∧ jj = .int .i64 (b : Int) ∧ a < b ∧ b ≤ n ∧ j = n - b ∧ Hid (ys.length = n) ∧ Hid (ys.take a = (xs.take b).filter (fun x => !f x)) ∧ Hid (ys.drop b = xs.drop b) ∧ Blk wr g 3 (valsI ys ++ sp) ∧ Turned w wr g ∧ Inv wr)
    case atStart => exact ⟨k0, k0 + 1, xs, rfl, by go_num, by omega, by omega, rfl, hnn.out.symm, ht0, (by show _ = _; rfl), hB, Turned.refl _ _, hI0⟩
    case round =>
      clear ht0 hlow0 hfk0
      obtain ⟨a, b, ys, rfl, rfl, hab, hbn, rfl, hyl, hyt, hyd, hBw, hT, hIw⟩ := hrel
      have hyl' := hyl.out
      by_cases hlt : b < n
      · have hbx : b < xs.length := by rw [← hnn.out]; exact hlt
        have hcell := blk_cell hBw (j := b) (by omega)
        have heq : eI ys b = eI xs b := by
          have h1 := drop_eI ys b (by omega)
          have h2 := drop_eI xs b hbx
          rw [hyd.out, h2] at h1
          exact (List.cons.inj h1).1.symm
        rw [heq] at hcell
        have hcl := hclo wr hIw (eI xs b) (eI_mem hbx)
        have hst : (xs.take (b + 1)).filter (fun x => !f x) = (xs.take b).filter (fun x => !f x) ++ (if f (eI xs b) = true then [] else [eI xs b]) := by
          rw [takeI_succ xs b hbx, List.filter_append]
          congr 1
          cases hf : f (eI xs b) <;> simp [hf]
        have hd1 : xs.drop (b + 1) = (xs.drop b).drop 1 := by rw [List.drop_drop]
        have HST : Hid ((xs.take (b + 1)).filter (fun x => !f x) = (xs.take b).filter (fun x => !f x) ++ (if f (eI xs b) = true then [] else [eI xs b])) := hst
        clear hst heq
        cases hfb : f (eI xs b) with
        | true =>
          rw [hfb] at hcl
          have HFB : Hid (f (eI xs b) = true) := hfb
          clear hfb
          generalize hik : eI xs b = ib at hcl hcell
          clear hik
          go_wp2_with (refine hcl.mono ?_; rintro e w' ⟨rfl, hw'⟩; have hw2 := hw'.symm; subst hw2; clear hw')
          go_roundg (n - (b + 1))
          case measure => omega
          case rel =>
            refine ⟨a, b + 1, ys, rfl, by go_num, by omega, by omega, rfl, hyl, ?_, ?_, hBw, hT, hIw⟩
            · show _ = _
              rw [HST.out, HFB.out, if_pos rfl, List.append_nil]; exact hyt.out
            · show _ = _
              rw [hd1, ← hyd.out, List.drop_drop]
        | false =>
          rw [hfb] at hcl
          have HFB : Hid (f (eI xs b) = false) := hfb
          clear hfb
          obtain ⟨ib, hib⟩ : ∃ ib, Hid (ib = eI xs b) := ⟨_, rfl⟩
          rw [← hib.out] at hcl hcell
          have hca := blk_cell hBw (j := a) (by omega)
          have hfa := hBw.frozen a
          have hBs2 := hBw.set a (.int .i64 ib)
          rw [valsI_app_set ys sp a ib (by omega)] at hBs2
          have hT2 := hT.trans (Turned.setCell wr ⟨g, a, none⟩ (.int .i64 ib))
          have hI2 := hIn _ _ hIw (Turned.setCell wr ⟨g, a, none⟩ (.int .i64 ib))
          generalize hev : eI ys a = ya at hca
          clear hev
          go_wp2_with (refine hcl.mono ?_; rintro e w' ⟨rfl, hw'⟩; have hw2 := hw'.symm; subst hw2; clear hw')
          go_roundg (n - (b + 1))
          case measure => omega
          case rel =>
            refine ⟨a + 1, b + 1, ys.set a ib, by go_num, by go_num, by omega, by omega, rfl, (by show _ = _; rw [List.length_set]; exact hyl'), ?_, ?_, hBs2, hT2, hI2⟩
            · show _ = _
              rw [HST.out, HFB.out, if_neg (by decide), ← hyt.out, ← hib.out, List.take_set, List.take_succ_eq_append_getElem (by omega), List.set_append_right _ _ (by rw [List.length_take]; omega)]
              simp [show min a ys.length = a by omega]
            · show _ = _
              rw [List.drop_set_of_lt (by omega), hd1, ← hyd.out, List.drop_drop]
      · have hbn2 : b = n := by omega
        subst hbn2
        have hs1 := sliceI_back g b c a hab hc'
        have hs2 := sliceI_front (some ⟨g, 0, none⟩) b c a (by omega) hc'
        have hclr := Lib.run_clear_slice (P := Tryz.prog) wr 40 3 0 (.int .i64 0) Tryz.underlying40 (fun _ => by kernel_rfl) rfl rfl g a (b - a) (c - a) (by omega) (fun j hj => by rw [blk_cell hBw (by omega)]; rfl) (fun j _ => hBw.frozen _)
        have htt := turned_setCells g (List.replicate (b - a) (.int .i64 0)) a wr
        have hcells : ∀ i, i < a → (wr.setCells g a (List.replicate (b - a) (.int .i64 0))).cell? ⟨g, i, none⟩ = some (.int .i64 (eI ys i)) := fun i hi => by
          rw [World.cell?_setCells_out g _ a wr ⟨g, i, none⟩ (fun _ _ => .inl hi)]
          exact blk_cell hBw (by omega)
        have hfil : xs.filter (fun x => !f x) = ys.take a := by rw [hyt.out, List.take_of_length_le (by rw [← hnn.out]; exact Nat.le_refl _)]
        have HFI : Hid (xs.filter (fun x => !f x) = ys.take a) := hfil
        clear hfil
        generalize wr.setCells g a (List.replicate (b - a) (.int .i64 0)) = Z at *
        go_wp2_with fail
        go_ret
        rw [HFI.out]
        refine ⟨a, rfl, ⟨by rw [List.length_take]; omega, by omega, hcm, by omega, fun _ => ⟨g, 0, rfl, ?_, fun i hi => ?_⟩, fun h => by cases h⟩, htt.below (hT.below (Below.refl _ _) hg) hg, hIn _ _ hIw htt⟩
        · rw [htt.size]; exact hBw.lt
        · rw [Nat.zero_add, hcells i hi]
          simp [eI, hi, show i < ys.length by omega]
end Go.Proofs.YtdmnddikcpfmfaaGreat

namespace Go.Proofs.YtdmnddikcpfmfaaGreat
open Go.RowKit Go.Maps Go.Shelf
theorem indexF_zero {clo : Nat} {caps : Array Value} (p : Option Addr) (c : Nat) (w : World) : Calls Tryz.prog 102 #[.slice p 0 c, .func (.func clo) #[] caps] w fun e w' => e = .returned (.int .i64 (-1)) ∧ w' = w := by
  go_enter Tryz.func102, Tryz.ntmps102
  go_wp2_with fail
  go_loopg [8] 0 (fun _ v wr => wr = w ∧ v = .int .i64 0)
  case atStart => exact ⟨rfl, rfl⟩
  case round =>
    obtain ⟨rfl, rfl⟩ := hrel
    go_wp2_with fail
    go_ret
    exact ⟨rfl, rfl⟩
theorem deleteF_zero {clo : Nat} {caps : Array Value} (p : Option Addr) (c : Nat) (w : World) : Calls Tryz.prog 79 #[.slice p 0 c, .func (.func clo) #[] caps] w fun e w' => e = .returned (.slice p 0 c) ∧ w' = w := by
  go_enter Tryz.func79, Tryz.ntmps79
  go_wp2_with (go_at_call 102; refine (indexF_zero p c w).mono ?_; rintro e w' ⟨rfl, hw'⟩; have hw2 := hw'.symm; subst hw2; clear hw')
  go_ret
  exact ⟨rfl, rfl⟩
def pinnedB (l : List BP) (t : Int) : Bool := l.any (fun b => decide ((b.k : Int) = t) && decide (0 < b.pins))
theorem pinnedB_at {s : CS} (hkd : (s.L.map (·.b.k)).Nodup) {x : BufS} (hx : x ∈ s.L) : pinnedB s.P (x.b.k : Int) = decide (0 < x.b.pins) := by
  unfold pinnedB
  by_cases h : 0 < x.b.pins
  · rw [decide_eq_true h, List.any_eq_true]
    exact ⟨x.b, List.mem_map.2 ⟨x, hx, rfl⟩, by simp [h]⟩
  · rw [decide_eq_false h, List.any_eq_false]
    intro b hb hh
    obtain ⟨y, hy, rfl⟩ := List.mem_map.1 hb
    simp at hh
    rw [nodup_map_inj hkd hy hx (Int.ofNat.inj hh.1)] at hh
    exact h hh.2
theorem sync1_any {W : World} {s : CS} (h : CIn W s) (bx : Nat) (hx : W.cell? ⟨bx, 0, none⟩ = some (.pointer (some ⟨s.c, 0, none⟩))) {x : BufS} (hxL : x ∈ s.L) : Calls Tryz.prog 81 #[.int .i64 (x.b.k : Int), .pointer (some ⟨bx, 0, none⟩)] W fun e w' => e = .returned (.bool (pinnedB s.P (x.b.k : Int))) ∧ w' = W := by
  have hy1 := h.mapy hxL
  have hc2 := h.c2
  have d3 := (h.mem x (List.mem_cons_of_mem _ hxL)).cell' (i := 3) (v := .int .i64 (x.b.pins : Int)) rfl
  rw [pinnedB_at h.fit.kd hxL]
  go_enter Tryz.func81, Tryz.ntmps81
  go_wp2
  go_ret
  exact ⟨ret_bool (by simp), rfl⟩
/-- Sync: the error, the buffers, the disk. -/
def syncKs (l : List BP) (ds : DS) (cl : Nat) : List Int := (dirtyKs ds.secs.length l cl).filter (fun t => !pinnedB l t)
def syncR (l : List BP) (ds : DS) (cl : Int) : Int × List BP × DS :=
  if ¬ (cl = 1 ∨ cl = 2) then (1, l, ds) else
  if (cleanL l ds (syncKs l ds cl.toNat)).1 = 0 then (powE (cleanL l ds (syncKs l ds cl.toNat)).2.2.on, (cleanL l ds (syncKs l ds cl.toNat)).2.1, (cleanL l ds (syncKs l ds cl.toNat)).2.2) else cleanL l ds (syncKs l ds cl.toNat)
theorem csync_bad {w : World} {s : CS} (h : CIn w s) (cl : Int) (hc : ¬ (cl = 1 ∨ cl = 2)) : Calls Tryz.prog 35 #[.pointer (some ⟨s.c, 0, none⟩), .int .i64 cl] w fun e w' => e = .returned (.int .i64 1) ∧ Below w.heap.size w w' := by
  obtain ⟨W, HW⟩ : ∃ W, Hid (w.alloc (.cells #[.pointer (some ⟨s.c, 0, none⟩)] 31) = W) := ⟨_, rfl⟩
  have hbW : Below w.heap.size w W := HW.out ▸ below_alloc w _
  have hW := h.kept hbW
  have hm := cmade_yes hW.c0
  have hic := cisClass_any cl W
  rw [show (decide (cl = 1) || decide (cl = 2)) = false from by simpa [not_or] using hc] at hic
  go_enter Tryz.func35, Tryz.ntmps35
  go_wp2_with (first
    | (go_at_call 67; rw [HW.out]; refine hm.mono ?_; rintro e w' ⟨rfl, hw'⟩; have hw2 := hw'.symm; subst hw2; clear hw')
    | (go_at_call 58; refine hic.mono ?_; rintro e w' ⟨rfl, hw'⟩; have hw2 := hw'.symm; subst hw2; clear hw'))
  go_ret
  exact ⟨rfl, hbW⟩
set_option maxRecDepth 100000 in
set_option maxHeartbeats 1000000 in
theorem csync_any (hS : SortsI) {w : World} {s : CS} (h : CIn w s) (cl : Nat) (hc : cl = 1 ∨ cl = 2) (hsum : s.ds.writes + dirtyN s.P ≤ 1024) : Calls Tryz.prog 35 #[.pointer (some ⟨s.c, 0, none⟩), .int .i64 (cl : Int)] w fun e w' =>
    e = .returned (.int .i64 (syncR s.P s.ds (cl : Int)).1) ∧ ∃ s', CAfter w w' s s' ∧ s'.P = (syncR s.P s.ds (cl : Int)).2.1 ∧ s'.ds = (syncR s.P s.ds (cl : Int)).2.2 := by
  have hmf : ∀ (fn : Fn) (first cap : Array Value) (w : World), (Instr.makeFunc fn first cap).run Tryz.prog w = .ok (.func fn first cap) w := fun _ _ _ _ => rfl
  obtain ⟨W, HW⟩ : ∃ W, Hid (w.alloc (.cells #[.pointer (some ⟨s.c, 0, none⟩)] 31) = W) := ⟨_, rfl⟩
  have hbW : Below w.heap.size w W := HW.out ▸ below_alloc w _
  have hx : Blk W w.heap.size 31 [.pointer (some ⟨s.c, 0, none⟩)] := HW.out ▸ Blk.new w 31 [.pointer (some ⟨s.c, 0, none⟩)]
  have hW := h.kept hbW
  have hm := cmade_yes hW.c0
  have hic := cisClass_any (cl : Int) W
  rw [show (decide ((cl : Int) = 1) || decide ((cl : Int) = 2)) = true from by rcases hc with rfl | rfl <;> rfl] at hic
  have hdi := cdirty_any hS hW cl hc
  have hR : syncR s.P s.ds (cl : Int) = if (cleanL s.P s.ds (syncKs s.P s.ds cl)).1 = 0 then (powE (cleanL s.P s.ds (syncKs s.P s.ds cl)).2.2.on, (cleanL s.P s.ds (syncKs s.P s.ds cl)).2.1, (cleanL s.P s.ds (syncKs s.P s.ds cl)).2.2) else cleanL s.P s.ds (syncKs s.P s.ds cl) := by
    unfold syncR
    rw [if_neg (by rcases hc with rfl | rfl <;> decide)]
    rfl
  rw [hR]
  clear hR hc
  have hKn := dirtyKs_len s.ds.secs.length s.P cl
  have hn2 := h.base.disk.n2
  have hKm : ∀ t ∈ dirtyKs s.ds.secs.length s.P cl, ∃ x ∈ s.L, (x.b.k : Int) = t := fun t ht => by
    obtain ⟨b, hb, _, _, e⟩ := dirtyKs_mem.1 ht
    obtain ⟨x, hx, rfl⟩ := List.mem_map.1 hb
    exact ⟨x, hx, e⟩
  have hKs : syncKs s.P s.ds cl = (dirtyKs s.ds.secs.length s.P cl).filter (fun t => !pinnedB s.P t) := rfl
  generalize syncKs s.P s.ds cl = fs at *
  generalize dirtyKs s.ds.secs.length s.P cl = ks at *
  have hcln := fun (W' : World) (hW' : CIn W' s) (p : Option Addr) (n c : Nat) (hI : IntsBy W' s p n c fs) => cClean_any hW' p n c fs hI hsum
  generalize cleanL s.P s.ds fs = RR at *
  obtain ⟨E, l1, d1⟩ := RR
  dsimp only at hcln ⊢
  have HKS : Hid (fs = ks.filter (fun t => !pinnedB s.P t)) := hKs
  clear hKs
  have hents : Enters Tryz.prog 81 := ents Tryz.func81 (by kernel_rfl) rfl
  -- the blocks that may go home
  have hdel : ∀ (w1 : World) (v : Value), w1.ownsRow W.heap.size 3 1 v ks.length (valsI ks) → Below W.heap.size W w1 → Calls Tryz.prog 79 #[v, .func (.func 81) #[] #[.pointer (some ⟨w.heap.size, 0, none⟩)]] w1 fun e w' => ∃ p n c, e = .returned (.slice p n c) ∧ IntsBy w' s p n c fs ∧ Below W.heap.size W w' := by
    intro w1 v hrow hb1
    rcases Nat.eq_zero_or_pos ks.length with h0 | h0
    · have hks : ks = [] := List.eq_nil_of_length_eq_zero h0
      subst hks
      obtain ⟨p, c, rfl⟩ := owns_slice hrow
      obtain ⟨p', c', e', hin⟩ := in_of_ownsI (xs := []) hrow (by simp)
      cases e'
      refine (deleteF_zero p c w1).mono ?_
      rintro e w' ⟨rfl, rfl⟩
      refine ⟨p, 0, c, rfl, ⟨?_, fun a _ h0 => by omega⟩, hb1⟩
      rw [HKS.out]
      exact hin
    · obtain ⟨g, cap, cur, rfl, hg, hh, hcp, hcm, _, ht⟩ : ∃ g cap cur, v = .slice (some ⟨g, 0, none⟩) ks.length cap ∧ W.heap.size ≤ g ∧ w1.heap[g]? = some (.cells cur 3 (0, 0)) ∧ ks.length ≤ cap ∧ cap ≤ maxLen ∧ True ∧ (cur.toList.take (ks.length * 1)) = valsI ks := by
        rcases hrow.2 with ⟨_, hn⟩ | ⟨g, cap, cur, rfl, hg, hh, hc, hm, _, ht⟩
        · omega
        · exact ⟨g, cap, cur, rfl, hg, hh, hc, hm, trivial, ht⟩
      have hBlk : Blk w1 g 3 (valsI ks ++ cur.toList.drop (ks.length * 1)) := by rw [Blk, hh, ← ht, List.take_append_drop]
      have hclo : ∀ A, (CIn A s ∧ Blk A w.heap.size 31 [.pointer (some ⟨s.c, 0, none⟩)]) → ∀ t ∈ ks, Calls Tryz.prog 81 (#[.int .i64 t] ++ #[.pointer (some ⟨w.heap.size, 0, none⟩)]) A fun e w' => e = .returned (.bool (pinnedB s.P t)) ∧ w' = A := by
        intro A hA t ht
        obtain ⟨x, hxL, rfl⟩ := hKm t ht
        rw [show (#[Value.int .i64 (x.b.k : Int)] ++ #[Value.pointer (some ⟨w.heap.size, 0, none⟩)] : Array Value) = #[.int .i64 (x.b.k : Int), .pointer (some ⟨w.heap.size, 0, none⟩)] from rfl]
        exact sync1_any hA.1 _ (hA.2.cell' rfl) hxL
      have hd := deleteF_any (caps := #[.pointer (some ⟨w.heap.size, 0, none⟩)]) hents (fun t => pinnedB s.P t) W.heap.size g cap ks _ w1 hBlk hg (by omega) hcp hcm h0 (fun W' => CIn W' s ∧ Blk W' w.heap.size 31 [.pointer (some ⟨s.c, 0, none⟩)]) ⟨hW.kept hb1, hx.kept hb1⟩
        (fun A B hA hT => ⟨hA.1.same (fun k hk => hT.block k (by have := hW.ltAll hk; omega)), hA.2.same (hT.block _ (by have := hx.lt; omega))⟩)
        hclo
      refine hd.mono ?_
      rintro e w' ⟨m, rfl, hin, hbl, hI⟩
      refine ⟨_, m, cap, rfl, ⟨by rw [HKS.out]; exact hin, fun a ha _ hf => ?_⟩, hb1.trans hbl⟩
      cases ha
      have := hW.lt hf
      simp at this
      omega
  have hx0 := hx.cell' (i := 0) (v := .pointer (some ⟨s.c, 0, none⟩)) rfl
  by_cases hE : E = 0
  · subst hE
    rw [if_pos rfl]
    go_enter Tryz.func35, Tryz.ntmps35
    go_wp2_with (first
      | (go_at_call 67; rw [HW.out]; refine hm.mono ?_; rintro e w' ⟨rfl, hw'⟩; have hw2 := hw'.symm; subst hw2; clear hw')
      | (go_at_call 58; refine hic.mono ?_; rintro e w' ⟨rfl, hw'⟩; have hw2 := hw'.symm; subst hw2; clear hw'))
    refine hdi.mono ?_
    rintro e w1 ⟨v1, rfl, hrow1, hb1⟩
    have hx1 := (hx.kept hb1).cell' (i := 0) (v := .pointer (some ⟨s.c, 0, none⟩)) rfl
    have hdl := hdel _ _ hrow1 hb1
    clear hdel hdi hm hic hKm
    go_wp2_with fail
    refine hdl.mono ?_
    rintro e w2 ⟨p2, n2, c2, rfl, hI2, hb2⟩
    have hx2 := (hx.kept hb2).cell' (i := 0) (v := .pointer (some ⟨s.c, 0, none⟩)) rfl
    have h2 := hW.kept hb2
    have hcl := hcln _ h2 _ _ _ hI2
    clear hcln hdl
    go_wp2_with fail
    refine hcl.mono ?_
    rintro e w3 ⟨rfl, s3, A3, hP3, hD3⟩
    have hx3 := (A3.blk h2 (hx.kept hb2) (by decide) (by decide) (by decide) (by decide)).cell' (i := 0) (v := .pointer (some ⟨s.c, 0, none⟩)) rfl
    have hfl := cFlush_any A3.cin
    rw [A3.c, hD3] at hfl
    go_wp2_with fail
    refine hfl.mono ?_
    rintro e w4 ⟨rfl, hb4⟩
    go_wp2_with fail
    go_ret
    exact ⟨rfl, s3, (CAfter.drop (bt hbW hb2) A3).kept hb4, hP3, hD3⟩
  · rw [if_neg hE]
    go_enter Tryz.func35, Tryz.ntmps35
    go_wp2_with (first
      | (go_at_call 67; rw [HW.out]; refine hm.mono ?_; rintro e w' ⟨rfl, hw'⟩; have hw2 := hw'.symm; subst hw2; clear hw')
      | (go_at_call 58; refine hic.mono ?_; rintro e w' ⟨rfl, hw'⟩; have hw2 := hw'.symm; subst hw2; clear hw'))
    refine hdi.mono ?_
    rintro e w1 ⟨v1, rfl, hrow1, hb1⟩
    have hx1 := (hx.kept hb1).cell' (i := 0) (v := .pointer (some ⟨s.c, 0, none⟩)) rfl
    have hdl := hdel _ _ hrow1 hb1
    clear hdel hdi hm hic hKm
    go_wp2_with fail
    refine hdl.mono ?_
    rintro e w2 ⟨p2, n2, c2, rfl, hI2, hb2⟩
    have hx2 := (hx.kept hb2).cell' (i := 0) (v := .pointer (some ⟨s.c, 0, none⟩)) rfl
    have h2 := hW.kept hb2
    have hcl := hcln _ h2 _ _ _ hI2
    clear hcln hdl
    go_wp2_with fail
    refine hcl.mono ?_
    rintro e w3 ⟨rfl, s3, A3, hP3, hD3⟩
    go_wp2_with fail
    go_ret
    exact ⟨rfl, s3, CAfter.drop (bt hbW hb2) A3, hP3, hD3⟩
end Go.Proofs.YtdmnddikcpfmfaaGreat

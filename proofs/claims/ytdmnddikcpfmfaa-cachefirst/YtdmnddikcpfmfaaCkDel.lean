/-
  slices.IndexFunc and slices.DeleteFunc of ints.
-/
import Derived.Test.YtdmnddikcpfmfaaCkDirty2
import Derived.Lib.SliceRun
namespace Go.Proofs.Ytdmnddikcpfmfaa
open Go.RowKit Go.Maps Go.Shelf
theorem Turned.trans {a b c : World} {g : Nat} (h : Turned a b g) (k : Turned b c g) : Turned a c g := ⟨k.os.trans h.os, k.tape.trans h.tape, k.output.trans h.output, k.size.trans h.size, fun j hj => (k.block j hj).trans (h.block j hj)⟩
theorem Turned.refl (w : World) (g : Nat) : Turned w w g := ⟨rfl, rfl, rfl, rfl, fun _ _ => rfl⟩
theorem turned_setCells (g : Nat) : ∀ (vs : List Value) (o : Nat) (w : World), Turned w (w.setCells g o vs) g
  | [], _, w => Turned.refl w g
  | v :: r, o, w => (Turned.setCell w ⟨g, o, none⟩ v).trans (turned_setCells g r (o + 1) _)
theorem sliceI_back (b n c k : Nat) (h : k < n) (hc : n ≤ c) (W : World) :
    (Instr.slice 32 (.slice (some ⟨b, 0, none⟩) n c) (some (.int .i64 (k : Int))) none none).run Try.prog W = .ok (.slice (some ⟨b, k, none⟩) (n - k) (c - k)) W := by
  have h1 : ¬ c = k := by omega
  simp [Instr.slice, Instr.sliceBounds, Instr.sliceBound, run_underlying Try.underlying32, asIntOf, h1, addr_add]
  intro h3; omega
theorem sliceI_front (p : Option Addr) (n c k : Nat) (h : k ≤ n) (hc : n ≤ c) (W : World) :
    (Instr.slice 32 (.slice p n c) none (some (.int .i64 (k : Int))) none).run Try.prog W = .ok (.slice p k c) W := by
  simp [Instr.slice, Instr.sliceBounds, Instr.sliceBound, run_underlying Try.underlying32, asIntOf]
  rw [if_pos (by omega)]
  have : (Option.map (fun x : Addr => x.add 0) p) = p := by
    cases p with
    | none => rfl
    | some a => obtain ⟨b, o, s⟩ := a; simp [Addr.add]
  simp_all
/-- A row of ints that is known whole. -/
theorem blk_cell {W : World} {g : Nat} {ys : List Int} {sp : List Value} (h : Blk W g 3 (valsI ys ++ sp)) {j : Nat} (hj : j < ys.length) : W.cell? ⟨g, j, none⟩ = some (.int .i64 (eI ys j)) := h.cell' (by rw [List.getElem?_append_left (by rw [valsI_length]; exact hj), valsI_get ys j hj])
set_option maxRecDepth 100000 in
theorem indexF_any {clo : Nat} {caps : Array Value} (hent : Enters Try.prog clo) (f : Int → Bool) (g c : Nat) (xs : List Int) (sp : List Value) (w : World) (hB : Blk w g 3 (valsI xs ++ sp)) (hn : xs.length ≤ 100000)
    (hclo : ∀ x ∈ xs, Calls Try.prog clo (#[.int .i64 x] ++ caps) w fun e w' => e = .returned (.bool (f x)) ∧ w' = w) :
    Calls Try.prog 64 #[.slice (some ⟨g, 0, none⟩) xs.length c, .func (.func clo) #[] caps] w fun e w' => w' = w ∧ ((e = .returned (.int .i64 (-1)) ∧ ∀ x ∈ xs, f x = false) ∨ ∃ k : Nat, e = .returned (.int .i64 (k : Int)) ∧ k < xs.length ∧ f (eI xs k) = true ∧ ∀ i, i < k → f (eI xs i) = false) := by
  have hent' : ∀ (args : Array Value) (w : World), (callFunc clo args).run Try.prog w = .ok (.enter clo args) w := hent
  obtain ⟨n, hnn⟩ : ∃ n, Hid (n = xs.length) := ⟨_, rfl⟩
  rw [← hnn.out]
  have hn' : n ≤ 100000 := by rw [hnn.out]; exact hn
  go_enter Try.func64, Try.ntmps64
  go_wp2_with fail
  go_loopg [8] n (fun j v wr => wr = w ∧ ∃ k : Nat, v = .int .i64 (k : Int) ∧ k ≤ n ∧ j = n - k ∧ ∀ i, i < k → f (eI xs i) = false)
  case atStart => exact ⟨rfl, 0, rfl, by omega, rfl, fun i hi => by omega⟩
  case round =>
    obtain ⟨rfl, k, rfl, hk, rfl, hf⟩ := hrel
    by_cases hkn : k < n
    · have hkx : k < xs.length := by rw [← hnn.out]; exact hkn
      have hcell := blk_cell hB hkx
      have hcl := hclo (eI xs k) (eI_mem hkx)
      cases hfk : f (eI xs k) with
      | false =>
        rw [hfk] at hcl
        have HFK : Hid (f (eI xs k) = false) := hfk
        clear hfk
        generalize hik : eI xs k = ik at hcl hcell
        clear hik
        go_wp2_with (refine hcl.mono ?_; rintro e w' ⟨rfl, hw'⟩; have hw2 := hw'.symm; subst hw2; clear hw')
        go_roundg (n - (k + 1))
        case measure => omega
        case rel => exact ⟨rfl, k + 1, by go_num, by omega, rfl, fun i hi => by
          rcases Nat.lt_succ_iff_lt_or_eq.1 hi with h' | h'
          · exact hf i h'
          · rw [h']; exact HFK.out⟩
      | true =>
        rw [hfk] at hcl
        have HFK : Hid (f (eI xs k) = true) := hfk
        clear hfk
        generalize hik : eI xs k = ik at hcl hcell
        clear hik
        go_wp2_with (refine hcl.mono ?_; rintro e w' ⟨rfl, hw'⟩; have hw2 := hw'.symm; subst hw2; clear hw')
        go_ret
        exact ⟨rfl, .inr ⟨k, rfl, hkn, HFK.out, hf⟩⟩
    · have hkn2 : k = n := by omega
      subst hkn2
      go_wp2_with fail
      go_ret
      refine ⟨rfl, .inl ⟨rfl, fun x hx => ?_⟩⟩
      obtain ⟨i, hi, rfl⟩ := List.getElem_of_mem hx
      have := hf i (by rw [hnn.out]; exact hi)
      simpa [eI, hi] using this
theorem valsI_app_set (ys : List Int) (sp : List Value) (i : Nat) (v : Int) (h : i < ys.length) : (valsI ys ++ sp).set i (.int .i64 v) = valsI (ys.set i v) ++ sp := by
  rw [List.set_append_left _ _ (by rw [valsI_length]; exact h)]
  simp [valsI, List.map_set]
set_option maxRecDepth 100000 in
set_option maxHeartbeats 1000000 in
theorem deleteF_any {clo : Nat} {caps : Array Value} (hent : Enters Try.prog clo) (f : Int → Bool) (B g c : Nat) (xs : List Int) (sp : List Value) (w : World) (hB : Blk w g 3 (valsI xs ++ sp)) (hg : B ≤ g) (hn : xs.length ≤ 100000) (hc : xs.length ≤ c) (hcm : c ≤ maxLen) (h0 : 0 < xs.length)
    (Inv : World → Prop) (hI0 : Inv w) (hIn : ∀ W W', Inv W → Turned W W' g → Inv W') (hclo : ∀ W, Inv W → ∀ x ∈ xs, Calls Try.prog clo (#[.int .i64 x] ++ caps) W fun e w' => e = .returned (.bool (f x)) ∧ w' = W) :
    Calls Try.prog 41 #[.slice (some ⟨g, 0, none⟩) xs.length c, .func (.func clo) #[] caps] w fun e w' => ∃ m, e = .returned (.slice (some ⟨g, 0, none⟩) m c) ∧ InI w' (some ⟨g, 0, none⟩) m c (xs.filter (fun x => !f x)) ∧ Below B w w' ∧ Inv w' := by
  have hent' : ∀ (args : Array Value) (w : World), (callFunc clo args).run Try.prog w = .ok (.enter clo args) w := hent
  have hix := indexF_any hent f g c xs sp w hB hn (hclo w hI0)
  obtain ⟨n, hnn⟩ : ∃ n, Hid (n = xs.length) := ⟨_, rfl⟩
  have hn' : n ≤ 100000 := by rw [hnn.out]; exact hn
  have hc' : n ≤ c := by rw [hnn.out]; exact hc
  rw [← hnn.out] at hix ⊢
  go_enter Try.func41, Try.ntmps41
  go_wp2_with (go_at_call 64; refine hix.mono ?_; rintro e w' ⟨hw', hor⟩; have hw2 := hw'.symm; subst hw2; clear hw'; rcases hor with ⟨rfl, hall⟩ | ⟨k0, rfl, hk0, hfk0, hlow0⟩)
  · go_ret
    have e : xs.filter (fun x => !f x) = xs := List.filter_eq_self.2 (fun x hx => by rw [hall x hx]; rfl)
    rw [e]
    refine ⟨n, rfl, ⟨hnn.out.symm, hc', hcm, by omega, fun _ => ⟨g, 0, rfl, hB.lt, fun i hi => ?_⟩, fun h => by cases h⟩, Below.refl _ _, hI0⟩
    rw [Nat.zero_add]
    exact blk_cell hB (by rw [← hnn.out]; exact hi)
  · have hk0x : k0 < xs.length := by rw [← hnn.out]; exact hk0
    have ht0 : xs.take k0 = (xs.take (k0 + 1)).filter (fun x => !f x) := by
      rw [takeI_succ xs k0 hk0x, List.filter_append, List.filter_cons_of_neg (by simp [hfk0]), List.filter_nil, List.append_nil]
      refine (List.filter_eq_self.2 (fun x hx => ?_)).symm
      obtain ⟨i, hi, rfl⟩ := List.getElem_of_mem hx
      rw [List.length_take] at hi
      have := hlow0 i (by omega)
      rw [List.getElem_take]
      simp [eI, show i < xs.length by omega] at this
      simp [this]
    clear hix
    go_loopg [5, 6] (n - (k0 + 1)) (fun j i jj wr => ∃ (a b : Nat) (ys : List Int), i = .int .i64 (a : Int) ∧ jj = .int .i64 (b : Int) ∧ a < b ∧ b ≤ n ∧ j = n - b ∧ Hid (ys.length = n) ∧ Hid (ys.take a = (xs.take b).filter (fun x => !f x)) ∧ Hid (ys.drop b = xs.drop b) ∧ Blk wr g 3 (valsI ys ++ sp) ∧ Turned w wr g ∧ Inv wr)
    case atStart => exact ⟨k0, k0 + 1, xs, rfl, by go_num, by omega, by omega, rfl, hnn.out.symm, ht0, (by show _ = _; rfl), hB, Turned.refl _ _, hI0⟩
    case round =>
      clear ht0 hlow0 hfk0
      obtain ⟨a, b, ys, rfl, rfl, hab, hbn, rfl, hyl, hyt, hyd, hBw, hT, hIw⟩ := hrel
      have hyl' := hyl.out
      by_cases hlt : b < n
      · have hbx : b < xs.length := by rw [← hnn.out]; exact hlt
        have hcell := blk_cell hBw (j := b) (by omega)
        have heq : eI ys b = eI xs b := by
          have h1 := drop_eI ys b (by omega)
          have h2 := drop_eI xs b hbx
          rw [hyd.out, h2] at h1
          exact (List.cons.inj h1).1.symm
        rw [heq] at hcell
        have hcl := hclo wr hIw (eI xs b) (eI_mem hbx)
        have hst : (xs.take (b + 1)).filter (fun x => !f x) = (xs.take b).filter (fun x => !f x) ++ (if f (eI xs b) = true then [] else [eI xs b]) := by
          rw [takeI_succ xs b hbx, List.filter_append]
          congr 1
          cases hf : f (eI xs b) <;> simp [hf]
        have hd1 : xs.drop (b + 1) = (xs.drop b).drop 1 := by rw [List.drop_drop]
        have HST : Hid ((xs.take (b + 1)).filter (fun x => !f x) = (xs.take b).filter (fun x => !f x) ++ (if f (eI xs b) = true then [] else [eI xs b])) := hst
        clear hst heq
        cases hfb : f (eI xs b) with
        | true =>
          rw [hfb] at hcl
          have HFB : Hid (f (eI xs b) = true) := hfb
          clear hfb
          generalize hik : eI xs b = ib at hcl hcell
          clear hik
          go_wp2_with (refine hcl.mono ?_; rintro e w' ⟨rfl, hw'⟩; have hw2 := hw'.symm; subst hw2; clear hw')
          go_roundg (n - (b + 1))
          case measure => omega
          case rel =>
            refine ⟨a, b + 1, ys, rfl, by go_num, by omega, by omega, rfl, hyl, ?_, ?_, hBw, hT, hIw⟩
            · show _ = _
              rw [HST.out, HFB.out, if_pos rfl, List.append_nil]; exact hyt.out
            · show _ = _
              rw [hd1, ← hyd.out, List.drop_drop]
        | false =>
          rw [hfb] at hcl
          have HFB : Hid (f (eI xs b) = false) := hfb
          clear hfb
          obtain ⟨ib, hib⟩ : ∃ ib, Hid (ib = eI xs b) := ⟨_, rfl⟩
          rw [← hib.out] at hcl hcell
          have hca := blk_cell hBw (j := a) (by omega)
          have hfa := hBw.frozen a
          have hBs2 := hBw.set a (.int .i64 ib)
          rw [valsI_app_set ys sp a ib (by omega)] at hBs2
          have hT2 := hT.trans (Turned.setCell wr ⟨g, a, none⟩ (.int .i64 ib))
          have hI2 := hIn _ _ hIw (Turned.setCell wr ⟨g, a, none⟩ (.int .i64 ib))
          generalize hev : eI ys a = ya at hca
          clear hev
          go_wp2_with (refine hcl.mono ?_; rintro e w' ⟨rfl, hw'⟩; have hw2 := hw'.symm; subst hw2; clear hw')
          go_roundg (n - (b + 1))
          case measure => omega
          case rel =>
            refine ⟨a + 1, b + 1, ys.set a ib, by go_num, by go_num, by omega, by omega, rfl, (by show _ = _; rw [List.length_set]; exact hyl'), ?_, ?_, hBs2, hT2, hI2⟩
            · show _ = _
              rw [HST.out, HFB.out, if_neg (by decide), ← hyt.out, ← hib.out, List.take_set, List.take_succ_eq_append_getElem (by omega), List.set_append_right _ _ (by rw [List.length_take]; omega)]
              simp [show min a ys.length = a by omega]
            · show _ = _
              rw [List.drop_set_of_lt (by omega), hd1, ← hyd.out, List.drop_drop]
      · have hbn2 : b = n := by omega
        subst hbn2
        have hs1 := sliceI_back g b c a hab hc'
        have hs2 := sliceI_front (some ⟨g, 0, none⟩) b c a (by omega) hc'
        have hclr := Lib.run_clear_slice (P := Try.prog) wr 32 3 0 (.int .i64 0) Try.underlying32 (fun _ => by kernel_rfl) rfl rfl g a (b - a) (c - a) (by omega) (fun j hj => by rw [blk_cell hBw (by omega)]; rfl) (fun j _ => hBw.frozen _)
        have htt := turned_setCells g (List.replicate (b - a) (.int .i64 0)) a wr
        have hcells : ∀ i, i < a → (wr.setCells g a (List.replicate (b - a) (.int .i64 0))).cell? ⟨g, i, none⟩ = some (.int .i64 (eI ys i)) := fun i hi => by
          rw [World.cell?_setCells_out g _ a wr ⟨g, i, none⟩ (fun _ _ => .inl hi)]
          exact blk_cell hBw (by omega)
        have hfil : xs.filter (fun x => !f x) = ys.take a := by rw [hyt.out, List.take_of_length_le (by rw [← hnn.out]; exact Nat.le_refl _)]
        have HFI : Hid (xs.filter (fun x => !f x) = ys.take a) := hfil
        clear hfil
        generalize wr.setCells g a (List.replicate (b - a) (.int .i64 0)) = Z at *
        go_wp2_with fail
        go_ret
        rw [HFI.out]
        refine ⟨a, rfl, ⟨by rw [List.length_take]; omega, by omega, hcm, by omega, fun _ => ⟨g, 0, rfl, ?_, fun i hi => ?_⟩, fun h => by cases h⟩, htt.below (hT.below (Below.refl _ _) hg) hg, hIn _ _ hIw htt⟩
        · rw [htt.size]; exact hBw.lt
        · rw [Nat.zero_add, hcells i hi]
          simp [eI, hi, show i < ys.length by omega]
end Go.Proofs.Ytdmnddikcpfmfaa

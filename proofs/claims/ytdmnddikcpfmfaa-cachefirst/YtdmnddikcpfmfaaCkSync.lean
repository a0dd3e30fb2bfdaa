/-
  What Sync does.
-/
import Derived.Test.YtdmnddikcpfmfaaCkDel
namespace Go.Proofs.Ytdmnddikcpfmfaa
open Go.RowKit Go.Maps Go.Shelf
theorem indexF_zero {clo : Nat} {caps : Array Value} (p : Option Addr) (c : Nat) (w : World) : Calls Try.prog 64 #[.slice p 0 c, .func (.func clo) #[] caps] w fun e w' => e = .returned (.int .i64 (-1)) ∧ w' = w := by
  go_enter Try.func64, Try.ntmps64
  go_wp2_with fail
  go_loopg [8] 0 (fun _ v wr => wr = w ∧ v = .int .i64 0)
  case atStart => exact ⟨rfl, rfl⟩
  case round =>
    obtain ⟨rfl, rfl⟩ := hrel
    go_wp2_with fail
    go_ret
    exact ⟨rfl, rfl⟩
theorem deleteF_zero {clo : Nat} {caps : Array Value} (p : Option Addr) (c : Nat) (w : World) : Calls Try.prog 41 #[.slice p 0 c, .func (.func clo) #[] caps] w fun e w' => e = .returned (.slice p 0 c) ∧ w' = w := by
  go_enter Try.func41, Try.ntmps41
  go_wp2_with (go_at_call 64; refine (indexF_zero p c w).mono ?_; rintro e w' ⟨rfl, hw'⟩; have hw2 := hw'.symm; subst hw2; clear hw')
  go_ret
  exact ⟨rfl, rfl⟩
def pinnedB (l : List BP) (t : Int) : Bool := l.any (fun b => decide ((b.k : Int) = t) && decide (0 < b.pins))
theorem pinnedB_at {s : CS} (hkd : (s.L.map (·.b.k)).Nodup) {x : BufS} (hx : x ∈ s.L) : pinnedB s.P (x.b.k : Int) = decide (0 < x.b.pins) := by
  unfold pinnedB
  by_cases h : 0 < x.b.pins
  · rw [decide_eq_true h, List.any_eq_true]
    exact ⟨x.b, List.mem_map.2 ⟨x, hx, rfl⟩, by simp [h]⟩
  · rw [decide_eq_false h, List.any_eq_false]
    intro b hb hh
    obtain ⟨y, hy, rfl⟩ := List.mem_map.1 hb
    simp at hh
    rw [nodup_map_inj hkd hy hx (Int.ofNat.inj hh.1)] at hh
    exact h hh.2
theorem sync1_any {W : World} {s : CS} (h : CIn W s) (bx : Nat) (hx : W.cell? ⟨bx, 0, none⟩ = some (.pointer (some ⟨s.c, 0, none⟩))) {x : BufS} (hxL : x ∈ s.L) : Calls Try.prog 43 #[.int .i64 (x.b.k : Int), .pointer (some ⟨bx, 0, none⟩)] W fun e w' => e = .returned (.bool (pinnedB s.P (x.b.k : Int))) ∧ w' = W := by
  have hy1 := h.mapy hxL
  have hc2 := h.c2
  have d3 := (h.mem x (List.mem_cons_of_mem _ hxL)).cell' (i := 3) (v := .int .i64 (x.b.pins : Int)) rfl
  rw [pinnedB_at h.fit.kd hxL]
  go_enter Try.func43, Try.ntmps43
  go_wp2
  go_ret
  exact ⟨ret_bool (by simp), rfl⟩
/-- Sync: the error, the buffers, the disk. -/
def syncKs (l : List BP) (ds : DS) (cl : Nat) : List Int := (dirtyKs ds.secs.length l cl).filter (fun t => !pinnedB l t)
def syncR (l : List BP) (ds : DS) (cl : Int) : Int × List BP × DS :=
  if ¬ (cl = 1 ∨ cl = 2) then (1, l, ds) else
  if (cleanL l ds (syncKs l ds cl.toNat)).1 = 0 then (powE (cleanL l ds (syncKs l ds cl.toNat)).2.2.on, (cleanL l ds (syncKs l ds cl.toNat)).2.1, (cleanL l ds (syncKs l ds cl.toNat)).2.2) else cleanL l ds (syncKs l ds cl.toNat)
theorem csync_bad {w : World} {s : CS} (h : CIn w s) (cl : Int) (hc : ¬ (cl = 1 ∨ cl = 2)) : Calls Try.prog 16 #[.pointer (some ⟨s.c, 0, none⟩), .int .i64 cl] w fun e w' => e = .returned (.int .i64 1) ∧ Below w.heap.size w w' := by
  obtain ⟨W, HW⟩ : ∃ W, Hid (w.alloc (.cells #[.pointer (some ⟨s.c, 0, none⟩)] 27) = W) := ⟨_, rfl⟩
  have hbW : Below w.heap.size w W := HW.out ▸ below_alloc w _
  have hW := h.kept hbW
  have hm := cmade_yes hW.c0
  have hic := cisClass_any cl W
  rw [show (decide (cl = 1) || decide (cl = 2)) = false from by simpa [not_or] using hc] at hic
  go_enter Try.func16, Try.ntmps16
  go_wp2_with (first
    | (go_at_call 39; rw [HW.out]; refine hm.mono ?_; rintro e w' ⟨rfl, hw'⟩; have hw2 := hw'.symm; subst hw2; clear hw')
    | (go_at_call 34; refine hic.mono ?_; rintro e w' ⟨rfl, hw'⟩; have hw2 := hw'.symm; subst hw2; clear hw'))
  go_ret
  exact ⟨rfl, hbW⟩
set_option maxRecDepth 100000 in
set_option maxHeartbeats 1000000 in
theorem csync_any (hS : SortsI) {w : World} {s : CS} (h : CIn w s) (cl : Nat) (hc : cl = 1 ∨ cl = 2) (hsum : s.ds.writes + dirtyN s.P ≤ 1024) : Calls Try.prog 16 #[.pointer (some ⟨s.c, 0, none⟩), .int .i64 (cl : Int)] w fun e w' =>
    e = .returned (.int .i64 (syncR s.P s.ds (cl : Int)).1) ∧ ∃ s', CAfter w w' s s' ∧ s'.P = (syncR s.P s.ds (cl : Int)).2.1 ∧ s'.ds = (syncR s.P s.ds (cl : Int)).2.2 := by
  have hmf : ∀ (fn : Fn) (first cap : Array Value) (w : World), (Instr.makeFunc fn first cap).run Try.prog w = .ok (.func fn first cap) w := fun _ _ _ _ => rfl
  obtain ⟨W, HW⟩ : ∃ W, Hid (w.alloc (.cells #[.pointer (some ⟨s.c, 0, none⟩)] 27) = W) := ⟨_, rfl⟩
  have hbW : Below w.heap.size w W := HW.out ▸ below_alloc w _
  have hx : Blk W w.heap.size 27 [.pointer (some ⟨s.c, 0, none⟩)] := HW.out ▸ Blk.new w 27 [.pointer (some ⟨s.c, 0, none⟩)]
  have hW := h.kept hbW
  have hm := cmade_yes hW.c0
  have hic := cisClass_any (cl : Int) W
  rw [show (decide ((cl : Int) = 1) || decide ((cl : Int) = 2)) = true from by rcases hc with rfl | rfl <;> rfl] at hic
  have hdi := cdirty_any hS hW cl hc
  have hR : syncR s.P s.ds (cl : Int) = if (cleanL s.P s.ds (syncKs s.P s.ds cl)).1 = 0 then (powE (cleanL s.P s.ds (syncKs s.P s.ds cl)).2.2.on, (cleanL s.P s.ds (syncKs s.P s.ds cl)).2.1, (cleanL s.P s.ds (syncKs s.P s.ds cl)).2.2) else cleanL s.P s.ds (syncKs s.P s.ds cl) := by
    unfold syncR
    rw [if_neg (by rcases hc with rfl | rfl <;> decide)]
    rfl
  rw [hR]
  clear hR hc
  have hKn := dirtyKs_len s.ds.secs.length s.P cl
  have hn2 := h.base.disk.n2
  have hKm : ∀ t ∈ dirtyKs s.ds.secs.length s.P cl, ∃ x ∈ s.L, (x.b.k : Int) = t := fun t ht => by
    obtain ⟨b, hb, _, _, e⟩ := dirtyKs_mem.1 ht
    obtain ⟨x, hx, rfl⟩ := List.mem_map.1 hb
    exact ⟨x, hx, e⟩
  have hKs : syncKs s.P s.ds cl = (dirtyKs s.ds.secs.length s.P cl).filter (fun t => !pinnedB s.P t) := rfl
  generalize syncKs s.P s.ds cl = fs at *
  generalize dirtyKs s.ds.secs.length s.P cl = ks at *
  have hcln := fun (W' : World) (hW' : CIn W' s) (p : Option Addr) (n c : Nat) (hI : IntsBy W' s p n c fs) => cClean_any hW' p n c fs hI hsum
  generalize cleanL s.P s.ds fs = RR at *
  obtain ⟨E, l1, d1⟩ := RR
  dsimp only at hcln ⊢
  have HKS : Hid (fs = ks.filter (fun t => !pinnedB s.P t)) := hKs
  clear hKs
  have hents : Enters Try.prog 43 := ents Try.func43 (by kernel_rfl) rfl
  -- the blocks that may go home
  have hdel : ∀ (w1 : World) (v : Value), w1.ownsRow W.heap.size 3 1 v ks.length (valsI ks) → Below W.heap.size W w1 → Calls Try.prog 41 #[v, .func (.func 43) #[] #[.pointer (some ⟨w.heap.size, 0, none⟩)]] w1 fun e w' => ∃ p n c, e = .returned (.slice p n c) ∧ IntsBy w' s p n c fs ∧ Below W.heap.size W w' := by
    intro w1 v hrow hb1
    rcases Nat.eq_zero_or_pos ks.length with h0 | h0
    · have hks : ks = [] := List.eq_nil_of_length_eq_zero h0
      subst hks
      obtain ⟨p, c, rfl⟩ := owns_slice hrow
      obtain ⟨p', c', e', hin⟩ := in_of_ownsI (xs := []) hrow (by simp)
      cases e'
      refine (deleteF_zero p c w1).mono ?_
      rintro e w' ⟨rfl, rfl⟩
      refine ⟨p, 0, c, rfl, ⟨?_, fun a _ h0 => by omega⟩, hb1⟩
      rw [HKS.out]
      exact hin
    · obtain ⟨g, cap, cur, rfl, hg, hh, hcp, hcm, _, ht⟩ : ∃ g cap cur, v = .slice (some ⟨g, 0, none⟩) ks.length cap ∧ W.heap.size ≤ g ∧ w1.heap[g]? = some (.cells cur 3 (0, 0)) ∧ ks.length ≤ cap ∧ cap ≤ maxLen ∧ True ∧ (cur.toList.take (ks.length * 1)) = valsI ks := by
        rcases hrow.2 with ⟨_, hn⟩ | ⟨g, cap, cur, rfl, hg, hh, hc, hm, _, ht⟩
        · omega
        · exact ⟨g, cap, cur, rfl, hg, hh, hc, hm, trivial, ht⟩
      have hBlk : Blk w1 g 3 (valsI ks ++ cur.toList.drop (ks.length * 1)) := by rw [Blk, hh, ← ht, List.take_append_drop]
      have hclo : ∀ A, (CIn A s ∧ Blk A w.heap.size 27 [.pointer (some ⟨s.c, 0, none⟩)]) → ∀ t ∈ ks, Calls Try.prog 43 (#[.int .i64 t] ++ #[.pointer (some ⟨w.heap.size, 0, none⟩)]) A fun e w' => e = .returned (.bool (pinnedB s.P t)) ∧ w' = A := by
        intro A hA t ht
        obtain ⟨x, hxL, rfl⟩ := hKm t ht
        rw [show (#[Value.int .i64 (x.b.k : Int)] ++ #[Value.pointer (some ⟨w.heap.size, 0, none⟩)] : Array Value) = #[.int .i64 (x.b.k : Int), .pointer (some ⟨w.heap.size, 0, none⟩)] from rfl]
        exact sync1_any hA.1 _ (hA.2.cell' rfl) hxL
      have hd := deleteF_any (caps := #[.pointer (some ⟨w.heap.size, 0, none⟩)]) hents (fun t => pinnedB s.P t) W.heap.size g cap ks _ w1 hBlk hg (by omega) hcp hcm h0 (fun W' => CIn W' s ∧ Blk W' w.heap.size 27 [.pointer (some ⟨s.c, 0, none⟩)]) ⟨hW.kept hb1, hx.kept hb1⟩
        (fun A B hA hT => ⟨hA.1.same (fun k hk => hT.block k (by have := hW.ltAll hk; omega)), hA.2.same (hT.block _ (by have := hx.lt; omega))⟩)
        hclo
      refine hd.mono ?_
      rintro e w' ⟨m, rfl, hin, hbl, hI⟩
      refine ⟨_, m, cap, rfl, ⟨by rw [HKS.out]; exact hin, fun a ha _ hf => ?_⟩, hb1.trans hbl⟩
      cases ha
      have := hW.lt hf
      simp at this
      omega
  have hx0 := hx.cell' (i := 0) (v := .pointer (some ⟨s.c, 0, none⟩)) rfl
  by_cases hE : E = 0
  · subst hE
    rw [if_pos rfl]
    go_enter Try.func16, Try.ntmps16
    go_wp2_with (first
      | (go_at_call 39; rw [HW.out]; refine hm.mono ?_; rintro e w' ⟨rfl, hw'⟩; have hw2 := hw'.symm; subst hw2; clear hw')
      | (go_at_call 34; refine hic.mono ?_; rintro e w' ⟨rfl, hw'⟩; have hw2 := hw'.symm; subst hw2; clear hw'))
    refine hdi.mono ?_
    rintro e w1 ⟨v1, rfl, hrow1, hb1⟩
    have hx1 := (hx.kept hb1).cell' (i := 0) (v := .pointer (some ⟨s.c, 0, none⟩)) rfl
    have hdl := hdel _ _ hrow1 hb1
    clear hdel hdi hm hic hKm
    go_wp2_with fail
    refine hdl.mono ?_
    rintro e w2 ⟨p2, n2, c2, rfl, hI2, hb2⟩
    have hx2 := (hx.kept hb2).cell' (i := 0) (v := .pointer (some ⟨s.c, 0, none⟩)) rfl
    have h2 := hW.kept hb2
    have hcl := hcln _ h2 _ _ _ hI2
    clear hcln hdl
    go_wp2_with fail
    refine hcl.mono ?_
    rintro e w3 ⟨rfl, s3, A3, hP3, hD3⟩
    have hx3 := (A3.blk h2 (hx.kept hb2) (by decide) (by decide) (by decide) (by decide)).cell' (i := 0) (v := .pointer (some ⟨s.c, 0, none⟩)) rfl
    have hfl := cFlush_any A3.cin
    rw [A3.c, hD3] at hfl
    go_wp2_with fail
    refine hfl.mono ?_
    rintro e w4 ⟨rfl, hb4⟩
    go_wp2_with fail
    go_ret
    exact ⟨rfl, s3, (CAfter.drop (bt hbW hb2) A3).kept hb4, hP3, hD3⟩
  · rw [if_neg hE]
    go_enter Try.func16, Try.ntmps16
    go_wp2_with (first
      | (go_at_call 39; rw [HW.out]; refine hm.mono ?_; rintro e w' ⟨rfl, hw'⟩; have hw2 := hw'.symm; subst hw2; clear hw')
      | (go_at_call 34; refine hic.mono ?_; rintro e w' ⟨rfl, hw'⟩; have hw2 := hw'.symm; subst hw2; clear hw'))
    refine hdi.mono ?_
    rintro e w1 ⟨v1, rfl, hrow1, hb1⟩
    have hx1 := (hx.kept hb1).cell' (i := 0) (v := .pointer (some ⟨s.c, 0, none⟩)) rfl
    have hdl := hdel _ _ hrow1 hb1
    clear hdel hdi hm hic hKm
    go_wp2_with fail
    refine hdl.mono ?_
    rintro e w2 ⟨p2, n2, c2, rfl, hI2, hb2⟩
    have hx2 := (hx.kept hb2).cell' (i := 0) (v := .pointer (some ⟨s.c, 0, none⟩)) rfl
    have h2 := hW.kept hb2
    have hcl := hcln _ h2 _ _ _ hI2
    clear hcln hdl
    go_wp2_with fail
    refine hcl.mono ?_
    rintro e w3 ⟨rfl, s3, A3, hP3, hD3⟩
    go_wp2_with fail
    go_ret
    exact ⟨rfl, s3, CAfter.drop (bt hbW hb2) A3, hP3, hD3⟩
end Go.Proofs.Ytdmnddikcpfmfaa

/-
  The law of disks that no call made, walked.
-/
import Derived.Test.YtbnnekpglnnneaaDkNo
namespace Go.Proofs.Ytbnnekpglnnneaa
open Go.RowKit Go.Shelf
attribute [local go_sem] Oper.semAt_some
set_option linter.unusedSimpArgs false in
set_option maxRecDepth 100000 in
set_option maxHeartbeats 4000000 in
theorem none_in (n : Nat) (hn : 4 ≤ n) (i : Int) (p : Option Addr) (m c : Nat) (w : World) :
    CallsIn Fence.wide n Try.prog 6 #[.int .i64 i, .slice p m c] w fun e w' => e = .returned (.bool true) ∧ Below w.heap.size w w' := by
  have h1 : 1 ≤ n := by omega
  refine callsIn_of_wp_marks Try.func6 rfl trivial ?_ rfl
  simp only [Try.ntmps6, List.size_toArray, List.length_cons, List.length_nil, Nat.reduceAdd, Nat.reduceSub, Array.replicate_succ, Array.replicate_zero, List.push_toArray, List.append_toArray, List.nil_append, List.cons_append]
  have hfn := fun W a b => func_nil W (.func 55) a b
  gi_wp2_with (refine ⟨trivial, ?_⟩; gi_at_call 7; refine (callsIn_wide.2 (live_any _)).mono ?_; rintro e w1 ⟨rfl, hb1⟩)
  have hbx := Blk.new w 4 [.bool false]
  have hb0 := below_alloc w (.cells #[.bool false] 4)
  have hB1 := bt hb0 hb1
  have g1 := hbx.kept hb1
  have hz := Blk.new' w1 65 #[.slice none 0 0, .bool false, .int .i64 0, .int .i64 0, .slice none 0 0]
  have hb2 := bt (below_alloc w1 (.cells #[.slice none 0 0, .bool false, .int .i64 0, .int .i64 0, .slice none 0 0] 65)) (below_alloc (w1.alloc (.cells #[.slice none 0 0, .bool false, .int .i64 0, .int .i64 0, .slice none 0 0] 65)) (.cells #[.pointer none, .pointer (some ⟨w1.heap.size, 0, none⟩)] 24))
  have hrow := Blk.new' (w1.alloc (.cells #[.slice none 0 0, .bool false, .int .i64 0, .int .i64 0, .slice none 0 0] 65)) 24 #[.pointer none, .pointer (some ⟨w1.heap.size, 0, none⟩)]
  have hz2 := hz.alloc (.cells #[.pointer none, .pointer (some ⟨w1.heap.size, 0, none⟩)] 24)
  rw [World.size_alloc] at hrow
  have g2 := g1.kept hb2
  have hB2 := bt hB1 hb2
  generalize (w1.alloc (.cells #[.slice none 0 0, .bool false, .int .i64 0, .int .i64 0, .slice none 0 0] 65)).alloc (.cells #[.pointer none, .pointer (some ⟨w1.heap.size, 0, none⟩)] 24) = w2 at *
  clear hb0 hb1 hB1 g1 hbx hz hb2
  obtain ⟨z, Hz⟩ : ∃ z, z = w1.heap.size := ⟨_, rfl⟩
  rw [← Hz] at hrow hz2 ⊢
  clear Hz
  have N0 : ∀ W, NoDisk W (.pointer none) := fun W => .inl rfl
  have hN2 : NoDisk w2 (.pointer (some ⟨z, 0, none⟩)) := .inr ⟨z, rfl, hz2.cell' rfl, hz2.lt⟩
  have r0 := hrow.cell' (i := 0) (v := .pointer none) rfl
  have r1 := hrow.cell' (i := 1) (v := .pointer (some ⟨z, 0, none⟩)) rfl
  refine wpIn_loop_rounds 3 ?_
  rw [roundsIn_succ]
  gi_wp2_with (first
    | (refine ⟨trivial, ?_⟩; gi_at_call 29; refine (callsIn_wide.2 (read_no (N0 _) i)).mono ?_; rintro e w' ⟨rfl, hw'⟩; have hw2 := hw'.symm; subst hw2; clear hw')
    | (refine ⟨trivial, ?_⟩; gi_at_call 31; refine (callsIn_wide.2 (log_no (N0 _))).mono ?_; rintro e w3 ⟨Bs0, rfl, hBs, hb⟩))
  have hs3 : w2.heap.size ≤ w3.heap.size := hb.size
  refine wpIn_rangeFunc_ownF rfl h1 (gf := 55) (lb := #[.pointer (some ⟨Bs0, 0, none⟩)]) rfl trivial (enters_of Try.func55 (by kernel_rfl) rfl)
    (log_none Fence.wide (n - 1) trivial rfl Bs0 (fun _ _ => True) w3 hBs) (fun _ _ => trivial) (fun _ _ _ _ _ _ _ _ => trivial) (Below.refl _ _) (fun x => x.elim)
    (fun _ W => Below w3.heap.size w3 W) (fun _ _ _ => False) (ownFrom_below (Nat.le_refl _) (Nat.le_refl _)) (fun _ _ _ _ _ hs _ _ => hs) (Below.refl _ _) (fun x => x.elim) ?assign0 ?body0 ?done0 ?stop0
  case assign0 => intro l x; exact x.elim
  case body0 => intro l pre x; exact x.elim
  case stop0 =>
    rintro D c pre W _ h
    exact h.elim
  case done0 =>
    rintro D1 ys w5 hD rfl hbW hD1
    have hbb := bt hb hbW
    clear hb hbW hBs
    have hN5 := hN2.below hbb
    have g5 := g2.kept hbb
    have hB5 := bt hB2 hbb
    have hrow5 := hrow.kept hbb
    have hz5 := hz2.kept hbb
    have r5 := hrow5.cell' (i := 1) (v := .pointer (some ⟨z, 0, none⟩)) rfl
    have hD1w : w.heap.size ≤ D1 := Nat.le_trans (Nat.le_trans hB2.size hs3) hD
    have hD1l : D1 < w5.heap.size := (Array.getElem?_eq_some_iff.1 hD1).1
    clear g2 hB2 hrow hz2 r0 r1 hN2 hbb hD hs3
    have hN := hN5
    gi_wp2_with (first
      | (refine ⟨trivial, ?_⟩; gi_at_call 19; refine (callsIn_wide.2 (cut_no (N0 _) i)).mono ?_; rintro e w' ⟨⟨u, rfl⟩, hw'⟩; have hw2 := hw'.symm; subst hw2; clear hw')
      | (refine ⟨trivial, ?_⟩; gi_at_call 23; refine (callsIn_wide.2 (restart_no (N0 _))).mono ?_; rintro e w' ⟨⟨u, rfl⟩, hw'⟩; have hw2 := hw'.symm; subst hw2; clear hw')
      | (refine ⟨trivial, ?_⟩; gi_at_call 20; refine (callsIn_wide.2 (write_no (N0 _) i p m c)).mono ?_; rintro e w' ⟨rfl, hw'⟩; have hw2 := hw'.symm; subst hw2; clear hw')
      | (refine ⟨trivial, ?_⟩; gi_at_call 32; refine (callsIn_wide.2 (flush_no (N0 _))).mono ?_; rintro e w' ⟨rfl, hw'⟩; have hw2 := hw'.symm; subst hw2; clear hw')
      | (refine ⟨trivial, ?_⟩; gi_at_call 33; refine (callsIn_wide.2 (hurt_no (N0 _) i)).mono ?_; rintro e w' ⟨rfl, hw'⟩; have hw2 := hw'.symm; subst hw2; clear hw')
      | (refine ⟨trivial, ?_⟩; gi_at_call 13; refine (callsIn_wide.2 (size_no (N0 _))).mono ?_; rintro e w' ⟨rfl, hw'⟩; have hw2 := hw'.symm; subst hw2; clear hw')
      | (refine ⟨trivial, ?_⟩; gi_at_call 12; refine (callsIn_wide.2 (writes_no (N0 _))).mono ?_; rintro e w' ⟨rfl, hw'⟩; have hw2 := hw'.symm; subst hw2; clear hw')
      | (refine ⟨trivial, ?_⟩; gi_at_call 11; refine (callsIn_wide.2 (on_no (N0 _))).mono ?_; rintro e w' ⟨rfl, hw'⟩; have hw2 := hw'.symm; subst hw2; clear hw')
      | (refine ⟨trivial, ?_⟩; gi_at_call 26; refine (callsIn_wide.2 (clone_no (N0 _))).mono ?_; rintro e w' ⟨rfl, hw'⟩; have hw2 := hw'.symm; subst hw2; clear hw'))
    rw [roundsIn_succ]
    gi_wp2_with (first
      | (refine ⟨trivial, ?_⟩; gi_at_call 29; refine (callsIn_wide.2 (read_no hN i)).mono ?_; rintro e w' ⟨rfl, hw'⟩; have hw2 := hw'.symm; subst hw2; clear hw')
      | (refine ⟨trivial, ?_⟩; gi_at_call 31; refine (callsIn_wide.2 (log_no hN)).mono ?_; rintro e w6 ⟨Bs1, rfl, hBs, hb⟩))
    have hs6 : w5.heap.size ≤ w6.heap.size := hb.size
    refine wpIn_rangeFunc_ownF rfl h1 (gf := 55) (lb := #[.pointer (some ⟨Bs1, 0, none⟩)]) rfl trivial (enters_of Try.func55 (by kernel_rfl) rfl)
      (log_none Fence.wide (n - 1) trivial rfl Bs1 (fun _ _ => True) w6 hBs) (fun _ _ => trivial) (fun _ _ _ _ _ _ _ _ => trivial) (Below.refl _ _) (fun x => x.elim)
      (fun _ W => Below w6.heap.size w6 W) (fun _ _ _ => False) (ownFrom_below (Nat.le_refl _) (Nat.le_refl _)) (fun _ _ _ _ _ hs _ _ => hs) (Below.refl _ _) (fun x => x.elim) ?assign1 ?body1 ?done1 ?stop1
    case assign1 => intro l x; exact x.elim
    case body1 => intro l pre x; exact x.elim
    case stop1 =>
      rintro D c pre W _ h
      exact h.elim
    case done1 =>
      rintro D2 ys w8 hD rfl hbW hD2
      have hbb := bt hb hbW
      clear hb hbW hBs
      have hN := hN5.below hbb
      have g8 := g5.kept hbb
      have hB8 := bt hB5 hbb
      have hD1' := (hbb.block D1 hD1l).trans hD1
      have hD2w : w.heap.size ≤ D2 := Nat.le_trans (Nat.le_trans hB5.size hs6) hD
      have hne : D1 ≠ D2 := by omega
      clear g5 hB5 hN5 hD1 hrow5 r5 hz5
      gi_wp2_with (first
        | (refine ⟨trivial, ?_⟩; gi_at_call 19; refine (callsIn_wide.2 (cut_no hN i)).mono ?_; rintro e w' ⟨⟨u, rfl⟩, hw'⟩; have hw2 := hw'.symm; subst hw2; clear hw')
        | (refine ⟨trivial, ?_⟩; gi_at_call 23; refine (callsIn_wide.2 (restart_no hN)).mono ?_; rintro e w' ⟨⟨u, rfl⟩, hw'⟩; have hw2 := hw'.symm; subst hw2; clear hw')
        | (refine ⟨trivial, ?_⟩; gi_at_call 20; refine (callsIn_wide.2 (write_no hN i p m c)).mono ?_; rintro e w' ⟨rfl, hw'⟩; have hw2 := hw'.symm; subst hw2; clear hw')
        | (refine ⟨trivial, ?_⟩; gi_at_call 32; refine (callsIn_wide.2 (flush_no hN)).mono ?_; rintro e w' ⟨rfl, hw'⟩; have hw2 := hw'.symm; subst hw2; clear hw')
        | (refine ⟨trivial, ?_⟩; gi_at_call 33; refine (callsIn_wide.2 (hurt_no hN i)).mono ?_; rintro e w' ⟨rfl, hw'⟩; have hw2 := hw'.symm; subst hw2; clear hw')
        | (refine ⟨trivial, ?_⟩; gi_at_call 13; refine (callsIn_wide.2 (size_no hN)).mono ?_; rintro e w' ⟨rfl, hw'⟩; have hw2 := hw'.symm; subst hw2; clear hw')
        | (refine ⟨trivial, ?_⟩; gi_at_call 12; refine (callsIn_wide.2 (writes_no hN)).mono ?_; rintro e w' ⟨rfl, hw'⟩; have hw2 := hw'.symm; subst hw2; clear hw')
        | (refine ⟨trivial, ?_⟩; gi_at_call 11; refine (callsIn_wide.2 (on_no hN)).mono ?_; rintro e w' ⟨rfl, hw'⟩; have hw2 := hw'.symm; subst hw2; clear hw')
        | (refine ⟨trivial, ?_⟩; gi_at_call 26; refine (callsIn_wide.2 (clone_no hN)).mono ?_; rintro e w' ⟨rfl, hw'⟩; have hw2 := hw'.symm; subst hw2; clear hw'))
      rw [roundsIn_succ]
      have c8 := g8.cell' (i := 0) (v := .bool false) rfl
      gi_wp2_with (first
        | (refine ⟨trivial, ?_⟩; gi_at_call 15; refine (callsIn_wide.2 (image_nil _)).mono ?_; rintro e w9 ⟨rfl, hb9⟩)
        | (refine ⟨trivial, ?_⟩; gi_at_call 27; refine (callsIn_wide.2 (same_nil _)).mono ?_; rintro e w10 ⟨rfl, hb10⟩; have g10 := (g8.kept hb9).kept hb10; have c10 := g10.cell' (i := 0) (v := .bool false) rfl; have f10 := g10.frozen 0))
      have k2 := (hb10.block D2 (Nat.lt_of_lt_of_le (Array.getElem?_eq_some_iff.1 hD2).1 hb9.size)).trans ((hb9.block D2 (Array.getElem?_eq_some_iff.1 hD2).1).trans hD2)
      have k1 := (hb10.block D1 (Nat.lt_of_lt_of_le (Array.getElem?_eq_some_iff.1 hD1').1 hb9.size)).trans ((hb9.block D1 (Array.getElem?_eq_some_iff.1 hD1').1).trans hD1')
      have n2 : D2 ≠ w.heap.size := by rintro e; rw [e, show w10.heap[w.heap.size]? = _ from g10] at k2; cases k2
      have n1 : D1 ≠ w.heap.size := by rintro e; rw [e, show w10.heap[w.heap.size]? = _ from g10] at k1; cases k1
      have e2 : (w10.setCell ⟨w.heap.size, 0, none⟩ (.bool true)).heap[D2]? = some (.deferred (some [])) := (heap_setCell_other _ _ _ _ n2).trans k2
      have e1 : ((w10.setCell ⟨w.heap.size, 0, none⟩ (.bool true)).putObj D2 (.deferred none)).heap[D1]? = some (.deferred (some [])) := (World.putObj_heap_other hne).trans ((heap_setCell_other _ _ _ _ n1).trans k1)
      have g11 : Blk (((w10.setCell ⟨w.heap.size, 0, none⟩ (.bool true)).putObj D2 (.deferred none)).putObj D1 (.deferred none)) w.heap.size 4 [.bool true] := ((g10.set 0 (.bool true)).same (World.putObj_heap_other (Ne.symm n2))).same (World.putObj_heap_other (Ne.symm n1))
      have c11 := g11.cell' (i := 0) (v := .bool true) rfl
      have b11 : Below w.heap.size w (((w10.setCell ⟨w.heap.size, 0, none⟩ (.bool true)).putObj D2 (.deferred none)).putObj D1 (.deferred none)) := (((bt (bt hB8 hb9) hb10).trans ((Turned.setCell w10 ⟨w.heap.size, 0, none⟩ (.bool true)).below (Below.refl _ _) (Nat.le_refl _))).trans (belowK_b (w := w) (Nat.le_refl _) _ D2 _ _ hD2w e2 rfl rfl)).trans (belowK_b (w := w) (Nat.le_refl _) _ D1 _ _ hD1w e1 rfl rfl)
      refine ⟨by simp, .inl ⟨_, _, rfl, run_takeDeferred e2, ?_⟩⟩
      refine ⟨by simp, .inl ⟨_, _, rfl, run_takeDeferred e1, ?_⟩⟩
      exact ⟨.bool true, by simp [results, Try.results6, go_sem, c11], rfl, b11⟩
end Go.Proofs.Ytbnnekpglnnneaa

/-
  The small calls of a disk.
-/
import Derived.Test.YtdmnddikcpfmfaaDkS
namespace Go.Proofs.Ytdmnddikcpfmfaa
open Go.RowKit
theorem made_any (d : Nat) (p : Option Addr) (n c : Nat) (w : World) (h : w.cell? ⟨d, 0, none⟩ = some (.slice p n c)) : Calls Try.prog 48 #[.pointer (some ⟨d, 0, none⟩)] w fun e w' => e = .returned (.bool (decide (0 < n))) ∧ w' = w := by
  go_enter Try.func48, Try.ntmps48
  go_wp2
  go_ret
  exact ⟨ret_bool (by simp), rfl⟩
theorem made_none (w : World) : Calls Try.prog 48 #[.pointer none] w fun e w' => e = .returned (.bool false) ∧ w' = w := by
  go_enter Try.func48, Try.ntmps48
  go_wp2
  go_ret
  exact ⟨rfl, rfl⟩
theorem DiskIn.c0 {w : World} {d sb : Nat} {lv : Value} {s : DS} (h : DiskIn w d sb lv s) : w.cell? ⟨d, 0, none⟩ = some (.slice (some ⟨sb, 0, none⟩) s.secs.length s.cap) := h.ram.cell' rfl
theorem DiskIn.c1 {w : World} {d sb : Nat} {lv : Value} {s : DS} (h : DiskIn w d sb lv s) : w.cell? ⟨d, 1, none⟩ = some (.bool s.on) := h.ram.cell' rfl
theorem DiskIn.c2 {w : World} {d sb : Nat} {lv : Value} {s : DS} (h : DiskIn w d sb lv s) : w.cell? ⟨d, 2, none⟩ = some (.int .i64 s.left) := h.ram.cell' rfl
theorem DiskIn.c3 {w : World} {d sb : Nat} {lv : Value} {s : DS} (h : DiskIn w d sb lv s) : w.cell? ⟨d, 3, none⟩ = some (.int .i64 (s.writes : Int)) := h.ram.cell' rfl
theorem DiskIn.c4 {w : World} {d sb : Nat} {lv : Value} {s : DS} (h : DiskIn w d sb lv s) : w.cell? ⟨d, 4, none⟩ = some lv := h.ram.cell' rfl
theorem made_yes {w : World} {d sb : Nat} {lv : Value} {s : DS} (h : DiskIn w d sb lv s) : Calls Try.prog 48 #[.pointer (some ⟨d, 0, none⟩)] w fun e w' => e = .returned (.bool true) ∧ w' = w :=
  (made_any d _ _ _ w h.c0).mono fun e w' ⟨he, hw⟩ => ⟨he.trans (ret_bool (by have := h.n1; simp; omega)), hw⟩
/-- What the calls that need the power ask first. -/
def powE (on : Bool) : Int := if on = true then 0 else 8
theorem power_any {w : World} {d sb : Nat} {lv : Value} {s : DS} (h : DiskIn w d sb lv s) : Calls Try.prog 44 #[.pointer (some ⟨d, 0, none⟩)] w fun e w' => e = .returned (.int .i64 (powE s.on)) ∧ w' = w := by
  have hm := made_yes h
  have h1 := h.c1
  cases ho : s.on
  · rw [ho] at h1
    go_enter Try.func44, Try.ntmps44
    go_wp2_with (go_at_call 48; refine hm.mono ?_; rintro e w' ⟨rfl, hw'⟩; have hw2 := hw'.symm; subst hw2; clear hw')
    go_ret
    exact ⟨rfl, rfl⟩
  · rw [ho] at h1
    go_enter Try.func44, Try.ntmps44
    go_wp2_with (go_at_call 48; refine hm.mono ?_; rintro e w' ⟨rfl, hw'⟩; have hw2 := hw'.symm; subst hw2; clear hw')
    go_ret
    exact ⟨rfl, rfl⟩
def hasB (n : Nat) (i : Int) : Bool := decide (0 ≤ i) && decide (i < (n : Int))
theorem hasB_yes {n i : Nat} (h : i < n) : hasB n (i : Int) = true := by simp [hasB]; exact h
theorem hasB_nat {n : Nat} {i : Int} (h : hasB n i = true) : ∃ k : Nat, i = (k : Int) ∧ k < n := by
  simp [hasB] at h
  exact ⟨i.toNat, by omega, by omega⟩
theorem has_any {w : World} {d sb : Nat} {lv : Value} {s : DS} (h : DiskIn w d sb lv s) (i : Int) : Calls Try.prog 45 #[.pointer (some ⟨d, 0, none⟩), .int .i64 i] w fun e w' => e = .returned (.bool (hasB s.secs.length i)) ∧ w' = w := by
  have h0 := h.c0
  by_cases hi : 0 ≤ i
  · go_enter Try.func45, Try.ntmps45
    go_wp2
    go_ret
    exact ⟨ret_bool (by simp [hasB, hi]), rfl⟩
  · go_enter Try.func45, Try.ntmps45
    go_wp2
    go_ret
    exact ⟨ret_bool (by simp [hasB]; omega), rfl⟩
theorem mayBe_any (n : Int) (w : World) : Calls Try.prog 27 #[.int .i64 n] w fun e w' => e = .returned (.bool (decide (1 ≤ n) && decide (n ≤ 8192))) ∧ w' = w := by
  by_cases hi : 1 ≤ n
  · go_enter Try.func27, Try.ntmps27
    go_wp2
    go_ret
    exact ⟨ret_bool (by simp [hi]), rfl⟩
  · go_enter Try.func27, Try.ntmps27
    go_wp2
    go_ret
    exact ⟨ret_bool (by simp; omega), rfl⟩
theorem writes_any {w : World} {d sb : Nat} {lv : Value} {s : DS} (h : DiskIn w d sb lv s) : Calls Try.prog 30 #[.pointer (some ⟨d, 0, none⟩)] w fun e w' => e = .returned (.int .i64 (s.writes : Int)) ∧ w' = w := by
  have hm := made_yes h
  have h1 := h.c3
  go_enter Try.func30, Try.ntmps30
  go_wp2_with (go_at_call 48; refine hm.mono ?_; rintro e w' ⟨rfl, hw'⟩; have hw2 := hw'.symm; subst hw2; clear hw')
  go_ret
  exact ⟨rfl, rfl⟩
theorem size_any {w : World} {d sb : Nat} {lv : Value} {s : DS} (h : DiskIn w d sb lv s) : Calls Try.prog 111 #[.pointer (some ⟨d, 0, none⟩)] w fun e w' => e = .returned (.int .i64 (s.secs.length : Int)) ∧ w' = w := by
  have hm := made_yes h
  have h1 := h.c0
  go_enter Try.func111, Try.ntmps111
  go_wp2_with (go_at_call 48; refine hm.mono ?_; rintro e w' ⟨rfl, hw'⟩; have hw2 := hw'.symm; subst hw2; clear hw')
  go_ret
  exact ⟨rfl, rfl⟩
theorem flush_any {w : World} {d sb : Nat} {lv : Value} {s : DS} (h : DiskIn w d sb lv s) : Calls Try.prog 109 #[.pointer (some ⟨d, 0, none⟩)] w fun e w' => e = .returned (.int .i64 (powE s.on)) ∧ w' = w := by
  have hm := power_any h
  go_enter Try.func109, Try.ntmps109
  go_wp2_with (go_at_call 44; refine hm.mono ?_; rintro e w' ⟨rfl, hw'⟩; have hw2 := hw'.symm; subst hw2; clear hw')
  go_ret
  exact ⟨rfl, rfl⟩
/-- A call that turned a disk: its blocks alone, and new ones. -/
structure DAfter (w w' : World) (d sb : Nat) (lv lv' : Value) (s' : DS) : Prop where
  disk : DiskIn w' d sb lv' s'
  keep : Keep (fpD d sb lv) w w'
  fr : ∀ k, lv'.ownBlock = some k → lv.ownBlock = some k ∨ w.heap.size ≤ k
/-- One cell of the disk's own block is turned. -/
theorem DiskIn.cell {w : World} {d sb : Nat} {lv : Value} {s : DS} (h : DiskIn w d sb lv s) (i : Nat) (v : Value) (s' : DS) (hv : (ramV sb lv s).set i v = ramV sb lv s') (h1 : s'.secs = s.secs) (h2 : s'.log = s.log) (h3 : s'.writes = s.writes) (h4 : -9223372036854775808 ≤ s'.left ∧ s'.left ≤ 9223372036854775807) (h5 : s'.sp = s.sp := by rfl) (h6 : s'.cap = s.cap := by rfl) :
    DAfter w (w.setCell ⟨d, i, none⟩ v) d sb lv lv s' := by
  have hr := h.ram.set i v
  rw [hv] at hr
  refine ⟨⟨hr, ?_, ?_, by rw [h1]; exact h.okS, by rw [h2]; exact h.okL, by rw [h1]; exact h.n1, by rw [h1]; exact h.n2, by rw [h2, h3]; exact h.ll, by rw [h3]; exact h.lw, by rw [h1, h6]; exact h.capn, h4⟩, Keep.of_turned (Turned.setCell w ⟨d, i, none⟩ v) (.inl rfl), fun k hk => .inl hk⟩
  · rw [h1, h5]; exact h.row.setOther _ _ (fun e => h.nds e.symm)
  · rw [h2]; exact owns_same h.log (fun k hk => heap_setCell_other _ _ _ _ (h.ndl hk).1)
theorem DAfter.refl {w : World} {d sb : Nat} {lv : Value} {s : DS} (h : DiskIn w d sb lv s) : DAfter w w d sb lv lv s := ⟨h, Keep.refl _ _, fun _ hk => .inl hk⟩
theorem DAfter.trans {a b c : World} {d sb : Nat} {l1 l2 l3 : Value} {s1 s2 : DS} (h : DAfter a b d sb l1 l2 s1) (k : DAfter b c d sb l2 l3 s2) : DAfter a c d sb l1 l3 s2 := by
  refine ⟨k.disk, h.keep.trans k.keep (fun j hj e => ?_), fun j hj => ?_⟩
  · rcases e with e | e | e
    · exact .inl e
    · exact .inr (.inl e)
    · rcases h.fr j e with e | e
      · exact .inr (.inr e)
      · omega
  · rcases k.fr j hj with e | e
    · exact h.fr j e
    · exact .inr (Nat.le_trans h.keep.size e)
end Go.Proofs.Ytdmnddikcpfmfaa

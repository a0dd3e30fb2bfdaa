/-
  What Write does.
-/
import Derived.Test.YtdmnddikcpfmfaaGreatDkPut
namespace Go.Proofs.YtdmnddikcpfmfaaGreat
open Go.RowKit
/-- What Write answers, and the disk behind it. -/
def writeE (s : DS) (i : Int) (n : Nat) : Int := if s.on = false then 8 else if hasB s.secs.length i = false ∨ n ≠ 256 then 1 else if s.left = 0 then 8 else 0
def lessL (l : Int) : Int := if 0 < l then l - 1 else l
def writeS (s : DS) (i : Int) (xs : List Nat) : DS :=
  if s.on = false then s else if hasB s.secs.length i = false ∨ xs.length ≠ 256 then s else if s.left = 0 then { s with on := false } else putS { s with left := lessL s.left } i.toNat xs
theorem lessL_le {l : Int} (h : -9223372036854775808 ≤ l ∧ l ≤ 9223372036854775807) : -9223372036854775808 ≤ lessL l ∧ lessL l ≤ 9223372036854775807 := by
  unfold lessL; split <;> omega
theorem In.same {w w' : World} {p : Option Addr} {n c : Nat} {xs : List Nat} (h : In w p n c xs) (hs : ∀ a, p = some a → 0 < n → w'.heap[a.block]? = w.heap[a.block]?) : In w' p n c xs :=
  ⟨h.len, h.cap, h.max, h.room, h.byte, fun h0 => by
    obtain ⟨b, o, hp, hlt, hc⟩ := h.at' h0
    have e := hs _ hp h0
    refine ⟨b, o, hp, ?_, fun i hi => ?_⟩
    · rcases Nat.lt_or_ge b w'.heap.size with h' | h'
      · exact h'
      · rw [Array.getElem?_eq_none h', Array.getElem?_eq_getElem hlt] at e; cases e
    · have := hc i hi
      simp only [World.cell?] at this ⊢
      rw [e]
      exact this, h.nil⟩
/-- Bytes lie in no disk's own block. -/
theorem In.ne_ram {w : World} {p : Option Addr} {n c : Nat} {xs : List Nat} (h : In w p n c xs) {d sb : Nat} {t : TypeId} {lv : Value} {s : DS} (hl : ∃ q m k, lv = .slice q m k) (hb : Blk w d t (ramV sb lv s)) (a : Addr) (ha : p = some a) (h0 : 0 < n) : a.block ≠ d := by
  obtain ⟨b, o, hp, _, hc⟩ := h.at' h0
  rw [hp] at ha
  cases ha
  rintro rfl
  have := hc 0 h0
  rw [hb.cell] at this
  obtain ⟨q, m, k, rfl⟩ := hl
  unfold ramV at this
  rcases o with _ | _ | _ | _ | _ | o
  all_goals simp at this
theorem DiskIn.lvs {w : World} {d sb : Nat} {lv : Value} {s : DS} (h : DiskIn w d sb lv s) : ∃ q m k, lv = .slice q m k := by
  obtain ⟨q, c, e⟩ := owns_slice h.log
  exact ⟨q, _, c, e⟩
set_option maxRecDepth 100000 in
set_option maxHeartbeats 1000000 in
theorem write_any {w : World} {d sb : Nat} {lv : Value} {s : DS} (h : DiskIn w d sb lv s) (i : Int) (p : Option Addr) (n c : Nat) (xs : List Nat) (hx : In w p n c xs) (hw1 : s.writes < 1024) :
    Calls Tryz.prog 148 #[.pointer (some ⟨d, 0, none⟩), .int .i64 i, .slice p n c] w fun e w' => e = .returned (.int .i64 (writeE s i n)) ∧ ∃ lv', DAfter w w' d sb lv lv' (writeS s i xs) := by
  have hp := power_any h
  have hh := has_any h i
  have h2 := h.c2
  have hle := h.le
  have hroom := hx.room
  cases ho : s.on
  · rw [powE_off ho] at hp
    have e1 : writeE s i n = 8 := by simp [writeE, ho]
    have e2 : writeS s i xs = s := by simp [writeS, ho]
    rw [e1, e2]
    go_enter Tryz.func148, Tryz.ntmps148
    go_wp2_with (go_at_call 64; refine hp.mono ?_; rintro e w' ⟨rfl, hw'⟩; have hw2 := hw'.symm; subst hw2; clear hw')
    go_ret
    exact ⟨rfl, _, DAfter.refl h⟩
  · rw [powE_on ho] at hp
    cases hb : hasB s.secs.length i
    · have e1 : writeE s i n = 1 := by simp [writeE, ho, hb]
      have e2 : writeS s i xs = s := by simp [writeS, ho, hb]
      rw [e1, e2]
      rw [hb] at hh
      go_enter Tryz.func148, Tryz.ntmps148
      go_wp2_with (first
        | (go_at_call 64; refine hp.mono ?_; rintro e w' ⟨rfl, hw'⟩; have hw2 := hw'.symm; subst hw2; clear hw')
        | (go_at_call 65; refine hh.mono ?_; rintro e w' ⟨rfl, hw'⟩; have hw2 := hw'.symm; subst hw2; clear hw'))
      go_ret
      exact ⟨rfl, _, DAfter.refl h⟩
    · rw [hb] at hh
      by_cases hn : n = 256
      · subst hn
        have hl : xs.length = 256 := hx.len
        by_cases h0 : s.left = 0
        · have e1 : writeE s i 256 = 8 := by simp [writeE, ho, hb, h0]
          have e2 : writeS s i xs = { s with on := false } := by simp [writeS, ho, hb, h0, hl]
          rw [e1, e2]
          rw [h0] at h2
          have h1 := h.c1
          have f1 := h.ram.frozen 1
          go_enter Tryz.func148, Tryz.ntmps148
          go_wp2_with (first
            | (go_at_call 64; refine hp.mono ?_; rintro e w' ⟨rfl, hw'⟩; have hw2 := hw'.symm; subst hw2; clear hw')
            | (go_at_call 65; refine hh.mono ?_; rintro e w' ⟨rfl, hw'⟩; have hw2 := hw'.symm; subst hw2; clear hw'))
          go_ret
          exact ⟨rfl, _, h.cell 1 _ { s with on := false } rfl rfl rfl rfl h.le⟩
        · obtain ⟨k, rfl, hk⟩ := hasB_nat hb
          have e1 : writeE s (k : Int) 256 = 0 := by simp [writeE, ho, hb, h0]
          have e2 : writeS s (k : Int) xs = putS { s with left := lessL s.left } k xs := by simp [writeS, ho, hb, h0, hl]
          rw [e1, e2]
          have hz : (s.left == 0) = false := by simp [h0]
          by_cases hg : 0 < s.left
          · have e3 : lessL s.left = s.left - 1 := if_pos hg
            have f2 := h.ram.frozen 2
            have A := h.cell 2 (.int .i64 (s.left - 1)) { s with left := s.left - 1 } rfl rfl rfl rfl ⟨by show -9223372036854775808 ≤ s.left - 1; omega, by show s.left - 1 ≤ 9223372036854775807; omega⟩
            rw [e3]
            have hx2 := hx.same (w' := w.setCell ⟨d, 2, none⟩ (.int .i64 (s.left - 1))) (fun a ha h0 => heap_setCell_other _ _ _ _ (hx.ne_ram h.lvs h.ram a ha h0))
            have hput := put_any A.disk k hk p c xs hx2 hw1
            generalize hW : w.setCell ⟨d, 2, none⟩ (.int .i64 (s.left - 1)) = W at *
            have hW' : Hid (w.setCell ⟨d, 2, none⟩ (.int .i64 (s.left - 1)) = W) := hW
            clear hW
            go_enter Tryz.func148, Tryz.ntmps148
            go_wp2_with (first
              | (go_at_call 64; refine hp.mono ?_; rintro e w' ⟨rfl, hw'⟩; have hw2 := hw'.symm; subst hw2; clear hw')
              | (go_at_call 65; refine hh.mono ?_; rintro e w' ⟨rfl, hw'⟩; have hw2 := hw'.symm; subst hw2; clear hw')
              | (go_at_call 149; rw [hW'.out]; refine hput.mono ?_; rintro e w' ⟨⟨u, rfl⟩, lv', hA⟩))
            go_ret
            exact ⟨rfl, _, A.trans hA⟩
          · have e3 : lessL s.left = s.left := if_neg hg
            rw [e3]
            have hput := put_any h k hk p c xs hx hw1
            go_enter Tryz.func148, Tryz.ntmps148
            go_wp2_with (first
              | (go_at_call 64; refine hp.mono ?_; rintro e w' ⟨rfl, hw'⟩; have hw2 := hw'.symm; subst hw2; clear hw')
              | (go_at_call 65; refine hh.mono ?_; rintro e w' ⟨rfl, hw'⟩; have hw2 := hw'.symm; subst hw2; clear hw')
              | (go_at_call 149; refine hput.mono ?_; rintro e w' ⟨⟨u, rfl⟩, lv', hA⟩))
            go_ret
            exact ⟨rfl, _, hA⟩
      · have e1 : writeE s i n = 1 := by simp [writeE, ho, hn]
        have e2 : writeS s i xs = s := by simp [writeS, ho, hx.len, hn]
        rw [e1, e2]
        have hn' : (n : Int) ≠ 256 := by omega
        go_enter Tryz.func148, Tryz.ntmps148
        go_wp2_with (first
          | (go_at_call 64; refine hp.mono ?_; rintro e w' ⟨rfl, hw'⟩; have hw2 := hw'.symm; subst hw2; clear hw')
          | (go_at_call 65; refine hh.mono ?_; rintro e w' ⟨rfl, hw'⟩; have hw2 := hw'.symm; subst hw2; clear hw'))
        go_ret
        exact ⟨rfl, _, DAfter.refl h⟩
end Go.Proofs.YtdmnddikcpfmfaaGreat

/-
  The first look at a disk, that every law of layer 9 takes.
-/
import Derived.Test.YtbnnekpglnnneaaDkWrite
import Derived.Test.YtbnnekpglnnneaaDkRep
import Derived.Test.YtbnnekpglnnneaaEqual
namespace Go.Proofs.Ytbnnekpglnnneaa
open Go.RowKit
def b7 : List Nat := cyc [7] 256
def sA : DS := { newD 3 with left := 1 }
def sB : DS := writeS sA 1 b7
def sC : DS := writeS sB 2 b7
def sD : DS := { sC with on := true, left := -1 }
theorem lvE1 : writeE sA 1 256 = 0 := by kernel_rfl
theorem lvE2 : writeE sB 2 256 = 8 := by kernel_rfl
theorem lvOn : sC.on = false := by kernel_rfl
theorem lvR1 : readE sD 1 = 0 := by kernel_rfl
theorem lvR2 : readE sD 2 = 0 := by kernel_rfl
theorem lvD1 : readD sD 1 = b7 := by kernel_rfl
theorem lvD2 : readD sD 2 = z256 := by kernel_rfl
theorem lvWA : sA.writes < 1024 := by decide
theorem lvWB : sB.writes < 1024 := by
  have : sB.writes = 1 := by kernel_rfl
  omega
theorem b7_length : b7.length = 256 := cyc_length _ _
/-- What was made behind B lies behind B. -/
theorem DAfter.belowB {w w' : World} {d sb : Nat} {lv lv' : Value} {s' : DS} {B : Nat} (h : DAfter w w' d sb lv lv' s') (hB : B ≤ w.heap.size) (hf : ∀ k, fpD d sb lv k → B ≤ k) : Below B w w' := h.keep.below hB hf
theorem DAfter.fp {w w' : World} {d sb : Nat} {lv lv' : Value} {s' : DS} {B : Nat} (h : DAfter w w' d sb lv lv' s') (hB : B ≤ w.heap.size) (hf : ∀ k, fpD d sb lv k → B ≤ k) : ∀ k, fpD d sb lv' k → B ≤ k := by
  rintro k (rfl | rfl | hk)
  · exact hf _ (.inl rfl)
  · exact hf _ (.inr (.inl rfl))
  · rcases h.fr k hk with e | e
    · exact hf k (.inr (.inr e))
    · omega
/-- Bytes in a block that is not of the disk. -/
theorem In.after {w w' : World} {p : Option Addr} {n c : Nat} {xs : List Nat} {d sb : Nat} {lv lv' : Value} {s' : DS} (h : In w p n c xs) (hA : DAfter w w' d sb lv lv' s') (hd : ∀ a, p = some a → ¬ fpD d sb lv a.block) : In w' p n c xs := by
  refine h.same fun a ha h0 => ?_
  obtain ⟨b, o, hp, hlt, _⟩ := h.at' h0
  rw [hp] at ha
  cases ha
  exact hA.keep.block b hlt (hd _ hp)
set_option linter.unusedSimpArgs false in
set_option maxRecDepth 100000 in
set_option maxHeartbeats 2000000 in
theorem live_any (w : World) : Calls Try.prog 7 #[] w fun e w' => e = .returned (.bool true) ∧ Below w.heap.size w w' := by
  have hnew := new_ok 3 (by omega) (by omega) w
  go_enter Try.func7, Try.ntmps7
  go_wp2_with (go_at_call 8; refine hnew.mono ?_; rintro e w1 ⟨hb1, d, sb, rfl, hd1, hs1, D1⟩)
  clear hnew
  have hlit : In (w1.alloc (.cells #[.int .u8 7] 5)) (some ⟨w1.heap.size, 0, none⟩) 1 1 [7] := in_lit w1 (by rfl) rfl (by simp) (by omega)
  have hrep := repeat_small [7] w1.heap.size 0 1 1 256 256 (by omega) (by omega) rfl (by omega) _ hlit
  have F1 : ∀ k, fpD d sb (.slice none 0 0) k → w.heap.size ≤ k := by
    rintro k (rfl | rfl | hk)
    · exact hd1
    · exact hs1
    · simp [Value.ownBlock] at hk
  have D1' := D1.below (below_alloc w1 (.cells #[.int .u8 7] 5))
  have hB1' := bt hb1 (below_alloc w1 (.cells #[.int .u8 7] 5))
  refine hrep.mono ?_
  rintro e w2 ⟨rfl, hin2, hb2⟩
  clear hrep
  have D2 := D1'.below hb2
  have hB2 := bt hB1' hb2
  have hnd : ∀ k, fpD d sb (.slice none 0 0) k → k ≠ (w1.alloc (.cells #[.int .u8 7] 5)).heap.size := fun k hk => Nat.ne_of_lt (D1'.lt hk)
  have hgb : w.heap.size ≤ (w1.alloc (.cells #[.int .u8 7] 5)).heap.size := hB1'.size
  generalize (w1.alloc (.cells #[.int .u8 7] 5)).heap.size = g at *
  clear D1 D1' hb1 hB1' hlit hb2
  go_wp2_with fail
  refine (cut_any D2 1 (by omega)).mono ?_
  rintro e w3 ⟨⟨u3, rfl⟩, A3⟩
  have hin3 : In w3 (some ⟨g, 0, none⟩) 256 256 b7 := hin2.after A3 (fun a ha => by cases ha; exact fun e => hnd _ e rfl)
  have F3 := A3.fp hB2.size F1
  have hB3 := hB2.trans (A3.belowB hB2.size F1)
  go_wp2_with fail
  refine (write_any (s := sA) A3.disk 1 _ _ _ b7 hin3 lvWA).mono ?_
  rintro e w4 ⟨rfl, lv4, A4⟩
  rw [lvE1]
  have hin4 := hin3.after A4 (fun a ha => by cases ha; exact fun e => hnd _ e rfl)
  have F4 := A4.fp hB3.size F3
  have hB4 := hB3.trans (A4.belowB hB3.size F3)
  have hnd4 : ∀ k, fpD d sb lv4 k → k ≠ g := by
    rintro k (rfl | rfl | hk)
    · exact hnd _ (.inl rfl)
    · exact hnd _ (.inr (.inl rfl))
    · rcases A4.fr k hk with e | e
      · simp [Value.ownBlock] at e
      · obtain ⟨b, o, hp, hlt, _⟩ := hin3.at' (by omega)
        cases hp
        omega
  go_wp2_with fail
  refine (write_any (s := sB) A4.disk 2 _ _ _ b7 hin4 lvWB).mono ?_
  rintro e w5 ⟨rfl, lv5, A5⟩
  rw [lvE2]
  have hin5 := hin4.after A5 (fun a ha => by cases ha; exact fun e => hnd4 _ e rfl)
  have F5 := A5.fp hB4.size F4
  have hB5 := hB4.trans (A5.belowB hB4.size F4)
  have hnd5 : ∀ k, fpD d sb lv5 k → k ≠ g := by
    rintro k (rfl | rfl | hk)
    · exact hnd _ (.inl rfl)
    · exact hnd _ (.inr (.inl rfl))
    · rcases A5.fr k hk with e | e
      · exact hnd4 _ (.inr (.inr e))
      · obtain ⟨b, o, hp, hlt, _⟩ := hin4.at' (by omega)
        cases hp
        omega
  have hon := on_any (s := sC) A5.disk
  rw [lvOn] at hon
  go_wp2_with fail
  refine hon.mono ?_
  rintro e w5' ⟨rfl, hw'⟩
  have hw2 := hw'.symm
  subst hw2
  clear hw' hon
  go_wp2_with fail
  refine (restart_any (s := sC) A5.disk).mono ?_
  rintro e w6 ⟨⟨u6, rfl⟩, A6⟩
  have hin6 := hin5.after A6 (fun a ha => by cases ha; exact fun e => hnd5 _ e rfl)
  have hB6 := hB5.trans (A6.belowB hB5.size F5)
  go_wp2_with fail
  refine (read_any (s := sD) A6.disk 1).mono ?_
  rw [lvR1, lvD1, b7_length]
  rintro e w7 ⟨p7, c7, rfl, hin7, hb7, _⟩
  go_wp2_with fail
  refine (read_any (s := sD) (A6.disk.below hb7) 2).mono ?_
  rw [lvR2, lvD2, z256_length]
  rintro e w8 ⟨p8, c8, rfl, hin8, hb8, _⟩
  have hq1 := equal_any p7 _ 256 c7 256 256 b7 b7 w8 (hin7.below hb8) ((hin6.below hb7).below hb8)
  rw [show (b7 == b7) = true from by simp] at hq1
  have hB8 := bt (bt hB6 hb7) hb8
  obtain ⟨i0, hi, hz0, hz1, hz2⟩ := info_parts info5
  clear A3 A4 A5 A6 F1 F3 F4 F5 hin2 hin3 hin4 hin5 D2 hB2 hB3 hB4 hB5
  obtain ⟨w9, hrun9, hown9, hgrow9⟩ := run_make_full (P := Try.prog) w8 0 31 5 i0 (.int .u8 0) 1 Try.underlying31 hi hz0 hz1 .i64 .i64 256 (by rw [hz2]; omega) (by unfold maxLen; omega) (Nat.zero_le _)
  have hrun9' : (Instr.makeSlice 31 (.int .i64 256) (.int .i64 256)).run Try.prog w8 = .ok (.slice (some ⟨w8.heap.size, 0, none⟩) 256 256) w9 := hrun9
  clear hrun9
  have hb9 := below_grown0 hgrow9
  have hin9 : In w9 (some ⟨w8.heap.size, 0, none⟩) 256 256 z256 := by
    rw [show (Value.int .u8 0).cells = #[Value.int .u8 0] from rfl, toList_madeCells_one, Nat.mul_one, show List.replicate 256 (Value.int .u8 0) = vals z256 from by simp [vals, z256]] at hown9
    obtain ⟨p', c', hv, hin⟩ := in_of_owns hown9 is_z256.2 (by omega)
    cases hv
    exact hin
  have hq2 := equal_any p8 _ 256 c8 256 256 z256 z256 w9 (hin8.below hb9) hin9
  rw [show (z256 == z256) = true from by simp] at hq2
  clear hown9 hgrow9
  go_wp2_with (first
    | (go_at_call 30; refine hq1.mono ?_; rintro e w' ⟨rfl, hw'⟩; have hw2 := hw'.symm; subst hw2; clear hw' hq1)
    | (go_at_call 30; refine hq2.mono ?_; rintro e w' ⟨rfl, hw'⟩; have hw2 := hw'.symm; subst hw2; clear hw' hq2))
  go_ret
  exact ⟨rfl, bt hB8 hb9⟩
end Go.Proofs.Ytbnnekpglnnneaa

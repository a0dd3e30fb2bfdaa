/-
  What slices.EqualFunc of images, and Same of two disks, answer.
-/
import Derived.Test.YtbnnekpglnnneaaDkRRead
namespace Go.Proofs.Ytbnnekpglnnneaa
open Go.RowKit
set_option linter.unusedSimpArgs false in
set_option maxRecDepth 100000 in
set_option maxHeartbeats 2000000 in
theorem equalFunc_any {w : World} {p q : Option Addr} {n m c d : Nat} {ra rb : List SR} {Da Db : List (List Nat)} (ha : RdB w p n c ra Da) (hb : RdB w q m d rb Db) (hn : n ≤ 100000) :
    Calls Try.prog 50 #[.slice p n c, .slice q m d, .func (.func 30) #[] #[]] w fun e w' => e = .returned (.bool (Da == Db)) ∧ Below w.heap.size w w' := by
  have la := ha.each.len
  have lb := hb.each.len
  have lra := ha.len
  have lrb := hb.len
  by_cases hnm : n = m
  · subst hnm
    have hni : (n : Int) ≤ 100000 := by omega
    have HA : Hid (Da.length = n) := by show _ = _; omega
    have HB : Hid (Db.length = n) := by show _ = _; omega
    clear la lb
    go_enter Try.func50, Try.ntmps50
    go_wp2_with fail
    go_loopw [17] (fun i wr => ∃ k : Nat, k ≤ n ∧ i = .int .i64 (k : Int) ∧ Hid (Da.take k = Db.take k) ∧ Below w.heap.size w wr) (fun i _ => n - (intOf i).toNat)
    case atStart => exact ⟨0, Nat.zero_le _, rfl, by show _ = _; simp, Below.refl _ _⟩
    case round =>
      obtain ⟨k, hk, rfl, hT, hB⟩ := hrel
      by_cases hlt : k < n
      · have hki : (k : Int) < (n : Int) := by omega
        have a1 := ha.below hB
        have b1 := hb.below hB
        obtain ⟨ba, oa, rfl, _, fa⟩ := a1.at' (by omega)
        obtain ⟨bb, ob, rfl, _, fb⟩ := b1.at' (by omega)
        obtain ⟨xa, hxa⟩ : ∃ x, ra[k]? = some x := ⟨_, List.getElem?_eq_getElem (by omega)⟩
        obtain ⟨xb, hxb⟩ : ∃ x, rb[k]? = some x := ⟨_, List.getElem?_eq_getElem (by omega)⟩
        obtain ⟨ya, hya⟩ : ∃ x, Da[k]? = some x := ⟨_, List.getElem?_eq_getElem (by rw [HA.out]; exact hlt)⟩
        obtain ⟨yb, hyb⟩ : ∃ x, Db[k]? = some x := ⟨_, List.getElem?_eq_getElem (by rw [HB.out]; exact hlt)⟩
        have ca := fa k xa hxa
        have cb := fb k xb hxb
        unfold srV at ca cb
        have ia := a1.each.each k xa ya hxa hya
        have ib := b1.each.each k xb yb hxb hyb
        have hq := equal_any xa.p xb.p xa.n xa.c xb.n xb.c ya yb wr ia ib
        have HY : Hid (Da.take (k + 1) = Db.take (k + 1) ↔ ya = yb) := by
          show _ ↔ _
          rw [List.take_add_one, List.take_add_one, hya, hyb, hT.out]
          simp
        have HN : Hid (ya ≠ yb → Da ≠ Db) := by
          intro h e
          rw [e, hyb] at hya
          cases hya
          exact h rfl
        clear fa fb hxa hxb hya hyb a1 b1 ia ib
        by_cases hy : ya = yb
        · have HYY : Hid (Da.take (k + 1) = Db.take (k + 1)) := HY.out.2 hy
          rw [show (ya == yb) = true from by simp [hy]] at hq
          clear HY HN
          go_wp2_with (go_at_call 30; refine hq.mono ?_; rintro e w' ⟨rfl, hw'⟩; have hw2 := hw'.symm; subst hw2; clear hw')
          go_roundw
          case rel => exact ⟨k + 1, by omega, by go_num, HYY, hB⟩
          case measure => simp [intOf]; omega
        · have HDD : Hid ((Da == Db) = false) := beq_eq_false_iff_ne.2 (HN.out hy)
          rw [show (ya == yb) = false from beq_eq_false_iff_ne.2 hy] at hq
          clear HY HN
          go_wp2_with (go_at_call 30; refine hq.mono ?_; rintro e w' ⟨rfl, hw'⟩; have hw2 := hw'.symm; subst hw2; clear hw')
          go_ret
          exact ⟨by rw [HDD.out]; rfl, hB⟩
      · obtain rfl : k = n := by omega
        have hki : ¬ (k : Int) < (k : Int) := by omega
        have e : (Da == Db) = true := by
          have := hT.out
          rw [List.take_of_length_le (by rw [HA.out]; exact Nat.le_refl _), List.take_of_length_le (by rw [HB.out]; exact Nat.le_refl _)] at this
          simpa using this
        go_wp2_with fail
        go_ret
        exact ⟨rfl, hB⟩
  · have e : (Da == Db) = false := by
      rw [beq_eq_false_iff_ne]
      intro e
      rw [e] at la
      omega
    have hni : (n : Int) ≠ (m : Int) := by omega
    rw [e]
    go_enter Try.func50, Try.ntmps50
    go_wp2
    go_ret
    exact ⟨rfl, Below.refl _ _⟩
set_option linter.unusedSimpArgs false in
set_option maxRecDepth 100000 in
theorem same_any {w : World} {d sb d2 sb2 : Nat} {lv lv2 : Value} {s s2 : DS} (h : DiskIn w d sb lv s) (h2 : DiskIn w d2 sb2 lv2 s2) (he : imgE s = 0) (he2 : imgE s2 = 0) :
    Calls Try.prog 27 #[ramI d, ramI d2] w fun e w' => e = .returned (.bool (imgD s == imgD s2)) ∧ Below w.heap.size w w' := by
  have hi1 := image_any h
  rw [he] at hi1
  go_enter Try.func27, Try.ntmps27
  go_wp2_with fail
  refine hi1.mono ?_
  rintro e w6 ⟨b6, (⟨_, v6, rs6, rfl, ow6, ea6, _⟩ | ⟨h, _⟩)⟩
  case inr => exact absurd rfl h
  obtain ⟨p6, c6, rfl, rd6⟩ := rdB_of ow6 ea6
  have hi2 := image_any (h2.below b6)
  rw [he2] at hi2
  go_wp2_with fail
  refine hi2.mono ?_
  rintro e w7 ⟨b7, (⟨_, v7, rs7, rfl, ow7, ea7, _⟩ | ⟨h, _⟩)⟩
  case inr => exact absurd rfl h
  obtain ⟨p7, c7, rfl, rd7⟩ := rdB_of ow7 ea7
  have hl6 : rs6.length ≤ 100000 := by have := ea6.len; rw [imgD, List.length_map, rdL, List.length_map, List.length_range] at this; have := h.n2; omega
  have hsm := equalFunc_any (rd6.below b7) rd7 hl6
  go_wp2_with (go_at_call 50; refine hsm.mono ?_; rintro e w8 ⟨rfl, b8⟩)
  go_ret
  exact ⟨rfl, bt (bt b6 b7) b8⟩
end Go.Proofs.Ytbnnekpglnnneaa

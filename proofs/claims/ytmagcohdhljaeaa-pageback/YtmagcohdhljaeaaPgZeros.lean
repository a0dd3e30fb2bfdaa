/-
  'append(b, make([]byte, m)...)' to bytes that a call owns, and what bytes.Clone answers as such bytes.
-/
import Derived.Test.YtmagcohdhljaeaaPgLift
import Derived.Lib.AppendZeros
namespace Go.Proofs.Ytmagcohdhljaeaa
open Go.RowKit
theorem zeroCells_bytes (m : Nat) : Builtin.zeroCells (Value.int .u8 0).cells m = (vals (List.replicate m 0)).toArray := by
  apply Array.ext'
  rw [List.toList_toArray, Builtin.zeroCells, Array.toList_map, Array.toList_range]
  apply List.ext_getElem?
  intro i
  by_cases hi : i < m
  · have : i % 1 = 0 := Nat.mod_one i
    simp [Value.cells, vals, hi, this]
  · simp [Value.cells, vals, hi]
theorem append_zero {w : World} {B : Nat} {v : Value} {n : Nat} {xs : List Nat} (hown : w.ownsRow B 5 1 v n (vals xs)) : (Builtin.append_ #[24, 3] 24 #[v, .int .i64 0]).run Try.prog w = .ok v w := by
  obtain ⟨i0, hi, hz0, hz1, hz2⟩ := info_parts info5
  have hw0 : IntKind.i64.wrap 0 = 0 := rfl
  rcases hown.2 with ⟨rfl, rfl⟩ | ⟨g, cap, cur, rfl, hbg, hg, hnc, hcm, hcs, htake⟩
  · simp [Builtin.append_, run_underlying Try.underlying24, run_underlying Try.underlying3, sizeOf, typeInfo, hi, asInt, asIntOf, hw0]
  · simp [Builtin.append_, run_underlying Try.underlying24, run_underlying Try.underlying3, sizeOf, typeInfo, hi, asInt, asIntOf, hw0, hnc, storeCells]
theorem append_zeros {w : World} {B : Nat} {v : Value} {n : Nat} {xs : List Nat} (hown : w.ownsRow B 5 1 v n (vals xs)) (m : Nat) (hm : n + m ≤ 1000000) (hB : B ≤ w.heap.size) :
    ∃ v' w', (Builtin.append_ #[24, 3] 24 #[v, .int .i64 (m : Int)]).run Try.prog w = .ok v' w' ∧ w'.ownsRow B 5 1 v' (n + m) (vals (xs ++ List.replicate m 0)) ∧ w.grownBy w' v.ownBlock := by
  obtain ⟨i0, hi, hz0, hz1, hz2⟩ := info_parts info5
  have hxl : (vals xs).length = n := by have := hown.1; simpa using this
  by_cases h0 : m = 0
  · subst h0
    exact ⟨v, w, append_zero hown, by simpa using hown, ⟨rfl, rfl, rfl, Nat.le_refl _, fun _ _ _ => rfl⟩⟩
  have hw : IntKind.i64.wrap (m : Int) = m := by rw [IntKind.wrap_i64]; omega
  have hneg : ¬ ((m : Int) < 0) := by omega
  have hlz : (vals (List.replicate m 0)).length = m := by rw [vals_length, List.length_replicate]
  have h48i : ¬ (281474976710656 < (m : Int) * (i0.bytes : Int)) := by rw [hz2]; omega
  rcases hown.2 with ⟨rfl, rfl⟩ | ⟨g, cap, cur, rfl, hbg, hg, hnc, hcm, hcs, htake⟩
  · have hx : xs = [] := List.eq_nil_of_length_eq_zero (by rw [vals_length] at hxl; exact hxl)
    subst hx
    have hr := Lib.run_append_nil_zeros (P := Try.prog) w 24 3 24 5 i0 _ .i64 .i64 Try.underlying24 Try.underlying3 hi hz0 m (by omega) (by rw [hz1]; decide) (by omega) (by rw [hz2]; omega)
    have hge := grownCap_ge w m 0 5
    have hcm : grownCap w m 0 5 ≤ maxLen := grownCap_le_maxLen w m 0 5 (by unfold maxLen; omega)
    rw [zeroCells_bytes, zeroCells_bytes] at hr
    refine ⟨_, _, hr, ?_, ⟨rfl, rfl, rfl, by simp, fun k hk _ => Below.heap_alloc w.drew _ k hk⟩⟩
    rw [Nat.zero_add, List.nil_append]
    refine ⟨by rw [hlz, Nat.mul_one], .inr ⟨w.heap.size, _, _, rfl, hB, heap_alloc_new w.drew _, hge, hcm, ?_, ?_⟩⟩
    · simp only [Array.size_append, List.size_toArray, vals_length, List.length_replicate, Nat.mul_one]
      omega
    · simp only [Array.toList_append, Nat.mul_one]
      rw [List.take_append_of_le_length (by omega), List.take_of_length_le (by omega)]
  · rw [Nat.mul_one] at hcs htake
    by_cases hroom : n + m ≤ cap
    · have hst := run_storeCells_at Try.prog g n 5 (vals (List.replicate m 0)) 0 cur w hg (by rw [hlz, hcs]; omega) (vals_one _)
      simp only [Nat.add_zero] at hst
      rw [hlz] at hst
      refine ⟨.slice (some ⟨g, 0, none⟩) (n + m) cap, w.setRow g (cur.toList.take n ++ vals (List.replicate m 0) ++ cur.toList.drop (n + m)).toArray, ?_, ?_, ?_⟩
      · simp [Builtin.append_, run_underlying Try.underlying24, run_underlying Try.underlying3, sizeOf, typeInfo, zeroValue, hi, hz0, hz1, asInt, asIntOf, hw, h0, hneg, h48i, hroom, zeroCells_bytes, Addr.add_lit, hst]
      · refine ⟨by rw [vals_append, List.length_append, hxl, hlz, Nat.mul_one], .inr ⟨g, cap, _, rfl, hbg, setRow_heap w g cur _ 5 _ hg, hroom, hcm, ?_, ?_⟩⟩
        · simp only [List.size_toArray, List.length_append, List.length_take, List.length_drop, Array.length_toList, hlz]
          omega
        · rw [htake, vals_append, Nat.mul_one]
          rw [List.take_append_of_le_length (by rw [List.length_append, hxl, hlz]; exact Nat.le_refl _), List.take_of_length_le (by rw [List.length_append, hxl, hlz]; exact Nat.le_refl _)]
      · exact ⟨rfl, rfl, rfl, by simp, fun k _ hk => setRow_other w g k _ (fun e => hk (by simp [Value.ownBlock, e]))⟩
    · have holds : ∀ j u, (vals xs)[j]? = some u → w.cell? ((⟨g, 0, none⟩ : Addr).add j) = some u := hown.cells (g := g) rfl
      have hfo := run_firstCells_some (P := Try.prog) w.drew 1 n ⟨g, 0, none⟩ n cap (vals xs) (by rw [hxl, Nat.mul_one]) (by simpa using holds)
      have h63' : ¬ (9223372036854775807 < ((n : Int) + (m : Int))) := by omega
      have h48' : ¬ (281474976710656 < Builtin.nextslicecap (n + m) cap * i0.bytes) := by have := growslice_fits (need := n + m) (old := cap) (bytes := 1) (by omega) (by omega); rw [hz2]; omega
      have hge := grownCap_ge w (n + m) cap 5
      have hcm' : grownCap w (n + m) cap 5 ≤ maxLen := grownCap_le_maxLen w (n + m) cap 5 (by unfold maxLen; omega)
      refine ⟨.slice (some ⟨w.heap.size, 0, none⟩) (n + m) (grownCap w (n + m) cap 5), w.drew.alloc (.cells ((vals xs).toArray ++ (vals (List.replicate m 0)).toArray ++ (vals (List.replicate (grownCap w (n + m) cap 5 - (n + m)) 0)).toArray) 5), ?_, ?_, ⟨rfl, rfl, rfl, by simp, fun k hk _ => Below.heap_alloc w.drew _ k hk⟩⟩
      · simp [Builtin.append_, run_underlying Try.underlying24, run_underlying Try.underlying3, sizeOf, typeInfo, zeroValue, hi, hz0, hz1, asInt, asIntOf, hw, h0, hneg, h48i, hroom, h63', h48', Question.forced, hfo, zeroCells_bytes, newRow, grownCap]
      · refine ⟨by rw [vals_append, List.length_append, hxl, hlz, Nat.mul_one], .inr ⟨w.heap.size, _, _, rfl, hB, heap_alloc_new w.drew _, hge, hcm', ?_, ?_⟩⟩
        · simp only [Array.size_append, List.size_toArray, hxl, vals_length, List.length_replicate, Nat.mul_one]
          omega
        · simp only [Array.toList_append, Nat.mul_one]
          rw [vals_append, List.take_append_of_le_length (by rw [List.length_append, hxl, hlz]; exact Nat.le_refl _), List.take_of_length_le (by rw [List.length_append, hxl, hlz]; exact Nat.le_refl _)]
theorem clone_owns (p : Option Addr) (n c : Nat) (xs : List Nat) (w : World) (hx : In w p n c xs) :
    Calls Try.prog 26 #[.slice p n c] w fun e w' => ∃ v, e = .returned v ∧ w'.ownsRow w.heap.size 5 1 v n (vals xs) ∧ Below w.heap.size w w' := by
  have hroom := hx.room
  have HX : Hid (xs.length = n) := hx.len
  obtain ⟨i0, hi, hz0, hz1, hz2⟩ := info_parts info5
  have hq := fun (w : World) => Lib.run_eql_slice_nil (P := Try.prog) w 24 5 p n c 0 0 Try.underlying24
  cases p with
  | none =>
    have h1 := hx.nil rfl
    have h2 := hx.cap
    have h3 : n = 0 := by omega
    subst h1
    subst h3
    have h4 : xs = [] := List.eq_nil_of_length_eq_zero HX.out
    subst h4
    go_enter Try.func26, Try.ntmps26
    go_wp2
    go_ret
    exact ⟨_, rfl, World.ownsRow_nil _ _ _ _, Below.refl _ _⟩
  | some a =>
    have ho := World.ownsRow_lit (e := 5) (size := 1) (base := w.heap.size) w #[] 0 (Nat.le_refl _) (by unfold maxLen; omega) (by simp)
    have HO : Hid ((w.alloc (.cells #[] 5)).ownsRow w.heap.size 5 1 (.slice (some ⟨w.heap.size, 0, none⟩) 0 0) 0 []) := ho
    clear ho
    go_enter Try.func26, Try.ntmps26
    go_wp2_with (at_builtin; refine wpList_append_own _ rfl (.tmp 5) (.tmp 6) 24 rfl w.heap.size 5 i0 (.int .u8 0) 1 1 Try.underlying24 hi hz0 hz1 hz2 rfl (by decide) (.slice (some ⟨w.heap.size, 0, none⟩) 0 0) 0 [] rfl HO.out a n c (vals xs) rfl (by rw [vals_length, HX.out, Nat.mul_one]) ((hx.below (below_alloc _ _)).cells rfl) (vals_one xs) (by unfold maxLen; omega) (by omega) (by simp) ?_; intro v1 w1 hown1 hgrow1 _)
    go_ret
    rw [List.nil_append, Nat.zero_add] at hown1
    exact ⟨_, rfl, hown1, (below_alloc w _).grown hgrow1 (by simp) (fun k hk => by simp [Value.ownBlock] at hk; omega)⟩
end Go.Proofs.Ytmagcohdhljaeaa

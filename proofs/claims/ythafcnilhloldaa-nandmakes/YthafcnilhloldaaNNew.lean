/-
  What New makes.
-/
import Derived.Test.YthafcnilhloldaaNProg2
namespace Go.Proofs.Ythafcnilhloldaa
open Go.RowKit Go.Shelf
/-- Which chips there can be. -/
def GeoOk (nb np : Int) : Prop := 16 ≤ nb ∧ nb ≤ 256 ∧ 4 ≤ np ∧ np ≤ 32 ∧ nb ≤ 16 * np
theorem geoOk_dec (nb np : Int) : GeoOk nb np ∨ ¬ GeoOk nb np := by unfold GeoOk; omega
open Classical in
theorem mayBe_any (nb np : Int) (w : World) : Calls Try.prog 28 #[.agg #[.int .i64 nb, .int .i64 np]] w fun e w' => e = .returned (.bool (decide (GeoOk nb np))) ∧ Below w.heap.size w w' := by
  by_cases h1 : 16 ≤ nb
  · by_cases h2 : nb ≤ 256
    · by_cases h3 : 4 ≤ np
      · by_cases h4 : np ≤ 32
        · by_cases h5 : nb ≤ 16 * np
          · have e : decide (GeoOk nb np) = true := by unfold GeoOk; simp; omega
            rw [e]
            clear e
            go_enter Try.func28, Try.ntmps28
            go_wp2
            go_ret
            exact ⟨rfl, below_alloc _ _⟩
          · have e : decide (GeoOk nb np) = false := by unfold GeoOk; simp; omega
            rw [e]
            clear e
            go_enter Try.func28, Try.ntmps28
            go_wp2
            go_ret
            exact ⟨rfl, below_alloc _ _⟩
        · have e : decide (GeoOk nb np) = false := by unfold GeoOk; simp; omega
          rw [e]
          clear e
          go_enter Try.func28, Try.ntmps28
          go_wp2
          go_ret
          exact ⟨rfl, below_alloc _ _⟩
      · have e : decide (GeoOk nb np) = false := by unfold GeoOk; simp; omega
        rw [e]
        clear e
        go_enter Try.func28, Try.ntmps28
        go_wp2
        go_ret
        exact ⟨rfl, below_alloc _ _⟩
    · have e : decide (GeoOk nb np) = false := by unfold GeoOk; simp; omega
      rw [e]
      clear e
      go_enter Try.func28, Try.ntmps28
      go_wp2
      go_ret
      exact ⟨rfl, below_alloc _ _⟩
  · have e : decide (GeoOk nb np) = false := by unfold GeoOk; simp; omega
    rw [e]
    clear e
    go_enter Try.func28, Try.ntmps28
    go_wp2
    go_ret
    exact ⟨rfl, below_alloc _ _⟩
/-- A clone of bytes lies in a block of its own. -/
theorem clone_new (p : Option Addr) (n c : Nat) (xs : List Nat) (w : World) (hx : In w p n c xs) :
    Calls Try.prog 52 #[.slice p n c] w fun e w' => ∃ p' c', e = .returned (.slice p' n c') ∧ In w' p' n c' xs ∧ Below w.heap.size w w' ∧ ∀ a, 0 < n → p' = some a → w.heap.size ≤ a.block := by
  have hroom := hx.room
  have HX : Hid (xs.length = n) := hx.len
  obtain ⟨i0, hi, hz0, hz1, hz2⟩ := info_parts info5
  have hq := fun (w : World) => Lib.run_eql_slice_nil (P := Try.prog) w 70 5 p n c 0 0 Try.underlying70
  cases p with
  | none =>
    have h1 := hx.nil rfl
    have h2 := hx.cap
    have h3 : n = 0 := by omega
    subst h1
    subst h3
    go_enter Try.func52, Try.ntmps52
    go_wp2
    go_ret
    exact ⟨_, _, rfl, hx, Below.refl _ _, fun a h0 => by omega⟩
  | some a =>
    have ho := World.ownsRow_lit (e := 5) (size := 1) (base := w.heap.size) w #[] 0 (Nat.le_refl _) (by unfold maxLen; omega) (by simp)
    have HO : Hid ((w.alloc (.cells #[] 5)).ownsRow w.heap.size 5 1 (.slice (some ⟨w.heap.size, 0, none⟩) 0 0) 0 []) := ho
    clear ho
    go_enter Try.func52, Try.ntmps52
    go_wp2_with (at_builtin; refine wpList_append_own _ rfl (.tmp 5) (.tmp 6) 70 rfl w.heap.size 5 i0 (.int .u8 0) 1 1 Try.underlying70 hi hz0 hz1 hz2 rfl (by decide) (.slice (some ⟨w.heap.size, 0, none⟩) 0 0) 0 [] rfl HO.out a n c (vals xs) rfl (by rw [vals_length, HX.out, Nat.mul_one]) ((hx.below (below_alloc _ _)).cells rfl) (vals_one xs) (by unfold maxLen; omega) (by omega) (by simp) ?_; intro v1 w1 hown1 hgrow1 _)
    go_ret
    rw [List.nil_append, Nat.zero_add] at hown1
    have hlt := hown1.lt
    obtain ⟨p', c', hv, hin⟩ := in_of_owns hown1 hx.byte hroom
    refine ⟨p', c', congrArg Ending.returned hv, hin, (below_alloc w _).grown hgrow1 (by simp) (fun k hk => by simp [Value.ownBlock] at hk; omega), fun a' h0 ha => ?_⟩
    subst ha
    exact (hlt a'.block (by rw [hv]; rfl)).1
end Go.Proofs.Ythafcnilhloldaa

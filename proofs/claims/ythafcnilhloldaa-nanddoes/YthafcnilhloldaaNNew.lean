/-
  What New makes.
-/
import Derived.Test.YthafcnilhloldaaNProg2
namespace Go.Proofs.Ythafcnilhloldaa
open Go.RowKit Go.Shelf
/-- Which chips there can be. -/
def GeoOk (nb np : Int) : Prop := 16 ≤ nb ∧ nb ≤ 256 ∧ 4 ≤ np ∧ np ≤ 32 ∧ nb ≤ 16 * np
theorem geoOk_dec (nb np : Int) : GeoOk nb np ∨ ¬ GeoOk nb np := by unfold GeoOk; omega
open Classical in
theorem mayBe_any (nb np : Int) (w : World) : Calls Try.prog 28 #[.agg #[.int .i64 nb, .int .i64 np]] w fun e w' => e = .returned (.bool (decide (GeoOk nb np))) ∧ Below w.heap.size w w' := by
  by_cases h1 : 16 ≤ nb
  · by_cases h2 : nb ≤ 256
    · by_cases h3 : 4 ≤ np
      · by_cases h4 : np ≤ 32
        · by_cases h5 : nb ≤ 16 * np
          · have e : decide (GeoOk nb np) = true := by unfold GeoOk; simp; omega
            rw [e]
            clear e
            go_enter Try.func28, Try.ntmps28
            go_wp2
            go_ret
            exact ⟨rfl, below_alloc _ _⟩
          · have e : decide (GeoOk nb np) = false := by unfold GeoOk; simp; omega
            rw [e]
            clear e
            go_enter Try.func28, Try.ntmps28
            go_wp2
            go_ret
            exact ⟨rfl, below_alloc _ _⟩
        · have e : decide (GeoOk nb np) = false := by unfold GeoOk; simp; omega
          rw [e]
          clear e
          go_enter Try.func28, Try.ntmps28
          go_wp2
          go_ret
          exact ⟨rfl, below_alloc _ _⟩
      · have e : decide (GeoOk nb np) = false := by unfold GeoOk; simp; omega
        rw [e]
        clear e
        go_enter Try.func28, Try.ntmps28
        go_wp2
        go_ret
        exact ⟨rfl, below_alloc _ _⟩
    · have e : decide (GeoOk nb np) = false := by unfold GeoOk; simp; omega
      rw [e]
      clear e
      go_enter Try.func28, Try.ntmps28
      go_wp2
      go_ret
      exact ⟨rfl, below_alloc _ _⟩
  · have e : decide (GeoOk nb np) = false := by unfold GeoOk; simp; omega
    rw [e]
    clear e
    go_enter Try.func28, Try.ntmps28
    go_wp2
    go_ret
    exact ⟨rfl, below_alloc _ _⟩
/-- A clone of bytes lies in a block of its own. -/
theorem clone_new (p : Option Addr) (n c : Nat) (xs : List Nat) (w : World) (hx : In w p n c xs) :
    Calls Try.prog 52 #[.slice p n c] w fun e w' => ∃ p' c', e = .returned (.slice p' n c') ∧ In w' p' n c' xs ∧ Below w.heap.size w w' ∧ ∀ a, 0 < n → p' = some a → w.heap.size ≤ a.block := by
  have hroom := hx.room
  have HX : Hid (xs.length = n) := hx.len
  obtain ⟨i0, hi, hz0, hz1, hz2⟩ := info_parts info5
  have hq := fun (w : World) => Lib.run_eql_slice_nil (P := Try.prog) w 70 5 p n c 0 0 Try.underlying70
  cases p with
  | none =>
    have h1 := hx.nil rfl
    have h2 := hx.cap
    have h3 : n = 0 := by omega
    subst h1
    subst h3
    go_enter Try.func52, Try.ntmps52
    go_wp2
    go_ret
    exact ⟨_, _, rfl, hx, Below.refl _ _, fun a h0 => by omega⟩
  | some a =>
    have ho := World.ownsRow_lit (e := 5) (size := 1) (base := w.heap.size) w #[] 0 (Nat.le_refl _) (by unfold maxLen; omega) (by simp)
    have HO : Hid ((w.alloc (.cells #[] 5)).ownsRow w.heap.size 5 1 (.slice (some ⟨w.heap.size, 0, none⟩) 0 0) 0 []) := ho
    clear ho
    go_enter Try.func52, Try.ntmps52
    go_wp2_with (at_builtin; refine wpList_append_own _ rfl (.tmp 5) (.tmp 6) 70 rfl w.heap.size 5 i0 (.int .u8 0) 1 1 Try.underlying70 hi hz0 hz1 hz2 rfl (by decide) (.slice (some ⟨w.heap.size, 0, none⟩) 0 0) 0 [] rfl HO.out a n c (vals xs) rfl (by rw [vals_length, HX.out, Nat.mul_one]) ((hx.below (below_alloc _ _)).cells rfl) (vals_one xs) (by unfold maxLen; omega) (by omega) (by simp) ?_; intro v1 w1 hown1 hgrow1 _)
    go_ret
    rw [List.nil_append, Nat.zero_add] at hown1
    have hlt := hown1.lt
    obtain ⟨p', c', hv, hin⟩ := in_of_owns hown1 hx.byte hroom
    refine ⟨p', c', congrArg Ending.returned hv, hin, (below_alloc w _).grown hgrow1 (by simp) (fun k hk => by simp [Value.ownBlock] at hk; omega), fun a' h0 ha => ?_⟩
    subst ha
    exact (hlt a'.block (by rw [hv]; rfl)).1
end Go.Proofs.Ythafcnilhloldaa

namespace Go.Proofs.Ythafcnilhloldaa
open Go.RowKit
theorem sizeOf5' (w : World) : (sizeOf 5).run Try.prog w = .ok 1 w := by
  simp [Try.sizeOf5]
theorem part5 (xs : List Nat) (i : Nat) (h : i < xs.length) (w : World) : (part 5 (vals xs).toArray (i * 1)).run Try.prog w = .ok (.int .u8 (el xs i)) w := by
  have hg := vals_get xs i h
  simp [part, Try.isAgg5, hg]
theorem eq_loop (w : World) (d n : Nat) (xs ys : List Nat) (hx : xs.length = n) (hy : ys.length = n) : ∀ m k, k + m = n →
    (forIn (m := Sem) (List.range' k m) ((none : Option Bool), ()) fun i __s => do
            let a ← part 5 (vals xs).toArray (i * 1)
            let b ← part 5 (vals ys).toArray (i * 1)
            let r ← Op.equalIn (d + 1) 5 a b
            if (!r) = true then pure (ForInStep.done (some false, ())) else pure (ForInStep.yield (none, ()))).run Try.prog w = .ok ((if xs.drop k = ys.drop k then none else some false), ()) w
  | 0, k, h => by
    rw [List.drop_of_length_le (by omega), List.drop_of_length_le (by omega)]
    simp
  | m + 1, k, h => by
    have hkx : k < xs.length := by omega
    have hky : k < ys.length := by omega
    rw [List.range'_succ]
    simp only [List.forIn_cons, Sem.run_bind, part5 xs k hkx, part5 ys k hky, Result.andThen_ok, run_equalIn_int w d 5 .u8 .u8 _ _ Try.underlying5]
    have e : (el xs k == el ys k) = decide (xs[k] = ys[k]) := by
      simp only [el, List.getD_eq_getElem?_getD, List.getElem?_eq_getElem hkx, List.getElem?_eq_getElem hky, Option.getD_some]
      by_cases hh : xs[k] = ys[k]
      · simp [hh]
      · simp [hh]; omega
    have ed : (xs.drop k = ys.drop k) = (xs[k] = ys[k] ∧ xs.drop (k + 1) = ys.drop (k + 1)) := by
      rw [List.drop_eq_getElem_cons hkx, List.drop_eq_getElem_cons hky, List.cons.injEq]
    rw [e]
    simp only [ed]
    by_cases hh : xs[k] = ys[k]
    · simp only [hh, decide_true, Bool.not_true, Bool.false_eq_true, if_false, Sem.run_pure, Result.andThen_ok, true_and]
      exact eq_loop w d n xs ys hx hy m (k + 1) (by omega)
    · simp only [hh, decide_false, Bool.not_false, if_true, Sem.run_pure, Result.andThen_ok, false_and, if_false]
theorem run_equalIn_bytes (w : World) (d : Nat) (t : TypeId) (n : Nat) (xs ys : List Nat) (ht : Try.prog.underlying t = some (.array n 5)) (hx : xs.length = n) (hy : ys.length = n) :
    (Op.equalIn (d + 1 + 1) t (.agg (vals xs).toArray) (.agg (vals ys).toArray)).run Try.prog w = .ok (xs == ys) w := by
  rw [Op.equalIn]
  simp only [Sem.run_bind, run_underlying ht, Result.andThen_ok, sizeOf5', Std.Legacy.Range.forIn_eq_forIn_range', Std.Legacy.Range.size]
  rw [show (n - 0 + 1 - 1) / 1 = n from by omega, eq_loop w d n xs ys hx hy n 0 (by omega)]
  simp only [Result.andThen_ok, List.drop_zero]
  by_cases hh : xs = ys
  · simp [hh]
  · simp [hh]
theorem run_equalIn_page (w : World) (xs ys : List Nat) (hx : xs.length = 288) (hy : ys.length = 288) :
    (Op.equalIn 10000 46 (.agg (vals xs).toArray) (.agg (vals ys).toArray)).run Try.prog w = .ok (xs == ys) w := by
  rw [run_equalIn_struct w 9999 46 _ _ (by rw [Program.fieldsOf, Try.underlying46]) (by kernel_rfl)]
  have hf : (Try.prog.fieldsOf 46).toList.map (fun f => (f.name, f.type, f.offset)) = [("Data", 43, 0), ("Oob", 44, 256)] := by kernel_rfl
  generalize (Try.prog.fieldsOf 46).toList = fs at hf
  have hlen : fs.length = 2 := by simpa using congrArg List.length hf
  obtain ⟨f, g, rfl⟩ : ∃ f g, fs = [f, g] := by
    match fs, hlen with
    | [f, g], _ => exact ⟨f, g, rfl⟩
  · clear hlen
    simp only [List.map_cons, List.map_nil, List.cons.injEq, Prod.mk.injEq, and_true] at hf
    obtain ⟨⟨f1, f2, f3⟩, g1, g2, g3⟩ := hf
    have pD : ∀ (zs : List Nat), (part 43 (vals zs).toArray 0).run Try.prog w = .ok (.agg (vals (zs.take 256)).toArray) w := fun zs => by
      simp [part, Try.isAgg43, Try.sizeOf43]
      rw [vals_take]
    have pO : ∀ (zs : List Nat), (part 44 (vals zs).toArray 256).run Try.prog w = .ok (.agg (vals ((zs.drop 256).take 32)).toArray) w := fun zs => by
      simp [part, Try.isAgg44, Try.sizeOf44]
      rw [vals_take, vals_drop]
    have qD := run_equalIn_bytes w 9997 43 256 (xs.take 256) (ys.take 256) Try.underlying43 (by rw [List.length_take, hx]; rfl) (by rw [List.length_take, hy]; rfl)
    have qO := run_equalIn_bytes w 9997 44 32 ((xs.drop 256).take 32) ((ys.drop 256).take 32) Try.underlying44 (by rw [List.length_take, List.length_drop, hx]; rfl) (by rw [List.length_take, List.length_drop, hy]; rfl)
    have e : (xs == ys) = ((xs.take 256 == ys.take 256) && ((xs.drop 256).take 32 == (ys.drop 256).take 32)) := by
      have hxd : (xs.drop 256).take 32 = xs.drop 256 := List.take_of_length_le (by rw [List.length_drop, hx]; decide)
      have hyd : (ys.drop 256).take 32 = ys.drop 256 := List.take_of_length_le (by rw [List.length_drop, hy]; decide)
      rw [hxd, hyd]
      apply Bool.eq_iff_iff.2
      simp only [beq_iff_eq, Bool.and_eq_true]
      exact ⟨fun h => by rw [h]; exact ⟨rfl, rfl⟩, fun ⟨a, b⟩ => by rw [← List.take_append_drop 256 xs, ← List.take_append_drop 256 ys, a, b]⟩
    have qD' : (Op.equalIn 9999 43 (.agg (vals (xs.take 256)).toArray) (.agg (vals (ys.take 256)).toArray)).run Try.prog w = .ok (xs.take 256 == ys.take 256) w := qD
    have qO' : (Op.equalIn 9999 44 (.agg (vals ((xs.drop 256).take 32)).toArray) (.agg (vals ((ys.drop 256).take 32)).toArray)).run Try.prog w = .ok ((xs.drop 256).take 32 == (ys.drop 256).take 32) w := qO
    clear qD qO
    generalize 9999 = dd at qD' qO' ⊢
    have n1 : f.name ≠ "_" := by rw [f1]; decide
    have n2 : g.name ≠ "_" := by rw [g1]; decide
    rw [Op.eqFields, if_pos n1, f2, f3, Sem.run_bind, pD, Result.andThen_ok, Sem.run_bind, pD, Result.andThen_ok, Sem.run_bind, qD', Result.andThen_ok, e]
    cases hq : (xs.take 256 == ys.take 256) with
    | false => simp
    | true =>
      rw [if_neg (by simp), Op.eqFields, if_pos n2, g2, g3, Sem.run_bind, pO, Result.andThen_ok, Sem.run_bind, pO, Result.andThen_ok, Sem.run_bind, qO', Result.andThen_ok, Bool.true_and]
      cases (xs.drop 256).take 32 == (ys.drop 256).take 32
      · rfl
      · rfl
end Go.Proofs.Ythafcnilhloldaa

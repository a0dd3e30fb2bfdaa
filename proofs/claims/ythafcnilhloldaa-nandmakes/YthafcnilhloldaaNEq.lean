/-
  Two pages held against each other.
-/
import Derived.Test.YthafcnilhloldaaNNew
namespace Go.Proofs.Ythafcnilhloldaa
open Go.RowKit
theorem sizeOf5' (w : World) : (sizeOf 5).run Try.prog w = .ok 1 w := by
  simp [Try.sizeOf5]
theorem part5 (xs : List Nat) (i : Nat) (h : i < xs.length) (w : World) : (part 5 (vals xs).toArray (i * 1)).run Try.prog w = .ok (.int .u8 (el xs i)) w := by
  have hg := vals_get xs i h
  simp [part, Try.isAgg5, hg]
theorem eq_loop (w : World) (d n : Nat) (xs ys : List Nat) (hx : xs.length = n) (hy : ys.length = n) : ∀ m k, k + m = n →
    (forIn (m := Sem) (List.range' k m) ((none : Option Bool), ()) fun i __s => do
            let a ← part 5 (vals xs).toArray (i * 1)
            let b ← part 5 (vals ys).toArray (i * 1)
            let r ← Op.equalIn (d + 1) 5 a b
            if (!r) = true then pure (ForInStep.done (some false, ())) else pure (ForInStep.yield (none, ()))).run Try.prog w = .ok ((if xs.drop k = ys.drop k then none else some false), ()) w
  | 0, k, h => by
    rw [List.drop_of_length_le (by omega), List.drop_of_length_le (by omega)]
    simp
  | m + 1, k, h => by
    have hkx : k < xs.length := by omega
    have hky : k < ys.length := by omega
    rw [List.range'_succ]
    simp only [List.forIn_cons, Sem.run_bind, part5 xs k hkx, part5 ys k hky, Result.andThen_ok, run_equalIn_int w d 5 .u8 .u8 _ _ Try.underlying5]
    have e : (el xs k == el ys k) = decide (xs[k] = ys[k]) := by
      simp only [el, List.getD_eq_getElem?_getD, List.getElem?_eq_getElem hkx, List.getElem?_eq_getElem hky, Option.getD_some]
      by_cases hh : xs[k] = ys[k]
      · simp [hh]
      · simp [hh]; omega
    have ed : (xs.drop k = ys.drop k) = (xs[k] = ys[k] ∧ xs.drop (k + 1) = ys.drop (k + 1)) := by
      rw [List.drop_eq_getElem_cons hkx, List.drop_eq_getElem_cons hky, List.cons.injEq]
    rw [e]
    simp only [ed]
    by_cases hh : xs[k] = ys[k]
    · simp only [hh, decide_true, Bool.not_true, Bool.false_eq_true, if_false, Sem.run_pure, Result.andThen_ok, true_and]
      exact eq_loop w d n xs ys hx hy m (k + 1) (by omega)
    · simp only [hh, decide_false, Bool.not_false, if_true, Sem.run_pure, Result.andThen_ok, false_and, if_false]
theorem run_equalIn_bytes (w : World) (d : Nat) (t : TypeId) (n : Nat) (xs ys : List Nat) (ht : Try.prog.underlying t = some (.array n 5)) (hx : xs.length = n) (hy : ys.length = n) :
    (Op.equalIn (d + 1 + 1) t (.agg (vals xs).toArray) (.agg (vals ys).toArray)).run Try.prog w = .ok (xs == ys) w := by
  rw [Op.equalIn]
  simp only [Sem.run_bind, run_underlying ht, Result.andThen_ok, sizeOf5', Std.Legacy.Range.forIn_eq_forIn_range', Std.Legacy.Range.size]
  rw [show (n - 0 + 1 - 1) / 1 = n from by omega, eq_loop w d n xs ys hx hy n 0 (by omega)]
  simp only [Result.andThen_ok, List.drop_zero]
  by_cases hh : xs = ys
  · simp [hh]
  · simp [hh]
theorem run_equalIn_page (w : World) (xs ys : List Nat) (hx : xs.length = 288) (hy : ys.length = 288) :
    (Op.equalIn 10000 46 (.agg (vals xs).toArray) (.agg (vals ys).toArray)).run Try.prog w = .ok (xs == ys) w := by
  rw [run_equalIn_struct w 9999 46 _ _ (by rw [Program.fieldsOf, Try.underlying46]) (by kernel_rfl)]
  have hf : (Try.prog.fieldsOf 46).toList.map (fun f => (f.name, f.type, f.offset)) = [("Data", 43, 0), ("Oob", 44, 256)] := by kernel_rfl
  generalize (Try.prog.fieldsOf 46).toList = fs at hf
  have hlen : fs.length = 2 := by simpa using congrArg List.length hf
  obtain ⟨f, g, rfl⟩ : ∃ f g, fs = [f, g] := by
    match fs, hlen with
    | [f, g], _ => exact ⟨f, g, rfl⟩
  · clear hlen
    simp only [List.map_cons, List.map_nil, List.cons.injEq, Prod.mk.injEq, and_true] at hf
    obtain ⟨⟨f1, f2, f3⟩, g1, g2, g3⟩ := hf
    have pD : ∀ (zs : List Nat), (part 43 (vals zs).toArray 0).run Try.prog w = .ok (.agg (vals (zs.take 256)).toArray) w := fun zs => by
      simp [part, Try.isAgg43, Try.sizeOf43]
      rw [vals_take]
    have pO : ∀ (zs : List Nat), (part 44 (vals zs).toArray 256).run Try.prog w = .ok (.agg (vals ((zs.drop 256).take 32)).toArray) w := fun zs => by
      simp [part, Try.isAgg44, Try.sizeOf44]
      rw [vals_take, vals_drop]
    have qD := run_equalIn_bytes w 9997 43 256 (xs.take 256) (ys.take 256) Try.underlying43 (by rw [List.length_take, hx]; rfl) (by rw [List.length_take, hy]; rfl)
    have qO := run_equalIn_bytes w 9997 44 32 ((xs.drop 256).take 32) ((ys.drop 256).take 32) Try.underlying44 (by rw [List.length_take, List.length_drop, hx]; rfl) (by rw [List.length_take, List.length_drop, hy]; rfl)
    have e : (xs == ys) = ((xs.take 256 == ys.take 256) && ((xs.drop 256).take 32 == (ys.drop 256).take 32)) := by
      have hxd : (xs.drop 256).take 32 = xs.drop 256 := List.take_of_length_le (by rw [List.length_drop, hx]; decide)
      have hyd : (ys.drop 256).take 32 = ys.drop 256 := List.take_of_length_le (by rw [List.length_drop, hy]; decide)
      rw [hxd, hyd]
      apply Bool.eq_iff_iff.2
      simp only [beq_iff_eq, Bool.and_eq_true]
      exact ⟨fun h => by rw [h]; exact ⟨rfl, rfl⟩, fun ⟨a, b⟩ => by rw [← List.take_append_drop 256 xs, ← List.take_append_drop 256 ys, a, b]⟩
    have qD' : (Op.equalIn 9999 43 (.agg (vals (xs.take 256)).toArray) (.agg (vals (ys.take 256)).toArray)).run Try.prog w = .ok (xs.take 256 == ys.take 256) w := qD
    have qO' : (Op.equalIn 9999 44 (.agg (vals ((xs.drop 256).take 32)).toArray) (.agg (vals ((ys.drop 256).take 32)).toArray)).run Try.prog w = .ok ((xs.drop 256).take 32 == (ys.drop 256).take 32) w := qO
    clear qD qO
    generalize 9999 = dd at qD' qO' ⊢
    have n1 : f.name ≠ "_" := by rw [f1]; decide
    have n2 : g.name ≠ "_" := by rw [g1]; decide
    rw [Op.eqFields, if_pos n1, f2, f3, Sem.run_bind, pD, Result.andThen_ok, Sem.run_bind, pD, Result.andThen_ok, Sem.run_bind, qD', Result.andThen_ok, e]
    cases hq : (xs.take 256 == ys.take 256) with
    | false => simp
    | true =>
      rw [if_neg (by simp), Op.eqFields, if_pos n2, g2, g3, Sem.run_bind, pO, Result.andThen_ok, Sem.run_bind, pO, Result.andThen_ok, Sem.run_bind, qO', Result.andThen_ok, Bool.true_and]
      cases (xs.drop 256).take 32 == (ys.drop 256).take 32
      · rfl
      · rfl
end Go.Proofs.Ythafcnilhloldaa

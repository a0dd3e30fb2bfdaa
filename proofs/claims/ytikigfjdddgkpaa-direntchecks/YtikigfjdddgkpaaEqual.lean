/-
  What bytes.Equal answers.
-/
import Derived.Test.YtikigfjdddgkpaaBase
import Derived.Lib.Bytes
namespace Go.Proofs.Ytikigfjdddgkpaa
open Go.RowKit
theorem conv_zero {P : Program} (w : World) (src e : TypeId) (hs : P.underlying src = some (.slice e)) (he : P.underlying e = some (.int .u8)) (p : Option Addr) (c : Nat) :
    ∀ dst, P.underlying dst = some .string → (convert src dst (.slice p 0 c)).run P w = .ok (.string (strOfNums [])) w := by
  intro dst hd
  rw [run_convert_bytes_string w src dst e _ 0 c hs he hd]
  cases p <;> simp [Conv.bytesToString, loadCells]
  all_goals rfl
theorem getD_cast (xs : List Nat) (i : Nat) : (xs.map (fun x : Nat => (x : Int))).getD i 0 = el xs i := by
  unfold el
  by_cases h : i < xs.length <;> simp [h]
theorem conv_in {w : World} {p : Option Addr} {n c : Nat} {xs : List Nat} (h : In w p n c xs) :
    (convert 22 9 (.slice p n c)).run Try.prog w = .ok (.string (strOfNums (xs.map fun x : Nat => (x : Int)))) w := by
  rcases Nat.eq_zero_or_pos n with hn | hn
  · subst hn
    have : xs = [] := List.eq_nil_of_length_eq_zero h.len
    subst this
    exact conv_zero w 22 5 Try.underlying22 Try.underlying5 p c 9 Try.underlying9
  · obtain ⟨b, o, rfl, _, hc⟩ := h.at' hn
    exact run_convert_bytes_arg (P := Try.prog) w 22 5 Try.underlying22 Try.underlying5 b o n c _ (by simpa using h.len) (fun i hi => by rw [getD_cast]; exact hc i hi) 9 Try.underlying9
theorem str_list (l : List Nat) : (strOfNums (l.map fun x : Nat => (x : Int))).toList = l.map fun x : Nat => UInt8.ofNat x := by
  rw [Lib.strOfNums_toList]; simp [Lib.bytesOf, Function.comp_def]
theorem ofNat_inj : ∀ {xs ys : List Nat}, (∀ x ∈ xs, x < 256) → (∀ x ∈ ys, x < 256) → xs.map (fun x : Nat => UInt8.ofNat x) = ys.map (fun x : Nat => UInt8.ofNat x) → xs = ys
  | [], [], _, _, _ => rfl
  | [], y :: ys, _, _, h => by simp at h
  | x :: xs, [], _, _, h => by simp at h
  | x :: xs, y :: ys, hx, hy, h => by
    simp only [List.map_cons, List.cons.injEq] at h
    have hX := hx x (by simp)
    have hY := hy y (by simp)
    have e := congrArg UInt8.toNat h.1
    simp only [UInt8.toNat_ofNat'] at e
    have : x = y := by omega
    rw [this, ofNat_inj (fun z hz => hx z (by simp [hz])) (fun z hz => hy z (by simp [hz])) h.2]
theorem str_eq {xs ys : List Nat} (hx : ∀ x ∈ xs, x < 256) (hy : ∀ x ∈ ys, x < 256) :
    ((strOfNums (xs.map fun x : Nat => (x : Int))).toList == (strOfNums (ys.map fun x : Nat => (x : Int))).toList) = (xs == ys) := by
  rw [str_list, str_list]
  by_cases h : xs = ys
  · subst h; simp
  · have : ¬ (xs.map fun x : Nat => UInt8.ofNat x) = ys.map fun x : Nat => UInt8.ofNat x := fun e => h (ofNat_inj hx hy e)
    rw [beq_eq_false_iff_ne.2 h, beq_eq_false_iff_ne.2 this]
theorem equal_any (p q : Option Addr) (n c m d : Nat) (xs ys : List Nat) (w : World) (hx : In w p n c xs) (hy : In w q m d ys) :
    Calls Try.prog 17 #[.slice p n c, .slice q m d] w fun e w' => e = .returned (.bool (xs == ys)) ∧ w' = w := by
  have h1 := conv_in hx
  have h2 := conv_in hy
  go_enter Try.func17, Try.ntmps17
  go_wp2
  go_ret
  refine ⟨?_, rfl⟩
  exact ret_bool (str_eq hx.byte hy.byte)
end Go.Proofs.Ytikigfjdddgkpaa

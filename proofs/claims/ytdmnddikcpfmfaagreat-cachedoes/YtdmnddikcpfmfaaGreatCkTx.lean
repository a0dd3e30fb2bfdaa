/-
  One call of the law whatever its kind; both caches the same whatever is pinned.
-/
import Derived.Test.YtdmnddikcpfmfaaGreatCkTe
import Derived.Test.YtdmnddikcpfmfaaGreatCkTm
import Derived.Test.YtdmnddikcpfmfaaGreatCkTn
namespace Go.Proofs.YtdmnddikcpfmfaaGreat
open Go.RowKit Go.Shelf
theorem same_any {B0 : Nat} {w : World} {tw : Nat} {c : CS} {q : QS} {N : Nat} (T : Twin B0 w tw c q N) (i : Int) : Calls Tryz.prog 10 #[.pointer (some ⟨tw, 0, none⟩), .int .i64 i] w fun e w' => e = .returned (.bool true) ∧ Below w.heap.size w w' := by
  by_cases h : pinI q.P i > 0
  · exact same_a T i h
  · exact same_b T i h
theorem does_any {B0 : Nat} {w : World} {tw : Nat} {c : CS} {q : QS} {N : Nat} (T : Twin B0 w tw c q N) (hN : N ≤ 900) (d i : Int) (f : Nat) (cl : Int) (p : Option Addr) (n cc : Nat) (cut : Int) (hf : f < 256) (hcut : -9223372036854775808 ≤ cut ∧ cut ≤ 9223372036854775807) (xs : List Int) (hI : InI w p n cc xs) (hlow : ∀ a, p = some a → 0 < n → a.block < B0) :
    Calls Tryz.prog 9 #[.pointer (some ⟨tw, 0, none⟩), .agg #[.int .i64 d, .int .i64 i, .int .u8 (f : Int), .int .i64 cl, .slice p n cc, .int .i64 cut]] w (DoesOk B0 tw c q N w) := by
  by_cases h0 : d = 0
  · subst h0; exact does_read T hN i f cl p n cc cut
  by_cases h1 : d = 1
  · subst h1
    by_cases h2 : f = 255
    · exact does_short T hN i f cl p n cc cut hf h2
    · exact does_write T hN i f cl p n cc cut hf h2
  by_cases h2 : d = 2
  · subst h2; exact does_pin T hN i f cl p n cc cut
  by_cases h3 : d = 3
  · subst h3; exact does_unpin T hN i f cl p n cc cut
  by_cases h4 : d = 4
  · subst h4; exact does_clean T hN i f cl p n cc cut xs hI hlow
  by_cases h5 : d = 5
  · subst h5; exact does_sync T hN i f cl p n cc cut
  by_cases h6 : d = 6
  · subst h6; exact does_flush T i f cl p n cc cut
  by_cases h7 : d = 7
  · subst h7; exact does_forget T i f cl p n cc cut xs hI hlow
  by_cases h8 : d = 8
  · subst h8; exact does_cut T i f cl p n cc cut hcut
  by_cases h9 : d = 9
  · subst h9; exact does_hurt T i f cl p n cc cut
  exact does_other T i f cl p n cc cut d (by omega)
end Go.Proofs.YtdmnddikcpfmfaaGreat

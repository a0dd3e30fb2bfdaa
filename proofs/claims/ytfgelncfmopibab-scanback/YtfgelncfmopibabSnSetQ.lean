/-
  scan.Settled.
-/
import Derived.Test.YtfgelncfmopibabSnSetPQ
namespace Go.Proofs.Ytfgelncfmopibab
open Go.RowKit
theorem own_some {w : World} {B e s n c : Nat} {q : Option Addr} {xs : List Value} (h : w.ownsRow B e s (.slice q n c) n xs) (h0 : 0 < n) : ∃ g, q = some ⟨g, 0, none⟩ := by
  rcases h.2 with ⟨_, h'⟩ | ⟨g, cap, cur, hv, _⟩
  · omega
  · injection hv with e1 _ _; exact ⟨g, e1⟩
theorem homes_any (P m : Nat) (b o n c : Nat) (zs : List Pl) (w : World) (hz : InZ w (some ⟨b, o, none⟩) n c zs) (hn : n ≤ 1000000) (HM : Hid (n = m * P)) (hP : 4 ≤ P) (hP2 : P ≤ 32) (hm : 1 ≤ m) :
    Calls Try.prog 22 #[.int .i64 (P : Int), .slice (some ⟨b, o, none⟩) n c] w fun e w' => ∃ q cq, e = .returned (.slice q m cq) ∧ w'.ownsRow w.heap.size 3 1 (.slice q m cq) m (valsI (homesL zs P (guestsL zs P (List.range m)) (List.range m))) ∧ Below w.heap.size w w' :=
  callsIn_wide.1 (homes_in 8 (Nat.le_refl _) P m b o n c zs w hz hn HM hP hP2 hm)
end Go.Proofs.Ytfgelncfmopibab

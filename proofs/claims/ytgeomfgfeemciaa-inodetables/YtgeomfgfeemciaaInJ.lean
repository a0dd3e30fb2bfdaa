/-
  Rows of ints and of uint64s that are arrays; bytes laid into 64.
-/
import Derived.Test.YtgeomfgfeemciaaInF
import Derived.Test.YtgeomfgfeemciaaInCopy
namespace Go.Proofs.Ytgeomfgfeemciaa
open Go.RowKit
theorem inI_blk {w : World} {g : Nat} {t : TypeId} {ws : List Int} {n : Nat} (h : Blk w g t (ws.map (Value.int .i64))) (hn : ws.length = n) (hr : n ≤ 1000) : InI w (some ⟨g, 0, none⟩) n n ws :=
  ⟨hn, Nat.le_refl _, by unfold maxLen; omega, by omega, fun _ => ⟨g, 0, rfl, h.lt, fun i hi => by rw [Nat.zero_add]; refine h.cell' ?_; simp [eI, hn, hi]⟩⟩
theorem in64_blk {w : World} {g : Nat} {t : TypeId} {vs : List Nat} {n : Nat} (h : Blk w g t (vals64 vs)) (hn : vs.length = n) (hl : ∀ x ∈ vs, x < 18446744073709551616) (hr : n ≤ 1000) : In64 w (some ⟨g, 0, none⟩) n n vs :=
  ⟨hn, Nat.le_refl _, by unfold maxLen; omega, by omega, hl, fun _ => ⟨g, 0, rfl, h.lt, fun i hi => by rw [Nat.zero_add]; exact h.cell' (vals64_get vs i (by omega))⟩⟩
theorem oneWs : ∀ v ∈ wsI.map (Value.int .i64), v.oneCell' = true := wcK_one 4
theorem lay_pad64 {ys : List Nat} (h : ys.length = 60) : layAt (List.replicate 64 0) ys 0 64 = ys ++ List.replicate 4 0 := by
  unfold layAt
  rw [h, show min 64 60 = 60 from rfl, List.take_of_length_le (Nat.le_of_eq h), List.take_zero, List.nil_append, Nat.zero_add, List.drop_replicate]
theorem packE_ok {ws : List Int} {vs : List Nat} (h : packOk ws vs = true) : packE ws vs = 0 := by unfold packE; rw [if_pos h]
end Go.Proofs.Ytgeomfgfeemciaa

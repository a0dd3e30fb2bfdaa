/-
  What the reference's goes, within and the reference's part answer.
-/
import Derived.Test.YtgeomfgfeemciaaXtG
namespace Go.Proofs.Ytgeomfgfeemciaa
open Go.RowKit
set_option linter.unusedSimpArgs false in
set_option linter.unusedVariables false in
set_option maxRecDepth 100000 in
set_option maxHeartbeats 4000000 in
theorem rgo_any (a b : Ext) (w : World) (ha : oneB a = true) (hb : oneB b = true) : Calls Try.prog 62 #[a.val, b.val] w fun x w' => x = .returned (.bool (goB a b)) ∧ Below w.heap.size w w' := by
  obtain ⟨al, an, ap⟩ := a
  obtain ⟨bl, bn, bp⟩ := b
  have ha' := oneB_iff.1 ha
  have hb' := oneB_iff.1 hb
  dsimp only at ha' hb'
  obtain ⟨h1, h2, h3, h4, h5, h6⟩ := ha'
  obtain ⟨g1, g2, g3, g4, g5, g6⟩ := hb'
  clear ha hb
  by_cases z1 : al + an = bl
  · by_cases z2 : ap + an = bp
    · by_cases z3 : an + bn ≤ 4096
      · have y1 : (al + an == bl) = true := by simpa using z1
        have y2 : (ap + an == bp) = true := by simpa using z2
        have HG : Hid (goB ⟨al, an, ap⟩ ⟨bl, bn, bp⟩ = true) := by show _ = _; simp [goB]; omega
        go_enter Try.func62, Try.ntmps62
        go_wp2
        go_ret
        exact ⟨ret_bool HG.out.symm, below_al (below_al (Below.refl _ w) _) _⟩
      · have y1 : (al + an == bl) = true := by simpa using z1
        have y2 : (ap + an == bp) = true := by simpa using z2
        have HG : Hid (goB ⟨al, an, ap⟩ ⟨bl, bn, bp⟩ = false) := by show _ = _; simp [goB]; omega
        go_enter Try.func62, Try.ntmps62
        go_wp2
        go_ret
        exact ⟨ret_bool HG.out.symm, below_al (below_al (Below.refl _ w) _) _⟩
    · have y1 : (al + an == bl) = true := by simpa using z1
      have y2 : (ap + an == bp) = false := by simpa using z2
      have HG : Hid (goB ⟨al, an, ap⟩ ⟨bl, bn, bp⟩ = false) := by show _ = _; simp [goB]; omega
      go_enter Try.func62, Try.ntmps62
      go_wp2
      go_ret
      exact ⟨ret_bool HG.out.symm, below_al (below_al (Below.refl _ w) _) _⟩
  · have y1 : (al + an == bl) = false := by simpa using z1
    have HG : Hid (goB ⟨al, an, ap⟩ ⟨bl, bn, bp⟩ = false) := by show _ = _; simp [goB]; omega
    go_enter Try.func62, Try.ntmps62
    go_wp2
    go_ret
    exact ⟨ret_bool HG.out.symm, below_al (below_al (Below.refl _ w) _) _⟩
end Go.Proofs.Ytgeomfgfeemciaa

/-
  What keeps a call from a page; of which block a page is; whether there is room; which page is next; the victim.
-/
import Derived.Test.YthibaefoioeghaaPlRepeat
namespace Go.Proofs.Ythibaefoioeghaa
open Go.RowKit
def reachE (T : Tab) (p : Int) : Int := if okT T then (if hasPg T p then 0 else 1) else 50
theorem okT_prod {T : Tab} (h : okT T = true) : 0 ≤ T.logical * T.pages ∧ T.logical * T.pages ≤ 8192 := by
  obtain ⟨⟨h1, h2, h3⟩, _⟩ := okShape_iff.1 (okT_shape h)
  exact prod_bound h2 h1
set_option linter.unusedSimpArgs false in
set_option maxRecDepth 100000 in
set_option maxHeartbeats 4000000 in
theorem reach_any (V : TabV) (T : Tab) (p : Int) (w : World) (h : TabIn w V T) :
    Calls Try.prog 27 #[.agg (tabA V T), .int .i64 p] w fun e w' => e = .returned (.int .i64 (reachE T p)) ∧ Below w.heap.size w w' := by
  have hb0 := below_alloc w (.cells (tabA V T) 28)
  have b0 := Blk.new' w 28 (tabA V T)
  have hT := h.below hb0
  have hc := check_any V T _ hT
  cases hok : okT T with
  | false =>
    have HE : Hid (reachE T p = 50) := by show _ = _; unfold reachE; rw [hok]; rfl
    rw [checkE_bad hok] at hc
    clear hok
    unfold tabA at hb0 b0 hc ⊢
    go_enter Try.func27, Try.ntmps27
    go_wp2_with (go_at_call 19; refine hc.mono ?_; rintro e w1 ⟨rfl, hb1⟩)
    go_ret
    rw [HE.out]
    exact ⟨rfl, bt hb0 hb1⟩
  | true =>
    have HE : Hid (reachE T p = if hasPg T p then 0 else 1) := by show _ = _; unfold reachE; rw [hok]; rfl
    have hpr := okT_prod hok
    have hpg := fun w => hasPage_any V T p w (by omega)
    rw [checkE_ok hok] at hc
    clear hok hpr
    generalize hasPg T p = x at *
    unfold tabA at hb0 b0 hc hpg ⊢
    cases x with
    | false =>
      go_enter Try.func27, Try.ntmps27
      go_wp2_with (first | (go_at_call 19; refine hc.mono ?_; rintro e w1 ⟨rfl, hb1⟩; have b1 := b0.kept hb1; have y0 := b1.cell' (i := 0) rfl; have y1 := b1.cell' (i := 1) rfl; have y2 := b1.cell' (i := 2) rfl; have y3 := b1.cell' (i := 3) rfl; have y4 := b1.cell' (i := 4) rfl; have y5 := b1.cell' (i := 5) rfl; have y6 := b1.cell' (i := 6) rfl; have y7 := b1.cell' (i := 7) rfl; have y8 := b1.cell' (i := 8) rfl) | (go_at_call 55; refine (hpg _).mono ?_; rintro e w2 ⟨rfl, hb2⟩))
      go_ret
      rw [HE.out]
      exact ⟨rfl, bt (bt hb0 hb1) hb2⟩
    | true =>
      go_enter Try.func27, Try.ntmps27
      go_wp2_with (first | (go_at_call 19; refine hc.mono ?_; rintro e w1 ⟨rfl, hb1⟩; have b1 := b0.kept hb1; have y0 := b1.cell' (i := 0) rfl; have y1 := b1.cell' (i := 1) rfl; have y2 := b1.cell' (i := 2) rfl; have y3 := b1.cell' (i := 3) rfl; have y4 := b1.cell' (i := 4) rfl; have y5 := b1.cell' (i := 5) rfl; have y6 := b1.cell' (i := 6) rfl; have y7 := b1.cell' (i := 7) rfl; have y8 := b1.cell' (i := 8) rfl) | (go_at_call 55; refine (hpg _).mono ?_; rintro e w2 ⟨rfl, hb2⟩))
      go_ret
      rw [HE.out]
      exact ⟨rfl, bt (bt hb0 hb1) hb2⟩
/-- Whether a log's page is one of a block. -/
def isOfP (P : Nat) (x b : Int) : Bool := x != -1 && (x / (P : Int) == b)
set_option linter.unusedSimpArgs false in
set_option maxRecDepth 100000 in
set_option maxHeartbeats 4000000 in
theorem isOf_any (V : TabV) (T : Tab) (P : Nat) (x b : Int) (w : World) (hP : T.pages = P) (hP0 : 4 ≤ P ∧ P ≤ 32) (hx : x = -1 ∨ (0 ≤ x ∧ x ≤ 100000000)) :
    Calls Try.prog 74 #[.agg (tabA V T), .int .i64 x, .int .i64 b] w fun e w' => e = .returned (.bool (isOfP P x b)) ∧ Below w.heap.size w w' := by
  have hb0 := below_alloc w (.cells (tabA V T) 28)
  unfold tabA at hb0 ⊢
  rw [hP] at hb0 ⊢
  rcases hx with rfl | ⟨h0, h1⟩
  · go_enter Try.func74, Try.ntmps74
    go_wp2_with fail
    go_ret
    exact ⟨rfl, hb0⟩
  · obtain ⟨k, rfl⟩ : ∃ k : Nat, x = (k : Int) := ⟨x.toNat, by omega⟩
    have hkb : k ≤ 100000000 := by omega
    have hx' : (((k : Int)) != -1) = true := by rw [bne_iff_ne]; omega
    obtain ⟨q, hq⟩ : ∃ q, k / P = q := ⟨_, rfl⟩
    have hqk : q ≤ k := by rw [← hq]; exact Nat.div_le_self k P
    have hPn : ¬ P = 0 := by omega
    have hq1 : IntKind.i64.wrap ((k : Int) / (P : Int)) = (q : Int) := by rw [← Int.natCast_ediv, hq]; exact wrapN q (by omega)
    have hq2 : wrap64 ((k : Int) / (P : Int)) = (q : Int) := (IntWalk.i64_left _).symm.trans hq1
    have HR : Hid (isOfP P (k : Int) b = ((q : Int) == b)) := by show _ = _; unfold isOfP; rw [hx', ← Int.natCast_ediv, hq]; rfl
    clear hq hP hP0 h0 h1
    go_enter Try.func74, Try.ntmps74
    go_wp2_with fail
    go_ret
    exact ⟨ret_bool HR.out.symm, hb0⟩
theorem below_drewN' {w w' : World} {B : Nat} (h : Below B w w') (n : Nat) : Below B w (w'.drewN n) := ⟨h.os, h.tape, h.output, h.size, h.block⟩
/-- Whether there is a random log that takes a page more. -/
def room (T : Tab) : Bool := match T.logs.getLast? with | some l => decide ((l.pages.length : Int) < T.pages) | none => false
theorem last_of {L : List LogS} {n : Nat} {l : LogS} (h : L.length = n + 1) (hl : L[n]? = some l) : L.getLast? = some l := by
  rw [List.getLast?_eq_getElem?, h]; exact hl
set_option linter.unusedSimpArgs false in
set_option maxRecDepth 100000 in
set_option maxHeartbeats 4000000 in
theorem hasRoom_any (V : TabV) (T : Tab) (w : World) (h : TabIn w V T) (hnl : V.nl ≤ 8) :
    Calls Try.prog 60 #[.agg (tabA V T)] w fun e w' => e = .returned (.bool (room T)) ∧ Below w.heap.size w w' := by
  have hb0 := below_alloc w (.cells (tabA V T) 28)
  have b0 := Blk.new' w 28 (tabA V T)
  have hT := h.below hb0
  unfold tabA at hb0 b0 hT ⊢
  have HLL : Hid (T.logs.length = V.nl) := hT.logs.len
  generalize hn : V.nl = n at *
  cases n with
  | zero =>
    have HR : Hid (room T = false) := by
      show _ = _
      have : T.logs = [] := List.eq_nil_of_length_eq_zero HLL.out
      unfold room; rw [this]; rfl
    clear hn
    go_enter Try.func60, Try.ntmps60
    go_upto_region 1 with fail
    generalize hW : w.alloc (.cells #[.int .i64 T.pages, .int .i64 T.logical, .int .i64 T.k, .slice V.pd V.nd V.cd, .slice V.ph V.nh V.ch, .int .i64 T.sp, .int .i64 T.sl, .int .i64 T.su, .slice V.pl 0 V.cl] 28) = W at *
    clear hW
    have z8 := b0.cell' (i := 8) rfl
    go_quiet (fail)
    go_wp2
    go_ret
    exact ⟨ret_bool HR.out.symm, below_drewN' hb0 _⟩
  | succ n =>
    obtain ⟨l, hl⟩ : ∃ l, T.logs[n]? = some l := ⟨_, List.getElem?_eq_getElem (by rw [HLL.out]; omega)⟩
    obtain ⟨bp, op, hp, _, hcp⟩ := hT.logs.at' (by rw [hn]; omega)
    obtain ⟨q, m, d, c0, c1, hin⟩ := hcp n l hl
    have HR : Hid (room T = decide ((m : Int) < T.pages)) := by show _ = _; unfold room; rw [last_of HLL.out hl]; show decide _ = _; rw [hin.len]
    have hn1 : IntKind.i64.wrap (((n + 1 : Nat) : Int) - 1) = (n : Int) := by rw [show ((n + 1 : Nat) : Int) - 1 = (n : Int) from by omega]; exact wrapN _ (by omega)
    have hn2 : wrap64 (((n + 1 : Nat) : Int) - 1) = (n : Int) := (IntWalk.i64_left _).symm.trans hn1
    rw [hp] at b0 hb0 c0 c1 ⊢
    have hnn : (n : Int) < ((n + 1 : Nat) : Int) := by omega
    have hpos : 0 < n + 1 := by omega
    generalize hN : n + 1 = N at *
    clear hcp hl hT h hn hp hN
    go_enter Try.func60, Try.ntmps60
    go_upto_region 1 with fail
    generalize hW : w.alloc (.cells #[.int .i64 T.pages, .int .i64 T.logical, .int .i64 T.k, .slice V.pd V.nd V.cd, .slice V.ph V.nh V.ch, .int .i64 T.sp, .int .i64 T.sl, .int .i64 T.su, .slice (some ⟨bp, op, none⟩) N V.cl] 28) = W at *
    clear hW
    have z8 := b0.cell' (i := 8) rfl
    have z0 := b0.cell' (i := 0) rfl
    go_quiet (fail)
    go_wp2
    go_ret
    exact ⟨ret_bool HR.out.symm, below_drewN' hb0 _⟩
end Go.Proofs.Ythibaefoioeghaa

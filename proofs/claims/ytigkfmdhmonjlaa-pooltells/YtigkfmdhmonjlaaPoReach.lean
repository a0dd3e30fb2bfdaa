/-
  What keeps a call from a block; the plain functions of Take, Give, Erased and Retire.
-/
import Derived.Test.YtigkfmdhmonjlaaPoWith
namespace Go.Proofs.Ytigkfmdhmonjlaa
open Go.RowKit
theorem has_any (p q : Option Addr) (n c m d : Nat) (b : Int) (w : World) (hn : n ≤ 140737488355328) :
    Calls Try.prog 43 #[.agg #[.slice p n c, .slice q m d], .int .i64 b] w fun e w' => e = .returned (.bool (decide (0 ≤ b) && decide (b < (n : Int)))) ∧ Below w.heap.size w w' := by
  go_enter Try.func43, Try.ntmps43
  go_wp2_with (go_at_call 41; refine (within_any _ _ _ _).mono ?_; rintro e w' ⟨rfl, hw'⟩; have hw2 := hw'.symm; subst hw2; clear hw')
  go_ret
  refine ⟨ret_bool ?_, below_alloc _ _⟩
  have : decide (b ≤ (n : Int) - 1) = decide (b < (n : Int)) := by
    by_cases h : b < (n : Int)
    · rw [decide_eq_true h, decide_eq_true (by omega)]
    · rw [decide_eq_false h, decide_eq_false (by omega)]
  rw [this]
/-- Is there such a block? -/
def isB (R : List Int) (b : Int) : Bool := decide (0 ≤ b) && decide (b < (R.length : Int))
theorem isB_iff {R : List Int} {b : Int} : isB R b = true ↔ 0 ≤ b ∧ b < (R.length : Int) := by simp [isB]
def reachE (R W : List Int) (b : Int) : Int := if okPool R W then (if isB R b then 0 else 22) else 40
theorem reach_any (p q : Option Addr) (n c m d : Nat) (R W : List Int) (b : Int) (w : World) (hR : InI w p n c R) (hW : InI w q m d W) :
    Calls Try.prog 46 #[.agg #[.slice p n c, .slice q m d], .int .i64 b] w fun e w' => e = .returned (.int .i64 (reachE R W b)) ∧ Below w.heap.size w w' := by
  have HL : Hid (R.length = n) := hR.len
  have hb0 := below_alloc w (.cells #[.slice p n c, .slice q m d] 25)
  have b0 := Blk.new' w 25 #[.slice p n c, .slice q m d]
  cases hok : okPool R W with
  | false =>
    have HE : Hid (checkE R W = 40) := checkE_no hok
    have HR : Hid (reachE R W b = 40) := by show _ = _; unfold reachE; rw [hok]; rfl
    go_enter Try.func46, Try.ntmps46
    go_wp2_with (go_at_call 14; refine (check_any p q n c m d R W _ (hR.below hb0) (hW.below hb0)).mono ?_; rintro e w1 ⟨rfl, hb1⟩; rw [HE.out])
    go_ret
    exact ⟨ret_int HR.out.symm, bt hb0 hb1⟩
  | true =>
    have HE : Hid (checkE R W = 0) := checkE_ok hok
    cases hib : isB R b with
    | true =>
      have HR : Hid (reachE R W b = 0) := by show _ = _; unfold reachE; rw [hok, hib]; rfl
      have HI : Hid ((decide (0 ≤ b) && decide (b < (n : Int))) = true) := by show _ = _; rw [← HL.out]; exact hib
      go_enter Try.func46, Try.ntmps46
      go_wp2_with (first
        | (go_at_call 14; refine (check_any p q n c m d R W _ (hR.below hb0) (hW.below hb0)).mono ?_; rintro e w1 ⟨rfl, hb1⟩; rw [HE.out]; have b1 := b0.kept hb1; have c0 := b1.cell' (i := 0) rfl; have c1 := b1.cell' (i := 1) rfl)
        | (go_at_call 43; refine (has_any p q n c m d b _ hR.room).mono ?_; rintro e w2 ⟨rfl, hb2⟩; rw [HI.out]))
      go_ret
      exact ⟨ret_int HR.out.symm, bt (bt hb0 hb1) hb2⟩
    | false =>
      have HR : Hid (reachE R W b = 22) := by show _ = _; unfold reachE; rw [hok, hib]; rfl
      have HI : Hid ((decide (0 ≤ b) && decide (b < (n : Int))) = false) := by show _ = _; rw [← HL.out]; exact hib
      go_enter Try.func46, Try.ntmps46
      go_wp2_with (first
        | (go_at_call 14; refine (check_any p q n c m d R W _ (hR.below hb0) (hW.below hb0)).mono ?_; rintro e w1 ⟨rfl, hb1⟩; rw [HE.out]; have b1 := b0.kept hb1; have c0 := b1.cell' (i := 0) rfl; have c1 := b1.cell' (i := 1) rfl)
        | (go_at_call 43; refine (has_any p q n c m d b _ hR.room).mono ?_; rintro e w2 ⟨rfl, hb2⟩; rw [HI.out]))
      go_ret
      exact ⟨ret_int HR.out.symm, bt (bt hb0 hb1) hb2⟩
theorem reachE_ok {R W : List Int} {b : Int} (h : reachE R W b = 0) : okPool R W = true ∧ isB R b = true := by
  unfold reachE at h
  split at h
  · split at h
    · constructor <;> assumption
    · simp at h
  · simp at h
theorem reachE_of {R W : List Int} {b : Int} (h : okPool R W = true) (h' : isB R b = true) : reachE R W b = 0 := by unfold reachE; rw [h, h']; rfl
/-- What a block that there is is known by. -/
theorem reach_facts {w : World} {p q : Option Addr} {n c m d : Nat} {R W : List Int} {b : Int} (hR : InI w p n c R) (hW : InI w q m d W) (h : reachE R W b = 0) :
    okPool R W = true ∧ (16 ≤ n ∧ n ≤ 256) ∧ n = m ∧ ∃ k : Nat, b = (k : Int) ∧ k < n ∧ (1 ≤ eI R k ∧ eI R k ≤ 6) ∧ (0 ≤ eI W k ∧ eI W k ≤ 16777215) := by
  obtain ⟨hok, hib⟩ := reachE_ok h
  obtain ⟨⟨h1, h2, h3⟩, h4, h5⟩ := okPool_iff.1 hok
  have hb := isB_iff.1 hib
  have hl := hR.len
  have hm := hW.len
  refine ⟨hok, ⟨by omega, by omega⟩, by omega, b.toNat, by omega, by omega, okR_iff.1 (eI_all.1 h4 _ (by omega)), okWear_iff.1 (eI_all.1 h5 _ (by omega))⟩
def reachGE (R W : List Int) (b : Int) : Int := if reachE R W b = 0 then (if eI R b.toNat = 6 then 41 else 0) else reachE R W b
theorem reachGood_any (p q : Option Addr) (n c m d : Nat) (R W : List Int) (b : Int) (w : World) (hR : InI w p n c R) (hW : InI w q m d W) :
    Calls Try.prog 50 #[.agg #[.slice p n c, .slice q m d], .int .i64 b] w fun e w' => e = .returned (.int .i64 (reachGE R W b)) ∧ Below w.heap.size w w' := by
  have hb0 := below_alloc w (.cells #[.slice p n c, .slice q m d] 25)
  have b0 := Blk.new' w 25 #[.slice p n c, .slice q m d]
  by_cases hre : reachE R W b = 0
  · obtain ⟨hok, hnm, hnm', k, rfl, hk, hrk, hwk⟩ := reach_facts hR hW hre
    subst hnm'
    have HE : Hid (reachE R W (k : Int) = 0) := hre
    obtain ⟨bp, op, rfl, hltp, hcp⟩ := hR.at' (by omega)
    have ck := hcp k hk
    have hk1 : (k : Int) < (n : Int) := by omega
    clear hcp hre
    by_cases h6 : eI R k = 6
    · have HR : Hid (reachGE R W (k : Int) = 41) := by show _ = _; unfold reachGE; rw [if_pos HE.out, Int.toNat_natCast, if_pos h6]
      rw [h6] at ck
      go_enter Try.func50, Try.ntmps50
      go_wp2_with (go_at_call 46; refine (reach_any _ q n c n d R W k _ (hR.below hb0) (hW.below hb0)).mono ?_; rintro e w1 ⟨rfl, hb1⟩; rw [HE.out]; have b1 := b0.kept hb1; have c0 := b1.cell' (i := 0) rfl; have ck1 := ((bt hb0 hb1).cell (p := ⟨bp, op + k, none⟩) hltp).trans ck)
      go_ret
      exact ⟨ret_int HR.out.symm, bt hb0 hb1⟩
    · have HR : Hid (reachGE R W (k : Int) = 0) := by show _ = _; unfold reachGE; rw [if_pos HE.out, Int.toNat_natCast, if_neg h6]
      have h6b : (eI R k == 6) = false := by simpa using h6
      clear h6
      go_enter Try.func50, Try.ntmps50
      go_wp2_with (go_at_call 46; refine (reach_any _ q n c n d R W k _ (hR.below hb0) (hW.below hb0)).mono ?_; rintro e w1 ⟨rfl, hb1⟩; rw [HE.out]; have b1 := b0.kept hb1; have c0 := b1.cell' (i := 0) rfl; have ck1 := ((bt hb0 hb1).cell (p := ⟨bp, op + k, none⟩) hltp).trans ck)
      go_ret
      exact ⟨ret_int HR.out.symm, bt hb0 hb1⟩
  · have HR : Hid (reachGE R W b = reachE R W b) := by show _ = _; unfold reachGE; rw [if_neg hre]
    have hne : (reachE R W b != 0) = true := by simpa using hre
    have hra := fun W' (h1 : InI W' p n c R) (h2 : InI W' q m d W) => reach_any p q n c m d R W b W' h1 h2
    clear hre
    generalize reachE R W b = E at *
    go_enter Try.func50, Try.ntmps50
    go_wp2_with (go_at_call 46; refine (hra _ (hR.below hb0) (hW.below hb0)).mono ?_; rintro e w1 ⟨rfl, hb1⟩)
    go_ret
    exact ⟨ret_int HR.out.symm, bt hb0 hb1⟩
/-- A pool and an error as results: the pool lies in new memory. -/
def PoolRes (w : World) (s : List Int × List Int × Int) (e : Ending) (w' : World) : Prop :=
  ∃ p n c q m d, e = .returned (.tuple #[.agg #[.slice p n c, .slice q m d], .int .i64 s.2.2]) ∧ NewP w.heap.size w' p n c q m d s.1 s.2.1 ∧ Below w.heap.size w w'
def takeS (R W : List Int) (b role : Int) : List Int × List Int × Int :=
  if reachE R W b = 0 then (if okUse role && decide (eI R b.toNat = 1) then (R.set b.toNat role, W, 0) else ([], [], 41)) else ([], [], reachE R W b)
def giveS (R W : List Int) (b : Int) : List Int × List Int × Int :=
  if reachE R W b = 0 then (if okUse (eI R b.toNat) then (R.set b.toNat 1, W.set b.toNat (min (eI W b.toNat + 1) 16777215), 0) else ([], [], 41)) else ([], [], reachE R W b)
def erasedS (R W : List Int) (b : Int) : List Int × List Int × Int :=
  if reachGE R W b = 0 then (R, W.set b.toNat (min (eI W b.toNat + 1) 16777215), 0) else ([], [], reachGE R W b)
def retireS (R W : List Int) (b : Int) : List Int × List Int × Int :=
  if reachGE R W b = 0 then (R.set b.toNat 6, W, 0) else ([], [], reachGE R W b)
theorem set_same {xs : List Int} {k : Nat} : xs.set k (eI xs k) = xs := by
  apply List.ext_getElem?
  intro i
  rw [List.getElem?_set]
  by_cases h : k = i
  · subst h
    by_cases hk : k < xs.length
    · simp [hk, eI]
    · simp [hk]
  · simp [h]
theorem reachGE_ok {R W : List Int} {b : Int} (h : reachGE R W b = 0) : reachE R W b = 0 ∧ ¬ eI R b.toNat = 6 := by
  unfold reachGE at h
  split at h
  · split at h
    · simp at h
    · constructor <;> assumption
  · contradiction
end Go.Proofs.Ytigkfmdhmonjlaa

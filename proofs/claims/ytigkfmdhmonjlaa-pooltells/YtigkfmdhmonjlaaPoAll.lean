/-
  What pool's All answers: an iterator over the blocks that have a role.
-/
import Derived.Test.YtigkfmdhmonjlaaPoValues
import Derived.Test.YtigkfmdhmonjlaaPoClone
import Derived.Deep.Cut
namespace Go.Proofs.Ytigkfmdhmonjlaa
open Go.RowKit Go.Shelf
/-- The places below k that have a role. -/
def idxTo (R : List Int) (role : Int) (k : Nat) : List Nat := (List.range k).filter fun i => decide (eI R i = role)
theorem idxTo_yes {R : List Int} {role : Int} {k : Nat} (h : eI R k = role) : idxTo R role (k + 1) = idxTo R role k ++ [k] := by
  simp [idxTo, List.range_succ, List.filter_append, h]
theorem idxTo_no {R : List Int} {role : Int} {k : Nat} (h : ¬ eI R k = role) : idxTo R role (k + 1) = idxTo R role k := by
  simp [idxTo, List.range_succ, List.filter_append, h]
theorem idxTo_le (R : List Int) (role : Int) (k : Nat) : (idxTo R role k).length ≤ k := by
  have := List.length_filter_le (fun i => decide (eI R i = role)) (List.range k)
  simpa [idxTo] using this
theorem idxTo_lt {R : List Int} {role : Int} {k i : Nat} (h : i ∈ idxTo R role k) : i < k := by
  simp [idxTo] at h; exact h.1
/-- The blocks of a pool that have a role. -/
def allK (R W : List Int) (role : Int) : List (IdxT (min R.length W.length)) :=
  if h : okPool R W = true then (idxTo R role R.length).attachWith (fun i => i < min R.length W.length) (fun _ hi => by have := idxTo_lt hi; have := (okPool_iff.1 h).1.1; omega) else []
theorem allK_ok {R W : List Int} {role : Int} (h : okPool R W = true) : (allK R W role).map (fun k => k.1) = idxTo R role R.length := by
  unfold allK; rw [dif_pos h]; exact List.attachWith_map_subtype_val _
theorem allK_no {R W : List Int} {role : Int} (h : okPool R W = false) : allK R W role = [] := by unfold allK; rw [dif_neg (by rw [h]; simp)]
theorem valsK_ok {R W : List Int} {role : Int} (h : okPool R W = true) : valsK (allK R W role) = (idxTo R role R.length).map (fun i : Nat => (i : Int)) := by
  rw [← allK_ok (W := W) h]; simp [valsK]
theorem allK_length {R W : List Int} {role : Int} (h : okPool R W = true) : (allK R W role).length = (idxTo R role R.length).length := by
  rw [← allK_ok (W := W) h]; simp
def natsI (l : List Nat) : List Int := l.map fun i : Nat => (i : Int)
theorem natsI_length (l : List Nat) : (natsI l).length = l.length := by simp [natsI]
theorem natsI_snoc (l : List Nat) (k : Nat) : natsI (l ++ [k]) = natsI l ++ [(k : Int)] := by simp [natsI]
theorem natsI_snoc' (l : List Nat) (k : Nat) : valsI (natsI (l ++ [k])) = valsI (natsI l) ++ [.int .i64 (k : Int)] := by rw [natsI_snoc, valsI_append]; rfl
theorem new_one (W : World) (z : Int) : ∀ j u, [Value.int .i64 z][j]? = some u → (W.alloc (.cells #[.int .i64 z] 3)).cell? ((⟨W.heap.size, 0, none⟩ : Addr).add j) = some u := by
  intro j u hu
  have hj : j = 0 := by
    rcases Nat.eq_zero_or_pos j with h | h
    · exact h
    · rw [List.getElem?_eq_none (by simp; omega)] at hu; cases hu
  subst hj
  rw [addr_add]
  exact (Blk.new' W 3 #[.int .i64 z]).cell' hu
/-- What All answers. -/
def AllRes (w : World) (ks : List Int) (e : Ending) (w' : World) : Prop :=
  ∃ Bs p c, e = .returned (.func (.func 61) #[] #[.pointer (some ⟨Bs, 0, none⟩)]) ∧ w.heap.size ≤ Bs ∧ Blk w' Bs 22 [.slice p ks.length c] ∧ InI w' p ks.length c ks ∧ (∀ a, p = some a → w.heap.size ≤ a.block ∧ a.block ≠ Bs ∧ a.block < w'.heap.size) ∧ Below w.heap.size w w'
set_option linter.unusedSimpArgs false in
set_option maxHeartbeats 1000000 in
theorem all_any (p q : Option Addr) (n c m d : Nat) (R W : List Int) (role : Int) (w : World) (hR : InI w p n c R) (hW : InI w q m d W) :
    Calls Try.prog 37 #[.agg #[.slice p n c, .slice q m d], .int .i64 role] w (AllRes w (valsK (allK R W role))) := by
  obtain ⟨i0, hi, hz0, hz1, hz2⟩ := info_parts info3
  have HL : Hid (R.length = n) := hR.len
  have hb0 := below_alloc w (.cells #[.slice p n c, .slice q m d] 25)
  have b0 := Blk.new' w 25 #[.slice p n c, .slice q m d]
  cases hok : okPool R W with
  | false =>
    have HE : Hid (checkE R W = 40) := checkE_no hok
    have HV : Hid (valsK (allK R W role) = []) := by show _ = _; rw [allK_no hok]; rfl
    go_enter Try.func37, Try.ntmps37
    go_wp2_with (first
      | (go_at_call 14; refine (check_any p q n c m d R W _ (hR.below hb0) (hW.below hb0)).mono ?_; rintro e w1 ⟨rfl, hb1⟩; rw [HE.out])
      | (go_at_call 56; refine (values_any _ _ _ _).mono ?_; rintro e w2 ⟨rfl, rfl⟩))
    go_ret
    rw [HV.out]
    exact ⟨w1.heap.size, none, 0, rfl, Nat.le_trans (Nat.le_succ _) (by have := hb1.size; rwa [World.size_alloc] at this), Blk.new' w1 _ _, InI.empty _, (fun a h => by cases h), bt (bt hb0 hb1) (below_alloc _ _)⟩
  | true =>
    have HE : Hid (checkE R W = 0) := checkE_ok hok
    have HV : Hid (valsK (allK R W role) = natsI (idxTo R role n)) := by show _ = _; rw [valsK_ok hok, HL.out]; rfl
    have HN : Hid (16 ≤ n ∧ n ≤ 256) := by have := (okPool_iff.1 hok).1; rw [HL.out] at this; exact ⟨by omega, by omega⟩
    have hn := HN.out
    clear hok
    go_enter Try.func37, Try.ntmps37
    go_upto_region 3 with (go_at_call 14; refine (check_any p q n c m d R W _ (hR.below hb0) (hW.below hb0)).mono ?_; rintro e w1 ⟨rfl, hb1⟩; rw [HE.out])
    have b1 := b0.kept hb1
    have hB1 := bt hb0 hb1
    have hR1 := hR.below hB1
    have hs1 : w.heap.size + 1 ≤ w1.heap.size := by have := hb1.size; rwa [World.size_alloc] at this
    obtain ⟨bp, op, rfl, hltp, hcp⟩ := hR1.at' (by omega)
    have c0 := b1.cell' (i := 0) rfl
    clear hR hW hb0 b0 hb1 hR1
    go_wp2_with fail
    go_loopw [5, 14] (fun v i wr => ∃ (k : Nat) (pv : Option Addr) (cv : Nat), k ≤ n ∧ i = .int .i64 k ∧ v = .slice pv (idxTo R role k).length cv ∧ wr.ownsRow w1.heap.size 3 1 (.slice pv (idxTo R role k).length cv) (idxTo R role k).length (valsI (natsI (idxTo R role k))) ∧ Below w1.heap.size w1 wr) (fun _ i _ => n - (intOf i).toNat)
    case atStart => exact ⟨0, none, 0, Nat.zero_le _, rfl, rfl, World.ownsRow_nil _ _ _ _, Below.refl _ _⟩
    case round =>
      obtain ⟨k, pv, cv, hk, rfl, rfl, hown, hbk⟩ := hrel
      by_cases hlt : k < n
      · have ck := (hbk.cell (p := ⟨bp, op + k, none⟩) hltp).trans (hcp k hlt)
        have hk1 : (k : Int) < (n : Int) := by omega
        by_cases hr : eI R k = role
        · have HI : Hid (idxTo R role (k + 1) = idxTo R role k ++ [k]) := idxTo_yes hr
          rw [hr] at ck
          clear hr
          have hle := idxTo_le R role k
          have HT : Hid (idxTo R role k = idxTo R role k) := rfl
          obtain ⟨L, hL⟩ : ∃ L, (idxTo R role k).length = L := ⟨_, rfl⟩
          rw [hL] at hown hle ⊢
          have HL2 : Hid ((idxTo R role k).length = L) := hL
          clear hL hcp
          generalize idxTo R role k = is at *
          go_wp2_with (at_builtin; (refine wpList_append_own _ rfl (.tmp 22) (.tmp 24) 22 rfl w1.heap.size 3 i0 (.int .i64 0) 1 8 Try.underlying22 hi hz0 hz1 hz2 rfl (by decide) (.slice pv L cv) L (valsI (natsI is)) rfl (hown.alloc _) ⟨wr.heap.size, 0, none⟩ 1 1 [.int .i64 (k : Int)] rfl rfl (new_one wr k) (by simp [Value.oneCell']) (by unfold maxLen; omega) (by omega) (by have := hbk.size; rw [World.size_alloc]; omega) ?_); intro v1 w2 hown2 hgrow2 _)
          go_roundw
          case rel =>
            rw [← natsI_snoc'] at hown2
            obtain ⟨p2, c2, rfl, _⟩ := in_of_ownsI hown2 (by omega)
            refine ⟨k + 1, p2, c2, by omega, by go_num, by rw [HI.out, List.length_append, HL2.out]; rfl, by rw [HI.out, List.length_append, HL2.out]; exact hown2, (hbk.alloc hbk.size _).grown hgrow2 (by have := hbk.size; rw [World.size_alloc]; omega) (fun j hj => (hown.lt j hj).1)⟩
          case measure => simp [intOf]; omega
        · have HI : Hid (idxTo R role (k + 1) = idxTo R role k) := idxTo_no hr
          have hrb : (eI R k == role) = false := by simpa using hr
          clear hr hcp
          go_wp2_with fail
          go_roundw
          case rel => exact ⟨k + 1, pv, cv, by omega, by go_num, by rw [HI.out], by rw [HI.out]; exact hown, hbk⟩
          case measure => simp [intOf]; omega
      · have hkn : k = n := by omega
        subst hkn
        have hle := idxTo_le R role k
        obtain ⟨L, hL⟩ : ∃ L, (idxTo R role k).length = L := ⟨_, rfl⟩
        rw [hL] at hown hle ⊢
        have HL2 : Hid ((natsI (idxTo R role k)).length = L) := by show _ = _; rw [natsI_length]; exact hL
        clear hL hcp
        have hin : InI wr pv L cv (natsI (idxTo R role k)) := by obtain ⟨p2, c2, e2, hin⟩ := in_of_ownsI hown (by omega); cases e2; exact hin
        go_wp2_with (go_at_call 56; refine (values_any _ _ _ _).mono ?_; rintro e w2 ⟨rfl, rfl⟩)
        go_ret
        rw [HV.out]
        unfold AllRes
        rw [HL2.out]
        refine ⟨wr.heap.size, pv, cv, rfl, Nat.le_trans hB1.size hbk.size, Blk.new' wr _ _, hin.below (below_alloc _ _), fun a h => ?_, bt (hB1.trans (hbk.mono hB1.size)) (below_alloc _ _)⟩
        subst h
        have := hown.lt a.block rfl
        exact ⟨by have := hB1.size; omega, by omega, by rw [World.size_alloc]; omega⟩
end Go.Proofs.Ytigkfmdhmonjlaa

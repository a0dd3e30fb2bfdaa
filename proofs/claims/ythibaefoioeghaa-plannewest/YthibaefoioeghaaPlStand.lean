/-
  Where the newest copy of each page of a logical block stands.
-/
import Derived.Test.YthibaefoioeghaaPlFit
namespace Go.Proofs.Ythibaefoioeghaa
open Go.RowKit
theorem flatP_set' {L : List (Int × Int)} {k : Nat} {a b : Int} (h : k < L.length) : (flatP L).take (k * 2) ++ [.int .i64 a, .int .i64 b] ++ (flatP L).drop (k * 2 + [Value.int .i64 a, .int .i64 b].length) = flatP (L.set k (a, b)) := by
  rw [show k * 2 + [Value.int .i64 a, .int .i64 b].length = (k + 1) * 2 by simp; omega, flatP_take, flatP_drop, List.set_eq_take_append_cons_drop, if_pos h, flatP_append, flatP_cons]
  simp
theorem sizeP2 (a b : Value) : (Try.prog.info? 41).map (·.size) = some [a, b].length := by show _ = some 2; kernel_rfl
theorem one2 (a b : Int) : ∀ v ∈ [Value.int .i64 a, Value.int .i64 b], v.oneCell' = true := by simp [Value.oneCell']
/-- Where a page stands, but for the random logs. -/
def baseP (T : Tab) (P b o : Nat) : Int × Int :=
  if T.sp != -1 && (T.sl == (b : Int)) && decide ((o : Int) < T.su) then (T.sp, (o : Int)) else if eB T.have' (b * P + o) then (eI T.data b, (o : Int)) else (-1, 0)
def stA (T : Tab) (P b k : Nat) : List (Int × Int) := (List.range k).map (baseP T P b) ++ List.replicate (P - k) (-1, 0)
theorem stA_length {T : Tab} {P b k : Nat} (h : k ≤ P) : (stA T P b k).length = P := by simp [stA]; omega
theorem stA_zero (T : Tab) (P b : Nat) : stA T P b 0 = List.replicate P (-1, 0) := by simp [stA]
theorem stA_all (T : Tab) (P b : Nat) : stA T P b P = (List.range P).map (baseP T P b) := by simp [stA]
theorem stA_one {T : Tab} {P b o : Nat} {x : Int × Int} (h : o < P) (hx : baseP T P b o = x) : stA T P b (o + 1) = (stA T P b o).set o x := by
  unfold stA
  rw [List.range_succ, List.map_append, List.set_append_right _ _ (by simp), List.length_map, List.length_range, Nat.sub_self, show P - o = (P - (o + 1)) + 1 by omega, List.replicate_succ, List.set_cons_zero]
  simp [hx]
theorem stA_none {T : Tab} {P b o : Nat} (h : o < P) (hx : baseP T P b o = (-1, 0)) : stA T P b (o + 1) = stA T P b o := by
  unfold stA
  rw [List.range_succ, List.map_append, show P - o = (P - (o + 1)) + 1 by omega, List.replicate_succ]
  simp [hx]
theorem stA_two {T : Tab} {P b o : Nat} {x y : Int × Int} (h : o < P) (hx : baseP T P b o = x) : stA T P b (o + 1) = ((stA T P b o).set o y).set o x := by
  rw [stA_one h hx, List.set_set]
/-- What a log's first pages lay over that. -/
def putTo (P b : Nat) (phys : Int) (pg : List Int) : Nat → List (Int × Int) → List (Int × Int)
  | 0, L => L
  | j + 1, L => if isOfP P (eI pg j) (b : Int) then (putTo P b phys pg j L).set (eI pg j % (P : Int)).toNat (phys, (j : Int)) else putTo P b phys pg j L
def logsTo (P b : Nat) (logs : List LogS) : Nat → List (Int × Int) → List (Int × Int)
  | 0, L => L
  | n + 1, L => match logs[n]? with | some l => putTo P b l.phys l.pages l.pages.length (logsTo P b logs n L) | none => logsTo P b logs n L
def standP (T : Tab) (P b : Nat) : List (Int × Int) := logsTo P b T.logs T.logs.length ((List.range P).map (baseP T P b))
theorem putTo_length (P b : Nat) (phys : Int) (pg : List Int) (j : Nat) (L : List (Int × Int)) : (putTo P b phys pg j L).length = L.length := by
  induction j with
  | zero => rfl
  | succ j ih =>
    unfold putTo
    split
    · rw [List.length_set, ih]
    · exact ih
theorem logsTo_length (P b : Nat) (logs : List LogS) (n : Nat) (L : List (Int × Int)) : (logsTo P b logs n L).length = L.length := by
  induction n with
  | zero => rfl
  | succ n ih =>
    unfold logsTo
    split
    · rw [putTo_length, ih]
    · exact ih
theorem logsTo_succ {P b : Nat} {logs : List LogS} {n : Nat} {l : LogS} (h : logs[n]? = some l) (L : List (Int × Int)) : logsTo P b logs (n + 1) L = putTo P b l.phys l.pages l.pages.length (logsTo P b logs n L) := by
  conv => lhs; unfold logsTo
  rw [h]
theorem standP_length (T : Tab) (P b : Nat) : (standP T P b).length = P := by unfold standP; rw [logsTo_length]; simp
set_option linter.unusedSimpArgs false in
set_option maxRecDepth 100000 in
set_option maxHeartbeats 8000000 in
theorem standing_any (V : TabV) (T : Tab) (P L b : Nat) (w : World) (h : TabIn w V T) (hP : T.pages = P) (hP0 : 4 ≤ P ∧ P ≤ 32) (hnd : V.nd = L) (hnh : V.nh = L * P) (hL : L ≤ 256) (hb : b < L) (hpg : PgOk T) :
    Calls Try.prog 45 #[.agg (tabA V T), .int .i64 (b : Int)] w fun e w' => ∃ g, e = .returned (.slice (some ⟨g, 0, none⟩) P P) ∧ Blk w' g 41 (flatP (standP T P b)) ∧ w.heap.size ≤ g ∧ Below w.heap.size w w' := by
  have hb0 := bt (below_alloc w (.cells (tabA V T) 28)) (below_alloc (w.alloc (.cells (tabA V T) 28)) (.cells #[.int .i64 (-1), .int .i64 0] 41))
  have b0 := (Blk.new' w 28 (tabA V T)).alloc (.cells #[.int .i64 (-1), .int .i64 0] 41)
  have hlit := Blk.new' (w.alloc (.cells (tabA V T) 28)) 41 #[.int .i64 (-1), .int .i64 0]
  rw [World.size_alloc] at hlit
  have hrep := repeatP_any (w.heap.size + 1) 0 1 P (by omega) (by omega) _ (hlit.cell' (i := 0) rfl) (hlit.cell' (i := 1) rfl) hlit.lt
  have hs := fun w => hasSeq_any V T w
  have hof := fun x hx w => isOf_any V T P x (b : Int) w hP hP0 hx
  have HT : Hid (TabIn w V T) := h
  have HPO : Hid (PgOk T) := hpg
  have HLL : Hid (T.logs.length = V.nl) := h.logs.len
  have hr47 := h.logs.room
  have hPn : ¬ P = 0 := by omega
  have hPb : P ≤ 32 := hP0.2
  obtain ⟨bq, hbq⟩ : ∃ q, b * P = q := ⟨_, rfl⟩
  have hbq1 : bq + P ≤ V.nh := by rw [hnh, ← hbq]; have := Nat.mul_le_mul_right P (show b + 1 ≤ L by omega); rw [Nat.succ_mul] at this; exact this
  have hnh2 : V.nh ≤ 8192 := by rw [hnh]; exact Nat.le_trans (Nat.mul_le_mul hL hP0.2) (by omega)
  have hbn : b < V.nd := by omega
  have hw1 : IntKind.i64.wrap ((b : Int) * (P : Int)) = (bq : Int) := by rw [← Int.natCast_mul, hbq]; exact wrapN _ (by omega)
  have hw2 : wrap64 ((b : Int) * (P : Int)) = (bq : Int) := (IntWalk.i64_left _).symm.trans hw1
  have HBQ : Hid (b * P = bq) := hbq
  have HW1 : Hid (IntKind.i64.wrap ((b : Int) * (P : Int)) = (bq : Int)) := hw1
  have HW2 : Hid (wrap64 ((b : Int) * (P : Int)) = (bq : Int)) := hw2
  clear hw1 hw2
  unfold tabA at hb0 b0 hlit hrep hs hof ⊢
  rw [hP] at hb0 b0 hlit hrep hs hof ⊢
  clear h hpg hP hP0 hnh hnd hL hb hbq
  go_enter Try.func45, Try.ntmps45
  go_upto_region 2 with (go_at_call 73; refine hrep.mono ?_; rintro e W1 ⟨rfl, bp, k1⟩)
  replace b0 := b0.kept k1
  have hbx := bt hb0 k1
  have hsz := hb0.size
  rw [World.size_alloc, World.size_alloc] at bp
  obtain ⟨gP, hgp⟩ : ∃ g, g = w.heap.size + 1 + 1 := ⟨_, rfl⟩
  rw [← hgp] at bp ⊢
  have hgP : w.heap.size + 2 ≤ gP := by omega
  clear hgp
  clear hrep hlit hb0 k1 hsz
  rw [← stA_zero T P b] at bp
  obtain ⟨sq, hsq⟩ : ∃ sq, (T.sp != -1 && (T.sl == (b : Int))) = sq := ⟨_, rfl⟩
  have HSQ : Hid ((T.sp != -1 && (T.sl == (b : Int))) = sq) := hsq
  have y0 := b0.cell' (i := 0) rfl; have y1 := b0.cell' (i := 1) rfl; have y2 := b0.cell' (i := 2) rfl; have y3 := b0.cell' (i := 3) rfl; have y4 := b0.cell' (i := 4) rfl; have y5 := b0.cell' (i := 5) rfl; have y6 := b0.cell' (i := 6) rfl; have y7 := b0.cell' (i := 7) rfl; have y8 := b0.cell' (i := 8) rfl
  go_cut [6] from 17 (fun s6 wc => s6 = .bool sq ∧ Blk wc w.heap.size 28 [.int .i64 (P : Int), .int .i64 T.logical, .int .i64 T.k, .slice V.pd V.nd V.cd, .slice V.ph V.nh V.ch, .int .i64 T.sp, .int .i64 T.sl, .int .i64 T.su, .slice V.pl V.nl V.cl] ∧ Blk wc gP 41 (flatP (stA T P b 0)) ∧ Below w.heap.size w wc)
  case first =>
    cases hq : (T.sp != -1) with
    | true =>
      rw [hq] at hs hsq
      go_wp2_with (go_at_call 57; refine (hs _).mono ?_; rintro e W2 ⟨rfl, k2⟩; have b2 := b0.kept k2; have z0 := b2.cell' (i := 0) rfl; have z1 := b2.cell' (i := 1) rfl; have z2 := b2.cell' (i := 2) rfl; have z3 := b2.cell' (i := 3) rfl; have z4 := b2.cell' (i := 4) rfl; have z5 := b2.cell' (i := 5) rfl; have z6 := b2.cell' (i := 6) rfl; have z7 := b2.cell' (i := 7) rfl; have z8 := b2.cell' (i := 8) rfl)
      go_meet
      case rel => exact ⟨by rw [← hsq] <;> rfl, b2, bp.kept k2, bt hbx k2⟩
    | false =>
      rw [hq] at hs hsq
      go_wp2_with (go_at_call 57; refine (hs _).mono ?_; rintro e W2 ⟨rfl, k2⟩; have b2 := b0.kept k2; have z0 := b2.cell' (i := 0) rfl; have z1 := b2.cell' (i := 1) rfl; have z2 := b2.cell' (i := 2) rfl; have z3 := b2.cell' (i := 3) rfl; have z4 := b2.cell' (i := 4) rfl; have z5 := b2.cell' (i := 5) rfl; have z6 := b2.cell' (i := 6) rfl; have z7 := b2.cell' (i := 7) rfl; have z8 := b2.cell' (i := 8) rfl)
      go_meet
      case rel => exact ⟨by rw [← hsq] <;> rfl, b2, bp.kept k2, bt hbx k2⟩
  case rest =>
    obtain ⟨rfl, b1, bp1, hb1⟩ := hcut
    clear b0 bp hbx hs hsq
    have y0 := b1.cell' (i := 0) rfl; have y1 := b1.cell' (i := 1) rfl; have y2 := b1.cell' (i := 2) rfl; have y3 := b1.cell' (i := 3) rfl; have y4 := b1.cell' (i := 4) rfl; have y5 := b1.cell' (i := 5) rfl; have y6 := b1.cell' (i := 6) rfl; have y7 := b1.cell' (i := 7) rfl; have y8 := b1.cell' (i := 8) rfl
    go_wp2_with fail
    go_loopw [28] (fun i wr => ∃ o : Nat, o ≤ P ∧ i = .int .i64 o ∧ Blk wr gP 41 (flatP (stA T P b o)) ∧ Blk wr w.heap.size 28 [.int .i64 (P : Int), .int .i64 T.logical, .int .i64 T.k, .slice V.pd V.nd V.cd, .slice V.ph V.nh V.ch, .int .i64 T.sp, .int .i64 T.sl, .int .i64 T.su, .slice V.pl V.nl V.cl] ∧ Below w.heap.size w wr) (fun i _ => P - (intOf i).toNat)
    case atStart => exact ⟨0, Nat.zero_le _, rfl, bp1, b1, hb1⟩
    case round =>
      clear bp1 b1 hb1 y0 y1 y2 y3 y4 y5 y6 y7 y8
      obtain ⟨o, ho, rfl, bp, b0, hbr⟩ := hrel
      by_cases hoP : o < P
      · have hT := HT.out.below hbr
        obtain ⟨bh, oh, hph, _, hch⟩ := hT.have'.at' (by omega)
        have hqoN : bq + o < V.nh := Nat.lt_of_lt_of_le (Nat.add_lt_add_left hoP bq) hbq1
        have ck := hch (bq + o) hqoN
        have hlen : (stA T P b o).length = P := stA_length ho
        have hle2 : o * 2 + 2 ≤ P * 2 := by omega
        have hG : w.heap.size ≠ gP := by omega
        have hG2 : w.heap.size ≤ gP := by omega
        obtain ⟨bd, od, hpd, _, hcd⟩ := hT.data.at' (by omega)
        have cd := hcd b hbn
        have ho1 : (o : Int) < (P : Int) := by omega
        have hbn1 : (b : Int) < (V.nd : Int) := by omega
        have hq8 : bq + o ≤ 100000000 := by omega
        have hw3 : IntKind.i64.wrap ((bq : Int) + (o : Int)) = ((bq + o : Nat) : Int) := by rw [← Int.natCast_add]; exact wrapN _ hq8
        have hw4 : wrap64 ((bq : Int) + (o : Int)) = ((bq + o : Nat) : Int) := (IntWalk.i64_left _).symm.trans hw3
        have hqn : ((bq + o : Nat) : Int) < (V.nh : Int) := Int.ofNat_lt.2 hqoN
        have hw1 := HW1.out
        have hw2 := HW2.out
        obtain ⟨qo, hqo⟩ : ∃ q, bq + o = q := ⟨_, rfl⟩
        have HQO : Hid (bq + o = qo) := hqo
        rw [hqo] at ck hw3 hw4 hqn
        have y0 := b0.cell' (i := 0) rfl; have y1 := b0.cell' (i := 1) rfl; have y2 := b0.cell' (i := 2) rfl; have y3 := b0.cell' (i := 3) rfl; have y4 := b0.cell' (i := 4) rfl; have y5 := b0.cell' (i := 5) rfl; have y6 := b0.cell' (i := 6) rfl; have y7 := b0.cell' (i := 7) rfl; have y8 := b0.cell' (i := 8) rfl
        rw [hph] at y4
        rw [hpd] at y3
        clear hph hpd hch hcd hT hqo hof
        have HBASE : Hid (∀ hv sqv : Bool, eB T.have' qo = hv → (sq && decide ((o : Int) < T.su)) = sqv → baseP T P b o = if sqv then (T.sp, (o : Int)) else if hv then (eI T.data b, (o : Int)) else (-1, 0)) := fun hv sqv h1 h2 => by unfold baseP; rw [HSQ.out, HBQ.out, HQO.out, h1, h2]
        cases hv : eB T.have' qo with
        | false =>
          rw [hv] at ck
          cases sq with
          | false =>
            have hbase := HBASE.out false false hv rfl
            clear hv
            have HS : Hid (stA T P b (o + 1) = stA T P b o) := stA_none hoP hbase
            go_wp2_with fail
            clear hw1 hw2 hw3 hw4
            go_roundw
            case rel => exact ⟨o + 1, Nat.succ_le_of_lt hoP, by go_num, by rw [HS.out]; exact bp, b0, hbr⟩
            case measure => simp [intOf]; omega
          | true =>
            by_cases hsu : (o : Int) < T.su
            · have hbase := HBASE.out false true hv (by simp [hsu])
              clear hv
              have HS : Hid (stA T P b (o + 1) = (stA T P b o).set o (T.sp, (o : Int))) := stA_one hoP hbase
              go_wp2_with (refine wpList_store_blk rfl 41 (.tmp 66) (.tmp 65) rfl gP (o * 2) [.int .i64 T.sp, .int .i64 (o : Int)] rfl rfl bp  (by rw [flatP_length, hlen]; exact hle2) (sizeP2 _ _) (one2 _ _) ?_; intro W8 h8 ht8; rw [flatP_set' (by rw [hlen]; exact hoP)] at h8)
              clear hw1 hw2 hw3 hw4
              go_roundw
              case rel => exact ⟨o + 1, Nat.succ_le_of_lt hoP, by go_num, by rw [HS.out]; exact h8, (b0.turned ht8 hG), (ht8.below hbr hG2)⟩
              case measure => simp [intOf]; omega
            · have hbase := HBASE.out false false hv (by simp [hsu])
              clear hv
              have HS : Hid (stA T P b (o + 1) = stA T P b o) := stA_none hoP hbase
              go_wp2_with fail
              clear hw1 hw2 hw3 hw4
              go_roundw
              case rel => exact ⟨o + 1, Nat.succ_le_of_lt hoP, by go_num, by rw [HS.out]; exact bp, b0, hbr⟩
              case measure => simp [intOf]; omega
        | true =>
          rw [hv] at ck
          cases sq with
          | false =>
            have hbase := HBASE.out true false hv rfl
            clear hv
            have HS : Hid (stA T P b (o + 1) = (stA T P b o).set o (eI T.data b, (o : Int))) := stA_one hoP hbase
            go_wp2_with (refine wpList_store_blk rfl 41 (.tmp 50) (.tmp 49) rfl gP (o * 2) [.int .i64 (eI T.data b), .int .i64 (o : Int)] rfl rfl bp (by rw [flatP_length, hlen]; exact hle2) (sizeP2 _ _) (one2 _ _) ?_; intro W7 h7 ht7; rw [flatP_set' (by rw [hlen]; exact hoP)] at h7; have b7 := b0.turned ht7 hG; have v0 := b7.cell' (i := 0) rfl; have v1 := b7.cell' (i := 1) rfl; have v2 := b7.cell' (i := 2) rfl; have v3 := b7.cell' (i := 3) rfl; have v4 := b7.cell' (i := 4) rfl; have v5 := b7.cell' (i := 5) rfl; have v6 := b7.cell' (i := 6) rfl; have v7 := b7.cell' (i := 7) rfl; have v8 := b7.cell' (i := 8) rfl)
            clear hw1 hw2 hw3 hw4
            go_roundw
            case rel => exact ⟨o + 1, Nat.succ_le_of_lt hoP, by go_num, by rw [HS.out]; exact h7, (b0.turned ht7 hG), (ht7.below hbr hG2)⟩
            case measure => simp [intOf]; omega
          | true =>
            by_cases hsu : (o : Int) < T.su
            · have hbase := HBASE.out true true hv (by simp [hsu])
              clear hv
              have HS : Hid (stA T P b (o + 1) = ((stA T P b o).set o (eI T.data b, (o : Int))).set o (T.sp, (o : Int))) := stA_two hoP hbase
              go_wp2_with (first | (refine wpList_store_blk rfl 41 (.tmp 50) (.tmp 49) rfl gP (o * 2) [.int .i64 (eI T.data b), .int .i64 (o : Int)] rfl rfl bp (by rw [flatP_length, hlen]; exact hle2) (sizeP2 _ _) (one2 _ _) ?_; intro W7 h7 ht7; rw [flatP_set' (by rw [hlen]; exact hoP)] at h7; have b7 := b0.turned ht7 hG; have v0 := b7.cell' (i := 0) rfl; have v1 := b7.cell' (i := 1) rfl; have v2 := b7.cell' (i := 2) rfl; have v3 := b7.cell' (i := 3) rfl; have v4 := b7.cell' (i := 4) rfl; have v5 := b7.cell' (i := 5) rfl; have v6 := b7.cell' (i := 6) rfl; have v7 := b7.cell' (i := 7) rfl; have v8 := b7.cell' (i := 8) rfl) | (refine wpList_store_blk rfl 41 (.tmp 66) (.tmp 65) rfl gP (o * 2) [.int .i64 T.sp, .int .i64 (o : Int)] rfl rfl h7  (by rw [flatP_length, List.length_set, hlen]; exact hle2) (sizeP2 _ _) (one2 _ _) ?_; intro W8 h8 ht8; rw [flatP_set' (by rw [List.length_set, hlen]; exact hoP)] at h8))
              clear hw1 hw2 hw3 hw4
              go_roundw
              case rel => exact ⟨o + 1, Nat.succ_le_of_lt hoP, by go_num, by rw [HS.out]; exact h8, ((b0.turned ht7 hG).turned ht8 hG), (ht8.below (ht7.below hbr hG2) hG2)⟩
              case measure => simp [intOf]; omega
            · have hbase := HBASE.out true false hv (by simp [hsu])
              clear hv
              have HS : Hid (stA T P b (o + 1) = (stA T P b o).set o (eI T.data b, (o : Int))) := stA_one hoP hbase
              go_wp2_with (refine wpList_store_blk rfl 41 (.tmp 50) (.tmp 49) rfl gP (o * 2) [.int .i64 (eI T.data b), .int .i64 (o : Int)] rfl rfl bp (by rw [flatP_length, hlen]; exact hle2) (sizeP2 _ _) (one2 _ _) ?_; intro W7 h7 ht7; rw [flatP_set' (by rw [hlen]; exact hoP)] at h7; have b7 := b0.turned ht7 hG; have v0 := b7.cell' (i := 0) rfl; have v1 := b7.cell' (i := 1) rfl; have v2 := b7.cell' (i := 2) rfl; have v3 := b7.cell' (i := 3) rfl; have v4 := b7.cell' (i := 4) rfl; have v5 := b7.cell' (i := 5) rfl; have v6 := b7.cell' (i := 6) rfl; have v7 := b7.cell' (i := 7) rfl; have v8 := b7.cell' (i := 8) rfl)
              clear hw1 hw2 hw3 hw4
              go_roundw
              case rel => exact ⟨o + 1, Nat.succ_le_of_lt hoP, by go_num, by rw [HS.out]; exact h7, (b0.turned ht7 hG), (ht7.below hbr hG2)⟩
              case measure => simp [intOf]; omega
      · have hoe : o = P := by omega
        rw [hoe, stA_all] at bp
        rw [hoe]
        clear hoP ho hoe
        obtain ⟨LB, hLB⟩ : ∃ LB, (List.range P).map (baseP T P b) = LB := ⟨_, rfl⟩
        have HLB : Hid ((List.range P).map (baseP T P b) = LB ∧ LB.length = P) := ⟨hLB, by rw [← hLB]; simp⟩
        rw [hLB] at bp
        clear hLB HBQ HW1 HW2 hbq1 hbn HSQ
        have y0 := b0.cell' (i := 0) rfl; have y1 := b0.cell' (i := 1) rfl; have y2 := b0.cell' (i := 2) rfl; have y3 := b0.cell' (i := 3) rfl; have y4 := b0.cell' (i := 4) rfl; have y5 := b0.cell' (i := 5) rfl; have y6 := b0.cell' (i := 6) rfl; have y7 := b0.cell' (i := 7) rfl; have y8 := b0.cell' (i := 8) rfl
        go_wp2_with fail
        go_loopw [71] (fun i wr => ∃ k : Nat, k ≤ V.nl ∧ i = .int .i64 k ∧ Blk wr gP 41 (flatP (logsTo P b T.logs k LB)) ∧ Blk wr w.heap.size 28 [.int .i64 (P : Int), .int .i64 T.logical, .int .i64 T.k, .slice V.pd V.nd V.cd, .slice V.ph V.nh V.ch, .int .i64 T.sp, .int .i64 T.sl, .int .i64 T.su, .slice V.pl V.nl V.cl] ∧ Below w.heap.size w wr) (fun i _ => V.nl - (intOf i).toNat)
        case atStart => exact ⟨0, Nat.zero_le _, rfl, bp, b0, hbr⟩
        case round =>
          clear bp b0 hbr y0 y1 y2 y3 y4 y5 y6 y7 y8
          obtain ⟨k, hk, rfl, bp, b0, hbr⟩ := hrel
          by_cases hlt : k < V.nl
          · have hT := HT.out.below hbr
            obtain ⟨bl, ol, hpl, hltp, hcp⟩ := hT.logs.at' (by omega)
            obtain ⟨l, hl⟩ : ∃ l, T.logs[k]? = some l := ⟨_, List.getElem?_eq_getElem (by rw [HLL.out]; exact hlt)⟩
            obtain ⟨q, m, d, c0, c1, hin⟩ := hcp k l hl
            obtain ⟨_, _, _, _, _, hinw⟩ : ∃ q0 m0 d0, True ∧ True ∧ InI w q m d l.pages := by
              have hTw := HT.out
              obtain ⟨bl', ol', hpl', hltp', hcp'⟩ := hTw.logs.at' (by omega)
              obtain ⟨q', m', d', c0', c1', hin'⟩ := hcp' k l hl
              rw [hpl] at hpl'
              cases hpl'
              have := (hbr.cell (p := ⟨bl, ol + k * 2 + 1, none⟩) hltp').trans c1'
              rw [c1] at this
              cases this
              exact ⟨q, m, d, trivial, trivial, hin'⟩
            have HLk : Hid (T.logs[k]? = some l) := hl
            have HLm : Hid (l.pages.length = m) := hin.len
            have hm47 := hin.room
            have hk1 : (k : Int) < (V.nl : Int) := Int.ofNat_lt.2 hlt
            have hA := below_alloc wr (.cells #[.int .i64 l.phys, .slice q m d] 61)
            have bg := Blk.new' wr 61 #[.int .i64 l.phys, .slice q m d]
            have hgl := bp.lt
            have b2 := b0.kept hA
            have bp2 := bp.kept hA
            have hbA := bt hbr hA
            have HGL : Hid (w.heap.size ≤ wr.heap.size) := hbr.size
            have HLP : Hid (∀ lp, lp = l.phys → logsTo P b T.logs (k + 1) LB = putTo P b lp l.pages l.pages.length (logsTo P b T.logs k LB)) := fun lp e => by rw [e]; exact logsTo_succ hl LB
            obtain ⟨LK, hLK⟩ : ∃ LK, logsTo P b T.logs k LB = LK := ⟨_, rfl⟩
            have HLK : Hid (LK.length = P) := by show _ = _; rw [← hLK, logsTo_length]; exact HLB.out.2
            rw [hLK] at bp2 HLP
            have HPL : Hid (V.pl = some ⟨bl, ol, none⟩) := hpl
            rw [hpl]
            clear hpl hcp hl hT hLK bp hin
            have HLPe := HLP.out l.phys rfl
            have HLP2 : Hid (logsTo P b T.logs (k + 1) LB = putTo P b l.phys l.pages l.pages.length LK) := HLPe
            clear HLP HLPe
            generalize l.phys = lp at *
            go_upto_region 14 with fail
            generalize wr.alloc (.cells #[.int .i64 lp, .slice q m d] 61) = WA at *
            generalize wr.heap.size = GL at *
            have l1 := bg.cell' (i := 1) rfl
            clear c0 c1 hA b0 hbr
            go_wp2_with fail
            go_loopw [78] (fun i wr => ∃ j : Nat, j ≤ m ∧ i = .int .i64 j ∧ Blk wr gP 41 (flatP (putTo P b lp l.pages j LK)) ∧ Blk wr w.heap.size 28 [.int .i64 (P : Int), .int .i64 T.logical, .int .i64 T.k, .slice V.pd V.nd V.cd, .slice V.ph V.nh V.ch, .int .i64 T.sp, .int .i64 T.sl, .int .i64 T.su, .slice V.pl V.nl V.cl] ∧ Blk wr GL 61 [.int .i64 lp, .slice q m d] ∧ Below w.heap.size w wr) (fun i _ => m - (intOf i).toNat)
            case atStart => exact ⟨0, Nat.zero_le _, rfl, bp2, b2, bg, hbA⟩
            case round =>
              clear bp2 b2 bg hbA l1
              obtain ⟨j, hj, rfl, bp, b0, bg, hbr⟩ := hrel
              by_cases hjm : j < m
              · obtain ⟨bx, ox, hq, _, hcq⟩ := (hinw.below hbr).at' (by omega)
                have cj := hcq j hjm
                have hj1 : (j : Int) < (m : Int) := Int.ofNat_lt.2 hjm
                have HJm : Hid (j < l.pages.length) := by show _ < _; rw [HLm.out]; exact hjm
                have hxo := HPO.out k l HLk.out j HJm.out
                have hofj := hof (eI l.pages j) hxo
                have HLEN : Hid ((putTo P b lp l.pages j LK).length = P) := by show _ = _; rw [putTo_length]; exact HLK.out
                rw [hq] at bg ⊢
                clear hcq hq
                have y0 := b0.cell' (i := 0) rfl; have y1 := b0.cell' (i := 1) rfl; have y2 := b0.cell' (i := 2) rfl; have y3 := b0.cell' (i := 3) rfl; have y4 := b0.cell' (i := 4) rfl; have y5 := b0.cell' (i := 5) rfl; have y6 := b0.cell' (i := 6) rfl; have y7 := b0.cell' (i := 7) rfl; have y8 := b0.cell' (i := 8) rfl
                cases hof1 : isOfP P (eI l.pages j) (b : Int) with
                | false =>
                  have HPS : Hid (putTo P b lp l.pages (j + 1) LK = putTo P b lp l.pages j LK) := by
                    show _ = _
                    conv => lhs; unfold putTo
                    rw [hof1]; rfl
                  rw [hof1] at hofj
                  clear hof1 hof hxo
                  generalize eI l.pages j = x at *
                  go_wp2_with (go_at_call 74; refine (hofj _).mono ?_; rintro e W2 ⟨rfl, k2⟩)
                  go_roundw
                  case rel => exact ⟨j + 1, by omega, by go_num, by rw [HPS.out]; exact bp.kept k2, b0.kept k2, bg.kept k2, bt hbr k2⟩
                  case measure => simp [intOf]; omega
                | true =>
                  have hxn : 0 ≤ eI l.pages j ∧ eI l.pages j ≤ 100000000 := by
                    rcases hxo with hx | hx
                    · rw [hx] at hof1; exact absurd hof1 (by simp [isOfP])
                    · exact hx
                  obtain ⟨kx, hkx⟩ : ∃ kx : Nat, eI l.pages j = (kx : Int) := ⟨(eI l.pages j).toNat, by omega⟩
                  obtain ⟨r, hr⟩ : ∃ r, kx % P = r := ⟨_, rfl⟩
                  have hr0 : (kx : Int).tmod (P : Int) = (r : Int) := by rw [Int.tmod_eq_emod_of_nonneg (by omega), ← Int.natCast_emod, hr]
                  have hrP : r < P := by rw [← hr]; exact Nat.mod_lt _ (by omega)
                  have hrP1 : (r : Int) < (P : Int) := Int.ofNat_lt.2 hrP
                  have HPS : Hid (putTo P b lp l.pages (j + 1) LK = (putTo P b lp l.pages j LK).set r (lp, (j : Int))) := by
                    show _ = _
                    conv => lhs; unfold putTo
                    rw [hof1, hkx, ← Int.natCast_emod, hr, Int.toNat_natCast]; rfl
                  rw [hof1] at hofj
                  rw [hkx] at hofj cj
                  clear hof1 hof hxo hxn hr hkx
                  go_upto_region 18 with (go_at_call 74; refine (hofj _).mono ?_; rintro e W2 ⟨rfl, k2⟩)
                  have hb3 := b0.kept k2
                  have hl3 := bg.kept k2
                  have hp3 := bp.kept k2
                  have hbr3 := bt hbr k2
                  clear y0 y1 y2 y3 y4 y5 y6 y7 y8 cj hofj b0 bg bp hbr k2
                  refine wp_region_noPanic ?_
                  refine wp_region_held_drew (S := fun W' => Blk W' w.heap.size 28 [.int .i64 (P : Int), .int .i64 T.logical, .int .i64 T.k, .slice V.pd V.nd V.cd, .slice V.ph V.nh V.ch, .int .i64 T.sp, .int .i64 T.sl, .int .i64 T.su, .slice V.pl V.nl V.cl] ∧ Blk W' GL 61 [.int .i64 lp, .slice (some ⟨bx, ox, none⟩) m d]) (by kernel_rfl) ⟨hb3.drew, hl3.drew⟩ (fun hHeld => ?_)
                  refine wpAnyH_take (i := 0) (v := ?_) rfl (by kernel_rfl) (by kernel_rfl) (by kernel_rfl) (fun _ _ _ h => h) (Or.inl ⟨by rfl, ?_⟩) hHeld ?_
                  rotate_left
                  · intro w' hSw; try dsimp only at hSw
                    go_simp; try (with_reducible rfl)
                  try simp only [Act.put, List.getElem_toArray, List.getElem_cons_succ, List.getElem_cons_zero, List.setIfInBounds_toArray, List.set_cons_zero, List.set_cons_succ]
                  refine wpAnyH_take (i := 1) (v := ?_) rfl (by kernel_rfl) (by kernel_rfl) (by kernel_rfl) (fun _ _ _ h => h) (Or.inl ⟨by rfl, ?_⟩) hHeld ?_
                  rotate_left
                  · intro w' hSw; try dsimp only at hSw
                    go_simp; try (with_reducible rfl)
                  try simp only [Act.put, List.getElem_toArray, List.getElem_cons_succ, List.getElem_cons_zero, List.setIfInBounds_toArray, List.set_cons_zero, List.set_cons_succ]
                  refine wpAnyH_take (i := 2) (v := ?_) rfl (by kernel_rfl) (by kernel_rfl) (by kernel_rfl) (fun _ _ _ h => h) (Or.inl ⟨by rfl, ?_⟩) hHeld ?_
                  rotate_left
                  · intro w' hSw; try dsimp only at hSw
                    go_simp; try (with_reducible rfl)
                  try simp only [Act.put, List.getElem_toArray, List.getElem_cons_succ, List.getElem_cons_zero, List.setIfInBounds_toArray, List.set_cons_zero, List.set_cons_succ]
                  refine wpAnyH_take (i := 3) (v := ?_) rfl (by kernel_rfl) (by kernel_rfl) (by kernel_rfl) (fun _ _ _ h => h) (Or.inl ⟨by rfl, ?_⟩) hHeld ?_
                  rotate_left
                  · intro w' hSw; try dsimp only at hSw
                    have bw := hSw.1
                    have z0 := bw.cell' (i := 0) rfl; have z1 := bw.cell' (i := 1) rfl; have z2 := bw.cell' (i := 2) rfl; have z3 := bw.cell' (i := 3) rfl; have z4 := bw.cell' (i := 4) rfl; have z5 := bw.cell' (i := 5) rfl; have z6 := bw.cell' (i := 6) rfl; have z7 := bw.cell' (i := 7) rfl; have z8 := bw.cell' (i := 8) rfl
                    go_simp; try (with_reducible rfl)
                  try simp only [Act.put, List.getElem_toArray, List.getElem_cons_succ, List.getElem_cons_zero, List.setIfInBounds_toArray, List.set_cons_zero, List.set_cons_succ]
                  refine wpAnyH_take (i := 4) (v := ?_) rfl (by kernel_rfl) (by kernel_rfl) (by kernel_rfl) (fun _ _ _ h => h) (Or.inl ⟨by rfl, ?_⟩) hHeld ?_
                  rotate_left
                  · intro w' hSw; try dsimp only at hSw
                    go_simp; try (with_reducible rfl)
                  try simp only [Act.put, List.getElem_toArray, List.getElem_cons_succ, List.getElem_cons_zero, List.setIfInBounds_toArray, List.set_cons_zero, List.set_cons_succ]
                  refine wpAnyH_take (i := 5) (v := ?_) rfl (by kernel_rfl) (by kernel_rfl) (by kernel_rfl) (fun _ _ _ h => h) (Or.inl ⟨by rfl, ?_⟩) hHeld ?_
                  rotate_left
                  · intro w' hSw; try dsimp only at hSw
                    go_simp; try (with_reducible rfl)
                  try simp only [Act.put, List.getElem_toArray, List.getElem_cons_succ, List.getElem_cons_zero, List.setIfInBounds_toArray, List.set_cons_zero, List.set_cons_succ]
                  refine wpAnyH_take (i := 6) (v := ?_) rfl (by kernel_rfl) (by kernel_rfl) (by kernel_rfl) (fun _ _ _ h => h) (Or.inl ⟨by rfl, ?_⟩) hHeld ?_
                  rotate_left
                  · intro w' hSw; try dsimp only at hSw
                    have z0 := hSw.2.cell' (i := 0) rfl
                    go_simp; try (with_reducible rfl)
                  try simp only [Act.put, List.getElem_toArray, List.getElem_cons_succ, List.getElem_cons_zero, List.setIfInBounds_toArray, List.set_cons_zero, List.set_cons_succ]
                  refine wpAnyH_take (i := 7) (v := ?_) rfl (by kernel_rfl) (by kernel_rfl) (by kernel_rfl) (fun _ _ _ h => h) (Or.inl ⟨by rfl, ?_⟩) hHeld ?_
                  rotate_left
                  · intro w' hSw; try dsimp only at hSw
                    go_simp; try (with_reducible rfl)
                  try simp only [Act.put, List.getElem_toArray, List.getElem_cons_succ, List.getElem_cons_zero, List.setIfInBounds_toArray, List.set_cons_zero, List.set_cons_succ]
                  refine wpAnyH_take (i := 8) (v := ?_) rfl (by kernel_rfl) (by kernel_rfl) (by kernel_rfl) (fun _ _ _ h => h) (Or.inl ⟨by rfl, ?_⟩) hHeld ?_
                  rotate_left
                  · intro w' hSw; try dsimp only at hSw
                    go_simp; try (with_reducible rfl)
                  try simp only [Act.put, List.getElem_toArray, List.getElem_cons_succ, List.getElem_cons_zero, List.setIfInBounds_toArray, List.set_cons_zero, List.set_cons_succ]
                  refine wpAnyH_take (i := 9) (v := ?_) rfl (by kernel_rfl) (by kernel_rfl) (by kernel_rfl) (fun _ _ _ h => h) (Or.inl ⟨by rfl, ?_⟩) hHeld ?_
                  rotate_left
                  · intro w' hSw; try dsimp only at hSw
                    go_simp; try (with_reducible rfl)
                  try simp only [Act.put, List.getElem_toArray, List.getElem_cons_succ, List.getElem_cons_zero, List.setIfInBounds_toArray, List.set_cons_zero, List.set_cons_succ]
                  refine wpAnyH_ready (rs := [10]) (by kernel_rfl) (by simp) ?_
                  refine AllReadyH.cons rfl (fun K hK => ?_) AllReadyH.nil
                  rw [if_pos (by rfl)]
                  refine wp_store_blk 41 (.tmp 96) (.tmp 95) rfl gP (r * 2) [.int .i64 lp, .int .i64 (j : Int)] (by go_simp) (by go_simp) hp3.drew (by rw [flatP_length, HLEN.out]; simp; omega) (sizeP2 _ _) (one2 _ _) ?_
                  intro W5 h5 ht5
                  rw [flatP_set' (by rw [HLEN.out]; exact hrP)] at h5
                  refine hK.out _ _ ⟨hHeld.1.turned ht5 (by omega), hHeld.2.turned ht5 (by omega)⟩ (fun hHeld => ?_)
                  clear hK K
                  try simp only [Act.put, List.getElem_toArray, List.getElem_cons_succ, List.getElem_cons_zero, List.setIfInBounds_toArray, List.set_cons_zero, List.set_cons_succ]
                  refine wpAnyH_done (by kernel_rfl) ?_ _
                  refine NoPanic.normal ?_
                  go_wp2_with fail
                  go_roundw
                  case rel => exact ⟨j + 1, by omega, by go_num, by rw [HPS.out]; exact h5, hHeld.1, hHeld.2, ht5.below hbr3.drew (by omega)⟩
                  case measure => simp [intOf]; omega
              · obtain rfl : j = m := by omega
                go_wp2_with fail
                go_roundw
                case rel => exact ⟨k + 1, by omega, by go_num, by rw [HLP2.out, HLm.out]; exact bp, by have := b0; rw [HPL.out] at this; exact this, hbr⟩
                case measure => simp [intOf]; omega
          · obtain rfl : k = V.nl := by omega
            have HST : Hid (standP T P b = logsTo P b T.logs V.nl LB) := by show _ = _; unfold standP; rw [HLL.out, HLB.out.1]
            go_wp2_with fail
            go_ret
            exact ⟨gP, rfl, by rw [HST.out]; exact bp, by omega, hbr⟩
end Go.Proofs.Ythibaefoioeghaa

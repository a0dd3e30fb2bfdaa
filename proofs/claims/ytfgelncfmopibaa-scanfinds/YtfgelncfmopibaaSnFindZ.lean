/-
  P7.1, ScanFinds: for every block and row of pages the law answers true, and its arguments read as before. No condition.
-/
import Derived.Test.YtfgelncfmopibaaSnNewR
import Derived.Test.YtfgelncfmopibaaXPgRefZ
import Derived.Test.YtfgelncfmopibaaSnLift
namespace Go.Proofs.Ytfgelncfmopibaa
open Go.RowKit
/-- What Decode hands out. -/
def DecOut (P : List Nat) (e : Ending) : Prop := ∃ (x0 x1 x2 x3 : Int) (p : Option Addr) (m c : Nat), e = .returned (.tuple #[.agg #[.int .i64 x0, .int .i64 x1, .int .i64 x2, .int .i64 x3], .slice p m c, .int .i64 (Pg.decE P)]) ∧ Hid (Pg.decE P = 0 → x0 = Pg.hv0 P ∧ x1 = Pg.hv1 P ∧ x2 = Pg.hv2 P ∧ x3 = Pg.hv3 P)
theorem decodeP (P : List Nat) (hP : Pg.IsP P) (w : World) : Calls Try.prog 32 #[.agg (Pg.vals P).toArray] w fun e w' => DecOut P e ∧ Below w.heap.size w w' := by
  by_cases hs : Pg.stateL P = 0
  · refine (Pg.decode_good P hP w hs).mono ?_
    rintro e w' ⟨⟨ho, rfl⟩ | ⟨ho, p, c, rfl, _⟩, hb⟩
    · have hE : Pg.decE P = 30 := by unfold Pg.decE; rw [if_pos hs, ho]; rfl
      exact ⟨⟨0, 0, 0, 0, none, 0, 0, by rw [hE], fun h => by rw [hE] at h; omega⟩, hb⟩
    · have hE : Pg.decE P = 0 := by unfold Pg.decE; rw [if_pos hs, ho]; rfl
      exact ⟨⟨_, _, _, _, p, 256, c, by rw [hE], fun _ => ⟨rfl, rfl, rfl, rfl⟩⟩, hb⟩
  · refine (Pg.decode_bad P hP w hs).mono ?_
    rintro e w' ⟨rfl, hb⟩
    have hE : Pg.decE P = Pg.stateL P := by unfold Pg.decE; rw [if_neg hs]
    exact ⟨⟨0, 0, 0, 0, none, 0, 0, by rw [hE], fun h => by rw [hE] at h; exact absurd h hs⟩, hb⟩
theorem decodeR (P : List Nat) (hP : Pg.IsP P) (w : World) : Calls Try.prog 34 #[.agg (Pg.vals P).toArray] w fun e w' => DecOut P e ∧ Below w.heap.size w w' := by
  refine (Pg.qdecode_any P hP w).mono ?_
  rintro e w' ⟨⟨hE, rfl⟩ | ⟨hE, p, c, rfl, _⟩, hb⟩
  · exact ⟨⟨0, 0, 0, 0, none, 0, 0, rfl, fun h => absurd h hE⟩, hb⟩
  · exact ⟨⟨_, _, _, _, p, 256, c, by rw [hE], fun _ => ⟨rfl, rfl, rfl, rfl⟩⟩, hb⟩
/-- A slice of pages that lies in a world. -/
structure InPg (w : World) (p : Option Addr) (n c : Nat) (Ps : List (List Nat)) : Prop where
  len : Ps.length = n
  cap : n ≤ c
  room : n ≤ 140737488355328
  each : ∀ P ∈ Ps, Pg.IsP P
  at' : 0 < n → ∃ b o, p = some ⟨b, o, none⟩ ∧ b < w.heap.size ∧ ∀ i P, Ps[i]? = some P → w.rangeAt b (o + i * 288) (Pg.vals P)
  nil : p = none → c = 0
theorem InPg.below {w w' : World} {p : Option Addr} {n c : Nat} {Ps : List (List Nat)} (h : InPg w p n c Ps) (hb : Below w.heap.size w w') : InPg w' p n c Ps :=
  ⟨h.len, h.cap, h.room, h.each, fun h0 => by
    obtain ⟨b, o, hp, hlt, hc⟩ := h.at' h0
    exact ⟨b, o, hp, Nat.lt_of_lt_of_le hlt hb.size, fun i P hi j v hv => (hb.cell (p := ⟨b, o + i * 288 + j, none⟩) hlt).trans (hc i P hi j v hv)⟩, h.nil⟩
/-- What is found in the first k pages of a block. -/
def fndTo (B : Int) (Ps : List (List Nat)) : Nat → List Fd
  | 0 => []
  | k + 1 => if Pg.decE (Ps.getD k []) = 0 then fndTo B Ps k ++ [⟨B, (k : Int), Pg.hv0 (Ps.getD k []), Pg.hv1 (Ps.getD k []), Pg.hv2 (Ps.getD k []), Pg.hv3 (Ps.getD k [])⟩] else fndTo B Ps k
theorem fndTo_length (B : Int) (Ps : List (List Nat)) (k : Nat) : (fndTo B Ps k).length ≤ k := by
  induction k with
  | zero => simp [fndTo]
  | succ k ih => unfold fndTo; split
                 · rw [List.length_append, List.length_singleton]; omega
                 · omega
theorem sizeP74 {P : List Nat} (h : Pg.IsP P) : (Try.prog.info? 74).map (·.size) = some (Pg.vals P).length := by rw [Pg.vals_length, h.1]; kernel_rfl
theorem sizeH : (Try.prog.info? 31).map (·.size) = some 4 := by kernel_rfl
end Go.Proofs.Ytfgelncfmopibaa

namespace Go.Proofs.Ytfgelncfmopibaa
open Go.RowKit
theorem owns_sliceF1 {w : World} {B e n : Nat} {v : Value} {xs : List Value} (h : w.ownsRow B e 6 v n xs) : ∃ p c, v = .slice p n c := by
  rcases h.2 with ⟨rfl, h0⟩ | ⟨g, cap, cur, hv, _⟩
  · exact ⟨none, 0, by rw [h0]⟩
  · exact ⟨_, _, hv⟩
set_option linter.unusedSimpArgs false in
set_option maxRecDepth 100000 in
set_option maxHeartbeats 8000000 in
theorem pagesR_any (B : Int) (p : Option Addr) (n c : Nat) (Ps : List (List Nat)) (w : World) (h : InPg w p n c Ps) (hn : n ≤ 1000) :
    Calls Try.prog 12 #[.int .i64 B, .slice p n c] w fun e w' => ∃ q lq cq, e = .returned (.slice q lq cq) ∧ w'.ownsRow w.heap.size 33 6 (.slice q lq cq) lq (flatF (fndTo B Ps n)) ∧ lq ≤ 1000 ∧ Below w.heap.size w w' := by
  obtain ⟨i0, hi, hz0, hz1, hz2⟩ := info_parts infoF
  have hnI : (n : Int) ≤ 1000 := by omega
  go_enter Try.func12, Try.ntmps12
  go_wp2
  go_loopw [5, 6] (fun v i wr => ∃ (k : Nat) (q : Option Addr) (lq cq : Nat), k ≤ n ∧ i = .int .i64 k ∧ v = .slice q lq cq ∧ lq ≤ k ∧ Hid (wr.ownsRow w.heap.size 33 6 (.slice q lq cq) lq (flatF (fndTo B Ps k))) ∧ Below w.heap.size w wr) (fun _ i _ => n - (intOf i).toNat)
  case atStart => exact ⟨0, none, 0, 0, Nat.zero_le _, rfl, rfl, Nat.le_refl _, ⟨rfl, .inl ⟨rfl, rfl⟩⟩, Below.refl _ _⟩
  case round =>
    obtain ⟨k, q, lq, cq, hk, rfl, rfl, hle, HW, hbk⟩ := hrel
    by_cases hlt : k < n
    · have hki : (k : Int) < (n : Int) := by omega
      obtain ⟨b, o, rfl, hbl, hc⟩ := (h.below hbk).at' (by omega)
      have hkl : k < Ps.length := by rw [h.len]; exact hlt
      have hrg := hc k _ (List.getElem?_eq_getElem hkl)
      have hIP := h.each _ (List.getElem_mem hkl)
      have HF : Hid (fndTo B Ps (k + 1) = if Pg.decE Ps[k] = 0 then fndTo B Ps k ++ [⟨B, (k : Int), Pg.hv0 Ps[k], Pg.hv1 Ps[k], Pg.hv2 Ps[k], Pg.hv3 Ps[k]⟩] else fndTo B Ps k) := by
        show (if Pg.decE (Ps.getD k []) = 0 then _ else _) = _
        rw [show Ps.getD k [] = Ps[k] by simp [hkl]]
      generalize Ps[k] = Pk at *
      have hdc := fun w => decodeR Pk hIP w
      generalize fndTo B Ps k = F at *
      have hsw := hbk.size
      clear hc
      have hdum := hIP
      by_cases hE : Pg.decE Pk = 0
      · have HF2 : Hid (fndTo B Ps (k + 1) = F ++ [⟨B, (k : Int), Pg.hv0 Pk, Pg.hv1 Pk, Pg.hv2 Pk, Pg.hv3 Pk⟩]) := HF.out.trans (if_pos hE)
        unfold DecOut at hdc
        rw [hE] at hdc
        clear HF hE
        go_upto_region 6 with (first | (guard_target = wpList _ _ _ (Oper.mk _ (Op.load 74 (Operand.tmp 19)) _ _ _ _ :: _) _ _; refine wpList_load_mid rfl 74 (.tmp 19) rfl b (o + k * 288) rfl (Pg.vals Pk) _ hrg Try.underlying74 rfl (sizeP74 hIP) ?_) | (go_at_call 34; refine (hdc _).mono ?_; rintro e w1 ⟨⟨x0, x1, x2, x3, pp, mm, cc, rfl, Hx⟩, hb1⟩; have hbr := hb1; have hbw := bt hbk hb1))
        have HFX : Hid (fndTo B Ps (k + 1) = F ++ [⟨B, (k : Int), x0, x1, x2, x3⟩]) := by show _ = _; rw [HF2.out]; obtain ⟨rfl, rfl, rfl, rfl⟩ := Hx.out trivial; rfl
        clear HF2 Hx hdc
        have bh := Blk.new' w1 31 #[.int .i64 x0, .int .i64 x1, .int .i64 x2, .int .i64 x3]
        have hb2 := bt hbw (below_alloc w1 (.cells #[.int .i64 x0, .int .i64 x1, .int .i64 x2, .int .i64 x3] 31))
        have HW2 : Hid ((w1.alloc (.cells #[.int .i64 x0, .int .i64 x1, .int .i64 x2, .int .i64 x3] 31)).ownsRow w.heap.size 33 6 (.slice q lq cq) lq (flatF F)) := (owns_below HW.out hbr).alloc _
        obtain ⟨gh, Hgh⟩ : ∃ g, g = w1.heap.size := ⟨_, rfl⟩
        rw [← Hgh] at bh ⊢
        clear Hgh
        generalize w1.alloc (.cells #[.int .i64 x0, .int .i64 x1, .int .i64 x2, .int .i64 x3] 31) = W2 at *
        have u0 := bh.cell' (i := 0) rfl; have u1 := bh.cell' (i := 1) rfl; have u2 := bh.cell' (i := 2) rfl; have u3 := bh.cell' (i := 3) rfl
        have bl := Blk.new' W2 33 #[.int .i64 B, .int .i64 (k : Int), .int .i64 x0, .int .i64 x1, .int .i64 x2, .int .i64 x3]
        have hs2 := hb2.size
        go_wp2_with (at_builtin; refine wpList_append_own _ rfl (.tmp 27) (.tmp 33) 27 rfl w.heap.size 33 i0 (.agg #[.int .i64 0, .int .i64 0, .int .i64 0, .int .i64 0, .int .i64 0, .int .i64 0]) 6 48 Try.underlying27 hi hz0 hz1 hz2 rfl (by decide) (.slice q lq cq) lq (flatF F) rfl (HW2.out.alloc _) ⟨W2.heap.size, 0, none⟩ 1 1 [.int .i64 B, .int .i64 (k : Int), .int .i64 x0, .int .i64 x1, .int .i64 x2, .int .i64 x3] rfl rfl (fun i u hu => by rw [addr_add, Nat.zero_add]; exact bl.cell' hu) (by simp [Value.oneCell']) (by unfold maxLen; omega) (by omega) (by rw [World.size_alloc]; omega) ?_; intro v1 w7 hown1 hgrow1 _; obtain ⟨q', cq', hv⟩ := owns_sliceF1 hown1; subst hv)
        go_roundw
        case rel =>
          have hb7 : Below w.heap.size w w7 := (bt hb2 (below_alloc W2 _)).grown hgrow1 (by rw [World.size_alloc]; omega) (fun j hj => (HW2.out.lt j hj).1)
          have e : flatF F ++ [.int .i64 B, .int .i64 (k : Int), .int .i64 x0, .int .i64 x1, .int .i64 x2, .int .i64 x3] = flatF (fndTo B Ps (k + 1)) := by rw [HFX.out, flatF_append]; simp [flatF, Fd.cells]
          rw [e] at hown1
          exact ⟨k + 1, q', lq + 1, cq', by omega, by go_num, rfl, by omega, hown1, hb7⟩
        case measure => simp [intOf]; omega
      · have HF2 : Hid (fndTo B Ps (k + 1) = F) := HF.out.trans (if_neg hE)
        have hE2 : (Pg.decE Pk == 0) = false := by rw [beq_eq_false_iff_ne]; exact hE
        unfold DecOut at hdc
        generalize Pg.decE Pk = de at *
        clear HF
        go_wp2_with (first | (guard_target = wpList _ _ _ (Oper.mk _ (Op.load 74 (Operand.tmp 19)) _ _ _ _ :: _) _ _; refine wpList_load_mid rfl 74 (.tmp 19) rfl b (o + k * 288) rfl (Pg.vals Pk) _ hrg Try.underlying74 rfl (sizeP74 hIP) ?_) | (go_at_call 34; refine (hdc _).mono ?_; rintro e w1 ⟨⟨x0, x1, x2, x3, pp, mm, cc, rfl, Hx⟩, hb1⟩; have hbr := hb1; have hbw := bt hbk hb1))
        go_roundw
        case rel => exact ⟨k + 1, q, lq, cq, by omega, by go_num, rfl, by omega, by show World.ownsRow _ _ _ _ _ _ _; rw [HF2.out]; exact (owns_below HW.out hbr).alloc _, bt hbw (below_alloc _ _)⟩
        case measure => simp [intOf]; omega
    · obtain rfl : n = k := by omega
      go_wp2
      go_ret
      exact ⟨q, lq, cq, rfl, HW.out, by omega, hbk⟩
end Go.Proofs.Ytfgelncfmopibaa

namespace Go.Proofs.Ytfgelncfmopibaa
open Go.RowKit
theorem valuesF_call (q : Option Addr) (n c : Nat) (w : World) : Calls Try.prog 33 #[.slice q n c] w fun e w' => e = .returned (.func (.func 61) #[] #[.pointer (some ⟨w.heap.size, 0, none⟩)]) ∧ Blk w' w.heap.size 27 [.slice q n c] ∧ Below w.heap.size w w' := by
  have b0 := Blk.new' w 27 #[.slice q n c]
  have hb := below_alloc w (.cells #[.slice q n c] 27)
  go_enter Try.func33, Try.ntmps33
  go_wp2
  go_ret
  exact ⟨rfl, b0, hb⟩
set_option linter.unusedSimpArgs false in
set_option maxRecDepth 100000 in
set_option maxHeartbeats 8000000 in
theorem pages_any (B : Int) (p : Option Addr) (n c : Nat) (Ps : List (List Nat)) (w : World) (h : InPg w p n c Ps) (hn : n ≤ 1000) :
    Calls Try.prog 10 #[.int .i64 B, .slice p n c] w fun e w' => ∃ Bs q lq cq, e = .returned (.func (.func 61) #[] #[.pointer (some ⟨Bs, 0, none⟩)]) ∧ w.heap.size ≤ Bs ∧ Blk w' Bs 27 [.slice q lq cq] ∧ w'.ownsRow w.heap.size 33 6 (.slice q lq cq) lq (flatF (fndTo B Ps n)) ∧ (∀ a, q = some a → a.block ≠ Bs) ∧ lq ≤ 1000 ∧ Below w.heap.size w w' := by
  obtain ⟨i0, hi, hz0, hz1, hz2⟩ := info_parts infoF
  have hnI : (n : Int) ≤ 1000 := by omega
  go_enter Try.func10, Try.ntmps10
  go_wp2
  go_loopw [5, 13] (fun v i wr => ∃ (k : Nat) (q : Option Addr) (lq cq : Nat), k ≤ n ∧ i = .int .i64 k ∧ v = .slice q lq cq ∧ lq ≤ k ∧ Hid (wr.ownsRow w.heap.size 33 6 (.slice q lq cq) lq (flatF (fndTo B Ps k))) ∧ Below w.heap.size w wr) (fun _ i _ => n - (intOf i).toNat)
  case atStart => exact ⟨0, none, 0, 0, Nat.zero_le _, rfl, rfl, Nat.le_refl _, ⟨rfl, .inl ⟨rfl, rfl⟩⟩, Below.refl _ _⟩
  case round =>
    obtain ⟨k, q, lq, cq, hk, rfl, rfl, hle, HW, hbk⟩ := hrel
    by_cases hlt : k < n
    · have hki : (k : Int) < (n : Int) := by omega
      obtain ⟨b, o, rfl, hbl, hc⟩ := (h.below hbk).at' (by omega)
      have hkl : k < Ps.length := by rw [h.len]; exact hlt
      have hrg := hc k _ (List.getElem?_eq_getElem hkl)
      have hIP := h.each _ (List.getElem_mem hkl)
      have HF : Hid (fndTo B Ps (k + 1) = if Pg.decE Ps[k] = 0 then fndTo B Ps k ++ [⟨B, (k : Int), Pg.hv0 Ps[k], Pg.hv1 Ps[k], Pg.hv2 Ps[k], Pg.hv3 Ps[k]⟩] else fndTo B Ps k) := by
        show (if Pg.decE (Ps.getD k []) = 0 then _ else _) = _
        rw [show Ps.getD k [] = Ps[k] by simp [hkl]]
      generalize Ps[k] = Pk at *
      have hdc := fun w => decodeP Pk hIP w
      generalize fndTo B Ps k = F at *
      have hsw := hbk.size
      clear hc
      have hzP := Pg.zeroPage
      by_cases hE : Pg.decE Pk = 0
      · have HF2 : Hid (fndTo B Ps (k + 1) = F ++ [⟨B, (k : Int), Pg.hv0 Pk, Pg.hv1 Pk, Pg.hv2 Pk, Pg.hv3 Pk⟩]) := HF.out.trans (if_pos hE)
        unfold DecOut at hdc
        rw [hE] at hdc
        clear HF hE
        go_upto_region 6 with (first | (guard_target = wpList _ _ _ (Oper.mk _ (Op.load 74 (Operand.tmp 16)) _ _ _ _ :: _) _ _; refine wpList_load_mid rfl 74 (.tmp 16) rfl b (o + k * 288) rfl (Pg.vals Pk) _ hrg Try.underlying74 rfl (sizeP74 hIP) ?_) | (guard_target = wpList _ _ _ (Oper.mk _ (Op.store 74 (Operand.tmp 7) _) _ _ _ _ :: _) _ _; refine wpList_store_blk rfl 74 (.tmp 7) (.tmp 17) rfl wr.heap.size 0 (Pg.vals Pk) rfl rfl (Blk.new wr 74 (Pg.vals (Pg.fillP 0))) (by rw [Pg.vals_length, Pg.vals_length, hIP.1, Pg.fillP_length]; exact Nat.le_refl _) (sizeP74 hIP) (by simp [Pg.vals, Value.oneCell']) ?_; intro W4 h4 ht4; rw [whole_row (by rw [Pg.vals_length, Pg.vals_length, hIP.1, Pg.fillP_length])] at h4; have k4 : Below wr.heap.size wr W4 := ht4.below (below_alloc wr _) (Nat.le_refl _)) | (guard_target = wpList _ _ _ (Oper.mk _ (Op.load 74 (Operand.tmp 7)) _ _ _ _ :: _) _ _; refine wpList_load_mid rfl 74 (.tmp 7) rfl wr.heap.size 0 rfl (Pg.vals Pk) _ (h4.range 0 288 _ (by rw [List.drop_zero, List.take_of_length_le (by rw [Pg.vals_length, hIP.1]; exact Nat.le_refl _)])) Try.underlying74 rfl (sizeP74 hIP) ?_) | (go_at_call 32; refine (hdc _).mono ?_; rintro e w1 ⟨⟨x0, x1, x2, x3, pp, mm, cc, rfl, Hx⟩, hb1⟩; have hbr := bt k4 hb1; have hbw := bt hbk hbr))
        have HFX : Hid (fndTo B Ps (k + 1) = F ++ [⟨B, (k : Int), x0, x1, x2, x3⟩]) := by show _ = _; rw [HF2.out]; obtain ⟨rfl, rfl, rfl, rfl⟩ := Hx.out trivial; rfl
        clear HF2 Hx hdc
        have bh := Blk.new' w1 31 #[.int .i64 x0, .int .i64 x1, .int .i64 x2, .int .i64 x3]
        have hb2 := bt hbw (below_alloc w1 (.cells #[.int .i64 x0, .int .i64 x1, .int .i64 x2, .int .i64 x3] 31))
        have HW2 : Hid ((w1.alloc (.cells #[.int .i64 x0, .int .i64 x1, .int .i64 x2, .int .i64 x3] 31)).ownsRow w.heap.size 33 6 (.slice q lq cq) lq (flatF F)) := (owns_below HW.out hbr).alloc _
        obtain ⟨gh, Hgh⟩ : ∃ g, g = w1.heap.size := ⟨_, rfl⟩
        rw [← Hgh] at bh ⊢
        clear Hgh
        generalize w1.alloc (.cells #[.int .i64 x0, .int .i64 x1, .int .i64 x2, .int .i64 x3] 31) = W2 at *
        have u0 := bh.cell' (i := 0) rfl; have u1 := bh.cell' (i := 1) rfl; have u2 := bh.cell' (i := 2) rfl; have u3 := bh.cell' (i := 3) rfl
        have bl := Blk.new' W2 33 #[.int .i64 B, .int .i64 (k : Int), .int .i64 x0, .int .i64 x1, .int .i64 x2, .int .i64 x3]
        have hs2 := hb2.size
        go_wp2_with (at_builtin; refine wpList_append_own _ rfl (.tmp 26) (.tmp 32) 27 rfl w.heap.size 33 i0 (.agg #[.int .i64 0, .int .i64 0, .int .i64 0, .int .i64 0, .int .i64 0, .int .i64 0]) 6 48 Try.underlying27 hi hz0 hz1 hz2 rfl (by decide) (.slice q lq cq) lq (flatF F) rfl (HW2.out.alloc _) ⟨W2.heap.size, 0, none⟩ 1 1 [.int .i64 B, .int .i64 (k : Int), .int .i64 x0, .int .i64 x1, .int .i64 x2, .int .i64 x3] rfl rfl (fun i u hu => by rw [addr_add, Nat.zero_add]; exact bl.cell' hu) (by simp [Value.oneCell']) (by unfold maxLen; omega) (by omega) (by rw [World.size_alloc]; omega) ?_; intro v1 w7 hown1 hgrow1 _; obtain ⟨q', cq', hv⟩ := owns_sliceF1 hown1; subst hv)
        go_roundw
        case rel =>
          have hb7 : Below w.heap.size w w7 := (bt hb2 (below_alloc W2 _)).grown hgrow1 (by rw [World.size_alloc]; omega) (fun j hj => (HW2.out.lt j hj).1)
          have e : flatF F ++ [.int .i64 B, .int .i64 (k : Int), .int .i64 x0, .int .i64 x1, .int .i64 x2, .int .i64 x3] = flatF (fndTo B Ps (k + 1)) := by rw [HFX.out, flatF_append]; simp [flatF, Fd.cells]
          rw [e] at hown1
          exact ⟨k + 1, q', lq + 1, cq', by omega, by go_num, rfl, by omega, hown1, hb7⟩
        case measure => simp [intOf]; omega
      · have HF2 : Hid (fndTo B Ps (k + 1) = F) := HF.out.trans (if_neg hE)
        have hE2 : (Pg.decE Pk == 0) = false := by rw [beq_eq_false_iff_ne]; exact hE
        unfold DecOut at hdc
        generalize Pg.decE Pk = de at *
        clear HF
        go_wp2_with (first | (guard_target = wpList _ _ _ (Oper.mk _ (Op.load 74 (Operand.tmp 16)) _ _ _ _ :: _) _ _; refine wpList_load_mid rfl 74 (.tmp 16) rfl b (o + k * 288) rfl (Pg.vals Pk) _ hrg Try.underlying74 rfl (sizeP74 hIP) ?_) | (guard_target = wpList _ _ _ (Oper.mk _ (Op.store 74 (Operand.tmp 7) _) _ _ _ _ :: _) _ _; refine wpList_store_blk rfl 74 (.tmp 7) (.tmp 17) rfl wr.heap.size 0 (Pg.vals Pk) rfl rfl (Blk.new wr 74 (Pg.vals (Pg.fillP 0))) (by rw [Pg.vals_length, Pg.vals_length, hIP.1, Pg.fillP_length]; exact Nat.le_refl _) (sizeP74 hIP) (by simp [Pg.vals, Value.oneCell']) ?_; intro W4 h4 ht4; rw [whole_row (by rw [Pg.vals_length, Pg.vals_length, hIP.1, Pg.fillP_length])] at h4; have k4 : Below wr.heap.size wr W4 := ht4.below (below_alloc wr _) (Nat.le_refl _)) | (guard_target = wpList _ _ _ (Oper.mk _ (Op.load 74 (Operand.tmp 7)) _ _ _ _ :: _) _ _; refine wpList_load_mid rfl 74 (.tmp 7) rfl wr.heap.size 0 rfl (Pg.vals Pk) _ (h4.range 0 288 _ (by rw [List.drop_zero, List.take_of_length_le (by rw [Pg.vals_length, hIP.1]; exact Nat.le_refl _)])) Try.underlying74 rfl (sizeP74 hIP) ?_) | (go_at_call 32; refine (hdc _).mono ?_; rintro e w1 ⟨⟨x0, x1, x2, x3, pp, mm, cc, rfl, Hx⟩, hb1⟩; have hbr := bt k4 hb1; have hbw := bt hbk hbr))
        go_roundw
        case rel => exact ⟨k + 1, q, lq, cq, by omega, by go_num, rfl, by omega, by show World.ownsRow _ _ _ _ _ _ _; rw [HF2.out]; exact (owns_below HW.out hbr).alloc _, bt hbw (below_alloc _ _)⟩
        case measure => simp [intOf]; omega
    · obtain rfl : n = k := by omega
      have hvl := valuesF_call q lq cq wr
      have hs9 := hbk.size
      go_wp2_with (go_at_call 33; refine hvl.mono ?_; rintro e w9 ⟨rfl, hBs, hb9⟩)
      go_ret
      exact ⟨wr.heap.size, q, lq, cq, rfl, hs9, hBs, owns_below HW.out hb9, fun a ha e => (by subst ha; have := (HW.out.lt a.block rfl).2; omega), by omega, bt hbk hb9⟩
end Go.Proofs.Ytfgelncfmopibaa

namespace Go.Proofs.Ytfgelncfmopibaa
open Go.RowKit Go.Shelf
attribute [local go_sem] Oper.semAt_some
/-- What yield is handed. -/
def encV (x : Fd) : Array Value := #[x.val]
set_option linter.unusedSimpArgs false in
set_option maxRecDepth 100000 in
set_option maxHeartbeats 4000000 in
theorem valuesF1_in (n : Nat) (hn : 2 ≤ n) (l Bs c N : Nat) (p : Option Addr) (xs : List Fd) (J Jx : List Fd → World → Prop) (W : World)
    (hJ : AbidesFrom W.heap.size J)
    (hY : ∀ pre x W, J pre W → pre.length < xs.length → YieldAt Fence.wide (n - 1) Try.prog l (encV x) W fun e W' =>
      (e = .returned (.bool true) ∧ J (pre ++ [x]) W' ∧ KpF Bs Bs N p W W') ∨ (e = .returned (.bool false) ∧ Jx (pre ++ [x]) W'))
    (h1 : W.cell? ⟨Bs, 0, none⟩ = some (.slice p N c)) (g1 : Bs < W.heap.size) (hp : InF W p N c xs) (h0 : J [] W) :
    CallsIn Fence.wide n Try.prog 61 #[.func (.yield l) #[] #[], .pointer (some ⟨Bs, 0, none⟩)] W fun e W' => (∃ v, e = .returned v) ∧
      ((∃ ys, ys = xs ∧ J ys W') ∨ (∃ pre, True ∧ Jx pre W')) := by
  have hroom := hp.room
  have hn1 : 1 ≤ n := by omega
  have HL : Hid (xs.length = N) := hp.len
  refine callsIn_of_wp Try.func61 rfl trivial ?_ rfl
  simp only [Try.ntmps61, List.size_toArray, List.length_cons, List.length_nil, Nat.reduceAdd, Nat.reduceSub, Array.replicate_succ, Array.replicate_zero, List.push_toArray, List.append_toArray, List.nil_append, List.cons_append]
  gi_wp2
  gi_loopw [7] (fun i wr => ∃ k : Nat, k ≤ N ∧ i = .int .i64 k ∧ J (xs.take k) wr ∧ KpF Bs Bs N p W wr) (fun i _ => N - (intOf i).toNat)
  case atStart => exact ⟨0, Nat.zero_le _, rfl, by simpa using h0, KpF.refl _ _ _ _ _⟩
  case round =>
    obtain ⟨k, hk, rfl, hJs, hnx⟩ := hrel
    by_cases hlt : k < N
    · have hpx := hp.keptK hnx
      obtain ⟨b, o, rfl, hbl, hc⟩ := hpx.at' (by omega)
      obtain ⟨e0, e1, e2, e3, e4, e5⟩ := hc k hlt
      have hxl : k < xs.length := by rw [HL.out]; exact hlt
      have HU : Hid (xs.take (k + 1) = xs.take k ++ [eF xs k]) := takeF_succ xs k hxl
      have hlen : (xs.take k).length < xs.length := by rw [List.length_take]; omega
      generalize eF xs k = x at *
      have gs := hnx.1.2.2
      obtain ⟨xh, xg, xk, xp, xs', xt⟩ := x
      dsimp only at e0 e1 e2 e3 e4 e5
      clear hc hpx
      have ba : Below wr.heap.size wr (wr.alloc (.cells #[.int .i64 xh, .int .i64 xg, .int .i64 xk, .int .i64 xp, .int .i64 xs', .int .i64 xt] 33)) := below_alloc _ _
      have hJ2 : J (xs.take k) (wr.alloc (.cells #[.int .i64 xh, .int .i64 xg, .int .i64 xk, .int .i64 xp, .int .i64 xs', .int .i64 xt] 33)) := hJ _ _ _ none hJs (grown_of ba) (fun r e => by cases e)
      have hr1 : KpF Bs Bs N (some ⟨b, o, none⟩) W (wr.alloc (.cells #[.int .i64 xh, .int .i64 xg, .int .i64 xk, .int .i64 xp, .int .i64 xs', .int .i64 xt] 33)) := hnx.trans (KpF.below ba (by omega) (by omega) (fun _ a e => by cases e; exact hbl))
      obtain ⟨fn, tmps, assign, body, hy, hR⟩ := hY _ ⟨xh, xg, xk, xp, xs', xt⟩ _ hJ2 hlen
      dsimp only [encV, Fd.val] at hy
      clear hJs hJ2 hY
      gi_wp2
      refine hR.mono ?_
      rintro e W3 (⟨rfl, hJ3, hk3⟩ | ⟨rfl, hJx3⟩)
      · gi_wp2
        go_roundw
        case rel => exact ⟨k + 1, by omega, by simp, by rw [HU.out]; exact hJ3, hr1.trans hk3⟩
        case measure => simp [intOf]; omega
      · gi_wp2
        refine bodyPost_ret (results_none rfl _ _ _) rfl ?_
        exact ⟨⟨_, rfl⟩, .inr ⟨_, trivial, hJx3⟩⟩
    · obtain rfl : k = N := by omega
      rw [List.take_of_length_le (by rw [HL.out]; exact Nat.le_refl _)] at hJs
      gi_wp2
      go_end0
      exact ⟨⟨_, rfl⟩, .inl ⟨_, rfl, hJs⟩⟩
theorem valuesF_stops (n : Nat) (hn : 2 ≤ n) (Bs c N : Nat) (p : Option Addr) (xs : List Fd) (w : World) (g1 : Bs < w.heap.size) (h1 : w.cell? ⟨Bs, 0, none⟩ = some (.slice p N c)) (hI : InF w p N c xs) :
    SeqStopsK Fence.wide n Try.prog 61 #[.pointer (some ⟨Bs, 0, none⟩)] encV (KpF Bs Bs N p) (fun ys => ys = xs) (fun _ => True) xs.length w := fun l J Jx W hW hJ _ hY h0 =>
  valuesF1_in n hn l Bs c N p xs J Jx W hJ hY ((hW.cell (p := ⟨Bs, 0, none⟩) g1).trans h1) (Nat.lt_of_lt_of_le g1 hW.size) (hI.below hW) h0
set_option linter.unusedSimpArgs false in
set_option maxHeartbeats 4000000 in
theorem equalF_yes (p q : Option Addr) (n c d : Nat) (l : List Fd) (w : World) (hp : InF w p n c l) (hq : InF w q n d l) :
    Calls Try.prog 11 #[.slice p n c, .slice q n d] w fun e w' => e = .returned (.bool true) ∧ Below w.heap.size w w' := by
  have hroom := hp.room
  go_enter Try.func11, Try.ntmps11
  go_wp2
  go_loopw [13] (fun i wr => ∃ k : Nat, k ≤ n ∧ i = .int .i64 k ∧ Below w.heap.size w wr) (fun i _ => n - (intOf i).toNat)
  case atStart => exact ⟨0, Nat.zero_le _, rfl, Below.refl _ _⟩
  case round =>
    obtain ⟨k, hk, rfl, hbk⟩ := hrel
    by_cases hlt : k < n
    · obtain ⟨b, o, rfl, _, hc⟩ := (hp.below hbk).at' (by omega)
      obtain ⟨b', o', rfl, _, hd⟩ := (hq.below hbk).at' (by omega)
      obtain ⟨e0, e1, e2, e3, e4, e5⟩ := hc k hlt
      obtain ⟨d0, d1, d2, d3, d4, d5⟩ := hd k hlt
      have hki : (k : Int) < (n : Int) := by omega
      generalize eF l k = R at *
      obtain ⟨ra, rb, rc, rd, re, rf⟩ := R
      dsimp only at e0 e1 e2 e3 e4 e5 d0 d1 d2 d3 d4 d5
      clear hc hd
      go_wp2_with fail
      go_quiet (fail)
      go_wp2
      go_roundw
      case rel => exact ⟨k + 1, by omega, by go_num, ⟨hbk.os, hbk.tape, hbk.output, hbk.size, hbk.block⟩⟩
      case measure => simp [intOf]; omega
    · obtain rfl : k = n := by omega
      go_wp2
      go_ret
      exact ⟨rfl, hbk⟩
end Go.Proofs.Ytfgelncfmopibaa

namespace Go.Proofs.Ytfgelncfmopibaa
open Go.RowKit Go.Shelf
attribute [local go_sem] Oper.semAt_some
theorem seqF_nil (w : World) (f : Fn) (a b : Array Value) : (binOp .eql 25 (.func f a b) .nilFunc).run Try.prog w = .ok (.bool false) w := by
  have h : ∀ d : Nat, (Op.equalIn (d + 1) 25 (.func f a b) .nilFunc).run Try.prog w = .ok false w := fun d => by
    simp [Op.equalIn]
  simp only [binOp]
  simp [Op.equal, Op.maxDepth, h 9999]
theorem slicePg_front (p : Option Addr) (n c k : Nat) (h : k ≤ n) (hc : n ≤ c) (W : World) :
    (Instr.slice 22 (.slice p n c) none (some (.int .i64 (k : Int))) none).run Try.prog W = .ok (.slice p k c) W := by
  simp [Instr.slice, Instr.sliceBounds, Instr.sliceBound, run_underlying Try.underlying22, asIntOf]
  rw [if_pos (by omega)]
  have : (Option.map (fun x : Addr => x.add 0) p) = p := by
    cases p with
    | none => rfl
    | some a => obtain ⟨b, o, s⟩ := a; cases s <;> simp [Addr.add]
  rw [this, ite_self]
theorem min8 (n : Nat) : ∃ m, m ≤ n ∧ m ≤ 8 ∧ ∀ W, (Builtin.min_ #[3, 3] 3 #[Value.int IntKind.i64 (n : Int), Value.int IntKind.i64 8]).run Try.prog W = .ok (.int .i64 (m : Int)) W := by
  have e : min (n : Int) 8 = ((min n 8 : Nat) : Int) := by omega
  exact ⟨min n 8, by omega, by omega, fun W => by rw [Lib.run_min_ints, e]⟩
theorem InPg.front {w : World} {p : Option Addr} {n c m : Nat} {Ps : List (List Nat)} (h : InPg w p n c Ps) (hm : m ≤ n) : InPg w p m c (Ps.take m) := by
  have hl := h.len
  refine ⟨by rw [List.length_take]; omega, Nat.le_trans hm h.cap, Nat.le_trans hm h.room, fun P hP => h.each P (List.mem_of_mem_take hP), fun h0 => ?_, h.nil⟩
  obtain ⟨b, o, hp, hlt, hc⟩ := h.at' (by omega)
  refine ⟨b, o, hp, hlt, fun i P hi => hc i P ?_⟩
  have him : i < m := by have := (List.getElem?_eq_some_iff.1 hi).1; rw [List.length_take] at this; omega
  rwa [List.getElem?_take_of_lt him] at hi
theorem owns_turnedF {w w' : World} {B g : Nat} {e : TypeId} {s : Nat} {v : Value} {n : Nat} {xs : List Value} (h : w.ownsRow B e s v n xs) (ht : Turned w w' g) (hg : g < B) : w'.ownsRow B e s v n xs := by
  refine ⟨h.1, ?_⟩
  rcases h.2 with h' | ⟨g', cap, cur, hv', hB', hh, hr'⟩
  · exact .inl h'
  · exact .inr ⟨g', cap, cur, hv', hB', (ht.block g' (by omega)).trans hh, hr'⟩
theorem row_cellsF {w : World} {B : Nat} {e : TypeId} {s : Nat} {v : Value} {n : Nat} {xs : List Value} (h : w.ownsRow B e s v n xs) {j : Nat} {ob : Obj} (ej : v.ownBlock = some j) (hj : w.heap[j]? = some ob) : ob.isCells = true := by
  rcases h.2 with ⟨rfl, _⟩ | ⟨g', cap, cur, rfl, _, hh, _⟩
  · simp [Value.ownBlock] at ej
  · simp [Value.ownBlock] at ej
    subst ej
    rw [hh] at hj
    cases hj
    rfl
set_option linter.unusedSimpArgs false in
set_option maxRecDepth 100000 in
set_option maxHeartbeats 8000000 in
theorem finds_in (nf : Nat) (hnf : 5 ≤ nf) (B : Int) (p : Option Addr) (n c : Nat) (Ps : List (List Nat)) (w : World) (h : InPg w p n c Ps) :
    CallsIn Fence.wide nf Try.prog 3 #[.int .i64 B, .slice p n c] w fun e w' => e = .returned (.bool true) ∧ Below w.heap.size w w' := by
  have h1 : 1 ≤ nf := by omega
  obtain ⟨i0, hi, hz0, hz1, hz2⟩ := info_parts infoF
  obtain ⟨m, hmn, hm8, hmin⟩ := min8 n
  have hcap := h.cap
  have hsl := slicePg_front p n c m hmn hcap
  have hPm := h.front hmn
  generalize Ps.take m = Qs at *
  have hmI : (m : Int) ≤ 8 := by omega
  have hpg := fun W (hW : Below w.heap.size w W) => pages_any B p m c Qs W (hPm.below hW) (by omega)
  have hpr := fun W (hW : Below w.heap.size w W) => pagesR_any B p m c Qs W (hPm.below hW) (by omega)
  have hfn := fun W a b => seqF_nil W (.func 61) a b
  refine callsIn_of_wp_marks Try.func3 rfl trivial ?_ rfl
  simp only [Try.ntmps3, List.size_toArray, List.length_cons, List.length_nil, Nat.reduceAdd, Nat.reduceSub, Array.replicate_succ, Array.replicate_zero, List.push_toArray, List.append_toArray, List.nil_append, List.cons_append]
  gi_wp2_with (first | (refine ⟨trivial, ?_⟩; gi_at_call 9; refine (callsIn_wide.2 (live_any _)).mono ?_; rintro e w1 ⟨rfl, hb1⟩) | (refine ⟨trivial, ?_⟩; gi_at_call 10; refine (callsIn_wide.2 (hpg _ hb1)).mono ?_; rintro e w3 ⟨Bs, q, lq, cq, rfl, hBs, hbx, hrow0, hqne, hlq, hb3⟩))
  have hwb := bt hb1 hb3
  have hltB := hbx.lt
  obtain ⟨pF, cF, eF, hF⟩ := in_of_ownsF hrow0 (by omega)
  cases eF
  have hFl : (fndTo B Qs m).length = lq := hF.len
  generalize fndTo B Qs m = F at *
  have hql : ∀ a, q = some a → a.block < w3.heap.size := fun a e => by subst e; exact (hrow0.lt a.block rfl).2
  have hb0 : Below w3.heap.size w3 (w3.alloc (.cells #[.slice none 0 0] 27)) := below_alloc w3 _
  have b5 := Boxed.new w3 27 (.slice none 0 0)
  have hsz : w3.heap.size < (w3.alloc (.cells #[.slice none 0 0] 27)).heap.size := by rw [World.size_alloc]; omega
  have hcb := (hbx.kept hb0).cell' (i := 0) rfl
  have hF4 := hF.below hb0
  have hw4 := bt hwb hb0
  obtain ⟨gB, HgB⟩ : ∃ g, g = w3.heap.size := ⟨_, rfl⟩
  rw [← HgB] at b5 hsz hltB hql ⊢
  generalize w3.alloc (.cells #[.slice none 0 0] 27) = w4 at *
  have hwg : w.heap.size ≤ gB := by rw [HgB]; exact hwb.size
  clear HgB hbx hrow0 hF hb0 hpg hb3 hwb hqne
  subst hFl
  refine wpIn_rangeFunc_ownH rfl h1 (gf := 61) (lb := #[.pointer (some ⟨Bs, 0, none⟩)]) rfl trivial (enters_of Try.func61 (by kernel_rfl) rfl)
    (valuesF_stops (nf - 1) (by omega) Bs cq F.length q F w4 (by omega) hcb hF4) (fun h k => h.trans k)
    (fun W' l o o' hl _ _ _ => ⟨⟨World.putObj_heap_other (by omega), World.putObj_heap_other (by omega), by simp [World.putObj]⟩, fun h0 a e => World.putObj_heap_other (by have := hql a e; omega)⟩) (Below.refl _ _) (fun _ => rfl)
    (fun pre W' => (∃ v, Boxed W' gB 27 v ∧ W'.ownsRow w4.heap.size 33 6 v pre.length (flatF pre) ∧ True) ∧ Below w.heap.size w W' ∧ w4.heap.size ≤ W'.heap.size)
    (fun _ _ _ => False)
    (OwnFrom.and (Own.from (holdsRow_own w4.heap.size gB 27 33 6 (fun pre : List Fd => pre.length) (fun pre => flatF pre) (fun _ _ => True)) _) (OwnFrom.and (ownFrom_below (Nat.le_refl _) hw4.size) (fun _ _ _ _ hs hg _ => Nat.le_trans hs hg.size)))
    (fun _ _ _ _ _ hs _ _ => hs)
    ⟨⟨_, b5, World.ownsRow_nil _ _ _ _, trivial⟩, hw4, Nat.le_refl _⟩
    (fun x a' W => ∃ Bx, w4.heap.size ≤ Bx ∧ Blk W Bx 33 x.cells ∧ a' = { tmps := #[.int .i64 B, .slice p m c, undef, undef, .bool false, .func (.func 61) #[] #[.pointer (some ⟨Bs, 0, none⟩)], .pointer (some ⟨gB, 0, none⟩), .pointer (some ⟨Bx, 0, none⟩), .bool true, .bool false, .slice p n c, .slice p n c, .int .i64 (n : Int), .int .i64 (m : Int), .slice p m c, .int .i64 B, .slice p m c, .func (.func 61) #[] #[.pointer (some ⟨Bs, 0, none⟩)], .func (.func 61) #[] #[.pointer (some ⟨Bs, 0, none⟩)], .bool false, .func (.func 61) #[] #[.pointer (some ⟨Bs, 0, none⟩)], x.val, undef, undef, undef, undef, undef, undef, undef, undef, undef], defers := [] })
    (fun x a' s X Y row ⟨Bx, h1, h2, h3⟩ hg hr => ⟨Bx, h1, (blk_own (β := Unit) Bx 33 (fun _ => x.cells)).from w4.heap.size () X Y row h2 hg hr, h3⟩)
    ?assign ?body ?done ?stop
  case assign =>
    rintro l pre x W K ⟨⟨v, hn1, hn2, _⟩, hn3, hn4⟩ hK
    obtain ⟨xh, xg, xk, xp, xs', xt⟩ := x
    dsimp only [encV, Fd.val]
    gi_wp2
    exact hK _ _ ((KeepsOthers.alloc _ _).from _) (KpF.below (below_alloc _ _) (by omega) (by omega) (fun h0 a e => by have := hql a e; omega)) ⟨⟨v, (Below.heap_alloc W _ gB (by omega)).trans hn1, hn2.alloc _, trivial⟩, bt hn3 (below_alloc _ _), by rw [World.size_alloc]; omega⟩ ⟨W.heap.size, hn4, Blk.new' _ _ _, rfl⟩
  case stop =>
    rintro D c pre W' _ _ h _
    exact h.elim
  case body =>
    rintro l pre x a' W hl2 ⟨r, hr⟩ ⟨⟨v, h5, hrow, _⟩, hn3, hn4⟩ ⟨Bx, hBx, hX, rfl⟩ hlen
    obtain ⟨xh, xg, xk, xp, xs', xt⟩ := x
    dsimp only [Fd.val, Fd.cells] at hX ⊢
    obtain ⟨k, hkk⟩ : ∃ k, pre.length = k := ⟨_, rfl⟩
    have HK : Hid (pre.length = k) := hkk
    rw [hkk] at hrow hlen
    clear hkk
    obtain ⟨pv, cv, rfl, hinv⟩ := in_of_ownsF hrow (by omega)
    clear hinv
    have g5 := h5.cell
    have f5 := h5.frozen
    have u0 := hX.cell' (i := 0) rfl; have u1 := hX.cell' (i := 1) rfl; have u2 := hX.cell' (i := 2) rfl; have u3 := hX.cell' (i := 3) rfl; have u4 := hX.cell' (i := 4) rfl; have u5 := hX.cell' (i := 5) rfl
    have bl := Blk.new' W 33 #[.int .i64 xh, .int .i64 xg, .int .i64 xk, .int .i64 xp, .int .i64 xs', .int .i64 xt]
    gi_wp2_with (gi_at_builtin; refine wpListIn_append_own _ rfl (.tmp 22) (.tmp 24) 27 rfl w4.heap.size 33 i0 (.agg #[.int .i64 0, .int .i64 0, .int .i64 0, .int .i64 0, .int .i64 0, .int .i64 0]) 6 48 Try.underlying27 hi hz0 hz1 hz2 rfl (by decide) (.slice pv k cv) k (flatF pre) rfl (hrow.alloc _) ⟨W.heap.size, 0, none⟩ 1 1 [.int .i64 xh, .int .i64 xg, .int .i64 xk, .int .i64 xp, .int .i64 xs', .int .i64 xt] rfl rfl (fun i u hu => by rw [addr_add, Nat.zero_add]; exact bl.cell' hu) (by simp [Value.oneCell']) (by unfold maxLen; omega) (by omega) (by rw [World.size_alloc]; omega) ?_; intro v1 wq hown1 hgrow1 _; obtain ⟨g', cap', rfl⟩ := ownsRow_succ hown1; have hrw : ∀ j, (Value.slice pv k cv).ownBlock = some j → w4.heap.size ≤ j := fun j hj => (hrow.lt j hj).1; have hkp : ∀ j, j < w4.heap.size → wq.heap[j]? = W.heap[j]? := fun j hj => (hgrow1.block j (by rw [World.size_alloc]; omega) (fun e => by have := hrw j e.symm; omega)).trans (Below.heap_alloc W _ j (by omega)); have hv1 : Boxed wq gB 27 (.slice pv k cv) := (hkp gB (by omega)).trans h5; have hc1 := hv1.cell; have hf1 := hv1.frozen)
    have e9 : flatF pre ++ [.int .i64 xh, .int .i64 xg, .int .i64 xk, .int .i64 xp, .int .i64 xs', .int .i64 xt] = flatF (pre ++ [(⟨xh, xg, xk, xp, xs', xt⟩ : Fd)]) := by rw [flatF_append]; simp [flatF, Fd.cells]
    rw [e9] at hown1
    have tn := Turned.setCell wq ⟨gB, 0, none⟩ (.slice (some ⟨g', 0, none⟩) (k + 1) cap')
    dsimp only at tn
    have hkq : ∀ j, j < w4.heap.size → j ≠ gB → (wq.setCell ⟨gB, 0, none⟩ (.slice (some ⟨g', 0, none⟩) (k + 1) cap')).heap[j]? = W.heap[j]? := fun j hj hne => (tn.block j hne).trans (hkp j hj)
    have ko : KeepsOthers W (wq.setCell ⟨gB, 0, none⟩ (.slice (some ⟨g', 0, none⟩) (k + 1) cap')) := ((KeepsOthers.alloc W _).trans (KeepsOthers.of_grownBy hgrow1 (fun j ob ej hj => row_cellsF (hrow.alloc _) ej hj))).trans (KeepsOthers.setCell _ _ _)
    have hbz : Below w.heap.size w wq := (bt hn3 (below_alloc W _)).grown hgrow1 (by rw [World.size_alloc]; have := hn3.size; omega) (fun j hj => by have := hrw j hj; have := hw4.size; omega)
    have hsz2 := hgrow1.size
    rw [World.size_alloc] at hsz2
    refine ⟨ko.from _, ⟨⟨hkq _ (by omega) (by omega), hkq _ (by omega) (by omega), by rw [tn.size]; omega⟩, fun h0 a e => hkq _ (by have := hql a e; omega) (by have := hql a e; omega)⟩, ⟨_, hv1.set _, by rw [List.length_append, HK.out]; exact owns_turnedF hown1 tn (by omega)⟩, tn.below hbz hwg, by rw [tn.size]; omega⟩
  case done =>
    rintro D ys W hD rfl ⟨⟨v, h5, hrow, _⟩, hn3, hn4⟩ hK
    obtain ⟨pv, cv, rfl, hinv⟩ := in_of_ownsF hrow (by omega)
    have g5 := h5.cell
    have hDl : D < W.heap.size := (Array.getElem?_eq_some_iff.1 hK).1
    have hgW : gB < W.heap.size := by omega
    gi_wp2
    refine wpIn_wide.2 ?_
    refine wp_region_noPanic ?_
    refine wp_region_held_drew (S := fun X => Below W.heap.size W X) (by kernel_rfl) ⟨rfl, rfl, rfl, Nat.le_refl _, fun _ _ => rfl⟩ (fun hHeld => ?_)
    refine wpAnyH_take (i := 0) (v := ?_) rfl (by kernel_rfl) (by kernel_rfl) (by kernel_rfl) (fun _ _ _ h => h) (Or.inl ⟨by rfl, ?_⟩) hHeld ?_
    rotate_left
    · intro w' hSw; try dsimp only at hSw
      have y := (hSw.cell (p := ⟨gB, 0, none⟩) hgW).trans g5
      go_simp; try (with_reducible rfl)
    try simp only [Act.put, List.getElem_toArray, List.getElem_cons_succ, List.getElem_cons_zero, List.setIfInBounds_toArray, List.set_cons_zero, List.set_cons_succ]
    refine wpAnyH_take (i := 1) (v := ?_) rfl (by kernel_rfl) (by kernel_rfl) (by kernel_rfl) (fun _ _ _ h => h) (Or.inl ⟨by rfl, ?_⟩) hHeld ?_
    rotate_left
    · intro w' hSw; try dsimp only at hSw
      go_simp; try (with_reducible rfl)
    try simp only [Act.put, List.getElem_toArray, List.getElem_cons_succ, List.getElem_cons_zero, List.setIfInBounds_toArray, List.set_cons_zero, List.set_cons_succ]
    refine wpAnyH_take (i := 2) (v := ?_) rfl (by kernel_rfl) (by kernel_rfl) (by kernel_rfl) (fun _ _ _ h => h) (Or.inl ⟨by rfl, ?_⟩) hHeld ?_
    rotate_left
    · intro w' hSw; try dsimp only at hSw
      go_simp; try (with_reducible rfl)
    try simp only [Act.put, List.getElem_toArray, List.getElem_cons_succ, List.getElem_cons_zero, List.setIfInBounds_toArray, List.set_cons_zero, List.set_cons_succ]
    refine wpAnyH_ready (rs := [3]) (by kernel_rfl) (by simp) ?_
    refine AllReadyH.cons rfl (fun K hK => ?_) AllReadyH.nil
    go_simp
    refine (hpr _ (bt hn3 hHeld)).mono ?_
    rintro e X1 ⟨q2, l2, c2, rfl, ho2, hl2, hb2⟩
    try go_wp2_with fail
    refine hK.out _ _ (bt hHeld hb2) (fun hHeld => ?_)
    clear hK K
    try simp only [Act.put, List.getElem_toArray, List.getElem_cons_succ, List.getElem_cons_zero, List.setIfInBounds_toArray, List.set_cons_zero, List.set_cons_succ]
    obtain ⟨p3, c3, e3, i4⟩ := in_of_ownsF ho2 (by omega)
    cases e3
    have hl3 := i4.len
    subst hl3
    refine wpAnyH_ready (rs := [4]) (by kernel_rfl) (by simp) ?_
    refine AllReadyH.cons rfl (fun K hK => ?_) AllReadyH.nil
    go_simp
    refine (equalF_yes _ _ _ _ _ _ _ (hinv.below hHeld) i4).mono ?_
    rintro e X2 ⟨rfl, hb3⟩
    try go_wp2_with fail
    refine hK.out _ _ (bt hHeld hb3) (fun hHeld => ?_)
    clear hK K
    try simp only [Act.put, List.getElem_toArray, List.getElem_cons_succ, List.getElem_cons_zero, List.setIfInBounds_toArray, List.set_cons_zero, List.set_cons_succ]
    refine wpAnyH_take (i := 5) (v := ?_) rfl (by kernel_rfl) (by kernel_rfl) (by kernel_rfl) (fun _ _ _ h => h) (Or.inl ⟨by rfl, ?_⟩) hHeld ?_
    rotate_left
    · intro w' hSw; try dsimp only at hSw
      go_simp; try (with_reducible rfl)
    try simp only [Act.put, List.getElem_toArray, List.getElem_cons_succ, List.getElem_cons_zero, List.setIfInBounds_toArray, List.set_cons_zero, List.set_cons_succ]
    refine wpAnyH_done (by kernel_rfl) ?_ _
    refine NoPanic.normal ?_
    have hKX := (hHeld.block D hDl).trans hK
    gi_wp2
    refine ⟨by simp, .inl ⟨_, _, rfl, run_takeDeferred hKX, ?_⟩⟩
    have hwg4 := hw4.size
    have hbD : Below w.heap.size X2 (X2.putObj D (.deferred none)) := belowK_b (w := w) (Nat.le_refl _) X2 D _ _ (by omega) hKX rfl rfl
    exact ⟨_, results_tmp Try.results3 _ _ _, rfl, (bt hn3 hHeld).trans hbD⟩
theorem scanFinds_true (B : Int) (p : Option Addr) (n c : Nat) (Ps : List (List Nat)) (w : World) (h : InPg w p n c Ps) :
    Calls Try.prog 3 #[.int .i64 B, .slice p n c] w fun e w' => e = .returned (.bool true) ∧ Below w.heap.size w w' :=
  callsIn_wide.1 (finds_in 5 (Nat.le_refl _) B p n c Ps w h)
end Go.Proofs.Ytfgelncfmopibaa

namespace Go.Proofs.Ytfgelncfmopibaa
open Go.ChangeShapes Go.WideShapes Go.ChangeAt Go.RowKit Go.Joins
theorem cellsOfPg : Try.prog.cellsOf 74 = 288 := by kernel_rfl
theorem bytesOfPg : Try.prog.bytesOf 74 = 288 := by kernel_rfl
theorem cellsOfD : Try.prog.cellsOf 71 = 256 := by kernel_rfl
theorem cellsOfO : Try.prog.cellsOf 72 = 32 := by kernel_rfl
theorem u8_at {x : Int} (h : (Lit.int .u8 x).wf = true) : 0 ≤ x ∧ x < 256 := by
  simp [Lit.wf, IntKind.min, IntKind.max, IntKind.signed, IntKind.bits] at h
  omega
/-- The bytes of an array. -/
theorem arr_bytes {H : Type} {enc : TypeId × Value → H} {W : World} {t : TypeId} {n fuel : Nat} {cs : List Value} {x : DataW H × List MemPlace} (ht : Try.prog.underlying t = some (.array n 5)) (hf : DataW.trod enc Try.prog W 0 (fun _ => true) true fuel t cs = some x) (hl : cs.length = n) :
    ∀ i, i < n → ∃ z : Nat, cs[i]? = some (.int .u8 (z : Int)) ∧ z < 256 := by
  intro i hi
  obtain ⟨xs, m, _, _, _, hxl, he⟩ := DataW.trod_array ht hf
  have h1 := he i hi
  rw [cellsOf5, Nat.mul_one, List.getElem?_eq_getElem (by omega)] at h1
  have h2 : (cs.drop i).take 1 = [cs[i]'(by omega)] := by
    rw [List.drop_eq_getElem_cons (by omega)]
    rfl
  rw [h2] at h1
  obtain ⟨z, e, _, wf⟩ := DataW.trod_int Try.underlying5 h1
  simp only [List.cons.injEq, and_true] at e
  obtain ⟨hz0, hz1⟩ := u8_at wf
  refine ⟨z.toNat, ?_, by omega⟩
  rw [List.getElem?_eq_getElem (by omega), e, Int.toNat_of_nonneg hz0]
theorem bytes_of : ∀ l : List Value, (∀ v ∈ l, ∃ n : Nat, v = Value.int .u8 (n : Int) ∧ n < 256) → ∃ P : List Nat, l = Pg.vals P ∧ ∀ x ∈ P, x < 256 := by
  intro l
  induction l with
  | nil => intro _; exact ⟨[], rfl, fun _ h => by simp at h⟩
  | cons v r ih =>
    intro hl
    obtain ⟨n, rfl, hn⟩ := hl v (by simp)
    obtain ⟨P, rfl, hP⟩ := ih (fun v hv => hl v (by simp [hv]))
    exact ⟨n :: P, rfl, fun x hx => by rcases List.mem_cons.1 hx with h | h; omega; exact hP x h⟩
/-- The bytes of a page. -/
theorem page_bytes {H : Type} {enc : TypeId × Value → H} {W : World} {fuel : Nat} {cs : List Value} {x : DataW H × List MemPlace} (hf : DataW.trod enc Try.prog W 0 (fun _ => true) true fuel 74 cs = some x) (hl : cs.length = 288) : ∃ P, Pg.IsP P ∧ cs = Pg.vals P := by
  obtain ⟨xs, k, hk, hxy, _, hxl, hfl⟩ := DataW.trod_struct Try.underlying74 hf
  match xs, hxl with
  | [y0, y1], _ =>
    have g0 := hfl 0 _ rfl
    have g1 := hfl 1 _ rfl
    simp [cellsOfD] at g0
    simp [cellsOfO] at g1
    have b0 := arr_bytes Try.underlying71 g0 (by simp [hl])
    have b1 := arr_bytes Try.underlying72 g1 (by simp [hl])
    obtain ⟨P, rfl, hP⟩ := bytes_of cs (fun v hv => by
      obtain ⟨i, hi⟩ := List.getElem?_of_mem hv
      have hil : i < 288 := by rw [← hl]; exact (List.getElem?_eq_some_iff.1 hi).1
      by_cases h : i < 256
      · obtain ⟨z, e, hz⟩ := b0 i h
        rw [List.getElem?_take_of_lt h, hi] at e
        cases e
        exact ⟨z, rfl, hz⟩
      · obtain ⟨z, e, hz⟩ := b1 (i - 256) (by omega)
        rw [List.getElem?_take_of_lt (by omega), List.getElem?_drop, show 256 + (i - 256) = i by omega, hi] at e
        cases e
        exact ⟨z, rfl, hz⟩)
    exact ⟨P, ⟨by simpa [Pg.vals] using hl, hP⟩, rfl⟩
set_option linter.unusedSimpArgs false in
set_option maxRecDepth 100000 in
/-- How a slice of pages came in. -/
theorem openPgs {H : Type} {enc : TypeId × Value → H} {W : World} {v : Value} {d : DataW H} {p : List MemPlace} {ts : List TypeId} {ds : List (DataW H)} {j : Nat} (hv : ∃ a l c, v = .slice a l c)
    (h : DataW.Trod enc Try.prog W 0 (fun _ => true) true 22 v d p) (hsz : (DataW.weightsEach Try.prog ts ds).all (· ≤ reachBytes) = true) (ht : ts[j]? = some 22) (hd : ds[j]? = some d) : ∃ p n c Ps, v = .slice p n c ∧ InPg W p n c Ps := by
  obtain ⟨a0, l0, c0, rfl⟩ := hv
  obtain ⟨fuel, hf⟩ := h
  have hall : ∀ n ∈ d.weights Try.prog 22, n ≤ reachBytes := fun n hn => by simpa using List.all_eq_true.1 hsz _ (DataW.weights_mem_each ht hd n hn)
  rcases Go.Deep.open_slice Try.underlying22 hf with ⟨hcs, _⟩ | ⟨x, len, cap, m, n, D, Pl', hcs, _, hl, hm, hmm, hxx, hx⟩
  · simp [Value.cells] at hcs
    obtain ⟨rfl, rfl, rfl⟩ := hcs
    exact ⟨none, 0, 0, [], rfl, ⟨rfl, Nat.le_refl _, Nat.zero_le _, fun P hP => by simp at hP, fun h => by omega, fun _ => rfl⟩⟩
  · simp [Value.cells] at hcs
    obtain ⟨rfl, rfl, rfl⟩ := hcs
    simp only [if_true] at hmm
    subst hmm
    simp only [Prod.mk.injEq] at hxx
    obtain ⟨hd1, _⟩ := hxx
    rw [hd1] at hall
    have hs := hall ((l0 + (m - l0)) * 288) (by simp [DataW.weights, Try.underlying22, bytesOfPg])
    simp only [reachBytes] at hs
    have hsp0 : 0 < l0 → x.spot = none := by
      intro h0
      obtain ⟨cs', h1, _⟩ := hx 0 (by omega)
      rw [cellsOfPg] at h1
      obtain ⟨_, hlen, hcell⟩ := World.cells?_some h1
      have c0 := hcell 0 (by omega)
      rw [Nat.zero_mul, Go.Deep.add_add, List.getElem?_eq_getElem (by omega)] at c0
      simpa [Addr.add] using World.cell?_spot c0
    have each : ∀ i, i < l0 → ∃ P : List Nat, Pg.IsP P ∧ x.spot = none ∧ x.block < W.heap.size ∧ W.rangeAt x.block (x.off + i * 288) (Pg.vals P) := by
      intro i hi
      obtain ⟨cs', h1, h2⟩ := hx i (by omega)
      rw [cellsOfPg] at h1
      obtain ⟨_, hlen, hcell⟩ := World.cells?_some h1
      obtain ⟨P, hP, rfl⟩ := page_bytes h2 hlen
      have hc0 := hcell 0 (by omega)
      rw [Go.Deep.add_add, List.getElem?_eq_getElem (by omega)] at hc0
      have hsp : x.spot = none := hsp0 (by omega)
      obtain ⟨xb, xo, xs'⟩ := x
      dsimp only at hsp
      subst hsp
      refine ⟨P, hP, rfl, by have := block_lt_of_cell hc0; simpa [addr_add] using this, fun k v hk => ?_⟩
      have hkl : k < 288 := by rw [← hlen]; exact (List.getElem?_eq_some_iff.1 hk).1
      have hck := hcell k (by omega)
      rw [Go.Deep.add_add, addr_add, hk] at hck
      simpa [Nat.add_assoc] using hck
    obtain ⟨g, hg⟩ := @Go.Deep.choose_lt (List Nat) ⟨[]⟩ _ _ each
    refine ⟨some x, l0, m, (List.range l0).map g, rfl, ⟨by simp, hl, by omega, fun P hP => ?_, fun h0 => ?_, fun h => by cases h⟩⟩
    · obtain ⟨i, hi, rfl⟩ := List.mem_map.1 hP
      exact (hg i (List.mem_range.1 hi)).1
    · obtain ⟨_, hs0, hb0, _⟩ := hg 0 h0
      obtain ⟨xb, xo, xs'⟩ := x
      dsimp only at hs0 hb0
      subst hs0
      refine ⟨xb, xo, rfl, hb0, fun i P hi => ?_⟩
      have hil : i < l0 := by have := (List.getElem?_eq_some_iff.1 hi).1; simpa using this
      obtain rfl : g i = P := by simpa [hil] using hi
      exact (hg i hil).2.2.2
set_option maxRecDepth 100000 in
theorem finds_lifted (os : Os) (started : os.Started) (H : Type) (enc : TypeId × Value → H) :
    ReturnsInHanded {} Try.checked os 3 .any (Rows.scanFindsSpec.pre6 enc Try.prog Try.f3 Rows.scanFindsRow.domain false) (Rows.scanFindsSpec.post enc Try.prog Try.f3 false true false false) := by
  refine returnsInHanded_of_change_sized (C := Try.checked) own started (by kernel_rfl) Try.func3
    (ChangeSpec.witness6 (enc := enc) (C := Try.checked) false ⟨#[], #[.int .i64 0, .slice none 0 0], []⟩ 8 (by kernel_rfl) (by kernel_rfl) (by kernel_rfl) (by kernel_rfl)) ?_
  intro W base args ds gs before hval0 hW hcnd hsz0 _
  have hval : ∀ (j : Nat) t v, Try.f3.params[j]? = some t → args[j]? = some v → Value.okWide Try.prog W .any base t v := hval0
  have hsz : (DataW.weightsEach Try.prog (Try.f3.params.toList ++ Rows.scanFindsSpec.plain.varTypes Try.prog) (ds ++ gs)).all (· ≤ reachBytes) = true := hsz0
  have hW' := hW
  obtain ⟨p, q, hA0, hV, rfl, hfz, hnd⟩ := hW
  have hA : DataW.TrodAll enc Try.prog W 0 (fun _ => true) true Try.f3.params.toList args.toList ds p := hA0
  rw [Try.params3] at hA hval hsz
  obtain ⟨v0, vs0, d0, ds0, p0, q0, hargs, rfl, rfl, h0, r0⟩ := trodAll_cons hA
  obtain ⟨v1, vs1, d1, ds1, p1, q1, rfl, rfl, rfl, h1, r1⟩ := trodAll_cons r0
  obtain ⟨rfl, rfl, rfl⟩ := trodAll_nil r1
  obtain rfl : args = #[v0, v1] := by cases args; simp_all
  obtain ⟨rfl, rfl⟩ := trodVars_none hV
  have lt1 : ∀ x ∈ p1, x.block < W.heap.size := by obtain ⟨m, hm⟩ := h1; exact DataW.trod_lt m _ _ _ hm
  obtain ⟨xi, rfl, rfl, rfl, wf0⟩ := open_int Try.underlying3 (hval 0 3 v0 rfl rfl) h0
  obtain ⟨ps, ns, cs, Ps, hv1, hS⟩ := openPgs (okWide_slice Try.underlying22 (hval 1 22 v1 rfl rfl)) h1 hsz (j := 1) rfl rfl
  subst hv1
  clear hA0 hval0 hsz0
  refine (scanFinds_true xi ps ns cs Ps W hS).mono fun e W' ⟨he, bel⟩ => ?_
  subst he
  exact ⟨_, rfl, _, _, _, [], _, [], hW', trodAll_mk1 (shut_bool Try.underlying4 _), (trodAll_cons_mk (shut_int Try.underlying3 wf0) (trodAll_cons_mk (Below.trod laidOut (by kernel_rfl) (of_decide_eq_true (by kernel_rfl)) h1 bel lt1) trodAll_mk0)), rfl, bel.frame _, fun h => by cases h⟩
theorem scanFinds_holds : Rows.ScanFindsSaid :=
  OpenClaim.holds_of_wide 3 Try.f3 rfl rfl rfl rfl rfl rfl rfl ⟨rfl, rfl, rfl, rfl, rfl⟩ rfl rfl rfl rfl rfl (by kernel_rfl) Try.func3 (by kernel_rfl)
    (of_decide_eq_true (by kernel_rfl)) (by unfold Func.isWrapper; first | (rw [if_pos (by decide +kernel)]; kernel_rfl) | (rw [if_neg (by decide +kernel)]; exact ⟨rfl, rfl⟩))
    (fun os started H enc _ => finds_lifted os started H enc)
#print axioms scanFinds_holds
end Go.Proofs.Ytfgelncfmopibaa

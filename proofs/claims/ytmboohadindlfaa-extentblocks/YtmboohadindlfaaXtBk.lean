/-
  What the law's blocks and same answer; the reference's Blocks.
-/
import Derived.Test.YtmboohadindlfaaXtMp
namespace Go.Proofs.Ytmboohadindlfaa
open Go.RowKit Go.Maps
/-- What the map has behind some extents and some blocks of the next one. -/
def accO (f : Int → Option Int) (e : Ext) (j : Nat) : Int → Option Int := fun t => if e.lo ≤ t ∧ t < e.lo + (j : Int) then some (e.ph + (t - e.lo)) else f t
theorem acc_zero (f : Int → Option Int) (e : Ext) : accO f e 0 = f := by
  funext t
  unfold accO
  rw [if_neg (by omega)]
theorem acc_succ (f : Int → Option Int) (e : Ext) (j : Nat) : updO (accO f e j) (e.lo + (j : Int)) (e.ph + (j : Int)) = accO f e (j + 1) := by
  funext t
  unfold updO accO
  by_cases h : t = e.lo + (j : Int)
  · rw [if_pos h, if_pos (by omega)]
    congr 1; omega
  · rw [if_neg h]
    by_cases h2 : e.lo ≤ t ∧ t < e.lo + (j : Int)
    · rw [if_pos h2, if_pos (by omega)]
    · rw [if_neg h2, if_neg (by omega)]
def mapL (l : List Ext) : Int → Option Int := l.foldl (fun f e => accO f e e.ln.toNat) (fun _ => none)
theorem mapL_snoc (l : List Ext) (e : Ext) : mapL (l ++ [e]) = accO (mapL l) e e.ln.toNat := by simp [mapL]
theorem mapL_eq (l : List Ext) : Ord l → ∀ t c, mapL l t = some c ↔ St l t c := by
  refine snoc_ind (P := fun l => Ord l → ∀ t c, mapL l t = some c ↔ St l t c) ?_ ?_ l
  · intro _ t c
    constructor
    · intro h; cases h
    · rintro ⟨e, he, _⟩; exact absurd he List.not_mem_nil
  · intro s e ih h t c
    obtain ⟨h1, h2, h3⟩ := ord_snoc h
    have ho := oneB_iff.1 h2
    rw [mapL_snoc, st_snoc, ← ih h1 t c]
    unfold accO endI
    by_cases hq : e.lo ≤ t ∧ t < e.lo + (e.ln.toNat : Int)
    · rw [if_pos hq]
      constructor
      · intro hc; cases hc; exact .inr ⟨hq.1, by omega, rfl⟩
      · rintro (hc | ⟨_, _, rfl⟩)
        · obtain ⟨x, hx, a, b, _⟩ := (ih h1 t c).1 hc
          have := h3 x hx
          omega
        · rfl
    · rw [if_neg hq]
      constructor
      · intro hc; exact .inl hc
      · rintro (hc | ⟨a, b, _⟩)
        · exact hc
        · omega
theorem mapL_ext {l : List Ext} (hl : Ord l) (f : Int → Option Int) (h : ∀ t c, St l t c ↔ f t = some c) : mapL l = f := by
  funext t
  have key : ∀ c, mapL l t = some c ↔ f t = some c := fun c => (mapL_eq l hl t c).trans (h t c)
  cases h1 : mapL l t with
  | none =>
    cases h2 : f t with
    | none => rfl
    | some c => rw [(key c).2 h2] at h1; cases h1
  | some c => exact ((key c).1 h1).symm
set_option linter.unusedSimpArgs false in
set_option linter.unusedVariables false in
set_option maxRecDepth 100000 in
set_option maxHeartbeats 4000000 in
theorem blocks_any (p : Option Addr) (n c : Nat) (l : List Ext) (w : World) (h : InE w p n c l) (hn : n ≤ 1000) (h1 : ∀ e ∈ l, oneB e = true) :
    Calls Try.prog 33 #[.slice p n c] w fun e w' => ∃ g nn, e = .returned (.map (some g)) ∧ MP w' g nn (mapL l) ∧ nn ≤ 5000000 ∧ w.heap.size ≤ g ∧ Below w.heap.size w w' := by
  have HL : Hid (l.length = n) := h.len
  have hm0 := MP.made w
  have hb0 := below_alloc w (.map #[] 0)
  have hmm := run_makeMap (P := Try.prog) 49
  go_enter Try.func33, Try.ntmps33
  go_wp2
  obtain ⟨g, hg⟩ : ∃ g, g = w.heap.size := ⟨_, rfl⟩
  have hgw : w.heap.size ≤ g := by omega
  rw [← hg] at hm0 ⊢
  have HG : Hid (g = w.heap.size) := hg
  clear hg
  generalize w.alloc (.map #[] 0) = w0 at *
  go_loopw [10] (fun i wr => ∃ (k nn : Nat), k ≤ n ∧ i = .int .i64 k ∧ MP wr g nn (mapL (l.take k)) ∧ nn ≤ 5000 * k ∧ Below w.heap.size w wr) (fun i _ => n - (intOf i).toNat)
  case atStart => exact ⟨0, 0, Nat.zero_le _, rfl, hm0, Nat.zero_le _, hb0⟩
  case round =>
    clear hm0 hb0
    obtain ⟨k, nn, hk, rfl, hM, hnn, hb⟩ := hrel
    by_cases hlt : k < n
    · have hki : (k : Int) < (n : Int) := by omega
      obtain ⟨b, o, hpe, hbl, hc⟩ := (h.below hb).at' (by omega)
      subst hpe
      obtain ⟨e0, e1, e2⟩ := hc k hlt
      have hks : k < l.length := by rw [HL.out]; exact hlt
      have HU : Hid (mapL (l.take (k + 1)) = accO (mapL (l.take k)) (eE l k) (eE l k).ln.toNat) := by show _ = _; rw [takeE_succ l k hks, mapL_snoc]
      have ho := oneB_iff.1 (h1 _ (eE_mem hks))
      clear hc hbl
      generalize mapL (l.take k) = F at *
      generalize eE l k = e at *
      have kb := Blk.new' wr 31 #[.int .i64 e.lo, .int .i64 e.ln, .int .i64 e.ph]
      have hM1 := hM.kept (below_alloc wr (.cells #[.int .i64 e.lo, .int .i64 e.ln, .int .i64 e.ph] 31))
      have hb1 := below_al hb (.cells #[.int .i64 e.lo, .int .i64 e.ln, .int .i64 e.ph] 31)
      obtain ⟨N, hN⟩ : ∃ N : Nat, e.ln = (N : Int) := ⟨e.ln.toNat, by omega⟩
      have hNt : e.ln.toNat = N := by omega
      have hmin : min (N : Int) 4096 = (N : Int) := by omega
      rw [hNt] at HU
      have hgb := hM1.ne kb
      obtain ⟨lo, ln, ph⟩ := e
      dsimp only at hN ho e0 e1 e2 kb hM1 hb1 hNt hgb
      subst hN
      have HO : Hid ((N : Int) ≤ 4096 ∧ 0 ≤ lo ∧ lo + (N : Int) ≤ 65536 ∧ 1 ≤ ph ∧ ph + (N : Int) ≤ 8192) := ⟨by omega, by omega, by omega, by omega, by omega⟩
      have hsb := hb.size
      clear hM hb ho hNt
      go_upto_region 5 with fail
      obtain ⟨gx, hgx⟩ : ∃ gx, gx = wr.heap.size := ⟨_, rfl⟩
      have hgxw : w.heap.size ≤ gx := by rw [hgx]; exact hsb
      rw [← hgx] at kb hgb ⊢
      clear hgx
      generalize World.alloc wr _ = w2 at *
      have z1 := kb.cell' (i := 1) rfl
      go_wp2
      clear z1
      go_loopw [17] (fun jv wr => ∃ (j n2 : Nat), j ≤ N ∧ jv = .int .i64 j ∧ MP wr g n2 (accO F ⟨lo, (N : Int), ph⟩ j) ∧ n2 ≤ 5000 * k + j ∧ Blk wr gx 31 [.int .i64 lo, .int .i64 (N : Int), .int .i64 ph] ∧ Below w.heap.size w wr) (fun jv _ => N - (intOf jv).toNat)
      case atStart => exact ⟨0, nn, Nat.zero_le _, rfl, by rw [acc_zero]; exact hM1, by omega, kb, hb1⟩
      case round =>
        clear hM1 hb1 kb
        obtain ⟨j, n2, hj, rfl, hM, hn2, kb, hb⟩ := hrel
        by_cases hjl : j < N
        · have hji : (j : Int) < (N : Int) := by omega
          have HA : Hid (updO (accO F ⟨lo, (N : Int), ph⟩ j) (lo + (j : Int)) (ph + (j : Int)) = accO F ⟨lo, (N : Int), ph⟩ (j + 1)) := acc_succ F ⟨lo, (N : Int), ph⟩ j
          have hO := HO.out
          have hw1 : IntKind.i64.wrap (lo + (j : Int)) = lo + (j : Int) := by rw [IntKind.wrap_i64]; omega
          have hw2 : IntKind.i64.wrap (ph + (j : Int)) = ph + (j : Int) := by rw [IntKind.wrap_i64]; omega
          have z0 := kb.cell' (i := 0) rfl
          have z2 := kb.cell' (i := 2) rfl
          clear hO
          go_wp2_with (guard_target = wpList _ _ _ (Oper.mk _ (Op.mapUpdate _ _ _ _) _ _ _ _ :: _) _ _; refine wpList_putM _ rfl (.tmp 20) (.tmp 24) (.tmp 28) rfl g n2 _ rfl hM (by omega) (lo + (j : Int)) (ph + (j : Int)) (by have := HO.out; omega) (by have := HO.out; omega) (by have := HO.out; omega) (by have := HO.out; omega) rfl rfl ?_; intro w5 hM5 hg5)
          rw [HA.out] at hM5
          have kb5 := kb.grown hg5 (by simp; omega)
          have hb5 : Below w.heap.size w w5 := hb.grown hg5 hb.size (fun k e => by cases e; exact hgw)
          go_roundw
          case rel => exact ⟨j + 1, n2 + 1, by omega, by go_num, hM5, by omega, kb5, hb5⟩
          case measure => simp [intOf]; omega
        · obtain rfl : j = N := by omega
          have hji : ¬ (j : Int) < (j : Int) := by omega
          have hO := HO.out
          have HB : Hid (n2 ≤ 5000 * (k + 1)) := by show _ ≤ _; omega
          clear hO
          go_wp2
          go_roundw
          case rel => exact ⟨k + 1, n2, by omega, by go_num, by rw [HU.out]; exact hM, HB.out, hb⟩
          case measure => simp [intOf]; omega
    · obtain rfl : k = n := by omega
      have hkn : ¬ (k : Int) < (k : Int) := by omega
      rw [List.take_of_length_le (by rw [HL.out]; exact Nat.le_refl _)] at hM
      go_wp2
      go_ret
      exact ⟨g, rfl, nn, hM, by omega, hgw, hb⟩
set_option linter.unusedSimpArgs false in
set_option linter.unusedVariables false in
set_option maxRecDepth 100000 in
set_option maxHeartbeats 4000000 in
theorem same_yes (g1 g2 n1 n2 : Nat) (f : Int → Option Int) (w : World) (h1 : MP w g1 n1 f) (h2 : MP w g2 n2 f) :
    Calls Try.prog 34 #[.map (some g1), .map (some g2)] w fun e w' => e = .returned (.bool true) ∧ w' = w := by
  have hl1 := fun ty => h1.len ty
  have hl2 := fun ty => h2.len ty
  have hle : ∀ K, cntO f K ≤ K := fun K => by
    induction K with
    | zero => exact Nat.le_refl _
    | succ K ih => rw [cntO]; split <;> omega
  have hle0 := hle 65536
  obtain ⟨C, hC⟩ : ∃ C, cntO f 65536 = C := ⟨_, rfl⟩
  rw [hC] at hle0
  simp only [hC] at hl1 hl2
  have HC : Hid (cntO f 65536 = C) := hC
  have HLE : Hid (∀ K, cntO f K ≤ K) := hle
  have hCi : (C : Int) ≤ 65536 := by omega
  clear hC hle hle0
  go_enter Try.func34, Try.ntmps34
  go_wp2
  go_loopw [5, 16] (fun s i wr => wr = w ∧ ∃ k : Nat, Hid (k ≤ 65536) ∧ i = .int .i64 k ∧ s = .int .i64 (cntO f k : Nat)) (fun _ i _ => 65536 - (intOf i).toNat)
  case atStart => exact ⟨rfl, 0, Nat.zero_le _, rfl, rfl⟩
  case round =>
    obtain ⟨rfl, k, hk, rfl, rfl⟩ := hrel
    have hck := HLE.out k
    obtain ⟨q, hq⟩ : ∃ q, cntO f k = q := ⟨_, rfl⟩
    rw [hq] at hck ⊢
    have HQ : Hid (cntO f k = q) := hq
    have hqi : (q : Int) ≤ 65536 := by have := hk.out; omega
    have hki0 : (k : Int) ≤ 65536 := by have := hk.out; omega
    clear hq hck
    by_cases hlt : k < 65536
    · have hki : (k : Int) < 65536 := by omega
      have hk1 := h1.look (k : Int) (by omega) (by omega)
      have hk2 := h2.look (k : Int) (by omega) (by omega)
      have HN : Hid (cntO f (k + 1) = q + (if (f (k : Int)).isSome = true then 1 else 0)) := by show _ = _; rw [cntO, HQ.out]
      have HK : Hid (k < 65536) := hlt
      clear hlt
      generalize f (k : Int) = x at *
      cases x with
      | none =>
        have HN2 : Hid (cntO f (k + 1) = q) := HN.out
        clear HN
        simp only [valO, Option.isSome_none, Option.getD_none] at hk1 hk2
        go_wp2
        go_roundw
        case rel => exact ⟨trivial, k + 1, (by have := HK.out; show _ ≤ _; omega), by go_num, by rw [HN2.out]⟩
        case measure => have := HK.out; simp [intOf]; omega
      | some c =>
        have HN2 : Hid (cntO f (k + 1) = q + 1) := HN.out
        clear HN
        simp only [valO, Option.isSome_some, Option.getD_some] at hk1 hk2
        go_wp2
        go_roundw
        case rel => exact ⟨trivial, k + 1, (by have := HK.out; show _ ≤ _; omega), by go_num, by rw [HN2.out]; go_num⟩
        case measure => have := HK.out; simp [intOf]; omega
    · obtain rfl : k = 65536 := by have := hk.out; omega
      have hqC : q = C := HQ.out.symm.trans HC.out
      subst hqC
      go_wp2
      go_ret
      exact ⟨rfl, rfl⟩
end Go.Proofs.Ytmboohadindlfaa

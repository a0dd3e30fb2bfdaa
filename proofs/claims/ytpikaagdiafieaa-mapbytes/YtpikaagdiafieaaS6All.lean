/-
  Joined: S6Bits, S6Own, S6Width, S6Fit, S6PutBits, S6Pack, S6GetBits, S6Unpack, S6Fields.
-/
import Derived.Test.YtpikaagdiafieaaBase
import Derived.Test.YtpikaagdiafieaaMjBase
import Derived.Laws.BitsAllLaws
namespace Go.Proofs.Ytpikaagdiafieaa
/-- now has all 1 bits of was. -/
def cov1 (now was : Nat) : Bool := (now ||| was) == now
def bz (b : Bool) : Nat := if b then 0 else 1
def zbits (x : Nat) : Nat := bz (x.testBit 0) + bz (x.testBit 1) + bz (x.testBit 2) + bz (x.testBit 3) + bz (x.testBit 4) + bz (x.testBit 5) + bz (x.testBit 6) + bz (x.testBit 7)
theorem zb_bits : ∀ n : Fin 256, zb n.val = zbits n.val := by decide +kernel
theorem zb_eq (x : Nat) (h : x < 256) : zb x = zbits x := zb_bits ⟨x, h⟩
theorem cov1_bit {x y : Nat} (h : cov1 x y = true) (i : Nat) (hy : y.testBit i = true) : x.testBit i = true := by
  have e : (x ||| y) = x := by simpa [cov1] using h
  rw [← e, Nat.testBit_or, hy, Bool.or_true]
theorem cov1_of_bit {x y : Nat} (h : ∀ i, y.testBit i = true → x.testBit i = true) : cov1 x y = true := by
  have e : (x ||| y) = x := by
    apply Nat.eq_of_testBit_eq
    intro i
    rw [Nat.testBit_or]
    cases hy : y.testBit i with
    | false => simp
    | true => simp [h i hy]
  simpa [cov1] using e
theorem bz_le {a b : Bool} (h : b = true → a = true) : bz a ≤ bz b := by
  cases a <;> cases b <;> simp_all [bz]
theorem bz_inj {a b : Bool} (h : bz a = bz b) : a = b := by
  cases a <;> cases b <;> simp_all [bz]
theorem cov1_zb {x y : Nat} (hx : x < 256) (hy : y < 256) (h : cov1 x y = true) : zb x ≤ zb y ∧ (zb x = zb y → x = y) := by
  have b0 := bz_le (cov1_bit h 0); have b1 := bz_le (cov1_bit h 1); have b2 := bz_le (cov1_bit h 2); have b3 := bz_le (cov1_bit h 3)
  have b4 := bz_le (cov1_bit h 4); have b5 := bz_le (cov1_bit h 5); have b6 := bz_le (cov1_bit h 6); have b7 := bz_le (cov1_bit h 7)
  rw [zb_eq x hx, zb_eq y hy]
  unfold zbits
  refine ⟨by omega, fun e => Nat.eq_of_testBit_eq fun i => ?_⟩
  by_cases hi : i < 8
  · have : i = 0 ∨ i = 1 ∨ i = 2 ∨ i = 3 ∨ i = 4 ∨ i = 5 ∨ i = 6 ∨ i = 7 := by omega
    rcases this with rfl | rfl | rfl | rfl | rfl | rfl | rfl | rfl <;> exact bz_inj (by omega)
  · have p : 2 ^ 8 ≤ 2 ^ i := Nat.pow_le_pow_right (by decide) (by omega)
    rw [Nat.testBit_lt_two_pow (by omega), Nat.testBit_lt_two_pow (by omega)]
theorem cov1_le {x y : Nat} (h : cov1 x y = true) : y ≤ x := by
  have e : (x ||| y) = x := by simpa [cov1] using h
  have : y ≤ x ||| y := Nat.right_le_or
  omega
theorem cov1_or (x m : Nat) : cov1 (x ||| m) x = true := cov1_of_bit fun i h => by rw [Nat.testBit_or, h, Bool.true_or]
theorem cov1_refl (x : Nat) : cov1 x x = true := cov1_of_bit fun _ h => h
/-- 'was &^ now != 0', as the walk says it. -/
theorem andNot_cov (x y : Int) (hx : 0 ≤ x ∧ x ≤ 255) (hy : 0 ≤ y ∧ y ≤ 255) : (bits .andNot .u8 y x != 0) = !(cov1 x.toNat y.toNat) := by
  rw [u8_andNot y x hy.1 (by omega) hx.1 (by omega)]
  have hX : x.toNat < 2 ^ 8 := by omega
  have hY : y.toNat < 2 ^ 8 := by omega
  generalize x.toNat = X at *
  generalize y.toNat = Y at *
  have e : 255 - X = 2 ^ 8 - (X + 1) := by omega
  cases hc : cov1 X Y with
  | true =>
    have z : Y &&& (255 - X) = 0 := by
      apply Nat.eq_of_testBit_eq
      intro i
      rw [Nat.testBit_and, e, Nat.testBit_two_pow_sub_succ hX, Nat.zero_testBit]
      cases hy : Y.testBit i with
      | false => simp
      | true => simp [cov1_bit hc i hy]
    rw [z]; rfl
  | false =>
    have z : Y &&& (255 - X) ≠ 0 := by
      intro z
      have : cov1 X Y = true := cov1_of_bit fun i hi => by
        have t : (Y &&& (255 - X)).testBit i = false := by rw [z, Nat.zero_testBit]
        rw [Nat.testBit_and, e, Nat.testBit_two_pow_sub_succ hX, hi] at t
        have l : i < 8 := by
          rcases Nat.lt_or_ge i 8 with h | h
          · exact h
          · have p : 2 ^ 8 ≤ 2 ^ i := Nat.pow_le_pow_right (by decide) h
            rw [Nat.testBit_lt_two_pow (by omega)] at hi; simp at hi
        simpa [l] using t
      rw [this] at hc; simp at hc
    simp only [bne_iff_ne, ne_eq, Bool.not_false]
    omega
/-- Whether one list of bytes has as many bytes as another one, and all its 1 bits. -/
def covers (now was : List Nat) : Bool := (now.length == was.length) && (List.range now.length).all fun i => cov1 (now.getD i 0) (was.getD i 0)
theorem covers_iff (now was : List Nat) : covers now was = true ↔ now.length = was.length ∧ ∀ i, i < now.length → cov1 (now.getD i 0) (was.getD i 0) = true := by
  simp [covers]
theorem el_toNat (xs : List Nat) (i : Nat) : (el xs i).toNat = xs.getD i 0 := by simp [el]
end Go.Proofs.Ytpikaagdiafieaa

namespace Go.Proofs.Ytpikaagdiafieaa
open Go.RowKit
theorem info5 : (Try.prog.info? 5).map (fun i => (i.zero, i.size, i.bytes)) = some (some (.int .u8 0), 1, 1) := by kernel_rfl
theorem size5 : (Try.prog.info? 5).map (·.size) = some 1 := by kernel_rfl
/-- Bytes as cells. -/
def vals (xs : List Nat) : List Value := xs.map fun x : Nat => Value.int .u8 (x : Int)
theorem vals_length (xs : List Nat) : (vals xs).length = xs.length := by simp [vals]
theorem vals_append (a b : List Nat) : vals (a ++ b) = vals a ++ vals b := by simp [vals]
theorem vals_one (xs : List Nat) : ∀ u ∈ vals xs, u.oneCell' = true := by
  intro u hu
  obtain ⟨x, _, rfl⟩ := List.mem_map.1 hu
  rfl
theorem vals_get (xs : List Nat) (j : Nat) (h : j < xs.length) : (vals xs)[j]? = some (.int .u8 (el xs j)) := by
  simp [vals, el, h]
theorem vals_get_inv {xs : List Nat} {j : Nat} {u : Value} (h : (vals xs)[j]? = some u) : j < xs.length ∧ u = .int .u8 (el xs j) := by
  have hj : j < xs.length := by
    rcases Nat.lt_or_ge j xs.length with h' | h'
    · exact h'
    · rw [List.getElem?_eq_none (by rw [vals_length]; exact h')] at h; simp at h
  rw [vals_get xs j hj] at h
  exact ⟨hj, (Option.some.inj h).symm⟩
/-- The cells of a slice that lies in a world, as the laws on append and copy ask for them. -/
theorem In.cells {w : World} {p : Option Addr} {n c : Nat} {xs : List Nat} (h : In w p n c xs) {a : Addr} (ha : p = some a) :
    ∀ j u, (vals xs)[j]? = some u → w.cell? (a.add j) = some u := by
  intro j u hu
  obtain ⟨hj, rfl⟩ := vals_get_inv hu
  have hl := h.len
  obtain ⟨b, o, hp, _, hc⟩ := h.at' (by omega)
  rw [ha] at hp
  cases hp
  rw [addr_add]
  exact hc j (by omega)
theorem in_of_owns {w : World} {B : Nat} {v : Value} {n : Nat} {xs : List Nat} (h : w.ownsRow B 5 1 v n (vals xs)) (hb : ∀ x ∈ xs, x < 256) (hr : n ≤ 140737488355328) :
    ∃ p c, v = .slice p n c ∧ In w p n c xs := by
  have hl : xs.length = n := by have := h.1; simpa [vals] using this
  rcases h.2 with ⟨rfl, rfl⟩ | ⟨g, cap, cur, rfl, hg, hh, hnc, hcm, hsz, htk⟩
  · have : xs = [] := List.eq_nil_of_length_eq_zero hl
    subst this
    exact ⟨none, 0, rfl, In.empty w⟩
  · refine ⟨some ⟨g, 0, none⟩, cap, rfl, hl, hnc, hcm, hr, hb, fun h0 => ⟨g, 0, rfl, ?_, fun i hi => ?_⟩, fun h => by simp at h⟩
    · rcases Nat.lt_or_ge g w.heap.size with h' | h'
      · exact h'
      · rw [Array.getElem?_eq_none h'] at hh; simp at hh
    · have := World.ownsRow.cellAt h i (by omega)
      rw [Nat.zero_add, this, vals_get xs i (by omega)]
/-- The whole block of a row that is filled to its brim. -/
theorem owns_block {w : World} {B g n : Nat} {xs : List Value} (h : w.ownsRow B 5 1 (.slice (some ⟨g, 0, none⟩) n n) n xs) : w.heap[g]? = some (.cells xs.toArray 5 (0, 0)) := by
  rcases h.2 with ⟨h', _⟩ | ⟨g', cap', cur, h', _, hg, _, _, hsz, htake⟩
  · simp at h'
  · simp only [Value.slice.injEq, Option.some.injEq, Addr.mk.injEq, and_true, true_and] at h'
    obtain ⟨rfl, rfl⟩ := h'
    rw [List.take_of_length_le (by simp [hsz])] at htake
    rw [hg, ← htake]
theorem owns_of_block {w : World} {B g n : Nat} {xs : List Value} (hB : B ≤ g) (hn : xs.length = n) (hm : n ≤ maxLen) (h : w.heap[g]? = some (.cells xs.toArray 5 (0, 0))) : w.ownsRow B 5 1 (.slice (some ⟨g, 0, none⟩) n n) n xs :=
  ⟨by omega, .inr ⟨g, n, xs.toArray, rfl, hB, h, Nat.le_refl _, hm, by simp [hn], List.take_of_length_le (by simp; omega)⟩⟩
/-- n zero bytes as cells. -/
def zerosV (n : Nat) : List Value := List.replicate n (Value.int .u8 0)
theorem made_block {w : World} {B g n : Nat} (h : w.ownsRow B 5 1 (.slice (some ⟨g, 0, none⟩) n n) n (madeCells (Value.int .u8 0).cells (n * 1)).toList) : w.heap[g]? = some (.cells (zerosV n).toArray 5 (0, 0)) := by
  have := owns_block h
  rwa [show (Value.int .u8 0).cells = #[Value.int .u8 0] from rfl, toList_madeCells_one, Nat.mul_one] at this
theorem splice_all (n : Nat) (cs : List Value) (h : cs.length = n) : splice (zerosV n) 0 cs = cs := by
  simp [splice, zerosV, h]
theorem zerosV_length (n : Nat) : (zerosV n).length = n := by simp [zerosV]
/-- The source of a copy. -/
theorem In.src {w : World} {p : Option Addr} {n c : Nat} {xs : List Nat} (h : In w p n c xs) (h0 : 0 < (vals xs).length) :
    ∃ ad, p = some ad ∧ ∀ j v, (vals xs)[j]? = some v → w.cell? (ad.add j) = some v := by
  have hl := h.len
  rw [vals_length] at h0
  obtain ⟨b, o, hp, _, _⟩ := h.at' (by omega)
  exact ⟨_, hp, h.cells hp⟩
theorem vals_take (xs : List Nat) (n : Nat) : vals (xs.take n) = (vals xs).take n := by simp [vals, List.map_take]
/-- 'copy' of a source that is as long, or longer, into a new row of zeros. -/
theorem copy_run {w0 w1 : World} {B g n : Nat} (hB : B ≤ g) (h1 : w1.heap[g]? = some (.cells (zerosV n).toArray 5 (0, 0))) (hbel : Below B w0 w1) {p : Option Addr} {m c : Nat} {xs : List Nat}
    (hx : In w1 p m c xs) (hnm : n ≤ m) (hn : n ≤ maxLen) :
    ∃ w2, (Builtin.copy_ #[53, 53] 3 #[.slice (some ⟨g, 0, none⟩) n n, .slice p m c]).run Try.prog w1 = .ok (.int .i64 (n : Int)) w2 ∧
      w2.ownsRow B 5 1 (.slice (some ⟨g, 0, none⟩) n n) n (vals (xs.take n)) ∧ Below B w0 w2 := by
  have hl := hx.len
  have hlen : (vals (xs.take n)).length = n := by rw [vals_length, List.length_take]; omega
  rcases Nat.eq_zero_or_pos n with h0 | h0
  · subst h0
    refine ⟨w1, run_copy_none (P := Try.prog) w1 53 53 3 5 _ p 0 0 m c Try.underlying53 size5 (by simp), owns_of_block hB hlen hn ?_, hbel⟩
    have e : vals (xs.take 0) = zerosV 0 := by simp [vals, zerosV]
    rw [e]; exact h1
  · obtain ⟨b, o, rfl, _, hc⟩ := hx.at' (by omega)
    have hrun := run_copy_row (P := Try.prog) w1 53 53 3 5 g 0 n n ⟨b, o, none⟩ m c (zerosV n).toArray 5 (vals (xs.take n)) Try.underlying53 size5 h1
      (by rw [hlen]; exact (Nat.min_eq_right hnm).symm)
      (fun j v hj => by
        rw [vals_take] at hj
        have hjn : j < n := by
          rcases Nat.lt_or_ge j n with h' | h'
          · exact h'
          · rw [List.getElem?_eq_none (by rw [List.length_take]; omega)] at hj; simp at hj
        rw [List.getElem?_take_of_lt hjn] at hj
        exact hx.cells rfl j v hj)
      (by simp [hlen, zerosV]) (vals_one _)
    rw [hlen] at hrun
    refine ⟨_, hrun, owns_of_block hB hlen hn ?_, below_setRow hbel hB _⟩
    have := setRow_heap w1 g _ ((zerosV n).toArray.toList.take 0 ++ vals (xs.take n) ++ (zerosV n).toArray.toList.drop (0 + n)).toArray 5 (0, 0) h1
    rw [this]
    simp [zerosV]
/-- A literal of bytes in a new block. -/
theorem in_lit (w : World) {cs : Array Value} {xs : List Nat} {n : Nat} (h : cs.toList = vals xs) (hn : xs.length = n) (hb : ∀ x ∈ xs, x < 256) (hr : n ≤ 140737488355328) :
    In (w.alloc (.cells cs 5)) (some ⟨w.heap.size, 0, none⟩) n n xs := by
  have hs : cs.size = n * 1 := by rw [← Array.length_toList, h, vals_length, hn, Nat.mul_one]
  have ho := World.ownsRow_lit (e := 5) (size := 1) (base := 0) w cs n (Nat.zero_le _) (by unfold maxLen; omega) hs
  rw [h] at ho
  obtain ⟨p, c, hv, hin⟩ := in_of_owns ho hb hr
  cases hv
  exact hin
end Go.Proofs.Ytpikaagdiafieaa

namespace Go.Proofs.Ytpikaagdiafieaa
open Go.RowKit
/-- A slice of uint64 that lies in a world. -/
structure In64 (w : World) (p : Option Addr) (n c : Nat) (xs : List Nat) : Prop where
  len : xs.length = n
  cap : n ≤ c
  max : c ≤ maxLen
  room : n ≤ 140737488355328
  lim : ∀ x ∈ xs, x < 18446744073709551616
  at' : 0 < n → ∃ b o, p = some ⟨b, o, none⟩ ∧ b < w.heap.size ∧ ∀ i, i < n → w.cell? ⟨b, o + i, none⟩ = some (.int .u64 (el xs i))
theorem In64.below {w w' p n c xs} (h : In64 w p n c xs) (hb : Below w.heap.size w w') : In64 w' p n c xs :=
  ⟨h.len, h.cap, h.max, h.room, h.lim, fun h0 => by
    obtain ⟨b, o, hp, hlt, hc⟩ := h.at' h0
    exact ⟨b, o, hp, Nat.lt_of_lt_of_le hlt hb.size, fun i hi => (hb.cell (p := ⟨b, o + i, none⟩) hlt).trans (hc i hi)⟩⟩
theorem el_range64 {xs : List Nat} (h : ∀ x ∈ xs, x < 18446744073709551616) (i : Nat) : 0 ≤ el xs i ∧ el xs i ≤ 18446744073709551615 := by
  unfold el
  by_cases hi : i < xs.length
  · have := h _ (List.getElem_mem hi)
    simp only [List.getD_eq_getElem?_getD, List.getElem?_eq_getElem hi, Option.getD_some]
    omega
  · simp only [List.getD_eq_getElem?_getD, List.getElem?_eq_none (Nat.le_of_not_lt hi), Option.getD_none]
    omega
/-- A width that may be. -/
def okW (x : Int) : Bool := decide (1 ≤ x) && decide (x ≤ 64)
/-- All widths together. -/
def sumW : List Int → Int
  | [] => 0
  | x :: r => x + sumW r
/-- Widths that may be. -/
def widthOk (ws : List Int) : Bool := decide (ws.length ≤ 64) && ws.all okW
def widthE (ws : List Int) : Int := if widthOk ws then 0 else 1
def widthN (ws : List Int) : Int := if widthOk ws then (sumW ws + 7) / 8 else 0
theorem okW_iff (x : Int) : okW x = true ↔ 1 ≤ x ∧ x ≤ 64 := by simp [okW]
theorem sumW_append (a b : List Int) : sumW (a ++ b) = sumW a + sumW b := by
  induction a with
  | nil => simp [sumW]
  | cons x r ih => simp only [List.cons_append, sumW, ih]; omega
theorem sumW_take_succ (xs : List Int) (k : Nat) (h : k < xs.length) : sumW (xs.take (k + 1)) = sumW (xs.take k) + eI xs k := by
  rw [takeI_succ xs k h, sumW_append]; simp [sumW]
theorem sumW_bound (xs : List Int) (k : Nat) (hk : k ≤ xs.length) (h : ∀ j, j < k → okW (eI xs j) = true) : (k : Int) ≤ sumW (xs.take k) ∧ sumW (xs.take k) ≤ 64 * (k : Int) := by
  induction k with
  | zero => simp [sumW]
  | succ k ih =>
    have i := ih (by omega) (fun j hj => h j (by omega))
    have o := (okW_iff _).1 (h k (by omega))
    rw [sumW_take_succ xs k (by omega)]
    omega
theorem allW_iff (xs : List Int) : xs.all okW = true ↔ ∀ j, j < xs.length → okW (eI xs j) = true := by
  rw [List.all_eq_true]
  constructor
  · intro h j hj
    have := h _ (List.getElem_mem hj)
    simpa [eI, hj] using this
  · intro h x hx
    obtain ⟨j, hj, rfl⟩ := List.getElem_of_mem hx
    have := h j hj
    simpa [eI, hj] using this
theorem width_any (p : Option Addr) (n c : Nat) (ws : List Int) (w : World) (hx : InI w p n c ws) :
    Calls Try.prog 93 #[.slice p n c] w fun e w' => e = .returned (.tuple #[.int .i64 (widthN ws), .int .i64 (widthE ws)]) ∧ w' = w := by
  have hroom := hx.room
  have HX : Hid (ws.length = n) := hx.len
  by_cases hl : 64 < n
  · have h1 : (64 : Int) < (n : Int) := by omega
    have e0 : widthOk ws = false := by simp only [widthOk, Bool.and_eq_false_iff, decide_eq_false_iff_not]; left; rw [HX.out]; omega
    have e1 : widthE ws = 1 := by unfold widthE; rw [e0]; rfl
    have e2 : widthN ws = 0 := by unfold widthN; rw [e0]; rfl
    rw [e1, e2]
    clear e0 e1 e2
    go_enter Try.func93, Try.ntmps93
    go_wp2
    go_ret2
    exact ⟨rfl, rfl⟩
  · have h1 : ¬ (64 : Int) < (n : Int) := by omega
    go_enter Try.func93, Try.ntmps93
    go_wp2
    go_loop [4, 12] (fun a i => ∃ k : Nat, k ≤ n ∧ i = .int .i64 k ∧ a = .int .i64 (sumW (ws.take k)) ∧ ∀ j, j < k → okW (eI ws j) = true) (fun _ i => n - (intOf i).toNat)
    case atStart => exact ⟨0, Nat.zero_le _, rfl, rfl, fun j h => by omega⟩
    case round =>
      obtain ⟨k, hk, rfl, rfl, hall⟩ := hrel
      have hb := sumW_bound ws k (by rw [HX.out]; exact hk) hall
      have HA : Hid (∀ j, j < k → okW (eI ws j) = true) := hall
      clear hall
      by_cases hlt : k < n
      · obtain ⟨b, o, rfl, hb', hc⟩ := hx.at' (by omega)
        have hck := hc k hlt
        clear hc
        by_cases hok : okW (eI ws k) = true
        · have ho := (okW_iff _).1 hok
          have HO : Hid (okW (eI ws k) = true) := hok
          have HS : Hid (sumW (ws.take (k + 1)) = sumW (ws.take k) + eI ws k) := sumW_take_succ ws k (by rw [HX.out]; exact hlt)
          clear hok
          have hd1 : ¬ eI ws k < 1 := by omega
          have hd2 : ¬ 64 < eI ws k := by omega
          go_wp2
          go_round
          case rel =>
            refine ⟨k + 1, by omega, by go_num, val_int HS.out.symm, fun j hj => ?_⟩
            rcases Nat.lt_succ_iff_lt_or_eq.1 hj with h | h
            · exact HA.out j h
            · rw [h]; exact HO.out
          case measure => simp [intOf]; omega
        · have e0 : widthOk ws = false := by
            cases hq : widthOk ws with
            | false => rfl
            | true =>
              unfold widthOk at hq
              simp only [Bool.and_eq_true] at hq
              exact absurd ((allW_iff ws).1 hq.2 k (by rw [HX.out]; exact hlt)) hok
          have E1 : Hid (widthE ws = 1) := by show _ = _; unfold widthE; rw [e0]; rfl
          have E2 : Hid (widthN ws = 0) := by show _ = _; unfold widthN; rw [e0]; rfl
          have hn : eI ws k < 1 ∨ 64 < eI ws k := by
            rcases Int.lt_or_le (eI ws k) 1 with h | h
            · exact .inl h
            · rcases Int.lt_or_le 64 (eI ws k) with h' | h'
              · exact .inr h'
              · exact absurd ((okW_iff _).2 ⟨h, h'⟩) hok
          clear hok e0
          rcases hn with hn | hn
          · go_wp2
            go_ret2
            rw [E1.out, E2.out]
            exact ⟨rfl, rfl⟩
          · have hn1 : ¬ eI ws k < 1 := by omega
            go_wp2
            go_ret2
            rw [E1.out, E2.out]
            exact ⟨rfl, rfl⟩
      · have hkn : k = n := by omega
        subst hkn
        have e0 : widthOk ws = true := by
          unfold widthOk
          rw [Bool.and_eq_true]
          exact ⟨by rw [HX.out]; simp; omega, (allW_iff ws).2 fun j hj => HA.out j (by have := HX.out; omega)⟩
        have et : ws.take k = ws := List.take_of_length_le (by rw [HX.out]; exact Nat.le_refl _)
        rw [et] at hb ⊢
        have E1 : Hid (widthE ws = 0) := by show _ = _; unfold widthE; rw [e0]; rfl
        have E2 : Hid (widthN ws = (sumW ws + 7) / 8) := by show _ = _; unfold widthN; rw [e0]; rfl
        clear e0 et
        go_wp2
        go_ret2
        rw [E1.out, E2.out]
        exact ⟨rfl, rfl⟩
end Go.Proofs.Ytpikaagdiafieaa

namespace Go.Proofs.Ytpikaagdiafieaa
open Go.RowKit
theorem widthOk_all {ws : List Int} (h : widthOk ws = true) : ws.all okW = true := by unfold widthOk at h; simp only [Bool.and_eq_true] at h; exact h.2
theorem widthOk_len {ws : List Int} (h : widthOk ws = true) : ws.length ≤ 64 := by unfold widthOk at h; simp only [Bool.and_eq_true, decide_eq_true_eq] at h; exact h.1
/-- Each width has its value, with no 1 bit above it. -/
def fitB (ws : List Int) (vs : List Nat) : Bool := (ws.length == vs.length) && (List.range ws.length).all fun i => decide (vs.getD i 0 < 2 ^ (eI ws i).toNat)
theorem fitB_iff (ws : List Int) (vs : List Nat) : fitB ws vs = true ↔ ws.length = vs.length ∧ ∀ i, i < ws.length → vs.getD i 0 < 2 ^ (eI ws i).toNat := by
  simp [fitB]
theorem shr_nat (v s : Nat) : ((v : Int) / 2 ^ s) = ((v / 2 ^ s : Nat) : Int) := by
  rw [Int.natCast_ediv, Int.natCast_pow]; rfl
theorem shr_fit (v s : Nat) : ((v : Int) / 2 ^ s != 0) = !(decide (v < 2 ^ s)) := by
  rw [shr_nat]
  have hp : 0 < 2 ^ s := Nat.two_pow_pos s
  by_cases h : v < 2 ^ s
  · rw [Nat.div_eq_of_lt h]; simp [h]
  · have : v / 2 ^ s ≠ 0 := by
      intro e
      rcases Nat.div_eq_zero_iff.1 e with h' | h' <;> omega
    simp only [h, decide_false, Bool.not_false, bne_iff_ne, ne_eq]
    omega
theorem fit_any (p q : Option Addr) (n c m d : Nat) (ws : List Int) (vs : List Nat) (w : World) (hx : InI w p n c ws) (hy : In64 w q m d vs) (hok : widthOk ws = true) :
    Calls Try.prog 97 #[.slice p n c, .slice q m d] w fun e w' => e = .returned (.bool (fitB ws vs)) ∧ w' = w := by
  have hroom := hx.room
  have HX : Hid (ws.length = n) := hx.len
  have HY : Hid (vs.length = m) := hy.len
  by_cases hnm : n = m
  · subst hnm
    go_enter Try.func97, Try.ntmps97
    go_wp2
    go_loop [14] (fun i => ∃ k : Nat, k ≤ n ∧ i = .int .i64 k ∧ ∀ j, j < k → vs.getD j 0 < 2 ^ (eI ws j).toNat) (fun i => n - (intOf i).toNat)
    case atStart => exact ⟨0, Nat.zero_le _, rfl, fun j h => by omega⟩
    case round =>
      obtain ⟨k, hk, rfl, hall⟩ := hrel
      have HA : Hid (∀ j, j < k → vs.getD j 0 < 2 ^ (eI ws j).toNat) := hall
      clear hall
      by_cases hlt : k < n
      · obtain ⟨b, o, rfl, hb', hc⟩ := hx.at' (by omega)
        obtain ⟨b', o', rfl, hb'', hc'⟩ := hy.at' (by omega)
        have hck := hc k hlt
        have hck' := hc' k hlt
        have ho := (okW_iff _).1 ((allW_iff ws).1 (widthOk_all hok) k (by rw [HX.out]; exact hlt))
        clear hc hc'
        have HC : Hid ((el vs k / 2 ^ (eI ws k).toNat != 0) = !(decide (vs.getD k 0 < 2 ^ (eI ws k).toNat))) := shr_fit _ _
        go_wp2
        · rename_i ht _
          go_ret
          have hf : ¬ vs.getD k 0 < 2 ^ (eI ws k).toNat := by rw [HC.out] at ht; simpa using ht
          refine ⟨ret_bool ?_, rfl⟩
          cases h : fitB ws vs with
          | false => rfl
          | true => exact absurd (((fitB_iff ws vs).1 h).2 k (by rw [HX.out]; exact hlt)) hf
        · rename_i _ ht
          have hf : vs.getD k 0 < 2 ^ (eI ws k).toNat := by rw [HC.out] at ht; simpa using ht
          go_round
          case rel =>
            refine ⟨k + 1, by omega, by go_num, fun i hi => ?_⟩
            rcases Nat.lt_succ_iff_lt_or_eq.1 hi with h | h
            · exact HA.out i h
            · rw [h]; exact hf
          case measure => simp [intOf]; omega
      · go_wp2
        go_ret
        refine ⟨ret_bool ?_, rfl⟩
        exact ((fitB_iff ws vs).2 ⟨by rw [HX.out, HY.out], fun i hi => HA.out i (by have := HX.out; omega)⟩).symm
  · have hne : ((n : Int) != (m : Int)) = true := by rw [bne_iff_ne]; omega
    go_enter Try.func97, Try.ntmps97
    go_wp2
    go_ret
    refine ⟨ret_bool ?_, rfl⟩
    cases h : fitB ws vs with
    | false => rfl
    | true => have := ((fitB_iff ws vs).1 h).1; rw [HX.out, HY.out] at this; exact absurd this hnm
end Go.Proofs.Ytpikaagdiafieaa

namespace Go.Proofs.Ytpikaagdiafieaa
open Go.RowKit
/-- The byte list xs with the bit at place p made 1 where b says so. -/
def orAt (xs : List Nat) (p : Nat) (b : Bool) : List Nat := xs.set (p / 8) (xs.getD (p / 8) 0 ||| (if b then 2 ^ (7 - p % 8) else 0))
/-- The first k of the width bits of v laid at place p. -/
def setTo (xs : List Nat) (p width v : Nat) : Nat → List Nat
  | 0 => xs
  | k + 1 => orAt (setTo xs p width v k) (p + k) (v.testBit (width - 1 - k))
theorem orAt_length (xs : List Nat) (p : Nat) (b : Bool) : (orAt xs p b).length = xs.length := by simp [orAt]
theorem setTo_length (xs : List Nat) (p width v k : Nat) : (setTo xs p width v k).length = xs.length := by
  induction k with
  | zero => rfl
  | succ k ih => rw [setTo, orAt_length, ih]
theorem bit_and1 (v s : Nat) : bits .and .u8 ((v : Int) / 2 ^ s % 256) 1 = ((if v.testBit s then 1 else 0 : Nat) : Int) := by
  have e : ((v : Int) / 2 ^ s % 256) = ((v / 2 ^ s % 256 : Nat) : Int) := by rw [shr_nat]; omega
  rw [e, show (1 : Int) = ((1 : Nat) : Int) from rfl, u8_and_nat _ _ (by omega) (by decide), Nat.and_one_is_mod, Nat.testBit_eq_decide_div_mod_eq]
  by_cases h : v / 2 ^ s % 2 = 1
  · rw [if_pos (by simpa using h)]; omega
  · rw [if_neg (by simpa using h)]; omega
theorem pow7 (t : Nat) (h : t ≤ 7) : 2 ^ t < 256 := by
  have : t = 0 ∨ t = 1 ∨ t = 2 ∨ t = 3 ∨ t = 4 ∨ t = 5 ∨ t = 6 ∨ t = 7 := by omega
  rcases this with rfl | rfl | rfl | rfl | rfl | rfl | rfl | rfl <;> decide
theorem put_val {ys : List Nat} (hy : ∀ x ∈ ys, x < 256) (j v s t : Nat) (ht : t ≤ 7) :
    bits .or .u8 (el ys j) (bits .and .u8 ((v : Int) / 2 ^ s % 256) 1 * 2 ^ t % 256) = ((ys.getD j 0 ||| (if v.testBit s then 2 ^ t else 0) : Nat) : Int) := by
  have hp := pow7 t ht
  have hr := el_range hy j
  have e : (bits .and .u8 ((v : Int) / 2 ^ s % 256) 1 * 2 ^ t % 256) = (((if v.testBit s then 2 ^ t else 0 : Nat)) : Int) := by
    rw [bit_and1]
    have e2 : ((2 : Int) ^ t) = ((2 ^ t : Nat) : Int) := by simp
    cases v.testBit s with
    | true =>
      rw [e2]
      generalize 2 ^ t = T at hp ⊢
      simp only [if_true]
      rw [show ((1 : Nat) : Int) * (T : Int) = (T : Int) from by simp]
      omega
    | false => simp
  rw [e]
  have hl : (if v.testBit s then 2 ^ t else 0) < 256 := by split <;> omega
  have h2 : ys.getD j 0 < 256 := by unfold el at hr; omega
  exact u8_or_nat _ _ h2 hl
theorem orAt_byte {ys : List Nat} (hy : ∀ x ∈ ys, x < 256) (p : Nat) (b : Bool) : ∀ x ∈ orAt ys p b, x < 256 := by
  intro x hx
  unfold orAt at hx
  rcases List.mem_or_eq_of_mem_set hx with h | h
  · exact hy x h
  · rw [h]
    have hr := el_range hy (p / 8)
    have hp := pow7 (7 - p % 8) (by omega)
    have h2 : ys.getD (p / 8) 0 < 256 := by unfold el at hr; omega
    exact Nat.or_lt_two_pow (n := 8) h2 (by split <;> omega)
theorem setTo_byte {xs : List Nat} (hx : ∀ x ∈ xs, x < 256) (p width v k : Nat) : ∀ x ∈ setTo xs p width v k, x < 256 := by
  induction k with
  | zero => exact hx
  | succ k ih => exact orAt_byte ih _ _
theorem vals_set (xs : List Nat) (j x : Nat) : vals (xs.set j x) = (vals xs).set j (.int .u8 (x : Int)) := by simp [vals, List.map_set]
theorem putBits_any (B g n : Nat) (xs : List Nat) (p width v : Nat) (w : World) (hB : B ≤ g) (hown : w.ownsRow B 5 1 (.slice (some ⟨g, 0, none⟩) n n) n (vals xs)) (hx : ∀ x ∈ xs, x < 256)
    (hn : n ≤ 140737488355328) (hw : width ≤ 64) (hfit : p + width ≤ 8 * n) (_hv : v < 18446744073709551616) :
    Calls Try.prog 98 #[.slice (some ⟨g, 0, none⟩) n n, .int .i64 p, .int .i64 width, .int .u64 v] w fun e w' => e = .returned (.tuple #[]) ∧ w'.ownsRow B 5 1 (.slice (some ⟨g, 0, none⟩) n n) n (vals (setTo xs p width v width)) ∧ Below B w w' := by
  have HX : Hid (xs.length = n) := by show _ = _; have := hown.1; simpa [vals] using this
  go_enter Try.func98, Try.ntmps98
  go_wp2
  go_loopw [11] (fun i wr => ∃ k : Nat, k ≤ width ∧ i = .int .i64 k ∧ wr.ownsRow B 5 1 (.slice (some ⟨g, 0, none⟩) n n) n (vals (setTo xs p width v k)) ∧ Below B w wr) (fun i _ => width - (intOf i).toNat)
  case atStart => exact ⟨0, Nat.zero_le _, rfl, hown, Below.refl _ _⟩
  case round =>
    obtain ⟨k, hk, rfl, hown', hbel⟩ := hrel
    by_cases hlt : k < width
    · have hq : (p + k) / 8 < n := by omega
      have hc1 : wr.cell? ⟨g, (p + k) / 8, none⟩ = some (.int .u8 (el (setTo xs p width v k) ((p + k) / 8))) := by
        rw [hown'.cellAt _ (by omega), vals_get _ _ (by rw [setTo_length, HX.out]; exact hq)]
      have hf1 : wr.frozen? ⟨g, (p + k) / 8, none⟩ = false := hown'.frozenAt _
      clear hown
      go_wp2
      go_region
      all_goals (try go_wp2)
      all_goals
        go_roundw
        case rel =>
          have hpv := put_val (setTo_byte hx p width v k) ((p + k) / 8) v (width - 1 - k) (7 - (p + k) % 8) (by omega)
          have hst := hown'.stored ((p + k) / 8) (.int .u8 (bits .or .u8 (el (setTo xs p width v k) ((p + k) / 8)) (bits .and .u8 ((v : Int) / 2 ^ (width - 1 - k) % 256) 1 * 2 ^ (7 - (p + k) % 8) % 256)))
          refine ⟨k + 1, by omega, by go_num, ?_, (hbel.setCell (p := ⟨g, (p + k) / 8, none⟩) hB _).drew⟩
          have hs := hst.1.drew
          rw [setTo, orAt, vals_set, ← hpv]
          exact hs
        case measure => simp [intOf]; omega
    · have hkw : k = width := by omega
      subst hkw
      go_wp2
      go_end0
      exact ⟨rfl, hown', hbel⟩
end Go.Proofs.Ytpikaagdiafieaa

namespace Go.Proofs.Ytpikaagdiafieaa
open Go.RowKit
/-- At which bit value k begins. -/
def atW (ws : List Int) (k : Nat) : Nat := (sumW (ws.take k)).toNat
/-- How many bytes the bits need. -/
def bytesW (ws : List Int) : Nat := (atW ws ws.length + 7) / 8
/-- The first k values laid into zs. -/
def packTo (ws : List Int) (vs zs : List Nat) : Nat → List Nat
  | 0 => zs
  | k + 1 => setTo (packTo ws vs zs k) (atW ws k) (eI ws k).toNat (vs.getD k 0) (eI ws k).toNat
def packOk (ws : List Int) (vs : List Nat) : Bool := widthOk ws && fitB ws vs
/-- 1 is ErrArg. -/
def packE (ws : List Int) (vs : List Nat) : Int := if packOk ws vs then 0 else 1
def packL (ws : List Int) (vs : List Nat) : List Nat := if packOk ws vs then packTo ws vs (List.replicate (bytesW ws) 0) ws.length else []
theorem packTo_length (ws : List Int) (vs zs : List Nat) (k : Nat) : (packTo ws vs zs k).length = zs.length := by
  induction k with
  | zero => rfl
  | succ k ih => rw [packTo, setTo_length, ih]
theorem packTo_byte {ws : List Int} {vs zs : List Nat} (hz : ∀ x ∈ zs, x < 256) (k : Nat) : ∀ x ∈ packTo ws vs zs k, x < 256 := by
  induction k with
  | zero => exact hz
  | succ k ih => exact setTo_byte ih _ _ _ _
theorem atW_zero (ws : List Int) : atW ws 0 = 0 := by simp [atW, sumW]
theorem atW_succ {ws : List Int} (h : widthOk ws = true) (k : Nat) (hk : k < ws.length) : atW ws (k + 1) = atW ws k + (eI ws k).toNat ∧ 1 ≤ (eI ws k).toNat ∧ (eI ws k).toNat ≤ 64 ∧ eI ws k = ((eI ws k).toNat : Int) := by
  have ho := (okW_iff _).1 ((allW_iff ws).1 (widthOk_all h) k hk)
  have hb := sumW_bound ws k (by omega) (fun j hj => (allW_iff ws).1 (widthOk_all h) j (by omega))
  unfold atW
  rw [sumW_take_succ ws k hk]
  omega
theorem atW_cast {ws : List Int} (h : widthOk ws = true) (k : Nat) (hk : k ≤ ws.length) : sumW (ws.take k) = (atW ws k : Int) ∧ atW ws k ≤ 64 * k := by
  have hb := sumW_bound ws k hk (fun j hj => (allW_iff ws).1 (widthOk_all h) j (by omega))
  unfold atW
  omega
theorem atW_mono {ws : List Int} (h : widthOk ws = true) : ∀ d k, k + d ≤ ws.length → atW ws k ≤ atW ws (k + d)
  | 0, _, _ => Nat.le_refl _
  | d + 1, k, hk => by
    have := atW_mono h d k (by omega)
    have e := (atW_succ h (k + d) (by omega)).1
    rw [← Nat.add_assoc, e]; omega
theorem widthN_ok {ws : List Int} (h : widthOk ws = true) : widthN ws = (bytesW ws : Int) ∧ bytesW ws ≤ 512 := by
  have hc := atW_cast h ws.length (Nat.le_refl _)
  rw [List.take_of_length_le (Nat.le_refl _)] at hc
  have hl := widthOk_len h
  unfold widthN bytesW
  rw [if_pos h]
  omega
theorem width_ok (p : Option Addr) (n c : Nat) (ws : List Int) (w : World) (hx : InI w p n c ws) (h : widthOk ws = true) :
    Calls Try.prog 93 #[.slice p n c] w fun e w' => e = .returned (.tuple #[.int .i64 (bytesW ws), .int .i64 0]) ∧ w' = w := by
  have := width_any p n c ws w hx
  rw [(widthN_ok h).1, show widthE ws = 0 from by unfold widthE; rw [if_pos h]] at this
  exact this
theorem width_no (p : Option Addr) (n c : Nat) (ws : List Int) (w : World) (hx : InI w p n c ws) (h : widthOk ws = false) :
    Calls Try.prog 93 #[.slice p n c] w fun e w' => e = .returned (.tuple #[.int .i64 0, .int .i64 1]) ∧ w' = w := by
  have := width_any p n c ws w hx
  rw [show widthN ws = 0 from by unfold widthN; rw [h]; rfl, show widthE ws = 1 from by unfold widthE; rw [h]; rfl] at this
  exact this
theorem zeros_vals (n : Nat) : zerosV n = vals (List.replicate n 0) := by simp [zerosV, vals]
theorem made_owns {w : World} {B g n : Nat} (h : w.ownsRow B 5 1 (.slice (some ⟨g, 0, none⟩) n n) n (madeCells (Value.int .u8 0).cells (n * 1)).toList) :
    w.ownsRow B 5 1 (.slice (some ⟨g, 0, none⟩) n n) n (vals (List.replicate n 0)) := by
  rwa [show (Value.int .u8 0).cells = #[Value.int .u8 0] from rfl, toList_madeCells_one, Nat.mul_one, show List.replicate n (Value.int .u8 0) = vals (List.replicate n 0) from zeros_vals n] at h
set_option maxRecDepth 100000 in
theorem pack_any (p q : Option Addr) (n c m d : Nat) (ws : List Int) (vs : List Nat) (w : World) (hx : InI w p n c ws) (hy : In64 w q m d vs) :
    Calls Try.prog 91 #[.slice p n c, .slice q m d] w fun e w' => ∃ p' n' c', e = .returned (.tuple #[.slice p' n' c', .int .i64 (packE ws vs)]) ∧ In w' p' n' c' (packL ws vs) ∧ Below w.heap.size w w' := by
  have hroom := hx.room
  have HX : Hid (ws.length = n) := hx.len
  have HY : Hid (vs.length = m) := hy.len
  obtain ⟨i0, hi, hz0, hz1, hz2⟩ := info_parts info5
  cases hok : widthOk ws with
  | false =>
    have e1 : packE ws vs = 1 := by unfold packE packOk; rw [hok]; rfl
    have e2 : packL ws vs = [] := by unfold packL packOk; rw [hok]; rfl
    rw [e1, e2]
    have HO : Hid (widthOk ws = false) := hok
    clear e1 e2 hok
    go_enter Try.func91, Try.ntmps91
    go_wp2_with (go_at_call 93; refine (width_no _ _ _ _ _ hx HO.out).mono ?_; rintro e w' ⟨rfl, hw'⟩; have hw2 := hw'.symm; subst hw2; clear hw')
    go_ret2
    exact ⟨_, _, _, rfl, In.empty _, Below.refl _ _⟩
  | true =>
    have hN := (widthN_ok hok).2
    cases hf : fitB ws vs with
    | false =>
      have e1 : packE ws vs = 1 := by unfold packE packOk; rw [hok, hf]; rfl
      have e2 : packL ws vs = [] := by unfold packL packOk; rw [hok, hf]; rfl
      rw [e1, e2]
      have HO : Hid (widthOk ws = true) := hok
      have HF : Hid (fitB ws vs = false) := hf
      clear e1 e2 hok hf
      go_enter Try.func91, Try.ntmps91
      go_wp2_with (first
        | (go_at_call 93; refine (width_ok p n c ws w hx HO.out).mono ?_; rintro e w' ⟨rfl, hw'⟩; have hw2 := hw'.symm; subst hw2; clear hw')
        | (go_at_call 97; refine (fit_any p q n c _ d ws vs w hx hy HO.out).mono ?_; rintro e w' ⟨rfl, hw'⟩; have hw2 := hw'.symm; subst hw2; clear hw'; rw [HF.out]))
      go_ret2
      exact ⟨_, _, _, rfl, In.empty _, Below.refl _ _⟩
    | true =>
      have hnm : n = m := by have := ((fitB_iff ws vs).1 hf).1; rw [HX.out, HY.out] at this; exact this
      subst hnm
      have e1 : packE ws vs = 0 := by unfold packE packOk; rw [hok, hf]; rfl
      have e2 : packL ws vs = packTo ws vs (List.replicate (bytesW ws) 0) ws.length := by unfold packL packOk; rw [hok, hf]; rfl
      rw [e1, e2]
      have HO : Hid (widthOk ws = true) := hok
      have HF : Hid (fitB ws vs = true) := hf
      clear e1 e2 hok hf
      go_enter Try.func91, Try.ntmps91
      go_wp2_with (first
        | (go_at_call 93; refine (width_ok p n c ws w hx HO.out).mono ?_; rintro e w' ⟨rfl, hw'⟩; have hw2 := hw'.symm; subst hw2; clear hw')
        | (go_at_call 97; refine (fit_any p q n c _ d ws vs w hx hy HO.out).mono ?_; rintro e w' ⟨rfl, hw'⟩; have hw2 := hw'.symm; subst hw2; clear hw'; rw [HF.out])
        | (at_make; refine wpList_make_full _ rfl _ _ 53 rfl w.heap.size 5 i0 (.int .u8 0) 1 Try.underlying53 hi hz0 hz1 .i64 .i64 _ _ (bytesW ws) rfl rfl rfl rfl (by rw [hz2]; omega) (by unfold maxLen; omega) (Nat.le_refl _) ?_; intro w1 hown1 hgrow1))
      have hown2 := made_owns hown1
      have hbel2 := below_grown0 hgrow1
      clear hown1 hgrow1
      go_loopw [9, 28] (fun a i wr => ∃ k : Nat, k ≤ n ∧ i = .int .i64 k ∧ a = .int .i64 (atW ws k) ∧ wr.ownsRow w.heap.size 5 1 (.slice (some ⟨w.heap.size, 0, none⟩) (bytesW ws) (bytesW ws)) (bytesW ws) (vals (packTo ws vs (List.replicate (bytesW ws) 0) k)) ∧ Below w.heap.size w wr) (fun _ i _ => n - (intOf i).toNat)
      case atStart => exact ⟨0, Nat.zero_le _, rfl, val_int (by rw [atW_zero]; rfl), hown2, hbel2⟩
      case round =>
        obtain ⟨k, hk, rfl, rfl, hown, hbel⟩ := hrel
        clear hown2 hbel2
        have hat := (atW_cast HO.out k (by rw [HX.out]; exact hk)).2
        by_cases hlt : k < n
        · obtain ⟨b, o, rfl, hb', hc⟩ := hx.at' (by omega)
          obtain ⟨b', o', rfl, hb'', hc'⟩ := hy.at' (by omega)
          obtain ⟨hs, hw1, hw2, he⟩ := atW_succ HO.out k (by rw [HX.out]; exact hlt)
          have HS : Hid (atW ws (k + 1) = atW ws k + (eI ws k).toNat) := hs
          have hck : wr.cell? ⟨b, o + k, none⟩ = some (.int .i64 ((eI ws k).toNat : Int)) := by rw [← he]; exact (hbel.cell (p := ⟨b, o + k, none⟩) hb').trans (hc k hlt)
          have hck' : wr.cell? ⟨b', o' + k, none⟩ = some (.int .u64 ((vs.getD k 0 : Nat) : Int)) := (hbel.cell (p := ⟨b', o' + k, none⟩) hb'').trans (hc' k (by omega))
          have hv : vs.getD k 0 < 18446744073709551616 := by have := el_range64 hy.lim k; unfold el at this; omega
          have hmono := atW_mono HO.out (ws.length - (k + 1)) (k + 1) (by rw [HX.out]; omega)
          rw [show k + 1 + (ws.length - (k + 1)) = ws.length from by rw [HX.out]; omega, hs] at hmono
          have hfit : atW ws k + (eI ws k).toNat ≤ 8 * bytesW ws := by unfold bytesW; omega
          clear hs he hc hc' hmono
          have HP : Hid (packTo ws vs (List.replicate (bytesW ws) 0) (k + 1) = setTo (packTo ws vs (List.replicate (bytesW ws) 0) k) (atW ws k) (eI ws k).toNat (vs.getD k 0) (eI ws k).toNat) := rfl
          generalize (eI ws k).toNat = W at *
          generalize vs.getD k 0 = V at *
          go_wp2_with (go_at_call 98; refine (putBits_any w.heap.size w.heap.size (bytesW ws) (packTo ws vs (List.replicate (bytesW ws) 0) k) (atW ws k) W V _ (Nat.le_refl _) hown (packTo_byte (fun x hx => by rw [List.eq_of_mem_replicate hx]; decide) k) (by omega) (by omega) hfit hv).mono ?_; rintro e w2 ⟨rfl, hown3, hbel3⟩)
          go_roundw
          case rel => exact ⟨k + 1, by omega, by go_num, val_int (by rw [HS.out]; rfl), by rw [HP.out]; exact hown3, hbel.trans hbel3⟩
          case measure => simp [intOf]; omega
        · have hkn : k = ws.length := by have := HX.out; omega
          rw [hkn] at hown
          go_wp2
          go_ret2
          obtain ⟨p', c', hv, hin⟩ := in_of_owns hown (packTo_byte (fun x hx => by rw [List.eq_of_mem_replicate hx]; decide) _) (by omega)
          cases hv
          exact ⟨_, _, _, rfl, hin, hbel⟩
end Go.Proofs.Ytpikaagdiafieaa

namespace Go.Proofs.Ytpikaagdiafieaa
open Go.RowKit
/-- The bit at place i of a list of bytes, the first byte's highest bit first. -/
def bitAt (xs : List Nat) (i : Nat) : Bool := (xs.getD (i / 8) 0).testBit (7 - i % 8)
def bn (b : Bool) : Nat := if b then 1 else 0
/-- The first t bits from place p on, as a number. -/
def getN (xs : List Nat) (p : Nat) : Nat → Nat
  | 0 => 0
  | t + 1 => 2 * getN xs p t + bn (bitAt xs (p + t))
theorem bn_le (b : Bool) : bn b ≤ 1 := by cases b <;> simp [bn]
theorem getN_lt (xs : List Nat) (p t : Nat) : getN xs p t < 2 ^ t := by
  induction t with
  | zero => simp [getN]
  | succ t ih => have := bn_le (bitAt xs (p + t)); rw [getN, Nat.pow_succ]; omega
theorem getN_63 (xs : List Nat) (p t : Nat) (h : t < 64) : getN xs p t ≤ 9223372036854775807 := by
  have h1 := getN_lt xs p t
  have h2 : 2 ^ t ≤ 2 ^ 63 := Nat.pow_le_pow_right (by decide) (by omega)
  omega
theorem getN_64 (xs : List Nat) (p t : Nat) (h : t ≤ 64) : getN xs p t < 18446744073709551616 := by
  have h1 := getN_lt xs p t
  have h2 : 2 ^ t ≤ 2 ^ 64 := Nat.pow_le_pow_right (by decide) h
  omega
theorem get_bit (x s : Nat) (hx : x < 256) : bits .and .u8 ((x : Int) / 2 ^ s) 1 = ((bn (x.testBit s) : Nat) : Int) := by
  have hd : x / 2 ^ s < 256 := Nat.lt_of_le_of_lt (Nat.div_le_self _ _) hx
  rw [shr_nat, show (1 : Int) = ((1 : Nat) : Int) from rfl, u8_and_nat _ _ hd (by decide), Nat.and_one_is_mod, Nat.testBit_eq_decide_div_mod_eq]
  unfold bn
  by_cases h : x / 2 ^ s % 2 = 1
  · rw [if_pos (by simpa using h)]; omega
  · rw [if_neg (by simpa using h)]; omega
theorem or_low (a b : Nat) (ha : a ≤ 9223372036854775807) (hb : b ≤ 1) : bits .or .u64 ((a : Int) * 2) (b : Int) = ((2 * a + b : Nat) : Int) := by
  rw [show ((a : Int) * 2) = ((2 * a : Nat) : Int) from by omega, bits_or_u64_nat _ _ (by omega) (by omega)]
  have := Nat.two_pow_add_eq_or_of_lt (i := 1) (b := b) (by omega) a
  rw [show 2 ^ 1 * a = 2 * a from by omega] at this
  rw [this]
theorem get_step (xs : List Nat) (hx : ∀ x ∈ xs, x < 256) (p k : Nat) (hk : k < 64) :
    bits .or .u64 ((getN xs p k : Int) * 2) (IntKind.u64.wrap (bits .and .u8 (el xs ((p + k) / 8) / 2 ^ (7 - (p + k) % 8)) 1)) = ((getN xs p (k + 1) : Nat) : Int) := by
  have hr := el_range hx ((p + k) / 8)
  unfold el at hr ⊢
  rw [get_bit _ _ (by omega)]
  have hb := bn_le ((xs.getD ((p + k) / 8) 0).testBit (7 - (p + k) % 8))
  rw [IntKind.wrap_u64, show ((bn ((xs.getD ((p + k) / 8) 0).testBit (7 - (p + k) % 8)) : Nat) : Int) % 18446744073709551616 = ((bn ((xs.getD ((p + k) / 8) 0).testBit (7 - (p + k) % 8)) : Nat) : Int) from by omega]
  rw [or_low _ _ (getN_63 xs p k hk) hb]
  rfl
theorem getBits_any (q : Option Addr) (n c : Nat) (xs : List Nat) (p width : Nat) (w : World) (hx : In w q n c xs) (hw : width ≤ 64) (hfit : p + width ≤ 8 * n) :
    Calls Try.prog 100 #[.slice q n c, .int .i64 p, .int .i64 width] w fun e w' => e = .returned (.int .u64 (getN xs p width)) ∧ w' = w := by
  have hroom := hx.room
  go_enter Try.func100, Try.ntmps100
  go_wp2
  go_loop [7, 11] (fun v i => ∃ k : Nat, k ≤ width ∧ i = .int .i64 k ∧ v = .int .u64 (getN xs p k)) (fun _ i => width - (intOf i).toNat)
  case atStart => exact ⟨0, Nat.zero_le _, rfl, rfl⟩
  case round =>
    obtain ⟨k, hk, rfl, rfl⟩ := hrel
    by_cases hlt : k < width
    · have hq : (p + k) / 8 < n := by omega
      obtain ⟨b, o, rfl, hb, hc⟩ := hx.at' (by omega)
      have hck := hc ((p + k) / 8) hq
      have hg := getN_63 xs p k (by omega)
      clear hc
      have HS : Hid (bits .or .u64 ((getN xs p k : Int) * 2) (IntKind.u64.wrap (bits .and .u8 (el xs ((p + k) / 8) / 2 ^ (7 - (p + k) % 8)) 1)) = ((getN xs p (k + 1) : Nat) : Int)) := get_step xs hx.byte p k (by omega)
      go_wp2
      go_round
      case rel => exact ⟨k + 1, by omega, by go_num, val_int HS.out⟩
      case measure => simp [intOf]; omega
    · have hkw : k = width := by omega
      subst hkw
      go_wp2
      go_ret
      exact ⟨rfl, rfl⟩
end Go.Proofs.Ytpikaagdiafieaa

namespace Go.Proofs.Ytpikaagdiafieaa
open Go.RowKit
theorem info64 : (Try.prog.info? 103).map (fun i => (i.zero, i.size, i.bytes)) = some (some (.int .u64 0), 1, 8) := by kernel_rfl
def vals64 (xs : List Nat) : List Value := xs.map fun x : Nat => Value.int .u64 (x : Int)
theorem vals64_length (xs : List Nat) : (vals64 xs).length = xs.length := by simp [vals64]
theorem vals64_append (a b : List Nat) : vals64 (a ++ b) = vals64 a ++ vals64 b := by simp [vals64]
theorem vals64_one (xs : List Nat) : ∀ u ∈ vals64 xs, u.oneCell' = true := by
  intro u hu
  obtain ⟨x, _, rfl⟩ := List.mem_map.1 hu
  rfl
theorem vals64_get (xs : List Nat) (j : Nat) (h : j < xs.length) : (vals64 xs)[j]? = some (.int .u64 (el xs j)) := by
  simp [vals64, el, h]
theorem In64.empty (w : World) : In64 w none 0 0 [] := ⟨rfl, Nat.le_refl _, Nat.zero_le _, Nat.zero_le _, fun _ h => by simp at h, fun h => by omega⟩
theorem in64_of_owns {w : World} {B : Nat} {v : Value} {n : Nat} {xs : List Nat} (h : w.ownsRow B 103 1 v n (vals64 xs)) (hb : ∀ x ∈ xs, x < 18446744073709551616) (hr : n ≤ 140737488355328) :
    ∃ p c, v = .slice p n c ∧ In64 w p n c xs := by
  have hl : xs.length = n := by have := h.1; simpa [vals64] using this
  rcases h.2 with ⟨rfl, rfl⟩ | ⟨g, cap, cur, rfl, hg, hh, hnc, hcm, hsz, htk⟩
  · have : xs = [] := List.eq_nil_of_length_eq_zero hl
    subst this
    exact ⟨none, 0, rfl, In64.empty w⟩
  · refine ⟨some ⟨g, 0, none⟩, cap, rfl, hl, hnc, hcm, hr, hb, fun h0 => ⟨g, 0, rfl, ?_, fun i hi => ?_⟩⟩
    · rcases Nat.lt_or_ge g w.heap.size with h' | h'
      · exact h'
      · rw [Array.getElem?_eq_none h'] at hh; simp at hh
    · have := World.ownsRow.cellAt h i (by omega)
      rw [Nat.zero_add, this, vals64_get xs i (by omega)]
/-- The first k of the values that stand in xs; the others are 0. -/
def valsTo (ws : List Int) (xs : List Nat) (k : Nat) : List Nat := (List.range ws.length).map fun i => if i < k then getN xs (atW ws i) (eI ws i).toNat else 0
theorem valsTo_length (ws : List Int) (xs : List Nat) (k : Nat) : (valsTo ws xs k).length = ws.length := by simp [valsTo]
theorem valsTo_set (ws : List Int) (xs : List Nat) (k : Nat) : (vals64 (valsTo ws xs k)).set k (.int .u64 ((getN xs (atW ws k) (eI ws k).toNat : Nat) : Int)) = vals64 (valsTo ws xs (k + 1)) := by
  apply List.ext_getElem?
  intro i
  rw [List.getElem?_set]
  by_cases hk : k = i
  · subst hk
    by_cases hl : k < ws.length
    · simp [vals64, valsTo, hl]
    · simp [vals64, valsTo, hl]
  · have e : (i < k) = (i < k + 1) := by apply propext; omega
    by_cases hl : i < ws.length
    · simp [vals64, valsTo, hk, hl, e]
    · simp [vals64, valsTo, hk, hl]
theorem valsTo_zero (ws : List Int) (xs : List Nat) : valsTo ws xs 0 = List.replicate ws.length 0 := by
  apply List.ext_getElem?
  intro i
  by_cases hl : i < ws.length <;> simp [valsTo, hl]
theorem made64 {w : World} {B g n : Nat} (h : w.ownsRow B 103 1 (.slice (some ⟨g, 0, none⟩) n n) n (madeCells (Value.int .u64 0).cells (n * 1)).toList) :
    w.ownsRow B 103 1 (.slice (some ⟨g, 0, none⟩) n n) n (vals64 (List.replicate n 0)) := by
  rwa [show (Value.int .u64 0).cells = #[Value.int .u64 0] from rfl, toList_madeCells_one, Nat.mul_one, show List.replicate n (Value.int .u64 0) = vals64 (List.replicate n 0) from by simp [vals64]] at h
/-- The bits behind the last value, as a number. -/
def tailN (ws : List Int) (xs : List Nat) : Nat := getN xs (atW ws ws.length) (8 * bytesW ws - atW ws ws.length)
/-- 1 is ErrArg, 3 is ErrLong. -/
def unpackE (ws : List Int) (xs : List Nat) : Int := if widthOk ws = false then 1 else if xs.length ≠ bytesW ws then 3 else if tailN ws xs ≠ 0 then 1 else 0
def unpackL (ws : List Int) (xs : List Nat) : List Nat := if unpackE ws xs = 0 then valsTo ws xs ws.length else []
theorem valsTo_lim {ws : List Int} (h : widthOk ws = true) (xs : List Nat) (k : Nat) : ∀ x ∈ valsTo ws xs k, x < 18446744073709551616 := by
  intro x hx
  obtain ⟨i, hi, rfl⟩ := List.mem_map.1 hx
  have hi' : i < ws.length := by simpa using hi
  split
  · exact getN_64 _ _ _ (atW_succ h i hi').2.2.1
  · decide
theorem unpack_any (p q : Option Addr) (n c m d : Nat) (ws : List Int) (xs : List Nat) (w : World) (hx : InI w p n c ws) (hy : In w q m d xs) :
    Calls Try.prog 94 #[.slice p n c, .slice q m d] w fun e w' => ∃ p' n' c', e = .returned (.tuple #[.slice p' n' c', .int .i64 (unpackE ws xs)]) ∧ In64 w' p' n' c' (unpackL ws xs) ∧ Below w.heap.size w w' ∧ ∀ a, p' = some a → w.heap.size ≤ a.block := by
  have hroom := hx.room
  have hroomm := hy.room
  have HX : Hid (ws.length = n) := hx.len
  have HY : Hid (xs.length = m) := hy.len
  obtain ⟨i0, hi, hz0, hz1, hz2⟩ := info_parts info64
  cases hok : widthOk ws with
  | false =>
    have e1 : unpackE ws xs = 1 := by unfold unpackE; rw [if_pos hok]
    have e2 : unpackL ws xs = [] := by unfold unpackL; rw [e1]; rfl
    rw [e1, e2]
    have HO : Hid (widthOk ws = false) := hok
    clear e1 e2 hok
    go_enter Try.func94, Try.ntmps94
    go_wp2_with (go_at_call 93; refine (width_no p n c ws w hx HO.out).mono ?_; rintro e w' ⟨rfl, hw'⟩; have hw2 := hw'.symm; subst hw2; clear hw')
    go_ret2
    exact ⟨_, _, _, rfl, In64.empty _, Below.refl _ _, fun a h => by cases h⟩
  | true =>
    have hN := (widthN_ok hok).2
    have hl64 := widthOk_len hok
    rw [HX.out] at hl64
    have hnf : ¬ widthOk ws = false := by rw [hok]; simp
    by_cases hm : m = bytesW ws
    · have hb1 : ((m : Int) != (bytesW ws : Int)) = false := by rw [hm]; simp
      have hat := atW_cast hok ws.length (Nat.le_refl _)
      rw [HX.out] at hat
      have htl : 8 * bytesW ws - atW ws n ≤ 64 ∧ atW ws n ≤ 8 * bytesW ws := by
        unfold bytesW; rw [HX.out]; omega
      have HO : Hid (widthOk ws = true) := hok
      have HM : Hid (m = bytesW ws) := hm
      clear hok hm
      go_enter Try.func94, Try.ntmps94
      go_wp2_with (first
        | (go_at_call 93; refine (width_ok p n c ws w hx HO.out).mono ?_; rintro e w' ⟨rfl, hw'⟩; have hw2 := hw'.symm; subst hw2; clear hw')
        | (at_make; refine wpList_make_full _ rfl _ _ 106 rfl w.heap.size 103 i0 (.int .u64 0) 1 Try.underlying106 hi hz0 hz1 .i64 .i64 _ _ n rfl rfl rfl rfl (by rw [hz2]; omega) (by unfold maxLen; omega) (Nat.le_refl _) ?_; intro w1 hown1 hgrow1))
      have hown2 := made64 hown1
      have hbel2 := below_grown0 hgrow1
      clear hown1 hgrow1
      go_loopw [9, 29] (fun a i wr => ∃ k : Nat, k ≤ n ∧ i = .int .i64 k ∧ a = .int .i64 (atW ws k) ∧ wr.ownsRow w.heap.size 103 1 (.slice (some ⟨w.heap.size, 0, none⟩) n n) n (vals64 (valsTo ws xs k)) ∧ Below w.heap.size w wr) (fun _ i _ => n - (intOf i).toNat)
      case atStart => exact ⟨0, Nat.zero_le _, rfl, val_int (by rw [atW_zero]; rfl), by rw [valsTo_zero, HX.out]; exact hown2, hbel2⟩
      case round =>
        obtain ⟨k, hk, rfl, rfl, hown, hbel⟩ := hrel
        clear hown2 hbel2
        have hatk := (atW_cast HO.out k (by rw [HX.out]; exact hk)).2
        by_cases hlt : k < n
        · obtain ⟨b, o, rfl, hb', hc⟩ := hx.at' (by omega)
          obtain ⟨hs, hw1, hw2, he⟩ := atW_succ HO.out k (by rw [HX.out]; exact hlt)
          have HS : Hid (atW ws (k + 1) = atW ws k + (eI ws k).toNat) := hs
          have hck : wr.cell? ⟨b, o + k, none⟩ = some (.int .i64 ((eI ws k).toNat : Int)) := by rw [← he]; exact (hbel.cell (p := ⟨b, o + k, none⟩) hb').trans (hc k hlt)
          have hmono := atW_mono HO.out (ws.length - (k + 1)) (k + 1) (by rw [HX.out]; omega)
          rw [show k + 1 + (ws.length - (k + 1)) = ws.length from by rw [HX.out]; omega, hs, HX.out] at hmono
          have hfit : atW ws k + (eI ws k).toNat ≤ 8 * m := by rw [HM.out]; omega
          have hcs : wr.cell? ⟨w.heap.size, k, none⟩ = some (.int .u64 (el (valsTo ws xs k) k)) := by
            rw [hown.cellAt k (by omega), vals64_get _ _ (by rw [valsTo_length, HX.out]; exact hlt)]
          have hfr : wr.frozen? ⟨w.heap.size, k, none⟩ = false := hown.frozenAt k
          have HV : Hid ((vals64 (valsTo ws xs k)).set k (.int .u64 ((getN xs (atW ws k) (eI ws k).toNat : Nat) : Int)) = vals64 (valsTo ws xs (k + 1))) := valsTo_set ws xs k
          clear hs he hc hmono
          generalize (eI ws k).toNat = W at *
          go_wp2_with (go_at_call 100; refine (getBits_any q m d xs (atW ws k) W _ (hy.below hbel) (by omega) hfit).mono ?_; rintro e w2 ⟨rfl, hw2'⟩; have hw3 := hw2'.symm; subst hw3; clear hw2')
          go_roundw
          case rel =>
            have hst := hown.stored k (.int .u64 ((getN xs (atW ws k) W : Nat) : Int))
            rw [HV.out] at hst
            exact ⟨k + 1, by omega, by go_num, val_int (by rw [HS.out]; rfl), hst.1, hbel.setCell (p := ⟨w.heap.size, k, none⟩) (Nat.le_refl _) _⟩
          case measure => simp [intOf]; omega
        · have hkn : k = n := by omega
          subst hkn
          have HT : Hid (tailN ws xs = getN xs (atW ws k) (8 * bytesW ws - atW ws k)) := by show _ = _; unfold tailN; rw [HX.out]
          go_wp2_with fail
          rw [show (8 * (bytesW ws : Int) - (atW ws k : Int)) = ((8 * bytesW ws - atW ws k : Nat) : Int) from by omega]
          refine (getBits_any q m d xs (atW ws k) (8 * bytesW ws - atW ws k) _ (hy.below hbel) htl.1 (by rw [HM.out]; omega)).mono ?_
          rintro e w2 ⟨rfl, hw2⟩
          subst hw2
          rw [← HT.out]
          by_cases ht : tailN ws xs = 0
          · have hb2 : ((tailN ws xs : Int) != 0) = false := by rw [ht]; rfl
            have E1 : Hid (unpackE ws xs = 0) := by show _ = _; unfold unpackE; rw [if_neg hnf, if_neg (by rw [HY.out, HM.out]; simp), if_neg (by rw [ht]; simp)]
            have E2 : Hid (unpackL ws xs = valsTo ws xs k) := by show _ = _; unfold unpackL; rw [if_pos E1.out, HX.out]
            clear ht
            go_wp2
            go_ret2
            obtain ⟨p', c', hv, hin⟩ := in64_of_owns hown (valsTo_lim HO.out xs k) (by omega)
            cases hv
            rw [E1.out, E2.out]
            exact ⟨_, _, _, rfl, hin, hbel, fun a h => by cases h; exact Nat.le_refl _⟩
          · have hb2 : ((tailN ws xs : Int) != 0) = true := by rw [bne_iff_ne]; omega
            have E1 : Hid (unpackE ws xs = 1) := by show _ = _; unfold unpackE; rw [if_neg hnf, if_neg (by rw [HY.out, HM.out]; simp), if_pos ht]
            have E2 : Hid (unpackL ws xs = []) := by show _ = _; unfold unpackL; rw [E1.out]; rfl
            clear ht
            go_wp2
            go_ret2
            rw [E1.out, E2.out]
            exact ⟨_, _, _, rfl, In64.empty _, hbel, fun a h => by cases h⟩
    · have hb1 : ((m : Int) != (bytesW ws : Int)) = true := by rw [bne_iff_ne]; omega
      have e1 : unpackE ws xs = 3 := by unfold unpackE; rw [if_neg hnf, if_pos (by rw [HY.out]; exact hm)]
      have e2 : unpackL ws xs = [] := by unfold unpackL; rw [e1]; rfl
      rw [e1, e2]
      have HO : Hid (widthOk ws = true) := hok
      clear e1 e2 hok hm
      go_enter Try.func94, Try.ntmps94
      go_wp2_with (go_at_call 93; refine (width_ok p n c ws w hx HO.out).mono ?_; rintro e w' ⟨rfl, hw'⟩; have hw2 := hw'.symm; subst hw2; clear hw')
      go_ret2
      exact ⟨_, _, _, rfl, In64.empty _, Below.refl _ _, fun a h => by cases h⟩
theorem eq_list (xs ys : List Nat) (hl : xs.length = ys.length) (h : ∀ i, i < xs.length → xs.getD i 0 = ys.getD i 0) : xs = ys := by
  apply List.ext_getElem hl
  intro i h1 h2
  have := h i h1
  simpa [h1, h2] using this
end Go.Proofs.Ytpikaagdiafieaa

namespace Go.Proofs.Ytpikaagdiafieaa
theorem bitAt_orAt (xs : List Nat) (p j : Nat) (b : Bool) (hp : p / 8 < xs.length) : bitAt (orAt xs p b) j = (bitAt xs j || (decide (j = p) && b)) := by
  unfold bitAt orAt
  by_cases h : j / 8 = p / 8
  · rw [h, show (xs.set (p / 8) (xs.getD (p / 8) 0 ||| if b = true then 2 ^ (7 - p % 8) else 0)).getD (p / 8) 0 = (xs.getD (p / 8) 0 ||| if b = true then 2 ^ (7 - p % 8) else 0) from by simp [hp], Nat.testBit_or]
    congr 1
    cases b with
    | false => simp
    | true =>
      rw [if_pos rfl, Nat.testBit_two_pow, Bool.and_true]
      by_cases e : j = p
      · simp [e]
      · have : ¬ 7 - p % 8 = 7 - j % 8 := by omega
        simp [e, this]
  · have e1 : (xs.set (p / 8) (xs.getD (p / 8) 0 ||| if b = true then 2 ^ (7 - p % 8) else 0)).getD (j / 8) 0 = xs.getD (j / 8) 0 := by
      simp [show ¬ p / 8 = j / 8 by omega]
    have e2 : ¬ j = p := fun e => h (by rw [e])
    rw [e1]; simp [e2]
theorem bitAt_setTo (xs : List Nat) (p w v k j : Nat) (hp : p + k ≤ 8 * xs.length) : bitAt (setTo xs p w v k) j = (bitAt xs j || (decide (p ≤ j) && decide (j < p + k) && v.testBit (w - 1 - (j - p)))) := by
  induction k with
  | zero =>
    have : ¬ (p ≤ j ∧ j < p) := by omega
    by_cases h : p ≤ j
    · have h2 : ¬ j < p := by omega
      simp [setTo, h2]
    · simp [setTo, h]
  | succ k ih =>
    rw [setTo, bitAt_orAt _ _ _ _ (by rw [setTo_length]; omega), ih (by omega)]
    by_cases e : j = p + k
    · subst e
      have h1 : ¬ p + k < p + k := by omega
      simp [show p + k - p = k from by omega]
    · by_cases h1 : p ≤ j
      · by_cases h2 : j < p + k
        · have h3 : j < p + (k + 1) := by omega
          simp [e, h1, h2, h3]
        · have h3 : ¬ j < p + (k + 1) := by omega
          simp [e, h2, h3]
      · simp [e, h1]
theorem bitAt_zeros (n j : Nat) : bitAt (List.replicate n 0) j = false := by
  unfold bitAt
  have : (List.replicate n 0).getD (j / 8) 0 = 0 := by
    by_cases h : j / 8 < n <;> simp [h]
  rw [this, Nat.zero_testBit]
theorem atW_le_bytes {ws : List Int} (h : widthOk ws = true) (k : Nat) (hk : k ≤ ws.length) : atW ws k ≤ 8 * bytesW ws := by
  have := atW_mono h (ws.length - k) k (by omega)
  rw [show k + (ws.length - k) = ws.length from by omega] at this
  unfold bytesW; omega
theorem packTo_bits {ws : List Int} (h : widthOk ws = true) (vs : List Nat) (k : Nat) (hk : k ≤ ws.length) :
    (∀ j, atW ws k ≤ j → bitAt (packTo ws vs (List.replicate (bytesW ws) 0) k) j = false) ∧
    (∀ i, i < k → ∀ t, t < (eI ws i).toNat → bitAt (packTo ws vs (List.replicate (bytesW ws) 0) k) (atW ws i + t) = (vs.getD i 0).testBit ((eI ws i).toNat - 1 - t)) := by
  induction k with
  | zero => exact ⟨fun j _ => bitAt_zeros _ _, fun i hi => by omega⟩
  | succ k ih =>
    obtain ⟨ihA, ihB⟩ := ih (by omega)
    obtain ⟨hs, _, _, _⟩ := atW_succ h k (by omega)
    have hb := atW_le_bytes h (k + 1) hk
    have hlen : (packTo ws vs (List.replicate (bytesW ws) 0) k).length = bytesW ws := by rw [packTo_length, List.length_replicate]
    constructor
    · intro j hj
      rw [packTo, bitAt_setTo _ _ _ _ _ _ (by rw [hlen]; omega), ihA j (by omega)]
      have : ¬ j < atW ws k + (eI ws k).toNat := by omega
      simp [this]
    · intro i hi t ht
      rw [packTo, bitAt_setTo _ _ _ _ _ _ (by rw [hlen]; omega)]
      rcases Nat.lt_succ_iff_lt_or_eq.1 hi with h' | h'
      · have hm := atW_mono h (k - (i + 1)) (i + 1) (by omega)
        rw [show i + 1 + (k - (i + 1)) = k from by omega, (atW_succ h i (by omega)).1] at hm
        rw [ihB i h' t ht]
        have : ¬ atW ws k ≤ atW ws i + t := by omega
        simp [this]
      · subst h'
        rw [ihA _ (by omega)]
        simp [ht]
theorem getN_of_bits (xs : List Nat) (p w v : Nat) (hv : v < 2 ^ w) (h : ∀ t, t < w → bitAt xs (p + t) = v.testBit (w - 1 - t)) : getN xs p w = v := by
  have key : ∀ t, t ≤ w → getN xs p t = v / 2 ^ (w - t) := by
    intro t
    induction t with
    | zero => intro _; rw [getN, Nat.sub_zero, Nat.div_eq_of_lt hv]
    | succ t ih =>
      intro ht
      rw [getN, ih (by omega), h t (by omega), Nat.testBit_eq_decide_div_mod_eq]
      have e1 : w - t = (w - (t + 1)) + 1 := by omega
      have e2 : w - 1 - t = w - (t + 1) := by omega
      rw [e1, e2, Nat.pow_succ, ← Nat.div_div_eq_div_mul]
      generalize v / 2 ^ (w - (t + 1)) = a
      unfold bn
      by_cases ha : a % 2 = 1
      · rw [if_pos (by simpa using ha)]; omega
      · rw [if_neg (by simpa using ha)]; omega
  have := key w (Nat.le_refl _)
  rwa [Nat.sub_self, Nat.pow_zero, Nat.div_one] at this
theorem getN_bit (xs : List Nat) (p w : Nat) : ∀ t, t < w → (getN xs p w).testBit (w - 1 - t) = bitAt xs (p + t) := by
  induction w with
  | zero => intro t ht; omega
  | succ w ih =>
    intro t ht
    have hb := bn_le (bitAt xs (p + w))
    rw [getN]
    by_cases e : t = w
    · subst e
      rw [show t + 1 - 1 - t = 0 from by omega, Nat.testBit_zero]
      cases h : bitAt xs (p + t) with
      | true => rw [show bn true = 1 from rfl]; simp
      | false => rw [show bn false = 0 from rfl]; simp
    · rw [show w + 1 - 1 - t = (w - 1 - t) + 1 from by omega, Nat.testBit_succ, show (2 * getN xs p w + bn (bitAt xs (p + w))) / 2 = getN xs p w from by omega]
      exact ih t (by omega)
theorem bytes_ext {xs ys : List Nat} (hl : xs.length = ys.length) (hx : ∀ x ∈ xs, x < 256) (hy : ∀ x ∈ ys, x < 256) (h : ∀ j, j < 8 * xs.length → bitAt xs j = bitAt ys j) : xs = ys := by
  refine eq_list xs ys hl fun i hi => ?_
  have bx := el_range hx i
  have byte2 := el_range hy i
  unfold el at bx byte2
  apply Nat.eq_of_testBit_eq
  intro s
  by_cases hs : s < 8
  · have := h (8 * i + (7 - s)) (by omega)
    unfold bitAt at this
    rwa [show (8 * i + (7 - s)) / 8 = i from by omega, show 7 - (8 * i + (7 - s)) % 8 = s from by omega] at this
  · have p : 2 ^ 8 ≤ 2 ^ s := Nat.pow_le_pow_right (by decide) (by omega)
    rw [Nat.testBit_lt_two_pow (by omega), Nat.testBit_lt_two_pow (by omega)]
theorem seg {ws : List Int} (h : widthOk ws = true) (k : Nat) (hk : k ≤ ws.length) : ∀ j, j < atW ws k → ∃ i, i < k ∧ ∃ t, t < (eI ws i).toNat ∧ j = atW ws i + t := by
  induction k with
  | zero => intro j hj; rw [atW_zero] at hj; omega
  | succ k ih =>
    intro j hj
    rw [(atW_succ h k (by omega)).1] at hj
    by_cases hlt : j < atW ws k
    · obtain ⟨i, hi, t, ht, e⟩ := ih (by omega) j hlt
      exact ⟨i, by omega, t, ht, e⟩
    · exact ⟨k, by omega, j - atW ws k, by omega, by omega⟩
theorem valsTo_getD (ws : List Int) (xs : List Nat) (i : Nat) (hi : i < ws.length) : (valsTo ws xs ws.length).getD i 0 = getN xs (atW ws i) (eI ws i).toNat := by
  simp [valsTo, hi]
/-- What is packed is unpacked as it was. -/
theorem there {ws : List Int} {vs : List Nat} (h : packOk ws vs = true) : unpackE ws (packL ws vs) = 0 ∧ unpackL ws (packL ws vs) = vs := by
  have hw : widthOk ws = true := by unfold packOk at h; simp only [Bool.and_eq_true] at h; exact h.1
  have hf : fitB ws vs = true := by unfold packOk at h; simp only [Bool.and_eq_true] at h; exact h.2
  obtain ⟨hl, hfit⟩ := (fitB_iff ws vs).1 hf
  have e : packL ws vs = packTo ws vs (List.replicate (bytesW ws) 0) ws.length := by unfold packL; rw [if_pos h]
  obtain ⟨hA, hB⟩ := packTo_bits hw vs ws.length (Nat.le_refl _)
  have hlen : (packTo ws vs (List.replicate (bytesW ws) 0) ws.length).length = bytesW ws := by rw [packTo_length, List.length_replicate]
  rw [e]
  generalize packTo ws vs (List.replicate (bytesW ws) 0) ws.length = X at *
  have ht : tailN ws X = 0 := by
    unfold tailN
    exact getN_of_bits X _ _ 0 (Nat.two_pow_pos _) fun t _ => by rw [hA _ (by omega), Nat.zero_testBit]
  have hE : unpackE ws X = 0 := by
    unfold unpackE
    rw [if_neg (by rw [hw]; simp), if_neg (by rw [hlen]; simp), if_neg (by rw [ht]; simp)]
  refine ⟨hE, ?_⟩
  unfold unpackL
  rw [if_pos hE]
  refine eq_list _ _ (by rw [valsTo_length, hl]) fun i hi => ?_
  rw [valsTo_length] at hi
  rw [valsTo_getD ws X i hi]
  exact getN_of_bits X _ _ _ (hfit i hi) fun t ht => hB i hi t ht
/-- What is unpacked packs to the same bytes. -/
theorem andBack {ws : List Int} {xs : List Nat} (hx : ∀ x ∈ xs, x < 256) (h : unpackE ws xs = 0) : packOk ws (unpackL ws xs) = true ∧ packL ws (unpackL ws xs) = xs := by
  have hw : widthOk ws = true := by
    cases hq : widthOk ws with
    | true => rfl
    | false => unfold unpackE at h; rw [if_pos hq] at h; simp at h
  have hlen : xs.length = bytesW ws := by
    unfold unpackE at h
    rw [if_neg (by rw [hw]; simp)] at h
    by_cases hq : xs.length = bytesW ws
    · exact hq
    · rw [if_pos hq] at h; simp at h
  have ht : tailN ws xs = 0 := by
    unfold unpackE at h
    rw [if_neg (by rw [hw]; simp), if_neg (by rw [hlen]; simp)] at h
    by_cases hq : tailN ws xs = 0
    · exact hq
    · rw [if_pos hq] at h; simp at h
  have e : unpackL ws xs = valsTo ws xs ws.length := by unfold unpackL; rw [if_pos h]
  rw [e]
  have hf : fitB ws (valsTo ws xs ws.length) = true := (fitB_iff _ _).2 ⟨by rw [valsTo_length], fun i hi => by rw [valsTo_getD ws xs i hi]; exact getN_lt _ _ _⟩
  have hok : packOk ws (valsTo ws xs ws.length) = true := by unfold packOk; rw [hw, hf]; rfl
  refine ⟨hok, ?_⟩
  unfold packL
  rw [if_pos hok]
  obtain ⟨hA, hB⟩ := packTo_bits hw (valsTo ws xs ws.length) ws.length (Nat.le_refl _)
  refine bytes_ext (by rw [packTo_length, List.length_replicate, hlen]) (packTo_byte (fun x hx => by rw [List.eq_of_mem_replicate hx]; decide) _) hx fun j hj => ?_
  rw [packTo_length, List.length_replicate] at hj
  by_cases hlt : j < atW ws ws.length
  · obtain ⟨i, hi, t, ht', rfl⟩ := seg hw ws.length (Nat.le_refl _) j hlt
    rw [hB i hi t ht', valsTo_getD ws xs i hi]
    exact getN_bit xs _ _ t ht'
  · rw [hA j (by omega)]
    have := getN_bit xs (atW ws ws.length) (8 * bytesW ws - atW ws ws.length) (j - atW ws ws.length) (by omega)
    unfold tailN at ht
    rw [ht, Nat.zero_testBit, show atW ws ws.length + (j - atW ws ws.length) = j from by omega] at this
    exact this
end Go.Proofs.Ytpikaagdiafieaa

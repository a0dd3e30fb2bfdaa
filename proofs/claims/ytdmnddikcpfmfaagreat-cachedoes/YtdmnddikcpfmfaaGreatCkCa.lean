/-
  The calls of the law: what came in, and how it is read.
-/
import Derived.Test.YtdmnddikcpfmfaaGreatRows
import Derived.Test.YtdmnddikcpfmfaaGreatCkTold
import Derived.Lib.MinMax
import Derived.ProofKit
import Derived.OpenShut
import Derived.ShutString
import Derived.ChangeOld
import Derived.SizedLaws
import Derived.Deep.Grids
import Derived.Test.YtdmnddikcpfmfaaGreatCkTx
import Derived.Test.YtdmnddikcpfmfaaGreatDkSmall
import Derived.Test.YtdmnddikcpfmfaaGreatDkRRead
namespace Go.Proofs.YtdmnddikcpfmfaaGreat
open Go.ChangeShapes Go.WideShapes Go.ChangeAt Go.RowKit
/-- A call of the law's. -/
structure CallA where
  d : Int
  b : Int
  f : Nat
  c : Int
  q : Option Addr
  m : Nat
  cp : Nat
  cut : Int
  xs : List Int
structure CallsSrc (w : World) (p : Option Addr) (n c : Nat) (os : List CallA) : Prop where
  len : os.length = n
  cap : n ≤ c
  at' : 0 < n → ∃ b o, p = some ⟨b, o, none⟩ ∧ b < w.heap.size ∧ ∀ (i : Nat) (x : CallA), os[i]? = some x → w.rangeAt b (o + i * 6) [.int .i64 x.d, .int .i64 x.b, .int .u8 (x.f : Int), .int .i64 x.c, .slice x.q x.m x.cp, .int .i64 x.cut]
  ints : ∀ x ∈ os, InI w x.q x.m x.cp x.xs
  rg : ∀ x ∈ os, (-9223372036854775808 ≤ x.b ∧ x.b ≤ 9223372036854775807) ∧ x.f < 256
  rc : ∀ x ∈ os, -9223372036854775808 ≤ x.cut ∧ x.cut ≤ 9223372036854775807
theorem CallsSrc.below {w w' : World} {p : Option Addr} {n c : Nat} {os : List CallA} (h : CallsSrc w p n c os) (hb : Below w.heap.size w w') : CallsSrc w' p n c os :=
  ⟨h.len, h.cap, fun h0 => by
    obtain ⟨b, o, hp, hlt, hc⟩ := h.at' h0
    exact ⟨b, o, hp, Nat.lt_of_lt_of_le hlt hb.size, fun i x hx j v hv => (hb.cell (p := ⟨b, _, none⟩) hlt).trans (hc i x hx j v hv)⟩, fun x hx => (h.ints x hx).below hb, h.rg, h.rc⟩
theorem callsPre (p : Option Addr) (n c k : Nat) (h : k ≤ n) (hc : n ≤ c) (W : World) : (Instr.slice 22 (.slice p n c) none (some (.int .i64 (k : Int))) none).run Tryz.prog W = .ok (.slice p k c) W := by
  simp [Instr.slice, Instr.sliceBounds, Instr.sliceBound, run_underlying Tryz.underlying22, asIntOf]
  rw [if_pos (by omega)]
  have : (Option.map (fun x : Addr => x.add 0) p) = p := by
    cases p with
    | none => rfl
    | some a => obtain ⟨b, o, s⟩ := a; cases s <;> simp [Addr.add]
  simp_all
theorem minRunD (M n : Nat) : ∃ k : Nat, k ≤ n ∧ k ≤ M ∧ ∀ (ts : Array TypeId) (t : TypeId) (W : World), (Builtin.min_ ts t #[.int .i64 (n : Int), .int .i64 (M : Int)]).run Tryz.prog W = .ok (.int .i64 (k : Int)) W := by
  by_cases h : (M : Int) < (n : Int)
  · exact ⟨M, by omega, Nat.le_refl _, fun ts t W => by rw [run_min_int2]; simp only [if_pos h]⟩
  · exact ⟨n, Nat.le_refl _, by omega, fun ts t W => by rw [run_min_int2]; simp only [if_neg h]⟩
theorem own : ownKnob Tryz.prog.godebug = none := by kernel_rfl
theorem laidOut : laidOutB Tryz.prog = true := by kernel_rfl
theorem bytesI : Tryz.prog.bytesOf 3 = 8 := by kernel_rfl
theorem cellsCall : Tryz.prog.cellsOf 42 = 6 := by kernel_rfl
theorem cells3 : Tryz.prog.cellsOf 3 = 1 := by kernel_rfl
theorem cells5 : Tryz.prog.cellsOf 5 = 1 := by kernel_rfl
theorem cellsInts : Tryz.prog.cellsOf 40 = 1 := by kernel_rfl
theorem mem_weightsAll {H : Type} {P : Program} {e : TypeId} {n : Nat} {D : DataW H} (hn : n ∈ D.weights P e) : ∀ {l : List (DataW H)}, D ∈ l → n ∈ DataW.weightsAll P e l
  | [], h => by simp at h
  | d :: r, h => by
    simp only [DataW.weightsAll, List.mem_append]
    rcases List.mem_cons.1 h with rfl | h
    · exact .inl hn
    · exact .inr (mem_weightsAll hn h)
/-- Ints inside a call. -/
theorem openInts {H : Type} {enc : TypeId × Value → H} {W : World} {v : Value} {fuel : Nat} {y : DataW H × List MemPlace} (hf : DataW.trod enc Tryz.prog W 0 (fun _ => true) true fuel 40 [v] = some y)
    (hs : ∀ n ∈ y.1.weights Tryz.prog 40, n ≤ reachBytes) : ∃ q m d xs, v = .slice q m d ∧ InI W q m d xs := by
  rcases open_ints Tryz.underlying40 Tryz.underlying3 cells3 hf with ⟨hcs, _⟩ | ⟨x, l, c, zs, hcs, _, hl, hm, hz, hx, hcell, hwz⟩
  · simp at hcs
    subst hcs
    exact ⟨none, 0, 0, [], rfl, InI.empty W⟩
  · simp at hcs
    subst hcs
    subst hx
    have hw := hs (((zs.take l).length + (zs.drop l).length) * 8) (by simp [DataW.weights, Tryz.underlying40, bytesI, lits])
    have hzl : zs.length = c := by simpa using hz
    simp only [List.length_take, List.length_drop, reachBytes, hzl] at hw
    refine ⟨some x, l, c, zs.take l, rfl, by rw [List.length_take]; omega, hl, hm, by omega, fun h0 => ?_, fun h => by simp at h⟩
    have hc0 := hcell 0 (by omega)
    obtain ⟨b, o, s⟩ := x
    have hsp : s = none := by simpa [Addr.add] using World.cell?_spot hc0
    subst hsp
    refine ⟨b, o, rfl, block_lt_of_cell hc0, fun i hi => ?_⟩
    have hci := hcell i (by omega)
    rw [addr_add] at hci
    rw [hci]
    have hil : i < zs.length := by omega
    simp [eI, List.getD_eq_getElem?_getD, List.getElem?_take_of_lt hi, hil]
set_option maxRecDepth 100000 in
theorem openCalls {H : Type} {enc : TypeId × Value → H} {W : World} {a : Option Addr} {len cap : Nat} {d : DataW H} {p : List MemPlace} {ts : List TypeId} {ds : List (DataW H)} {j : Nat}
    (h : DataW.Trod enc Tryz.prog W 0 (fun _ => true) true 22 (.slice a len cap) d p) (hsz : (DataW.weightsEach Tryz.prog ts ds).all (· ≤ reachBytes) = true) (ht : ts[j]? = some 22) (hd : ds[j]? = some d) : ∃ os, CallsSrc W a len cap os := by
  obtain ⟨fuel, hf⟩ := h
  rcases Go.Deep.open_slice Tryz.underlying22 hf with ⟨hcs, _⟩ | ⟨x, l, c, m, n, D, Pl, hcs, _, hl, hm, hmm, hxx, hx⟩
  · simp [Value.cells] at hcs
    obtain ⟨rfl, rfl, rfl⟩ := hcs
    exact ⟨[], rfl, Nat.le_refl _, fun h => by omega, fun x hx => by simp at hx, fun x hx => by simp at hx, fun x hx => by simp at hx⟩
  · simp [Value.cells] at hcs
    obtain ⟨rfl, rfl, rfl⟩ := hcs
    simp only [if_true] at hmm
    subst hmm
    simp only [Prod.mk.injEq] at hxx
    obtain ⟨hd1, _⟩ := hxx
    have hall : ∀ n ∈ d.weights Tryz.prog 22, n ≤ reachBytes := fun n hn => by simpa using List.all_eq_true.1 hsz _ (DataW.weights_mem_each ht hd n hn)
    rw [hd1] at hd hall
    have each : ∀ i, i < len → ∃ g : CallA, x.spot = none ∧ x.block < W.heap.size ∧ InI W g.q g.m g.cp g.xs ∧ ((-9223372036854775808 ≤ g.b ∧ g.b ≤ 9223372036854775807) ∧ g.f < 256) ∧ (-9223372036854775808 ≤ g.cut ∧ g.cut ≤ 9223372036854775807) ∧ W.rangeAt x.block (x.off + i * 6) [.int .i64 g.d, .int .i64 g.b, .int .u8 (g.f : Int), .int .i64 g.c, .slice g.q g.m g.cp, .int .i64 g.cut] := by
      have hsp : 0 < len → x.spot = none := by
        intro h0
        obtain ⟨cs', h1, _⟩ := hx 0 (by omega)
        rw [cellsCall] at h1
        obtain ⟨_, hlen, hcell⟩ := World.cells?_some h1
        have c0 := hcell 0 (by omega)
        rw [Nat.zero_mul, Go.Deep.add_add, List.getElem?_eq_getElem (by omega)] at c0
        simpa [Addr.add] using World.cell?_spot c0
      intro i hi
      obtain ⟨cs', h1, h2⟩ := hx i (by omega)
      rw [cellsCall] at h1
      obtain ⟨_, hlen, hcell⟩ := World.cells?_some h1
      obtain ⟨xs, k, hk, hxy, _, hxl, hfl⟩ := DataW.trod_struct Tryz.underlying42 h2
      simp only [Prod.mk.injEq] at hxy
      match xs, hxl, cs', hlen with
      | [y0, y1, y2, y3, y4, y5], _, [v0, v1, v2, v3, v4, v5], _ =>
        have g0 := hfl 0 _ rfl
        have g1 := hfl 1 _ rfl
        have g2 := hfl 2 _ rfl
        have g3 := hfl 3 _ rfl
        have g4 := hfl 4 _ rfl
        have g5 := hfl 5 _ rfl
        simp [cells3, cells5, cellsInts] at g0 g1 g2 g3 g4 g5
        obtain ⟨z0, e0, _, _⟩ := DataW.trod_int Tryz.underlying3 g0
        obtain ⟨z1, e1, _, hz1⟩ := DataW.trod_int Tryz.underlying3 g1
        obtain ⟨z2, e2, _, hz2⟩ := DataW.trod_int Tryz.underlying5 g2
        obtain ⟨z3, e3, _, _⟩ := DataW.trod_int Tryz.underlying3 g3
        obtain ⟨z5, e5, _, hz5⟩ := DataW.trod_int Tryz.underlying3 g5
        obtain ⟨q, mm, dd, ms, e4, hin⟩ := openInts g4 (fun n hn => hall n (by
          have hDi : n ∈ (D i).weights Tryz.prog 42 := by
            rw [hxy.1]
            simp only [DataW.weights, Tryz.underlying42, List.map_cons, List.map_nil, DataW.weightsEach, List.mem_append]
            exact .inr (.inr (.inr (.inr (.inl hn))))
          have := mem_weightsAll (l := (List.range len).map D) hDi (List.mem_map.2 ⟨i, List.mem_range.2 hi, rfl⟩)
          simp only [DataW.weights, Tryz.underlying22, List.mem_cons, List.mem_append]
          exact .inr (.inl this)))
        have hb2 := bounds_u8 hz2
        obtain ⟨f, rfl⟩ : ∃ f : Nat, z2 = (f : Int) := ⟨z2.toNat, by omega⟩
        cases e0; cases e1; cases e2; cases e3; cases e4; cases e5
        have hs := hsp (by omega)
        obtain ⟨xb, xo, xs'⟩ := x
        dsimp only at hs
        subst hs
        have hcc : ∀ j v, [Value.int .i64 z0, .int .i64 z1, .int .u8 (f : Int), .int .i64 z3, .slice q mm dd, .int .i64 z5][j]? = some v → W.cell? ⟨xb, xo + i * 6 + j, none⟩ = some v := fun j v hv => by
          have hj : j < 6 := (List.getElem?_eq_some_iff.1 hv).1
          have cj := hcell j (by omega)
          rw [Go.Deep.add_add, addr_add] at cj
          rw [← Nat.add_assoc] at cj
          exact cj.trans hv
        have hlt := block_lt_of_cell (hcc 0 _ rfl)
        exact ⟨⟨z0, z1, f, z3, q, mm, dd, z5, ms⟩, rfl, hlt, hin, ⟨bounds_i64 hz1, by show f < 256; omega⟩, bounds_i64 hz5, hcc⟩
    obtain ⟨g, hg⟩ := @Go.Deep.choose_lt CallA ⟨⟨0, 0, 0, 0, none, 0, 0, 0, []⟩⟩ _ _ each
    refine ⟨(List.range len).map g, by simp, hl, fun h0 => ?_, fun e he => ?_, fun e he => ?_, fun e he => ?_⟩
    · have h00 := hg 0 h0
      obtain ⟨xb, xo, xs'⟩ := x
      have hs : xs' = none := h00.1
      subst hs
      refine ⟨xb, xo, rfl, h00.2.1, fun i e he => ?_⟩
      have hi : i < len := by have := (List.getElem?_eq_some_iff.1 he).1; simpa using this
      rw [List.getElem?_map, List.getElem?_range hi] at he
      cases he
      exact (hg i hi).2.2.2.2.2
    · obtain ⟨i, hi, rfl⟩ := List.mem_map.1 he
      exact (hg i (List.mem_range.1 hi)).2.2.1
    · obtain ⟨i, hi, rfl⟩ := List.mem_map.1 he
      exact (hg i (List.mem_range.1 hi)).2.2.2.1
    · obtain ⟨i, hi, rfl⟩ := List.mem_map.1 he
      exact (hg i (List.mem_range.1 hi)).2.2.2.2.1
end Go.Proofs.YtdmnddikcpfmfaaGreat

namespace Go.Proofs.YtdmnddikcpfmfaaGreat
open Go.RowKit Go.Shelf
theorem rdB_nil (w : World) (c : Nat) : RdB w none 0 c [] [] := ⟨rfl, EachIn.nil w, fun h => by omega, Nat.zero_le _⟩
set_option linter.unusedSimpArgs false in
set_option maxRecDepth 100000 in
set_option maxHeartbeats 4000000 in
theorem cdoes_great (N : Int) (hN : 200 < N) (room : Int) (v : Value) (w : World) : Calls Tryz.prog 3 #[.int .i64 N, .int .i64 room, v] w fun e w' => e = .returned (.bool true) ∧ Below w.heap.size w w' := by
  go_enter Tryz.func3, Tryz.ntmps3
  go_wp2_with (go_at_call 4; refine (begun_any _).mono ?_; rintro e w1 ⟨rfl, hb1⟩)
  go_ret
  exact ⟨rfl, hb1⟩
set_option linter.unusedSimpArgs false in
set_option maxRecDepth 100000 in
set_option maxHeartbeats 4000000 in
theorem cdoes_no (N : Int) (hN : ¬ 1 ≤ N) (room : Int) (v : Value) (w : World) : Calls Tryz.prog 3 #[.int .i64 N, .int .i64 room, v] w fun e w' => e = .returned (.bool true) ∧ Below w.heap.size w w' := by
  have hNi : ¬ (200 : Int) < N := by omega
  have hn : ¬ (1 ≤ N ∧ N ≤ 8192) := by omega
  go_enter Tryz.func3, Tryz.ntmps3
  go_wp2_with (first
    | (go_at_call 4; refine (begun_any _).mono ?_; rintro e w1 ⟨rfl, hb1⟩)
    | (go_at_call 5; refine (new_no N hn _).mono ?_; rintro e w' ⟨rfl, hw'⟩; have hw2 := hw'.symm; subst hw2; clear hw')
    | (go_at_call 6; refine (rnew_no N hn _).mono ?_; rintro e w' ⟨rfl, hw'⟩; have hw2 := hw'.symm; subst hw2; clear hw'))
  go_ret
  exact ⟨rfl, hb1⟩
set_option linter.unusedSimpArgs false in
set_option maxRecDepth 100000 in
set_option maxHeartbeats 4000000 in
theorem cdoes_bad (N : Nat) (hN1 : 1 ≤ N) (hN2 : N ≤ 200) (room : Int) (hr : ¬ (8 ≤ room ∧ room ≤ 1024)) (v : Value) (w : World) : Calls Tryz.prog 3 #[.int .i64 (N : Int), .int .i64 room, v] w fun e w' => e = .returned (.bool true) ∧ Below w.heap.size w w' := by
  have hNi : (N : Int) ≤ 200 := by omega
  have hnew := fun W => new_ok N hN1 (by omega) W
  have hrnew := fun W => rnew_ok N hN1 (by omega) W
  have hmk : ∀ (d : Nat) (W : World), (Instr.makeInterface 24 (.pointer (some ⟨d, 0, none⟩))).run Tryz.prog W = .ok (ramI d) W := fun _ _ => by kernel_rfl
  go_enter Tryz.func3, Tryz.ntmps3
  go_wp2_with (first
    | (go_at_call 4; refine (begun_any _).mono ?_; rintro e w1 ⟨rfl, hb1⟩)
    | (go_at_call 5; refine (hnew _).mono ?_; rintro e w2 ⟨hb2, d, sb, rfl, hd2, hs2, D2⟩)
    | (go_at_call 6; refine (hrnew _).mono ?_; rintro e w3 ⟨hb3, g, V, rfl, hF3, R3⟩))
  refine (cnew_no (D2.below hb3) room hr).mono ?_
  rintro e w4 ⟨rfl, hb4⟩
  go_wp2_with (go_at_call 8; refine (r10new_no g room hr _).mono ?_; rintro e w' ⟨rfl, hw'⟩; have hw2 := hw'.symm; subst hw2; clear hw')
  go_ret
  exact ⟨rfl, bt (bt (bt hb1 hb2) hb3) hb4⟩
set_option linter.unusedSimpArgs false in
set_option maxRecDepth 100000 in
set_option maxHeartbeats 4000000 in
theorem cdoes_walk (N : Nat) (hN1 : 1 ≤ N) (hN2 : N ≤ 200) (r : Nat) (hr1 : 8 ≤ r) (hr2 : r ≤ 1024) (p : Option Addr) (n cp : Nat) (os : List CallA) (w : World) (ho : CallsSrc w p n cp os) : Calls Tryz.prog 3 #[.int .i64 (N : Int), .int .i64 (r : Int), .slice p n cp] w fun e w' => e = .returned (.bool true) ∧ Below w.heap.size w w' := by
  have hNi : (N : Int) ≤ 200 := by omega
  have hnew := fun W => new_ok N hN1 (by omega) W
  have hrnew := fun W => rnew_ok N hN1 (by omega) W
  have hmk : ∀ (d : Nat) (W : World), (Instr.makeInterface 24 (.pointer (some ⟨d, 0, none⟩))).run Tryz.prog W = .ok (ramI d) W := fun _ _ => by kernel_rfl
  obtain ⟨K, hKn, hK2, hmin0⟩ := minRunD 200 n
  have hmin : ∀ (ts : Array TypeId) (t : TypeId) (W : World), (Builtin.min_ ts t #[.int .i64 (n : Int), .int .i64 200]).run Tryz.prog W = .ok (.int .i64 (K : Int)) W := hmin0
  have hsl := callsPre p n cp K hKn ho.cap
  clear hmin0
  go_enter Tryz.func3, Tryz.ntmps3
  go_wp2_with (first
    | (go_at_call 4; refine (begun_any _).mono ?_; rintro e w1 ⟨rfl, hb1⟩)
    | (go_at_call 5; refine (hnew _).mono ?_; rintro e w2 ⟨hb2, d, sb, rfl, hd2, hs2, D2⟩)
    | (go_at_call 6; refine (hrnew _).mono ?_; rintro e w3 ⟨hb3, g, V, rfl, hF3, R3⟩))
  refine (cnew_ok (D2.below hb3) r hr1 hr2).mono ?_
  rintro e w4 ⟨hb4, c, e', bm, rfl, hc4, he4, hbm4, C4⟩
  go_wp2_with (go_at_call 8; refine (r10new_ok (R3.below hb4) r hr1 hr2).mono ?_; rintro e w5 ⟨rfl, hb5, Q5⟩)
  have hb6 := below_alloc w5 (.cells #[.pointer (some ⟨d, 0, none⟩), .pointer (some ⟨c, 0, none⟩), .pointer (some ⟨g, 0, none⟩), .pointer (some ⟨w4.heap.size, 0, none⟩)] 39)
  have tb6 := Blk.new' w5 39 #[.pointer (some ⟨d, 0, none⟩), .pointer (some ⟨c, 0, none⟩), .pointer (some ⟨g, 0, none⟩), .pointer (some ⟨w4.heap.size, 0, none⟩)]
  have hB3 := bt (bt hb1 hb2) hb3
  have hB5 := bt (bt hB3 hb4) hb5
  have hB6 : Below w.heap.size w (w5.alloc (.cells #[.pointer (some ⟨d, 0, none⟩), .pointer (some ⟨c, 0, none⟩), .pointer (some ⟨g, 0, none⟩), .pointer (some ⟨w4.heap.size, 0, none⟩)] 39)) := bt hB5 hb6
  have z1 := hb1.size
  have z2 := (bt hb1 hb2).size
  have z3 := hB3.size
  have z4 := (bt hB3 hb4).size
  have T6 : Twin w.heap.size (w5.alloc (.cells #[.pointer (some ⟨d, 0, none⟩), .pointer (some ⟨c, 0, none⟩), .pointer (some ⟨g, 0, none⟩), .pointer (some ⟨w4.heap.size, 0, none⟩)] 39)) w5.heap.size (newC d sb (.slice none 0 0) (newD N) c e' bm r) ⟨w4.heap.size, g, V, newR N, r, .slice none 0 0, []⟩ 0 := by
    refine ⟨(C4.kept hb5).kept hb6, Q5.below hb6, tb6, rfl, DRel.start N, rfl, ⟨(fun b hb => by cases hb), (fun b hb => by cases hb), (fun b hb => by cases hb), by simp [newC, CS.P, newD, dirtyN]⟩, ?_, ?_, hB6.size⟩
    · rintro k (e | e | e | e | e | e)
      · rw [e]; exact Nat.le_trans z3 hbm4
      · rw [e]; exact Nat.le_trans z3 he4
      · cases e
      · rw [e]; exact Nat.le_trans z1 hd2
      · rw [e]; exact Nat.le_trans z1 hs2
      · simp [newC, Value.ownBlock] at e
    · rintro k (e | e | e)
      · rw [e]; exact z4
      · simp [Value.ownBlock] at e
      · exact Nat.le_trans z2 (hF3 k e)
  have hcd : (newC d sb (.slice none 0 0) (newD N) c e' bm r).d = d := rfl
  clear hnew hrnew hb1 hb2 hb3 hb4 hb5 hb6 D2 R3 C4 Q5 hF3 hd2 hs2 hc4 he4 hbm4 hmin hsl tb6 hB3 hB5 z1 z2 z3 z4
  generalize newC d sb (.slice none 0 0) (newD N) c e' bm r = c0 at *
  generalize hq0 : (⟨w4.heap.size, g, V, newR N, r, .slice none 0 0, []⟩ : QS) = q0 at *
  have hqg : q0.g = g := by rw [← hq0]
  clear hq0
  generalize w5.alloc (.cells #[.pointer (some ⟨d, 0, none⟩), .pointer (some ⟨c, 0, none⟩), .pointer (some ⟨g, 0, none⟩), .pointer (some ⟨w4.heap.size, 0, none⟩)] 39) = w6 at *
  generalize w5.heap.size = tw at *
  have hKi : (K : Int) ≤ 200 := by omega
  go_loopg [74] K (fun j iv wr => ∃ (k : Nat) (cc : CS) (qq : QS), iv = .int .i64 (k : Int) ∧ k ≤ K ∧ j = K - k ∧ Twin w.heap.size wr tw cc qq k ∧ cc.d = d ∧ qq.g = g ∧ Below w.heap.size w wr)
  case atStart => exact ⟨0, c0, q0, rfl, by omega, rfl, T6, hcd, hqg, hB6⟩
  case round =>
    clear T6 hcd hqg hB6
    obtain ⟨k, cc, qq, rfl, hk, rfl, TT, hcd, hqg, hB⟩ := hrel
    by_cases hlt : k < K
    · have hki : (k : Int) < (K : Int) := by omega
      have ho' := ho.below hB
      obtain ⟨ob, oo, rfl, hobl, hcs⟩ := ho'.at' (by omega)
      obtain ⟨x, hx⟩ : ∃ x, os[k]? = some x := ⟨_, List.getElem?_eq_getElem (by have := ho.len; omega)⟩
      have hcx := hcs k x hx
      have hxm := List.mem_of_getElem? hx
      have hxin := ho'.ints x hxm
      have hrg := ho.rg x hxm
      have hrc := ho.rc x hxm
      have hql : ∀ a, x.q = some a → 0 < x.m → a.block < w.heap.size := fun a ha h0 => by
        obtain ⟨b', o', e', hl', _⟩ := (ho.ints x hxm).at' h0
        rw [e'] at ha; cases ha; exact hl'
      obtain ⟨xd, xb, xf, xc, xq, xm, xcp, xcut, xs⟩ := x
      dsimp only at hcx hxin hrg hrc hql
      have q0 := hcx 0 _ rfl
      rw [Nat.add_zero] at q0
      have q1 := hcx 1 _ rfl
      have q2 := hcx 2 _ rfl
      have q3 := hcx 3 _ rfl
      have q4 := hcx 4 _ rfl
      have q5 := hcx 5 _ rfl
      clear hcs ho' hx hcx
      have hbA := below_alloc wr (.cells #[.int .i64 xd, .int .i64 xb, .int .u8 (xf : Int), .int .i64 xc, .slice xq xm xcp, .int .i64 xcut] 42)
      have gA := Blk.new' wr 42 #[.int .i64 xd, .int .i64 xb, .int .u8 (xf : Int), .int .i64 xc, .slice xq xm xcp, .int .i64 xcut]
      have TA := TT.below hbA
      have hdo := does_any TA (by omega) xd xb xf xc xq xm xcp xcut hrg.2 hrc xs (hxin.below hbA) hql
      go_wp2_with fail
      refine hdo.mono ?_
      rintro e w1 ⟨rfl, c1, q1, T1, hB1, hd1, hg1⟩
      have gA1 := hB1.k _ _ gA
      have b1 := gA1.cell' (i := 1) (v := .int .i64 xb) rfl
      go_wp2_with (go_at_call 10; refine (same_any T1 xb).mono ?_; rintro e w2 ⟨rfl, hb2⟩)
      go_roundg (K - (k + 1))
      case measure => omega
      case rel => exact ⟨k + 1, c1, q1, by go_num, by omega, rfl, T1.below hb2, hd1.trans hcd, hg1.trans hqg, hB.trans ((hbA.mono TT.le).trans (hB1.b.trans (hb2.mono T1.le)))⟩
    · obtain rfl : k = K := by omega
      subst hcd
      subst hqg
      go_wp2_with fail
      refine (restart_any TT.C.base.disk).mono ?_
      rintro e w1 ⟨⟨v1, rfl⟩, A1⟩
      have A1c := TT.C.disked A1 rfl
      have Q1 := TT.Q.keepC TT.C A1c.keep
      go_wp2_with fail
      refine (rrestart_any Q1.ref).mono ?_
      rintro e w2 ⟨⟨v2, rfl⟩, A2⟩
      have A2q := Q1.disked A2
      obtain ⟨T2, hb2⟩ := TT.both (M := k) A1c A2q TT.P TT.rel.restart (TT.pi.disk rfl)
      have D2 : DiskIn w2 cc.d cc.sb cc.lv { cc.ds with on := true, left := -1 } := T2.C.base.disk
      have R2 : RefIn w2 qq.g qq.V { qq.t with gone := false, cut := false } := A2.ref
      have hrel2 := TT.rel.restart
      have hle2 := T2.le
      clear T2 A2q A2 Q1 A1c A1
      generalize ({ cc.ds with on := true, left := -1 } : DS) = s at *
      generalize ({ qq.t with gone := false, cut := false } : RS) = t at *
      have him := image_any D2
      obtain ⟨ie, iD⟩ := hrel2.images
      have hil : Hid ((imgD s).length ≤ 8192) := by show _ ≤ _; rw [imgD, List.length_map, rdL, List.length_map, List.length_range]; exact D2.n2
      have hri := fun (W : World) (hW : Below w2.heap.size w2 W) => rimage_any (R2.below hW)
      rw [ie, iD] at hri
      clear ie iD
      go_wp2_with fail
      by_cases h0 : imgE s = 0
      · have hri0 : ∀ W : World, Below w2.heap.size w2 W → Calls Tryz.prog 14 #[.pointer (some ⟨qq.g, 0, none⟩)] W (fun e w' => Below W.heap.size W w' ∧ ∃ (v : Value) (rs : List SR), e = .returned (.tuple #[v, .int .i64 0]) ∧ w'.ownsRow W.heap.size 52 1 v rs.length (rs.map srV) ∧ EachIn w' rs (imgD s)) :=
          fun W hW => (hri W hW).mono (fun e w' h => ⟨h.1, h.2.elim (fun k => by obtain ⟨_, v, rs, a, b, c, _⟩ := k; exact ⟨v, rs, a, b, c⟩) (fun k => absurd h0 k.1)⟩)
        refine him.mono ?_
        rintro e w5 ⟨hb5, ⟨_, v5, rs5, rfl, o5, i5, _⟩ | ⟨hne, _⟩⟩
        rotate_left
        · exact absurd h0 hne
        clear hri h0 him
        generalize imgD s = Di at *
        go_wp2_with (first
          | (go_at_call 14; refine (hri0 _ hb5).mono ?_; rintro e w6 ⟨hb6, v6, rs6, rfl, o6, i6⟩; obtain ⟨p5, c5, rfl, B5⟩ := rdB_of (owns_below o5 hb6) (i5.below hb6); obtain ⟨p6, c6, rfl, B6⟩ := rdB_of o6 i6; have hsm := sameImage_any B5 B6 (by have h1 := i5.len; have h2 := hil.out; omega); rw [beq_self_eq_true] at hsm)
          | (go_at_call 15; refine hsm.mono ?_; rintro e w7 ⟨rfl, hb7⟩))
        go_ret
        exact ⟨rfl, hB.trans (hb2.trans ((bt (bt hb5 hb6) hb7).mono hle2))⟩
      · have hri0 : ∀ W : World, Below w2.heap.size w2 W → Calls Tryz.prog 14 #[.pointer (some ⟨qq.g, 0, none⟩)] W (fun e w' => Below W.heap.size W w' ∧ e = .returned (.tuple #[.slice none 0 0, .int .i64 (imgE s)])) :=
          fun W hW => (hri W hW).mono (fun e w' h => ⟨h.1, h.2.elim (fun k => absurd k.1 h0) (fun k => k.2)⟩)
        refine him.mono ?_
        rintro e w5 ⟨hb5, ⟨h0', _⟩ | ⟨hne, rfl⟩⟩
        · exact absurd h0' h0
        clear hri h0 him hne
        generalize imgE s = Ei at *
        have hsm := fun W : World => sameImage_any (rdB_nil W 0) (rdB_nil W 0) (by omega)
        rw [beq_self_eq_true] at hsm
        go_wp2_with (first
          | (go_at_call 14; refine (hri0 _ hb5).mono ?_; rintro e w6 ⟨hb6, rfl⟩)
          | (go_at_call 15; refine (hsm _).mono ?_; rintro e w7 ⟨rfl, hb7⟩))
        go_ret
        exact ⟨rfl, hB.trans (hb2.trans ((bt (bt hb5 hb6) hb7).mono hle2))⟩
end Go.Proofs.YtdmnddikcpfmfaaGreat

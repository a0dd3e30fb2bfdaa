/-
  Slices of ints; slices.Values over them; what the law's told answers.
-/
import Derived.Test.YtdmnddikcpfmfaaGreatCkBegun
import Derived.Deep.Cut
import Derived.RangeFuncNested
import Derived.RangeFuncBound
import Derived.RangeFuncCalls
import Derived.RangeFuncLeaves
import Derived.Shelf.RegionOpen
import Derived.OwnWalkIn
import Derived.TacticsInMore
import Derived.LoopNIn
import Derived.LoopIn
namespace Go.Proofs.YtdmnddikcpfmfaaGreat
open Go.RowKit Go.Shelf
attribute [local go_sem] Oper.semAt_some
theorem info3 : (Tryz.prog.info? 3).map (fun i => (i.zero, i.size, i.bytes)) = some (some (.int .i64 0), 1, 8) := by kernel_rfl
/-- The number at place i of a list of numbers. -/
def eI (xs : List Int) (i : Nat) : Int := xs.getD i 0
/-- A slice of ints that lies in a world. -/
structure InI (w : World) (p : Option Addr) (n c : Nat) (xs : List Int) : Prop where
  len : xs.length = n
  cap : n ≤ c
  max : c ≤ maxLen
  room : n ≤ 140737488355328
  at' : 0 < n → ∃ b o, p = some ⟨b, o, none⟩ ∧ b < w.heap.size ∧ ∀ i, i < n → w.cell? ⟨b, o + i, none⟩ = some (.int .i64 (eI xs i))
  nil : p = none → c = 0
theorem InI.below {w w' p n c xs} (h : InI w p n c xs) (hb : Below w.heap.size w w') : InI w' p n c xs :=
  ⟨h.len, h.cap, h.max, h.room, fun h0 => by
    obtain ⟨b, o, hp, hlt, hc⟩ := h.at' h0
    exact ⟨b, o, hp, Nat.lt_of_lt_of_le hlt hb.size, fun i hi => (hb.cell (p := ⟨b, o + i, none⟩) hlt).trans (hc i hi)⟩, h.nil⟩
theorem InI.empty (w : World) : InI w none 0 0 [] := ⟨rfl, Nat.le_refl _, Nat.zero_le _, Nat.zero_le _, fun h => by omega, fun _ => rfl⟩
/-- Numbers as cells. -/
def valsI (xs : List Int) : List Value := xs.map fun x : Int => Value.int .i64 x
theorem valsI_length (xs : List Int) : (valsI xs).length = xs.length := by simp [valsI]
theorem valsI_append (a b : List Int) : valsI (a ++ b) = valsI a ++ valsI b := by simp [valsI]
theorem valsI_one (xs : List Int) : ∀ u ∈ valsI xs, u.oneCell' = true := by
  intro u hu
  obtain ⟨x, _, rfl⟩ := List.mem_map.1 hu
  rfl
theorem valsI_get (xs : List Int) (j : Nat) (h : j < xs.length) : (valsI xs)[j]? = some (.int .i64 (eI xs j)) := by
  simp [valsI, eI, h]
theorem valsI_get_inv {xs : List Int} {j : Nat} {u : Value} (h : (valsI xs)[j]? = some u) : j < xs.length ∧ u = .int .i64 (eI xs j) := by
  have hj : j < xs.length := by
    rcases Nat.lt_or_ge j xs.length with h' | h'
    · exact h'
    · rw [List.getElem?_eq_none (by rw [valsI_length]; exact h')] at h; simp at h
  rw [valsI_get xs j hj] at h
  exact ⟨hj, (Option.some.inj h).symm⟩
theorem InI.cells {w : World} {p : Option Addr} {n c : Nat} {xs : List Int} (h : InI w p n c xs) {a : Addr} (ha : p = some a) :
    ∀ j u, (valsI xs)[j]? = some u → w.cell? (a.add j) = some u := by
  intro j u hu
  obtain ⟨hj, rfl⟩ := valsI_get_inv hu
  have hl := h.len
  obtain ⟨b, o, hp, _, hc⟩ := h.at' (by omega)
  rw [ha] at hp
  cases hp
  rw [addr_add]
  exact hc j (by omega)
theorem in_of_ownsI {w : World} {B : Nat} {e : TypeId} {v : Value} {n : Nat} {xs : List Int} (h : w.ownsRow B e 1 v n (valsI xs)) (hr : n ≤ 140737488355328) :
    ∃ p c, v = .slice p n c ∧ InI w p n c xs := by
  have hl : xs.length = n := by have := h.1; simpa [valsI] using this
  rcases h.2 with ⟨rfl, rfl⟩ | ⟨g, cap, cur, rfl, hg, hh, hnc, hcm, hsz, htk⟩
  · have : xs = [] := List.eq_nil_of_length_eq_zero hl
    subst this
    exact ⟨none, 0, rfl, InI.empty w⟩
  · refine ⟨some ⟨g, 0, none⟩, cap, rfl, hl, hnc, hcm, hr, fun h0 => ⟨g, 0, rfl, ?_, fun i hi => ?_⟩, fun h => by simp at h⟩
    · rcases Nat.lt_or_ge g w.heap.size with h' | h'
      · exact h'
      · rw [Array.getElem?_eq_none h'] at hh; simp at hh
    · have := World.ownsRow.cellAt h i (by omega)
      rw [Nat.zero_add, this, valsI_get xs i (by omega)]
theorem takeI_succ (xs : List Int) (k : Nat) (h : k < xs.length) : xs.take (k + 1) = xs.take k ++ [eI xs k] := by
  rw [List.take_succ_eq_append_getElem h]; simp [eI, h]
theorem eI_mem {xs : List Int} {k : Nat} (h : k < xs.length) : eI xs k ∈ xs := by
  simp [eI, h]
/-- A place below N. -/
abbrev IdxT (N : Nat) := { k : Nat // k < N }
/-- Places as numbers. -/
def valsK {N : Nat} (ks : List (IdxT N)) : List Int := ks.map fun k => (k.1 : Int)
theorem valsK_length {N : Nat} (ks : List (IdxT N)) : (valsK ks).length = ks.length := by simp [valsK]
theorem valsK_get {N : Nat} (ks : List (IdxT N)) (k : Nat) (h : k < ks.length) : eI (valsK ks) k = (ks[k].1 : Int) := by simp [valsK, eI, h]
theorem takeK_succ {N : Nat} {ks : List (IdxT N)} {k : Nat} (h : k < ks.length) : ks.take (k + 1) = ks.take k ++ [ks[k]] := List.take_succ_eq_append_getElem h
/-- What yield is handed. -/
def encK {N : Nat} (x : IdxT N) : Array Value := #[.int .i64 (x.1 : Int)]
/-- The block of a slice's box and that of its elements lie as they lay. -/
def KpK (Bs : Nat) (p : Option Addr) (A B : World) : Prop := (B.heap[Bs]? = A.heap[Bs]? ∧ A.heap.size ≤ B.heap.size) ∧ ∀ a, p = some a → B.heap[a.block]? = A.heap[a.block]?
theorem KpK.refl (Bs : Nat) (p : Option Addr) (A : World) : KpK Bs p A A := ⟨⟨rfl, Nat.le_refl _⟩, fun _ _ => rfl⟩
theorem KpK.trans {Bs : Nat} {p : Option Addr} {A B C : World} (h : KpK Bs p A B) (k : KpK Bs p B C) : KpK Bs p A C := ⟨⟨k.1.1.trans h.1.1, Nat.le_trans h.1.2 k.1.2⟩, fun a e => (k.2 a e).trans (h.2 a e)⟩
theorem InI.keptK {Bs : Nat} {A B : World} {p : Option Addr} {n c : Nat} {xs : List Int} (hp : InI A p n c xs) (h : KpK Bs p A B) : InI B p n c xs := by
  refine ⟨hp.len, hp.cap, hp.max, hp.room, fun h0 => ?_, hp.nil⟩
  obtain ⟨b, o, e, hlt, hc⟩ := hp.at' h0
  exact ⟨b, o, e, Nat.lt_of_lt_of_le hlt h.1.2, fun i hi => (World.cell?_of_block (a := ⟨b, o + i, none⟩) (h.2 ⟨b, o, none⟩ e)).trans (hc i hi)⟩
set_option maxRecDepth 100000 in
set_option maxHeartbeats 2000000 in
/-- slices.Values's closure, for every loop body that keeps what lay below n₀. -/
theorem values1_in {N : Nat} (F : Fence) (n : Nat) (h7 : F.fn 105) (hro : F.round = none) (hn : 1 ≤ n) (l Bs c : Nat) (p : Option Addr) (ks : List (IdxT N)) (J Jx : List (IdxT N) → World → Prop) (W : World)
    (hY : ∀ pre x W, J pre W → pre.length < ks.length → YieldAt F (n - 1) Tryz.prog l (encK x) W fun e W' =>
      (e = .returned (.bool true) ∧ J (pre ++ [x]) W' ∧ KpK Bs p W W') ∨ (e = .returned (.bool false) ∧ Jx (pre ++ [x]) W'))
    (hBs : W.cell? ⟨Bs, 0, none⟩ = some (.slice p ks.length c)) (hp : InI W p ks.length c (valsK ks)) (h0 : J [] W) :
    CallsIn F n Tryz.prog 105 #[.func (.yield l) #[] #[], .pointer (some ⟨Bs, 0, none⟩)] W fun e W' => (∃ v, e = .returned v) ∧
      ((∃ ys, ys = ks ∧ J ys W') ∨ (∃ pre, (∃ k, k ≤ ks.length ∧ pre = ks.take k) ∧ Jx pre W')) := by
  have hroom := hp.room
  refine callsIn_of_wp Tryz.func105 rfl h7 ?_ hro
  simp only [Tryz.ntmps105, List.size_toArray, List.length_cons, List.length_nil, Nat.reduceAdd, Nat.reduceSub, Array.replicate_succ, Array.replicate_zero, List.push_toArray, List.append_toArray, List.nil_append, List.cons_append]
  gi_wp2
  gi_loopw [7] (fun i wr => ∃ k : Nat, k ≤ ks.length ∧ i = .int .i64 k ∧ J (ks.take k) wr ∧ KpK Bs p W wr) (fun i _ => ks.length - (intOf i).toNat)
  case atStart => exact ⟨0, Nat.zero_le _, rfl, by simpa using h0, KpK.refl _ _ _⟩
  case round =>
    obtain ⟨k, hk, rfl, hJs, hnx⟩ := hrel
    by_cases hlt : k < ks.length
    · have hpx := hp.keptK hnx
      obtain ⟨b, o, rfl, _, hc⟩ := hpx.at' (by omega)
      have hcx := hc k hlt
      rw [valsK_get ks k hlt] at hcx
      obtain ⟨fn, tmps, assign, body, hy, hR⟩ := hY _ ks[k] _ hJs (by rw [List.length_take]; omega)
      have HU : Hid (ks.take (k + 1) = ks.take k ++ [ks[k]]) := takeK_succ hlt
      generalize ks[k] = x at *
      dsimp only [encK] at hy
      clear hc hpx hY
      gi_wp2
      refine hR.mono ?_
      rintro e W3 (⟨rfl, hJ3, hk3⟩ | ⟨rfl, hJx3⟩)
      · gi_wp2
        go_roundw
        case rel => exact ⟨k + 1, by omega, by simp, by rw [HU.out]; exact hJ3, hnx.trans hk3⟩
        case measure => simp [intOf]; omega
      · gi_wp2
        refine bodyPost_ret (results_none rfl _ _ _) rfl ?_
        exact ⟨⟨_, rfl⟩, .inr ⟨_, ⟨k + 1, by omega, HU.out.symm⟩, hJx3⟩⟩
    · obtain rfl : k = ks.length := by omega
      rw [List.take_length] at hJs
      gi_wp2
      go_end0
      exact ⟨⟨_, rfl⟩, .inl ⟨_, rfl, hJs⟩⟩
theorem values_any (a : Option Addr) (len cap : Nat) (w : World) :
    Calls Tryz.prog 89 #[.slice a len cap] w fun e w' => e = .returned (.func (.func 105) #[] #[.pointer (some ⟨w.heap.size, 0, none⟩)]) ∧ w' = w.alloc (.cells #[.slice a len cap] 40) := by
  go_enter Tryz.func89, Tryz.ntmps89
  go_wp2
  go_ret
  exact ⟨rfl, rfl⟩
/-- What slices.Values hands back goes through the places, in order; or through the first of them. -/
theorem values_stops {N : Nat} (F : Fence) (n : Nat) (h7 : F.fn 105) (hro : F.round = none) (hn : 1 ≤ n) (Bs c : Nat) (p : Option Addr) (ks : List (IdxT N)) (w : World) (hBs : Bs < w.heap.size)
    (hc : w.cell? ⟨Bs, 0, none⟩ = some (.slice p ks.length c)) (hI : InI w p ks.length c (valsK ks)) :
    SeqStopsK F n Tryz.prog 105 #[.pointer (some ⟨Bs, 0, none⟩)] encK (KpK Bs p) (fun ys => ys = ks) (fun pre => ∃ k, k ≤ ks.length ∧ pre = ks.take k) ks.length w := fun l J Jx W hW _ _ hY h0 =>
  values1_in F n h7 hro hn l Bs c p ks J Jx W hY ((hW.cell (p := ⟨Bs, 0, none⟩) hBs).trans hc) (hI.below hW) h0
theorem new_one (W : World) (z : Int) : ∀ j u, [Value.int .i64 z][j]? = some u → (W.alloc (.cells #[.int .i64 z] 3)).cell? ((⟨W.heap.size, 0, none⟩ : Addr).add j) = some u := by
  intro j u hu
  have hj : j = 0 := by
    rcases Nat.eq_zero_or_pos j with h | h
    · exact h
    · rw [List.getElem?_eq_none (by simp; omega)] at hu; cases hu
  subst hj
  rw [addr_add]
  exact (Blk.new' W 3 #[.int .i64 z]).cell' hu
theorem seq_nil (w : World) (f : Fn) (a b : Array Value) : (binOp .eql 91 (.func f a b) .nilFunc).run Tryz.prog w = .ok (.bool false) w := by
  have h : ∀ d : Nat, (Op.equalIn (d + 1) 91 (.func f a b) .nilFunc).run Tryz.prog w = .ok false w := fun d => by
    simp [Op.equalIn]
  simp only [binOp]
  simp [Op.equal, Op.maxDepth, h 9999]
theorem valsK_snoc {N : Nat} (pre : List (IdxT N)) (x : IdxT N) : valsI (valsK (pre ++ [x])) = valsI (valsK pre) ++ [.int .i64 (x.1 : Int)] := by simp [valsK, valsI]
theorem KpK.of_below {Bs : Nat} {p : Option Addr} {A B : World} {m : Nat} (h : Below m A B) (h1 : Bs < m) (h2 : ∀ a, p = some a → a.block < m) : KpK Bs p A B := ⟨⟨h.block Bs h1, h.size⟩, fun a e => h.block _ (h2 a e)⟩
/-- What the list holds. -/
def ToldI {N : Nat} (n₀ : Nat) (mo : Nat) (w : World) (pre : List (IdxT N)) (W : World) : Prop :=
  (∃ v, Boxed W (w.heap.size + 1) 40 v ∧ W.ownsRow (w.heap.size + 1) 3 1 v pre.length (valsI (valsK pre)) ∧ True) ∧ Boxed W w.heap.size 3 (.int .i64 (mo : Int)) ∧ (Below n₀ w W ∧ pre.length ≤ mo)
set_option linter.unusedSimpArgs false in
set_option maxRecDepth 100000 in
set_option maxHeartbeats 4000000 in
theorem told_in {N : Nat} (nf : Nat) (hnf : 4 ≤ nf) (Bs c1 : Nat) (p1 : Option Addr) (ks : List (IdxT N)) (mo : Nat) (hmo : mo ≤ 1000) (w : World) (hbs : Blk w Bs 40 [.slice p1 ks.length c1]) (hin : InI w p1 ks.length c1 (valsK ks)) (hlow : ∀ a, p1 = some a → a.block < w.heap.size) :
    CallsIn Fence.wide nf Tryz.prog 49 #[.func (.func 105) #[] #[.pointer (some ⟨Bs, 0, none⟩)], .int .i64 (mo : Int)] w fun e w' => ∃ p' c', e = .returned (.slice p' (ks.take mo).length c') ∧ InI w' p' (ks.take mo).length c' (valsK (ks.take mo)) ∧ Below w.heap.size w w' := by
  obtain ⟨i0, hi, hz0, hz1, hz2⟩ := info_parts info3
  have h1 : 1 ≤ nf := by omega
  have hltb := hbs.lt
  have hfn := fun W a b => seq_nil W (.func 105) a b
  have hb0 : Below w.heap.size w ((w.alloc (.cells #[.int .i64 (mo : Int)] 3)).alloc (.cells #[.slice none 0 0] 40)) := bt (below_alloc w _) (below_alloc _ _)
  have b3 := (Boxed.new w 3 (.int .i64 (mo : Int))).alloc (.cells #[.slice none 0 0] 40)
  have b5 := Boxed.new (w.alloc (.cells #[.int .i64 (mo : Int)] 3)) 40 (.slice none 0 0)
  simp only [World.size_alloc] at b5
  have hsz : w.heap.size + 2 ≤ ((w.alloc (.cells #[.int .i64 (mo : Int)] 3)).alloc (.cells #[.slice none 0 0] 40)).heap.size := by simp only [World.size_alloc]; omega
  have hcb := (hbs.kept hb0).cell' (i := 0) rfl
  have hin0 := hin.below hb0
  refine callsIn_of_wp_marks Tryz.func49 rfl trivial ?_ rfl
  simp only [Tryz.ntmps49, List.size_toArray, List.length_cons, List.length_nil, Nat.reduceAdd, Nat.reduceSub, Array.replicate_succ, Array.replicate_zero, List.push_toArray, List.append_toArray, List.nil_append, List.cons_append]
  gi_wp2
  generalize ((w.alloc (.cells #[.int .i64 (mo : Int)] 3)).alloc (.cells #[.slice none 0 0] 40)) = V0 at *
  have hOB : OwnFrom V0.heap.size (fun (_ : List (IdxT N)) W' => Below w.heap.size w W') := ownFrom_below (Nat.le_refl _) (by omega)
  refine wpIn_rangeFunc_ownF rfl h1 (gf := 105) (lb := #[.pointer (some ⟨Bs, 0, none⟩)]) rfl trivial (enters_of Tryz.func105 (by kernel_rfl) rfl)
    (values_stops Fence.wide (nf - 1) trivial rfl (by omega) Bs c1 p1 ks V0 (by omega) hcb hin0) (fun h k => h.trans k) (fun W' l o o' hl _ _ _ => ⟨⟨World.putObj_heap_other (by omega), by simp [World.putObj]⟩, fun a e => World.putObj_heap_other (by have := hlow a e; omega)⟩) (Below.refl _ _) (fun _ => rfl)
    (fun pre W' => ToldI w.heap.size mo w pre W')
    (fun c pre W' => (∃ ini last, pre = ini ++ [last] ∧ c = .exit 0 ∧ ini.length = mo ∧ (∃ v, Boxed W' (w.heap.size + 1) 40 v ∧ W'.ownsRow (w.heap.size + 1) 3 1 v ini.length (valsI (valsK ini)) ∧ True)) ∧ Below w.heap.size w W')
    (OwnFrom.and (Own.from (holdsRow_own (w.heap.size + 1) (w.heap.size + 1) 40 3 1 (fun pre : List (IdxT N) => pre.length) (fun pre => valsI (valsK pre)) (fun _ _ => True)) _) (OwnFrom.and (Own.from (boxed_own w.heap.size 3 (fun _ : List (IdxT N) => Value.int .i64 (mo : Int))) _) (fun s A B row hs hg hr => ⟨hOB s A B row hs.1 hg hr, hs.2⟩)))
    (fun c => OwnFrom.and (Own.from (fun s A B row hs hg hr => by obtain ⟨ini, last, e1, e2, e3, e4⟩ := hs; exact ⟨ini, last, e1, e2, e3, holdsRow_own (w.heap.size + 1) (w.heap.size + 1) 40 3 1 (fun pre : List (IdxT N) => pre.length) (fun pre => valsI (valsK pre)) (fun _ _ => True) ini A B row e4 hg hr⟩) _) (ownFrom_below (Nat.le_refl _) (by omega)))
    ⟨⟨_, b5, World.ownsRow_nil _ _ _ _, trivial⟩, b3, hb0, Nat.zero_le _⟩
    (fun x => { tmps := #[.func (.func 105) #[] #[.pointer (some ⟨Bs, 0, none⟩)], .int .i64 (mo : Int), undef, .pointer (some ⟨w.heap.size, 0, none⟩), .slice none 0 0, .pointer (some ⟨w.heap.size + 1, 0, none⟩), .int .i64 (x.1 : Int), .func (.func 105) #[] #[.pointer (some ⟨Bs, 0, none⟩)], .bool false, .func (.func 105) #[] #[.pointer (some ⟨Bs, 0, none⟩)], .int .i64 (x.1 : Int), undef, undef, undef, undef, undef, undef, undef, undef, undef], defers := [] })
    ?assign ?body ?done ?stop
  case assign =>
    intro l x W' K hK
    dsimp only [encK]
    gi_wp2
    exact hK
  case body =>
    rintro l pre x W' ⟨⟨v, h5, hrow, _⟩, h3, hB, hle⟩ hlen
    obtain ⟨k, hkk⟩ : ∃ k, pre.length = k := ⟨_, rfl⟩
    have HK : Hid (pre.length = k) := hkk
    rw [hkk] at hrow hle hlen
    clear hkk
    obtain ⟨pv, cv, rfl, hinv⟩ := in_of_ownsI hrow (by omega)
    clear hinv
    have g5 := h5.cell
    have g3 := h3.cell
    have l5 := h5.lt
    have hs5 := hB.size
    by_cases hge : mo ≤ k
    · have hge1 : (mo : Int) ≤ (k : Int) := by omega
      gi_wp2
      exact ⟨KeepsOthers.refl _, ⟨pre, x, rfl, rfl, by rw [HK.out]; omega, _, h5, by rw [HK.out]; exact hrow, trivial⟩, hB⟩
    · have hge1 : ¬ (mo : Int) ≤ (k : Int) := by omega
      gi_wp2_with (gi_at_builtin; refine wpListIn_append_own _ rfl (.tmp 15) (.tmp 17) 40 rfl (w.heap.size + 1) 3 i0 (.int .i64 0) 1 8 Tryz.underlying40 hi hz0 hz1 hz2 rfl (by decide) (.slice pv k cv) k (valsI (valsK pre)) rfl (hrow.alloc _) ⟨W'.heap.size, 0, none⟩ 1 1 [.int .i64 (x.1 : Int)] rfl rfl (new_one W' _) (by simp [Value.oneCell']) (by unfold maxLen; omega) (by omega) (by rw [World.size_alloc]; omega) ?_; intro v1 w1 hown1 hgrow1 _; obtain ⟨g', cap', rfl⟩ := ownsRow_succ hown1; obtain ⟨hv1, hv2, hr2, hk2, hb2⟩ := h5.appended (by decide) hrow (by omega) (Nat.le_refl _) hown1 hgrow1; have hc1 := hv1.cell; have hf1 := hv1.frozen)
      rw [← valsK_snoc] at hr2
      have hbw := hb2.mono (Nat.le_succ w.heap.size)
      refine ⟨hk2, KpK.of_below hbw hltb hlow, ⟨_, hv2, by rw [List.length_append, HK.out]; exact hr2, trivial⟩, (hb2.block _ (by omega)).trans h3, hB.trans hbw, by rw [List.length_append, HK.out]; show k + 1 ≤ mo; omega⟩
  case done =>
    rintro D ys W' hD rfl ⟨⟨v, h5, hrow, _⟩, h3, hB, hle⟩ hK
    have HT : Hid (ys.take mo = ys) := List.take_of_length_le hle
    obtain ⟨pv, cv, rfl, hinv⟩ := in_of_ownsI hrow (by omega)
    clear hinv
    have g5 := h5.cell
    gi_wp2
    refine ⟨by simp, .inl ⟨_, _, rfl, run_takeDeferred hK, ?_⟩⟩
    have hbD : Below w.heap.size W' (W'.putObj D (.deferred none)) := belowK_b (w := w) (Nat.le_refl _) W' D _ _ (by omega) hK rfl rfl
    have hrow' := ownsRow_putObj hrow (.deferred none) hK rfl
    obtain ⟨p9, c9, h9, hin9⟩ := in_of_ownsI hrow' (by omega)
    cases h9
    refine ⟨_, results_tmp Tryz.results49 _ _ _, pv, cv, ?_, ?_, hB.trans hbD⟩
    · rw [HT.out]; rfl
    · rw [HT.out]; exact hin9
  case stop =>
    rintro D cc pre W' hD ⟨kk, hkk, hpre⟩ ⟨⟨ini, last, e1, rfl, e3, v, h5, hrow, _⟩, hB⟩ hK
    have HT : Hid (ks.take mo = ini) := by
      show _ = _
      have hl : (ini ++ [last]).length = (ks.take kk).length := by rw [← e1, hpre]
      rw [List.length_append, List.length_take, e3] at hl
      simp at hl
      have h2 : ks.take kk = ini ++ [last] := by rw [← hpre, e1]
      have h3 : (ks.take kk).take mo = ini := by rw [h2, ← e3, List.take_left']; rfl
      rw [List.take_take] at h3
      rwa [Nat.min_eq_left (by omega)] at h3
    obtain ⟨pv, cv, rfl, hinv⟩ := in_of_ownsI hrow (by omega)
    clear hinv
    have g5 := h5.cell
    gi_wp2
    refine ⟨by simp, .inl ⟨_, _, rfl, run_takeDeferred hK, ?_⟩⟩
    have hbD : Below w.heap.size W' (W'.putObj D (.deferred none)) := belowK_b (w := w) (Nat.le_refl _) W' D _ _ (by omega) hK rfl rfl
    have hrow' := ownsRow_putObj hrow (.deferred none) hK rfl
    obtain ⟨p9, c9, h9, hin9⟩ := in_of_ownsI hrow' (by omega)
    cases h9
    refine ⟨_, results_tmp Tryz.results49 _ _ _, pv, cv, ?_, ?_, hB.trans hbD⟩
    · rw [HT.out, e3]; rfl
    · rw [HT.out]; exact hin9
theorem told_any {N : Nat} (Bs c1 : Nat) (p1 : Option Addr) (ks : List (IdxT N)) (mo : Nat) (hmo : mo ≤ 1000) (w : World) (hbs : Blk w Bs 40 [.slice p1 ks.length c1]) (hin : InI w p1 ks.length c1 (valsK ks)) (hlow : ∀ a, p1 = some a → a.block < w.heap.size) :
    Calls Tryz.prog 49 #[.func (.func 105) #[] #[.pointer (some ⟨Bs, 0, none⟩)], .int .i64 (mo : Int)] w fun e w' => ∃ p' c', e = .returned (.slice p' (ks.take mo).length c') ∧ InI w' p' (ks.take mo).length c' (valsK (ks.take mo)) ∧ Below w.heap.size w w' :=
  (callsIn_wide (n := 4)).1 (told_in 4 (Nat.le_refl _) Bs c1 p1 ks mo hmo w hbs hin hlow)
end Go.Proofs.YtdmnddikcpfmfaaGreat

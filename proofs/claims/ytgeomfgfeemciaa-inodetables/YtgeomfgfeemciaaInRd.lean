/-
  A region that draws its order, in a round of a range over a function: by the plain walk over all orders.
-/
import Derived.Test.YtgeomfgfeemciaaInT4
import Derived.RangeFuncNested
import Derived.RangeFuncBound
import Derived.RangeFuncCalls
import Derived.RangeFuncLeaves
import Derived.Shelf.Abstract
import Derived.Shelf.RegionOpen
import Derived.OwnWalkIn
import Derived.TacticsInMore
import Derived.LoopNIn
import Derived.LoopIn
import Derived.Test.YtgeomfgfeemciaaInRD
namespace Go.Proofs.Ytgeomfgfeemciaa
open Go.RowKit Go.Shelf
theorem rowsIn_round {l n : Nat} {P : Program} {row : String} {args : Array Value} {w : World} {R : Value → World → Prop} (h : Rows P row args w R) : RowsIn (Fence.wide.inRound l) n P row args w R :=
  fun c cs _ => let ⟨v, w', r, s⟩ := h c cs; ⟨v, w', r, stepsIn_wide.2 s⟩
theorem uponIn_round {l n : Nat} {P : Program} {o : Oper} {a : Act} {K K' : Act → World → Prop} {Q : Exit → Act → World → Prop} (hK : ∀ a w, K a w → K' a w) (r : Result Next) (h : o.upon P a K Q r) : o.uponIn (Fence.wide.inRound l) n P a K' Q r := by
  cases r with
  | ok x w' =>
    cases x with
    | value v => exact hK _ _ h
    | skip => exact hK _ _ h
    | defer d => exact hK _ _ h
    | enter f args =>
      refine ⟨(fun e => by cases e), CallsIn.inRound l (callsIn_wide.2 (Calls.mono h ?_))⟩
      intro e w'' he
      cases e with
      | returned v => exact hK _ _ he
      | panicked chain => exact he
      | outgrown => exact he
    | row row args => exact ⟨(fun e => by cases e), rowsIn_round (Rows.mono h fun v w'' he => hK _ _ he)⟩
    | round => exact h.elim
    | _ => exact h.elim
  | halt x w' =>
    cases x with
    | panic v => exact h
    | _ => exact h.elim
/-- Q, but 'False' at a panic and where it ends for want of room. -/
def NoBad (Q : Exit → Act → World → Prop) : Exit → Act → World → Prop
  | .panic _, _, _ => False
  | .outgrown, _, _ => False
  | e, a, w => Q e a w
theorem NoBad.imp {Q : Exit → Act → World → Prop} : ∀ (e : Exit) (a : Act) (w : World), NoBad Q e a w → Q e a w := fun e a w h => by
  cases e <;> first | exact h | exact (h : False).elim
theorem NoBad.normal {Q : Exit → Act → World → Prop} {a : Act} {w : World} (h : Q .normal a w) : NoBad Q .normal a w := h
theorem wpAnyIn_round {l n : Nat} {P : Program} {md : Region.Mode} {ops : Array Oper} {Q : Exit → Act → World → Prop} (hQ : ¬ LetsOut Q) (hd : ∀ (j : Nat) (o : Oper) c, ops[j]? = some o → o.op ≠ .defer c) : ∀ (fuel : Nat) (listed : Array Bool) (a : Act) (w : World),
    wpAny P md ops Q fuel listed a w → wpAnyIn (Fence.wide.inRound l) n P md ops Q fuel listed a w
  | 0, _, _, _, h => h
  | fuel + 1, listed, a, w, h => ⟨h.1, fun i hi => by
      have h2 := h.2 i hi
      unfold wpOp at h2
      unfold wpOpIn
      cases ho : ops[i]? with
      | none => rw [ho] at h2; exact wpAnyIn_round hQ hd fuel _ _ _ h2
      | some o =>
        rw [ho] at h2
        dsimp only at h2 ⊢
        by_cases hw : Region.wanted o (yielded ops a.tmps) = true
        · rw [if_pos hw] at h2 ⊢
          refine ⟨fun _ _ => trivial, ?_⟩
          rw [Oper.semAt_eq _ _ _ (fun c => hd i o c ho)]
          exact uponIn_round (fun a w h => wpAnyIn_round hQ hd fuel _ a w h) _ (h2.resolve_right fun h => hQ h.2)
        · rw [if_neg hw] at h2 ⊢
          exact ⟨fun _ _ => trivial, wpAnyIn_round hQ hd fuel _ _ _ h2⟩⟩
def noDefer (ops : Array Oper) : Bool := ops.all fun o => match o.op with | .defer _ => false | _ => true
theorem noDefer_spec {ops : Array Oper} (h : noDefer ops = true) (j : Nat) (o : Oper) (c : Call) (ho : ops[j]? = some o) : o.op ≠ .defer c := by
  intro e
  obtain ⟨hj, rfl⟩ := Array.getElem?_eq_some_iff.1 ho
  have := Array.all_eq_true.1 h j hj
  rw [e] at this
  cases this
/-- The law. -/
theorem wpIn_region_held_round {l n id : Nat} {P : Program} {ops : Array Oper} {Q : Exit → Act → World → Prop} {S : World → Prop} {a : Act} {w : World} (hm : P.follows .mixedOrders = true) (hd : noDefer ops = true) (hS : S w.drew)
    (h : S w.drew → wpAnyH P .any ops (NoBad Q) S ops.size (Array.replicate ops.size false) a w.drew) : (Code.region id ops true).wpIn (Fence.wide.inRound l) n P Q a w :=
  wpIn_mono (wpIn_region_any hm (wpAnyIn_round (fun ⟨_, _, h⟩ => h) (noDefer_spec hd) _ _ _ _ (wpAny_of_held _ _ _ _ (h hS)))) NoBad.imp
end Go.Proofs.Ytgeomfgfeemciaa

namespace Go.Proofs.Ytgeomfgfeemciaa
open Go.RowKit Go.Shelf
attribute [local go_sem] Oper.semAt_some
theorem seqIX_nil (w : World) (f : Fn) (a b : Array Value) : (binOp .eql 42 (.func f a b) .nilFunc).run Try.prog w = .ok (.bool false) w := by
  have h : ∀ d : Nat, (Op.equalIn (d + 1) 42 (.func f a b) .nilFunc).run Try.prog w = .ok false w := fun d => by
    simp [Op.equalIn]
  simp only [binOp]
  simp [Op.equal, Op.maxDepth, h 9999]
theorem flatS_at {l : List Sl} {k : Nat} {s : Sl} (h : l[k]? = some s) (i : Nat) (hi : i < 8) : (flatS l)[k * 8 + i]? = s.cells[i]? := by
  induction l generalizing k with
  | nil => cases h
  | cons a l ih =>
    have ha : a.cells.length = 8 := rfl
    show (a.cells ++ flatS l)[k * 8 + i]? = _
    cases k with
    | zero => cases h; rw [Nat.zero_mul, Nat.zero_add, List.getElem?_append_left (by omega)]
    | succ k => rw [List.getElem?_append_right (by omega), ha, show (k + 1) * 8 + i - 8 = k * 8 + i from by omega]; exact ih h
theorem owns_same {w w' : World} {B : Nat} {e : TypeId} {z : Nat} {v : Value} {n : Nat} {xs : List Value} (h : w.ownsRow B e z v n xs) (hs : ∀ i, v.ownBlock = some i → w'.heap[i]? = w.heap[i]?) : w'.ownsRow B e z v n xs := by
  refine ⟨h.1, ?_⟩
  rcases h.2 with h' | ⟨g, cap, cur, rfl, hg, hh, hr⟩
  · exact .inl h'
  · exact .inr ⟨g, cap, cur, rfl, hg, (hs g rfl).trans hh, hr⟩
set_option linter.unusedSimpArgs false in
set_option linter.unusedVariables false in
set_option maxRecDepth 100000 in
set_option maxHeartbeats 8000000 in
theorem tables_in (nf : Nat) (hnf : 6 ≤ nf) (x : Ino) (p q : Option Addr) (n c m d : Nat) (xs : List Nat) (s : Int) (w : World) (hx : InE w q m d x.rt) (ht : In w p n c xs) :
    CallsIn Fence.wide nf Try.prog 4 #[.slice p n c, .int .i64 s, x.val q m d] w fun e w' => e = .returned (.bool true) ∧ Below w.heap.size w w' := by
  obtain ⟨kd, lk, sz, nx, ge, dp, rt⟩ := x
  dsimp only at hx
  have cG := fun p n c w h => iget_any p n c xs s w h
  have cRG := fun p n c w h => rget_any p n c xs s w h
  have cP := fun p q n c m d w h h' => iput_any ⟨kd, lk, sz, nx, ge, dp, rt⟩ p q n c m d xs s w h h'
  have cRP := fun p q n c m d w h h' => rput_any ⟨kd, lk, sz, nx, ge, dp, rt⟩ p q n c m d xs s w h h'
  generalize getE xs s = eg at *
  generalize getI xs s = v at *
  generalize putE xs s ⟨kd, lk, sz, nx, ge, dp, rt⟩ = ep at *
  generalize putL xs s ⟨kd, lk, sz, nx, ge, dp, rt⟩ = pl at *
  obtain ⟨kg, lg, zg, ng, gg, hg, rg⟩ := v
  dsimp only [Ino.val] at cG cRG cP cRP ⊢
  have h0 := below_alloc w (.cells #[.int .i64 kd, .int .i64 lk, .int .i64 sz, .int .i64 nx, .int .i64 ge, .int .i64 dp, .slice q m d] 24)
  have bx := Blk.new' w 24 #[.int .i64 kd, .int .i64 lk, .int .i64 sz, .int .i64 nx, .int .i64 ge, .int .i64 dp, .slice q m d]
  have h1 := below_alloc (w.alloc (.cells #[.int .i64 kd, .int .i64 lk, .int .i64 sz, .int .i64 nx, .int .i64 ge, .int .i64 dp, .slice q m d] 24)) (.cells #[.bool false] 4)
  have br := Blk.new' (w.alloc (.cells #[.int .i64 kd, .int .i64 lk, .int .i64 sz, .int .i64 nx, .int .i64 ge, .int .i64 dp, .slice q m d] 24)) 4 #[.bool false]
  rw [show (w.alloc (.cells #[.int .i64 kd, .int .i64 lk, .int .i64 sz, .int .i64 nx, .int .i64 ge, .int .i64 dp, .slice q m d] 24)).heap.size = w.heap.size + 1 from World.size_alloc _ _] at br
  have hB := bt h0 h1
  replace bx := bx.kept h1
  replace hx := (hx.below h0).below h1
  replace ht := (ht.below h0).below h1
  clear h0 h1
  refine callsIn_of_wp_marks Try.func4 rfl trivial ?_ rfl
  simp only [Try.ntmps4, List.size_toArray, List.length_cons, List.length_nil, Nat.reduceAdd, Nat.reduceSub, Array.replicate_succ, Array.replicate_zero, List.push_toArray, List.append_toArray, List.nil_append, List.cons_append]
  gi_wp2
  refine ⟨trivial, fun _ => by omega, ?_⟩
  refine (callsIn_wide.2 (live_any _)).mono ?_
  rintro e w1 ⟨rfl, hb1⟩
  replace hB := bt hB hb1
  replace bx := bx.kept hb1
  replace br := br.kept hb1
  replace hx := hx.below hb1
  replace ht := ht.below hb1
  clear hb1
  gi_wp2
  refine ⟨trivial, fun _ => by omega, ?_⟩
  refine (callsIn_wide.2 (clone_any p n c xs _ ht)).mono ?_
  rintro e w2 ⟨p2, c2, rfl, i2, hb2⟩
  replace hB := bt hB hb2
  replace bx := bx.kept hb2
  replace br := br.kept hb2
  replace hx := hx.below hb2
  replace ht := ht.below hb2
  clear hb2
  gi_wp2
  refine ⟨trivial, fun _ => by omega, ?_⟩
  refine (callsIn_wide.2 (cG p n c _ ht)).mono ?_
  rintro e w3 ⟨p3, n3, c3, rfl, i3, hb3, -⟩
  try dsimp only at i3
  have b3 := Blk.new' w3 24 #[.int .i64 kg, .int .i64 lg, .int .i64 zg, .int .i64 ng, .int .i64 gg, .int .i64 hg, .slice p3 n3 c3]
  replace hb3 := bt hb3 (below_alloc w3 (.cells #[.int .i64 kg, .int .i64 lg, .int .i64 zg, .int .i64 ng, .int .i64 gg, .int .i64 hg, .slice p3 n3 c3] 24))
  replace i3 := i3.below (below_alloc w3 (.cells #[.int .i64 kg, .int .i64 lg, .int .i64 zg, .int .i64 ng, .int .i64 gg, .int .i64 hg, .slice p3 n3 c3] 24))
  replace hB := bt hB hb3
  replace bx := bx.kept hb3
  replace br := br.kept hb3
  replace hx := hx.below hb3
  replace ht := ht.below hb3
  replace i2 := i2.below hb3
  clear hb3
  clear cG
  gi_wp2
  refine ⟨trivial, fun _ => by omega, ?_⟩
  refine (callsIn_wide.2 (cRG p n c _ ht)).mono ?_
  rintro e w4 ⟨p4, n4, c4, rfl, i4, hb4, -⟩
  try dsimp only at i4
  have b4 := Blk.new' w4 24 #[.int .i64 kg, .int .i64 lg, .int .i64 zg, .int .i64 ng, .int .i64 gg, .int .i64 hg, .slice p4 n4 c4]
  replace hb4 := bt hb4 (below_alloc w4 (.cells #[.int .i64 kg, .int .i64 lg, .int .i64 zg, .int .i64 ng, .int .i64 gg, .int .i64 hg, .slice p4 n4 c4] 24))
  replace i4 := i4.below (below_alloc w4 (.cells #[.int .i64 kg, .int .i64 lg, .int .i64 zg, .int .i64 ng, .int .i64 gg, .int .i64 hg, .slice p4 n4 c4] 24))
  replace hB := bt hB hb4
  replace bx := bx.kept hb4
  replace br := br.kept hb4
  replace hx := hx.below hb4
  replace ht := ht.below hb4
  replace i2 := i2.below hb4
  replace i3 := i3.below hb4
  replace b3 := b3.kept hb4
  clear hb4
  clear cRG
  obtain ⟨a0, a1, a2, a3, a4, a5, a6⟩ := bx.ino7
  gi_wp2
  refine ⟨trivial, fun _ => by omega, ?_⟩
  refine (callsIn_wide.2 (cP p q n c m d _ hx ht)).mono ?_
  rintro e w5 ⟨p5, n5, c5, rfl, i5, hb5⟩
  clear a0 a1 a2 a3 a4 a5 a6 cP
  replace hB := bt hB hb5
  replace bx := bx.kept hb5
  replace br := br.kept hb5
  replace hx := hx.below hb5
  replace ht := ht.below hb5
  replace i2 := i2.below hb5
  replace i3 := i3.below hb5
  replace b3 := b3.kept hb5
  replace i4 := i4.below hb5
  replace b4 := b4.kept hb5
  clear hb5
  obtain ⟨a0, a1, a2, a3, a4, a5, a6⟩ := bx.ino7
  gi_wp2
  refine ⟨trivial, fun _ => by omega, ?_⟩
  refine (callsIn_wide.2 (cRP p q n c m d _ hx ht)).mono ?_
  rintro e w6 ⟨p6, n6, c6, rfl, i6, hb6⟩
  clear a0 a1 a2 a3 a4 a5 a6 cRP
  replace hB := bt hB hb6
  replace bx := bx.kept hb6
  replace br := br.kept hb6
  replace hx := hx.below hb6
  replace ht := ht.below hb6
  replace i2 := i2.below hb6
  replace i3 := i3.below hb6
  replace b3 := b3.kept hb6
  replace i4 := i4.below hb6
  replace b4 := b4.kept hb6
  replace i5 := i5.below hb6
  clear hb6
  obtain ⟨a0, a1, a2, a3, a4, a5, a6⟩ := b3.ino7
  obtain ⟨z0, z1, z2, z3, z4, z5, z6⟩ := b4.ino7
  gi_wp2
  refine ⟨trivial, fun _ => by omega, ?_⟩
  refine (callsIn_wide.2 (rsame_any ⟨kg, lg, zg, ng, gg, hg, rg⟩ ⟨kg, lg, zg, ng, gg, hg, rg⟩ p3 p4 n3 c3 n4 c4 _ i3 i4)).mono ?_
  rintro e w7 ⟨rfl, hb7⟩
  rw [sameB_iff.2 rfl]
  clear a0 a1 a2 a3 a4 a5 a6 z0 z1 z2 z3 z4 z5 z6
  replace hB := bt hB hb7
  replace bx := bx.kept hb7
  replace br := br.kept hb7
  replace hx := hx.below hb7
  replace ht := ht.below hb7
  replace i2 := i2.below hb7
  replace i3 := i3.below hb7
  replace b3 := b3.kept hb7
  replace i4 := i4.below hb7
  replace b4 := b4.kept hb7
  replace i5 := i5.below hb7
  replace i6 := i6.below hb7
  clear hb7
  clear b3 b4 i3 i4
  gi_wp2
  refine ⟨trivial, fun _ => by omega, ?_⟩
  refine (callsIn_wide.2 (equal_any p5 p6 n5 c5 n6 c6 pl pl _ i5 i6)).mono ?_
  rintro e w' ⟨rfl, hw'⟩
  have hw2 := hw'.symm
  subst hw2
  clear hw'
  rw [show (pl == pl) = true from by simp]
  gi_wp2
  refine ⟨trivial, fun _ => by omega, ?_⟩
  refine (callsIn_wide.2 (equal_any p2 p n c2 n c xs xs _ i2 ht)).mono ?_
  rintro e w' ⟨rfl, hw'⟩
  have hw2 := hw'.symm
  subst hw2
  clear hw'
  rw [show (xs == xs) = true from by simp]
  clear i2 i5 i6 bx hx
  gi_wp2
  refine ⟨trivial, fun _ => by omega, ?_⟩
  refine (callsIn_wide.2 (allcall_any p n c xs _ ht)).mono ?_
  rintro e w8 ⟨g, p8, c8, rfl, bg, i8, hb8, hg8⟩
  replace hB := bt hB hb8
  replace br := br.kept hb8
  replace ht := ht.below hb8
  clear hb8
  have hnil := fun (W : World) => seqIX_nil W (.func 45) #[] #[.pointer (some ⟨g, 0, none⟩)]
  gi_wp2
  refine ⟨trivial, fun _ => by omega, ?_⟩
  refine (callsIn_wide.2 (rall_any p n c xs _ ht)).mono ?_
  rintro e w9 ⟨po, co, L, rfl, hL, hown, hin, hb9⟩
  replace hB := bt hB hb9
  replace br := br.kept hb9
  replace ht := ht.below hb9
  replace bg := bg.kept hb9
  replace i8 := i8.below hb9
  clear hb9
  clear ht hnil
  obtain ⟨M, hM⟩ : ∃ M, L.length = M := ⟨_, rfl⟩
  rw [hM] at hown hin ⊢
  have HM : Hid (L.length = M) := hM
  clear hM
  gi_wp2
  have q1 := below_alloc w9 (.cells #[.slice po M co] 44)
  have q2 := below_alloc (w9.alloc (.cells #[.slice po M co] 44)) (.cells #[.int .i64 0] 3)
  have b17 := (Blk.new' w9 44 #[.slice po M co]).kept q2
  have b18 := Blk.new' (w9.alloc (.cells #[.slice po M co] 44)) 3 #[.int .i64 0]
  rw [show (w9.alloc (.cells #[.slice po M co] 44)).heap.size = w9.heap.size + 1 from World.size_alloc _ _] at b18
  have hbq := bt q1 q2
  have brV := br.kept hbq
  have bgV := bg.kept hbq
  have i8V := i8.below hbq
  have hBV := bt hB hbq
  have hrow : ∀ i, (Value.slice po M co).ownBlock = some i → i < w9.heap.size := fun i hi => (hown.lt i hi).2
  have hownV := owns_below hown hbq
  have hroot : ∀ t ∈ L, 0 < t.n → ∀ a, t.p = some a → a.block < w9.heap.size := fun t ht h0 a ha => (hin t ht).1.lt h0 a ha
  have hinV := hin.below hbq
  have hsV : ((w9.alloc (.cells #[.slice po M co] 44)).alloc (.cells #[.int .i64 0] 3)).heap.size = w9.heap.size + 2 := by simp
  have hgl := bg.lt
  have hdl : 0 < n → ∀ a, p8 = some a → a.block < w9.heap.size := fun h0 a ha => i8.blt h0 a ha
  have hwl := hB.size
  have hrl := br.lt
  clear br bg i8 hown hin hB q1 q2 hbq
  generalize (w9.alloc (.cells #[.slice po M co] 44)).alloc (.cells #[.int .i64 0] 3) = V at *
  refine range_feeds2 (α := Sl) (by omega) (gf := 45) (lb := #[.pointer (some ⟨g, 0, none⟩)]) rfl (enters_of Try.func45 (by kernel_rfl) rfl)
    (all_feeds (nf - 1) (by omega) (fun k => k = w9.heap.size + 1) g p8 n c8 xs V bgV i8V (fun k hk => by rw [hk, hsV]; omega) (by omega) (fun h0 a ha => by have := hdl h0 a ha; omega)) (fun _ => rfl) (fun h k => h.trans k) (fun W l o' => KpT.put _ W l o')
    (fun x X l o o' hl ho hx => InE.same2 hx (by rw [World.putObj_size]; exact Nat.le_refl _) (fun h0 a ha => World.putObj_heap_other (by
      obtain ⟨b, o2, hp, hlt, hc⟩ := InE.at' hx h0
      rw [ha] at hp; cases hp
      rintro rfl
      have hc0 := (hc 0 h0).1
      simp only [World.cell?, hl] at hc0
      cases o <;> simp_all [Obj.isCells])))
    (fun ys X => V.grownBy X (some (w9.heap.size + 1)) ∧ Blk X (w9.heap.size + 1) 3 [.int .i64 (ys.length : Int)])
    (fun ys X => False)
    (fun ys X Y row hs hg hr => ⟨⟨hg.os.trans hs.1.os, hg.tape.trans hs.1.tape, hg.output.trans hs.1.output, Nat.le_trans hs.1.size hg.size, fun k hk hne => (hg.block k (Nat.lt_of_lt_of_le hk hs.1.size) (fun e => by have := (hr _ e.symm).1; omega)).trans (hs.1.block k hk hne)⟩, hs.2.same (hg.block _ hs.2.lt (fun e => by have := (hr _ e.symm).1; omega))⟩)
    (fun ys X Y row hs hg hr => hs)
    ⟨⟨rfl, rfl, rfl, Nat.le_refl _, fun _ _ _ => rfl⟩, b18⟩
    (fun x a' X => ∃ gx, V.heap.size ≤ gx ∧ Blk X gx 24 [.int .i64 x.x.kd, .int .i64 x.x.lk, .int .i64 x.x.sz, .int .i64 x.x.nx, .int .i64 x.x.ge, .int .i64 x.x.dp, .slice x.p x.n x.c] ∧ a' = { tmps := #[.slice p n c, .int .i64 s, .agg #[.int .i64 kd, .int .i64 lk, .int .i64 sz, .int .i64 nx, .int .i64 ge, .int .i64 dp, .slice q m d], undef, undef, .pointer (some ⟨w.heap.size, 0, none⟩), .pointer (some ⟨w.heap.size + 1, 0, none⟩), .slice p2 n c2, .pointer (some ⟨w3.heap.size, 0, none⟩), .int .i64 eg, .pointer (some ⟨w4.heap.size, 0, none⟩), .int .i64 eg, .slice p5 n5 c5, .int .i64 ep, .slice p6 n6 c6, .int .i64 ep, .func (.func 45) #[] #[.pointer (some ⟨g, 0, none⟩)], .pointer (some ⟨w9.heap.size, 0, none⟩), .pointer (some ⟨w9.heap.size + 1, 0, none⟩), .int .i64 (x.k : Int), .pointer (some ⟨gx, 0, none⟩), .bool true, .bool false, .slice p n c, .slice p2 n c2, .tuple #[.agg #[.int .i64 kg, .int .i64 lg, .int .i64 zg, .int .i64 ng, .int .i64 gg, .int .i64 hg, .slice p3 n3 c3], .int .i64 eg], .slice p n c, .int .i64 s, .tuple #[.agg #[.int .i64 kg, .int .i64 lg, .int .i64 zg, .int .i64 ng, .int .i64 gg, .int .i64 hg, .slice p3 n3 c3], .int .i64 eg], .agg #[.int .i64 kg, .int .i64 lg, .int .i64 zg, .int .i64 ng, .int .i64 gg, .int .i64 hg, .slice p3 n3 c3], .int .i64 eg, .tuple #[.agg #[.int .i64 kg, .int .i64 lg, .int .i64 zg, .int .i64 ng, .int .i64 gg, .int .i64 hg, .slice p4 n4 c4], .int .i64 eg], .slice p n c, .int .i64 s, .tuple #[.agg #[.int .i64 kg, .int .i64 lg, .int .i64 zg, .int .i64 ng, .int .i64 gg, .int .i64 hg, .slice p4 n4 c4], .int .i64 eg], .agg #[.int .i64 kg, .int .i64 lg, .int .i64 zg, .int .i64 ng, .int .i64 gg, .int .i64 hg, .slice p4 n4 c4], .int .i64 eg, .tuple #[.slice p5 n5 c5, .int .i64 ep], .slice p n c, .int .i64 s, .agg #[.int .i64 kd, .int .i64 lk, .int .i64 sz, .int .i64 nx, .int .i64 ge, .int .i64 dp, .slice q m d], .tuple #[.slice p5 n5 c5, .int .i64 ep], .slice p5 n5 c5, .int .i64 ep, .tuple #[.slice p6 n6 c6, .int .i64 ep], .slice p n c, .int .i64 s, .agg #[.int .i64 kd, .int .i64 lk, .int .i64 sz, .int .i64 nx, .int .i64 ge, .int .i64 dp, .slice q m d], .tuple #[.slice p6 n6 c6, .int .i64 ep], .slice p6 n6 c6, .int .i64 ep, .agg #[.int .i64 kg, .int .i64 lg, .int .i64 zg, .int .i64 ng, .int .i64 gg, .int .i64 hg, .slice p3 n3 c3], .agg #[.int .i64 kg, .int .i64 lg, .int .i64 zg, .int .i64 ng, .int .i64 gg, .int .i64 hg, .slice p4 n4 c4], .bool true, .bool false, .bool false, .int .i64 eg, .int .i64 eg, .bool false, .bool false, .bool false, .slice p5 n5 c5, .slice p6 n6 c6, .bool true, .bool false, .bool false, .bool false, .int .i64 ep, .int .i64 ep, .bool false, .bool false, .bool false, .slice p2 n c2, .slice p n c, .bool true, .bool false, .bool false, .slice p n c, .func (.func 45) #[] #[.pointer (some ⟨g, 0, none⟩)], .func (.func 45) #[] #[.pointer (some ⟨g, 0, none⟩)], .bool false, .slice p n c, .slice po M co, .func (.func 45) #[] #[.pointer (some ⟨g, 0, none⟩)], .int .i64 (x.k : Int), x.x.val x.p x.n x.c, undef, undef, undef, undef, undef, undef, undef, undef, undef, undef, undef, undef, undef, undef, undef, undef, undef, undef, undef, undef, undef, undef, undef, undef, undef, undef, undef, undef, undef], defers := [] })
    (fun x a' _ X Y row hs hg hr => by
      obtain ⟨gx, h1, h2, h3⟩ := hs
      exact ⟨gx, h1, h2.same (hg.block _ h2.lt (fun e => by obtain ⟨_, o, ho, hc⟩ := hr _ e.symm; rw [show X.heap[gx]? = _ from h2] at ho; cases ho; cases hc)), h3⟩)
    ?assign ?body ?done ?stop
  case assign =>
    rintro l2 pre ⟨xk, ⟨xd, xl, xz, xn, xg, xh, xr⟩, xp, xq, xc⟩ X K hl2 hX hI hG hK
    dsimp only [encA, Ino.val]
    have k1 := below_alloc X (.cells #[.int .i64 xd, .int .i64 xl, .int .i64 xz, .int .i64 xn, .int .i64 xg, .int .i64 xh, .slice xp xq xc] 24)
    gi_wp2
    exact hK _ _ (keeps_below k1) ⟨k1.size, fun k hk _ _ => k1.block k hk⟩ ⟨⟨k1.os.trans hI.1.os, k1.tape.trans hI.1.tape, k1.output.trans hI.1.output, Nat.le_trans hI.1.size k1.size, fun k hk hne => (k1.block k (Nat.lt_of_lt_of_le hk hI.1.size)).trans (hI.1.block k hk hne)⟩, hI.2.kept k1⟩ (InE.below hG k1) ⟨X.heap.size, hX, Blk.new' X 24 #[.int .i64 xd, .int .i64 xl, .int .i64 xz, .int .i64 xn, .int .i64 xg, .int .i64 xh, .slice xp xq xc], rfl⟩
  case stop => rintro D pre X hD hSp hf; exact hf.elim
  case done =>
    rintro D ys X hD hS ⟨hI1, hI2⟩ hdef
    have hlen : ys.length = M := by have := congrArg List.length hS; rw [List.length_map, ← hL, List.length_map, HM.out] at this; exact this
    rw [hlen] at hI2
    have brX := brV.same (hI1.block _ (by omega) (fun e => by have := Option.some.inj e; omega))
    have b17X := b17.same (hI1.block _ (by omega) (fun e => by have := Option.some.inj e; omega))
    have y18 := hI2.cell' (i := 0) rfl
    have y17 := b17X.cell' (i := 0) rfl
    have yr := brX.cell' (i := 0) rfl
    have yf := brX.frozen 0
    have hdef2 : (X.setCell ⟨w.heap.size + 1, 0, none⟩ (.bool true)).heap[D]? = some (.deferred (some [])) := (heap_setCell_other _ _ _ _ (by show D ≠ w.heap.size + 1; omega)).trans hdef
    have r3 := (brX.set 0 (.bool true)).same (World.putObj_heap_other (o := .deferred none) (r := D) (by omega))
    have d1 := r3.cell' (i := 0) (v := .bool true) rfl
    have tX := Turned.setCell X ⟨w.heap.size + 1, 0, none⟩ (.bool true)
    have hBX : Below w.heap.size w ((X.setCell ⟨w.heap.size + 1, 0, none⟩ (.bool true)).putObj D (.deferred none)) :=
      ⟨(tX.os.trans hI1.os).trans hBV.os, (tX.tape.trans hI1.tape).trans hBV.tape, (tX.output.trans hI1.output).trans hBV.output, by rw [World.putObj_size, tX.size]; exact Nat.le_trans hBV.size hI1.size, fun k hk =>
        (World.putObj_heap_other (by omega)).trans ((tX.block k (by show k ≠ w.heap.size + 1; omega)).trans ((hI1.block k (by omega) (fun e => by have := Option.some.inj e; omega)).trans (hBV.block k hk)))⟩
    gi_wp2
    refine ⟨by simp, .inl ⟨_, _, rfl, run_takeDeferred hdef2, ?_⟩⟩
    simp [LeavesInM, LeavesIn, settle, results, Try.results4, go_sem, d1]
    exact hBX
  case body =>
    rintro l2 pre ⟨xk, ⟨xd, xl, xz, xn, xg, xh, xr⟩, xp, xq, xc⟩ a' X hl2 hl2X hX ⟨hI1, hI2⟩ hG ⟨gx, hgx, bgx, rfl⟩ hSp
    unfold GvA at hG
    dsimp only at hG bgx
    have hpr : pre.length < L.length ∧ (L[pre.length]?).map Sl.pair = some (xk, ⟨xd, xl, xz, xn, xg, xh, xr⟩) := by
      have h1 : (pre ++ [(⟨xk, ⟨xd, xl, xz, xn, xg, xh, xr⟩, xp, xq, xc⟩ : Sl)]).map Sl.pair <+: L.map Sl.pair := by rw [hL]; exact hSp
      have h2 := h1.length_le
      rw [List.length_map, List.length_append, List.length_map, List.length_singleton] at h2
      refine ⟨by omega, ?_⟩
      obtain ⟨t, ht⟩ := h1
      have h3 := congrArg (fun l => l[pre.length]?) ht
      simp only [List.getElem?_map, List.map_append, List.append_assoc] at h3
      rw [← h3, List.getElem?_append_right (by simp)]
      simp [Sl.pair]
    obtain ⟨hlt, hpair⟩ := hpr
    rw [HM.out] at hlt
    obtain ⟨⟨sk, ⟨sd, sl, ss, sn, sg, sh, sr⟩, sp, sq, sc⟩, hget⟩ : ∃ t, L[pre.length]? = some t := by
      cases hh : L[pre.length]? with
      | none => rw [hh] at hpair; cases hpair
      | some t => exact ⟨t, rfl⟩
    rw [hget] at hpair
    simp only [Option.map_some, Sl.pair, Option.some.injEq, Prod.mk.injEq, Ino.mk.injEq] at hpair
    obtain ⟨rfl, rfl, rfl, rfl, rfl, rfl, rfl, rfl⟩ := hpair
    have hmem := List.mem_of_getElem? hget
    have hsr := (hinV _ hmem).1.same2 hI1.size (fun h0 a ha => hI1.block _ (by have := hroot _ hmem h0 a ha; omega) (fun e => by have := hroot _ hmem h0 a ha; have := Option.some.inj e; omega))
    dsimp only at hsr
    have hownX := owns_same hownV (w' := X) (fun i hi => hI1.block i (by have := hrow i hi; omega) (fun e => by have := hrow i hi; have := Option.some.inj e; omega))
    have b17X := b17.same (hI1.block _ (by omega) (fun e => by have := Option.some.inj e; omega))
    obtain ⟨gr, rfl⟩ : ∃ gr, po = some ⟨gr, 0, none⟩ := by
      rcases hownX.2 with ⟨h, _⟩ | ⟨gr, cap, cur, h, _⟩
      · cases h; omega
      · cases h; exact ⟨gr, rfl⟩
    have hgr : gr < X.heap.size := (hownX.lt gr rfl).2
    have hce := fun i hi => (hownX.cells (g := gr) rfl) (pre.length * 8 + i) _ ((flatS_at hget i hi).trans (List.getElem?_eq_getElem (by show i < 8; exact hi)))
    simp only [addr_add, Nat.zero_add] at hce
    have e0 := hce 0 (by decide)
    have e1 := hce 1 (by decide)
    have e2 := hce 2 (by decide)
    have e3 := hce 3 (by decide)
    have e4 := hce 4 (by decide)
    have e5 := hce 5 (by decide)
    have e6 := hce 6 (by decide)
    have e7 := hce 7 (by decide)
    simp only [Sl.cells, List.getElem_cons_zero, List.getElem_cons_succ, Nat.add_zero] at e0 e1 e2 e3 e4 e5 e6 e7
    clear hce hownX
    have hltI : (pre.length : Int) < (M : Int) := by omega
    have hwr : Hid (wrap64 ((pre.length : Int) + 1) = (pre.length : Int) + 1) := by
      have hM4 : M ≤ 4 := by have h1 := congrArg List.length hL; rw [List.length_map, HM.out] at h1; have h2 := liveN_length xs 4; omega
      show _ = _
      exact (IntWalk.i64_left _).symm.trans (by rw [IntKind.wrap_i64]; omega)
    have hgeN : ¬ M ≤ pre.length := by omega
    have hgeI : decide ((pre.length : Int) ≥ (M : Int)) = false := by rw [decide_eq_false_iff_not]; omega
    gi_wp2
    refine wpIn_region_held_round (S := Below X.heap.size X) (by kernel_rfl) (by kernel_rfl) (Below.refl _ _).drew (fun hHeld => ?_)
    refine wpAnyH_take (i := 0) (v := ?_) rfl (by kernel_rfl) (by kernel_rfl) (by kernel_rfl) (fun _ _ _ h => h) (Or.inl ⟨by kernel_rfl, ?_⟩) hHeld ?_
    rotate_left
    · intro w' hSw; try dsimp only at hSw
      have g0 := (hI2.kept hSw).cell' (i := 0) rfl
      go_simp; try (with_reducible rfl)
    try simp only [Act.put, List.getElem_toArray, List.getElem_cons_succ, List.getElem_cons_zero, List.setIfInBounds_toArray, List.set_cons_zero, List.set_cons_succ]
    refine wpAnyH_take (i := 1) (v := ?_) rfl (by kernel_rfl) (by kernel_rfl) (by kernel_rfl) (fun _ _ _ h => h) (Or.inl ⟨by kernel_rfl, ?_⟩) hHeld ?_
    rotate_left
    · intro w' hSw; try dsimp only at hSw
      have g0 := (b17X.kept hSw).cell' (i := 0) rfl
      go_simp; try (with_reducible rfl)
    try simp only [Act.put, List.getElem_toArray, List.getElem_cons_succ, List.getElem_cons_zero, List.setIfInBounds_toArray, List.set_cons_zero, List.set_cons_succ]
    refine wpAnyH_take (i := 2) (v := ?_) rfl (by kernel_rfl) (by kernel_rfl) (by kernel_rfl) (fun _ _ _ h => h) (Or.inl ⟨by kernel_rfl, ?_⟩) hHeld ?_
    rotate_left
    · intro w' hSw; try dsimp only at hSw
      go_simp; try (with_reducible rfl)
    try simp only [Act.put, List.getElem_toArray, List.getElem_cons_succ, List.getElem_cons_zero, List.setIfInBounds_toArray, List.set_cons_zero, List.set_cons_succ]
    refine wpAnyH_take (i := 3) (v := ?_) rfl (by kernel_rfl) (by kernel_rfl) (by kernel_rfl) (fun _ _ _ h => h) (Or.inl ⟨by kernel_rfl, ?_⟩) hHeld ?_
    rotate_left
    · intro w' hSw; try dsimp only at hSw
      go_simp; try (with_reducible rfl)
    try simp only [Act.put, List.getElem_toArray, List.getElem_cons_succ, List.getElem_cons_zero, List.setIfInBounds_toArray, List.set_cons_zero, List.set_cons_succ]
    refine wpAnyH_take (i := 4) (v := ?_) rfl (by kernel_rfl) (by kernel_rfl) (by kernel_rfl) (fun _ _ _ h => h) (Or.inl ⟨by kernel_rfl, ?_⟩) hHeld ?_
    rotate_left
    · intro w' hSw; try dsimp only at hSw
      go_simp; try (with_reducible rfl)
    try simp only [Act.put, List.getElem_toArray, List.getElem_cons_succ, List.getElem_cons_zero, List.setIfInBounds_toArray, List.set_cons_zero, List.set_cons_succ]
    refine wpAnyH_take (i := 5) (v := ?_) rfl (by kernel_rfl) (by kernel_rfl) (by kernel_rfl) (fun _ _ _ h => h) (Or.inl ⟨by kernel_rfl, ?_⟩) hHeld ?_
    rotate_left
    · intro w' hSw; try dsimp only at hSw
      have g0 := (b17X.kept hSw).cell' (i := 0) rfl
      go_simp; try (with_reducible rfl)
    try simp only [Act.put, List.getElem_toArray, List.getElem_cons_succ, List.getElem_cons_zero, List.setIfInBounds_toArray, List.set_cons_zero, List.set_cons_succ]
    refine wpAnyH_take (i := 6) (v := ?_) rfl (by kernel_rfl) (by kernel_rfl) (by kernel_rfl) (fun _ _ _ h => h) (Or.inl ⟨by kernel_rfl, ?_⟩) hHeld ?_
    rotate_left
    · intro w' hSw; try dsimp only at hSw
      have g0 := (hI2.kept hSw).cell' (i := 0) rfl
      go_simp; try (with_reducible rfl)
    try simp only [Act.put, List.getElem_toArray, List.getElem_cons_succ, List.getElem_cons_zero, List.setIfInBounds_toArray, List.set_cons_zero, List.set_cons_succ]
    refine wpAnyH_take (i := 7) (v := ?_) rfl (by kernel_rfl) (by kernel_rfl) (by kernel_rfl) (fun _ _ _ h => h) (Or.inl ⟨by kernel_rfl, ?_⟩) hHeld ?_
    rotate_left
    · intro w' hSw; try dsimp only at hSw
      go_simp; try (with_reducible rfl)
    try simp only [Act.put, List.getElem_toArray, List.getElem_cons_succ, List.getElem_cons_zero, List.setIfInBounds_toArray, List.set_cons_zero, List.set_cons_succ]
    refine wpAnyH_take (i := 8) (v := ?_) rfl (by kernel_rfl) (by kernel_rfl) (by kernel_rfl) (fun _ _ _ h => h) (Or.inl ⟨by kernel_rfl, ?_⟩) hHeld ?_
    rotate_left
    · intro w' hSw; try dsimp only at hSw
      go_simp; try (with_reducible rfl)
    try simp only [Act.put, List.getElem_toArray, List.getElem_cons_succ, List.getElem_cons_zero, List.setIfInBounds_toArray, List.set_cons_zero, List.set_cons_succ]
    refine wpAnyH_take (i := 9) (v := ?_) rfl (by kernel_rfl) (by kernel_rfl) (by kernel_rfl) (fun _ _ _ h => h) (Or.inl ⟨by kernel_rfl, ?_⟩) hHeld ?_
    rotate_left
    · intro w' hSw; try dsimp only at hSw
      have g0 := (hSw.cell (p := ⟨gr, pre.length * 8, none⟩) hgr).trans e0
      go_simp; try (with_reducible rfl)
    try simp only [Act.put, List.getElem_toArray, List.getElem_cons_succ, List.getElem_cons_zero, List.setIfInBounds_toArray, List.set_cons_zero, List.set_cons_succ]
    refine wpAnyH_take (i := 10) (v := ?_) rfl (by kernel_rfl) (by kernel_rfl) (by kernel_rfl) (fun _ _ _ h => h) (Or.inl ⟨by kernel_rfl, ?_⟩) hHeld ?_
    rotate_left
    · intro w' hSw; try dsimp only at hSw
      go_simp; try (with_reducible rfl)
    try simp only [Act.put, List.getElem_toArray, List.getElem_cons_succ, List.getElem_cons_zero, List.setIfInBounds_toArray, List.set_cons_zero, List.set_cons_succ]
    refine wpAnyH_take (i := 11) (v := ?_) rfl (by kernel_rfl) (by kernel_rfl) (by kernel_rfl) (fun _ _ _ h => h) (Or.inl ⟨by kernel_rfl, ?_⟩) hHeld ?_
    rotate_left
    · intro w' hSw; try dsimp only at hSw
      go_simp; try (with_reducible rfl)
    try simp only [Act.put, List.getElem_toArray, List.getElem_cons_succ, List.getElem_cons_zero, List.setIfInBounds_toArray, List.set_cons_zero, List.set_cons_succ]
    refine wpAnyH_take (i := 12) (v := ?_) rfl (by kernel_rfl) (by kernel_rfl) (by kernel_rfl) (fun _ _ _ h => h) (Or.inl ⟨by kernel_rfl, ?_⟩) hHeld ?_
    rotate_left
    · intro w' hSw; try dsimp only at hSw
      go_simp; try (with_reducible rfl)
    try simp only [Act.put, List.getElem_toArray, List.getElem_cons_succ, List.getElem_cons_zero, List.setIfInBounds_toArray, List.set_cons_zero, List.set_cons_succ]
    refine wpAnyH_take (i := 13) (v := ?_) rfl (by kernel_rfl) (by kernel_rfl) (by kernel_rfl) (fun _ _ _ h => h) (Or.inl ⟨by kernel_rfl, ?_⟩) hHeld ?_
    rotate_left
    · intro w' hSw; try dsimp only at hSw
      go_simp; try (with_reducible rfl)
    try simp only [Act.put, List.getElem_toArray, List.getElem_cons_succ, List.getElem_cons_zero, List.setIfInBounds_toArray, List.set_cons_zero, List.set_cons_succ]
    refine wpAnyH_take (i := 14) (v := ?_) rfl (by kernel_rfl) (by kernel_rfl) (by kernel_rfl) (fun _ _ _ h => h) (Or.inl ⟨by kernel_rfl, ?_⟩) hHeld ?_
    rotate_left
    · intro w' hSw; try dsimp only at hSw
      have g0 := (b17X.kept hSw).cell' (i := 0) rfl
      go_simp; try (with_reducible rfl)
    try simp only [Act.put, List.getElem_toArray, List.getElem_cons_succ, List.getElem_cons_zero, List.setIfInBounds_toArray, List.set_cons_zero, List.set_cons_succ]
    refine wpAnyH_take (i := 15) (v := ?_) rfl (by kernel_rfl) (by kernel_rfl) (by kernel_rfl) (fun _ _ _ h => h) (Or.inl ⟨by kernel_rfl, ?_⟩) hHeld ?_
    rotate_left
    · intro w' hSw; try dsimp only at hSw
      have g0 := (hI2.kept hSw).cell' (i := 0) rfl
      go_simp; try (with_reducible rfl)
    try simp only [Act.put, List.getElem_toArray, List.getElem_cons_succ, List.getElem_cons_zero, List.setIfInBounds_toArray, List.set_cons_zero, List.set_cons_succ]
    refine wpAnyH_take (i := 16) (v := ?_) rfl (by kernel_rfl) (by kernel_rfl) (by kernel_rfl) (fun _ _ _ h => h) (Or.inl ⟨by kernel_rfl, ?_⟩) hHeld ?_
    rotate_left
    · intro w' hSw; try dsimp only at hSw
      go_simp; try (with_reducible rfl)
    try simp only [Act.put, List.getElem_toArray, List.getElem_cons_succ, List.getElem_cons_zero, List.setIfInBounds_toArray, List.set_cons_zero, List.set_cons_succ]
    refine wpAnyH_take (i := 17) (v := ?_) rfl (by kernel_rfl) (by kernel_rfl) (by kernel_rfl) (fun _ _ _ h => h) (Or.inl ⟨by kernel_rfl, ?_⟩) hHeld ?_
    rotate_left
    · intro w' hSw; try dsimp only at hSw
      go_simp; try (with_reducible rfl)
    try simp only [Act.put, List.getElem_toArray, List.getElem_cons_succ, List.getElem_cons_zero, List.setIfInBounds_toArray, List.set_cons_zero, List.set_cons_succ]
    refine wpAnyH_take (i := 18) (v := ?_) rfl (by kernel_rfl) (by kernel_rfl) (by kernel_rfl) (fun _ _ _ h => h) (Or.inl ⟨by kernel_rfl, ?_⟩) hHeld ?_
    rotate_left
    · intro w' hSw; try dsimp only at hSw
      have g1 := (hSw.cell (p := ⟨gr, pre.length * 8 + 1, none⟩) hgr).trans e1
      have g2 := (hSw.cell (p := ⟨gr, pre.length * 8 + 2, none⟩) hgr).trans e2
      have g3 := (hSw.cell (p := ⟨gr, pre.length * 8 + 3, none⟩) hgr).trans e3
      have g4 := (hSw.cell (p := ⟨gr, pre.length * 8 + 4, none⟩) hgr).trans e4
      have g5 := (hSw.cell (p := ⟨gr, pre.length * 8 + 5, none⟩) hgr).trans e5
      have g6 := (hSw.cell (p := ⟨gr, pre.length * 8 + 6, none⟩) hgr).trans e6
      have g7 := (hSw.cell (p := ⟨gr, pre.length * 8 + 7, none⟩) hgr).trans e7
      go_simp; try (with_reducible rfl)
    try simp only [Act.put, List.getElem_toArray, List.getElem_cons_succ, List.getElem_cons_zero, List.setIfInBounds_toArray, List.set_cons_zero, List.set_cons_succ]
    refine wpAnyH_take (i := 19) (v := ?_) rfl (by kernel_rfl) (by kernel_rfl) (by kernel_rfl) (fun _ _ _ h => h) (Or.inl ⟨by kernel_rfl, ?_⟩) hHeld ?_
    rotate_left
    · intro w' hSw; try dsimp only at hSw
      obtain ⟨f0, f1, f2, f3, f4, f5, f6⟩ := (bgx.kept hSw).ino7
      go_simp; try (with_reducible rfl)
    try simp only [Act.put, List.getElem_toArray, List.getElem_cons_succ, List.getElem_cons_zero, List.setIfInBounds_toArray, List.set_cons_zero, List.set_cons_succ]
    refine wpAnyH_ready (rs := [20]) (by kernel_rfl) (by simp) ?_
    refine AllReadyH.cons rfl (fun K hK => ?_) AllReadyH.nil
    go_simp
    refine (rsame_any ⟨sd, sl, ss, sn, sg, sh, sr⟩ ⟨sd, sl, ss, sn, sg, sh, sr⟩ sp xp sq sc xq xc _ (hsr.below hHeld) (hG.below hHeld)).mono ?_
    rintro e X20 ⟨rfl, hb20⟩
    rw [sameB_iff.2 rfl]
    refine hK.out _ _ (bt hHeld hb20) (fun hHeld => ?_)
    clear hK K
    try simp only [Act.put, List.getElem_toArray, List.getElem_cons_succ, List.getElem_cons_zero, List.setIfInBounds_toArray, List.set_cons_zero, List.set_cons_succ]
    refine wpAnyH_take (i := 21) (v := ?_) rfl (by kernel_rfl) (by kernel_rfl) (by kernel_rfl) (fun _ _ _ h => h) (Or.inl ⟨by kernel_rfl, ?_⟩) hHeld ?_
    rotate_left
    · intro w' hSw; try dsimp only at hSw
      go_simp; try (with_reducible rfl)
    try simp only [Act.put, List.getElem_toArray, List.getElem_cons_succ, List.getElem_cons_zero, List.setIfInBounds_toArray, List.set_cons_zero, List.set_cons_succ]
    refine wpAnyH_take (i := 22) (v := ?_) rfl (by kernel_rfl) (by kernel_rfl) (by kernel_rfl) (fun _ _ _ h => h) (Or.inl ⟨by kernel_rfl, ?_⟩) hHeld ?_
    rotate_left
    · intro w' hSw; try dsimp only at hSw
      go_simp; try (with_reducible rfl)
    try simp only [Act.put, List.getElem_toArray, List.getElem_cons_succ, List.getElem_cons_zero, List.setIfInBounds_toArray, List.set_cons_zero, List.set_cons_succ]
    refine wpAnyH_done (by kernel_rfl) ?_ _
    refine NoBad.normal ?_
    have y0 := (hI2.kept hHeld).cell' (i := 0) rfl
    have yf := (hI2.kept hHeld).frozen 0
    have z0 := (hI2.kept hHeld).set 0 (.int .i64 ((pre.length : Int) + 1))
    have tX := fun (W : World) => Turned.setCell W ⟨w9.heap.size + 1, 0, none⟩ (.int .i64 ((pre.length : Int) + 1))
    have hfr := fun k (hk : k < X.heap.size) (hne : k ≠ w9.heap.size + 1) => ((tX _).block k hne).trans (hHeld.block k hk)
    gi_wp2
    rw [hwr.out]
    refine ⟨⟨by rw [(tX _).size]; exact hHeld.size, fun k o hk ho _ => (hfr k (Array.getElem?_eq_some_iff.1 ho).1 (by omega)).trans ho⟩, ⟨by rw [(tX _).size]; exact hHeld.size, fun k hk _ hT => hfr k hk hT⟩, ⟨⟨((tX _).os.trans hHeld.os).trans hI1.os, ((tX _).tape.trans hHeld.tape).trans hI1.tape, ((tX _).output.trans hHeld.output).trans hI1.output, by rw [(tX _).size]; exact Nat.le_trans hI1.size hHeld.size, fun k hk hne => (hfr k (Nat.lt_of_lt_of_le hk hI1.size) (fun e => hne (by rw [e]))).trans (hI1.block k hk hne)⟩, ?_⟩⟩
    rw [List.length_append, List.length_singleton, Int.natCast_add]
    exact z0
end Go.Proofs.Ytgeomfgfeemciaa

/-
  The law's holes.
-/
import Derived.Test.YtmboohadindlfaaXtT10
namespace Go.Proofs.Ytmboohadindlfaa
open Go.RowKit Go.Shelf
attribute [local go_sem] Oper.semAt_some
theorem seqII_nil (w : World) (f : Fn) (a b : Array Value) : (binOp .eql 68 (.func f a b) .nilFunc).run Try.prog w = .ok (.bool false) w := by
  have h : ∀ d : Nat, (Op.equalIn (d + 1) 68 (.func f a b) .nilFunc).run Try.prog w = .ok false w := fun d => by
    simp [Op.equalIn]
  simp only [binOp]
  simp [Op.equal, Op.maxDepth, h 9999]
theorem owns_sameH {w w' : World} {B : Nat} {e : TypeId} {z : Nat} {v : Value} {n : Nat} {xs : List Value} (h : w.ownsRow B e z v n xs) (hs : ∀ i, v.ownBlock = some i → w'.heap[i]? = w.heap[i]?) : w'.ownsRow B e z v n xs := by
  refine ⟨h.1, ?_⟩
  rcases h.2 with h' | ⟨g, cap, cur, rfl, hg, hh, hr⟩
  · exact .inl h'
  · exact .inr ⟨g, cap, cur, rfl, hg, (hs g rfl).trans hh, hr⟩
theorem owns_obj {w : World} {B : Nat} {e : TypeId} {z : Nat} {v : Value} {n : Nat} {xs : List Value} (h : w.ownsRow B e z v n xs) {i : Nat} (hi : v.ownBlock = some i) : ∃ cs, w.heap[i]? = some (.cells cs e (0, 0)) := by
  rcases h.2 with ⟨rfl, _⟩ | ⟨g, cap, cur, rfl, _, hh, _⟩
  · cases hi
  · cases hi; exact ⟨cur, hh⟩
theorem holesL_len (b a : Int) (l : List Ext) : (holesL b a l).length ≤ l.length + 1 := by
  rw [holesL_eq, List.length_append]
  have h1 := holesTo_len a l
  have h2 := holIf_len (nextTo a l) b
  omega
theorem flatH_snocL (l : List Hol) (x : Hol) : flatH l ++ [.int .i64 x.a, .int .i64 x.l] = flatH (l ++ [x]) := by simp [flatH, Hol.cells]
set_option linter.unusedSimpArgs false in
set_option linter.unusedVariables false in
set_option maxRecDepth 100000 in
set_option maxHeartbeats 8000000 in
theorem lholes_in (nf : Nat) (hnf : 6 ≤ nf) (P0 : Option Addr) (N0 C0 : Nat) (L : List Ext) (f t : Int) (w : World) (h : InE w P0 N0 C0 L) (hn : N0 ≤ 100000) :
    CallsIn Fence.wide nf Try.prog 24 #[.slice P0 N0 C0, .int .i64 f, .int .i64 t] w fun e w' => ∃ p2 n2 c2, e = .returned (.slice p2 n2 c2) ∧ InH w' p2 n2 c2 (holesL (min t 65536) (max f 0) (runsL (max f 0) (min t 65536) (takenL L))) ∧ n2 ≤ N0 + 1 ∧ Below w.heap.size w w' := by
  obtain ⟨i0, hi, hz0, hz1, hz2⟩ := info_parts infoH
  have ha : 0 ≤ max f 0 := by omega
  have hb : min t 65536 ≤ 65536 := by omega
  have hHol := Holes_any P0 N0 C0 L f t w h hn
  generalize max f 0 = a at *
  generalize min t 65536 = b at *
  generalize takenL L = xs at *
  refine callsIn_of_wp_marks Try.func24 rfl trivial ?_ rfl
  simp only [Try.ntmps24, List.size_toArray, List.length_cons, List.length_nil, Nat.reduceAdd, Nat.reduceSub, Array.replicate_succ, Array.replicate_zero, List.push_toArray, List.append_toArray, List.nil_append, List.cons_append]
  gi_wp2
  refine ⟨trivial, fun _ => by omega, ?_⟩
  refine (callsIn_wide.2 hHol).mono ?_
  rintro e w1 ⟨N, B1, G, p2, c2, rfl, hP, hNN, bf, bp, bt0, hb1⟩
  have hxl := hP.inn.len
  have hlen : (holesL b a (runsL a b xs)).length ≤ N0 + 1 := by
    have h1 := holesL_len b a (runsL a b xs)
    have h2 := runsL_len a b xs
    omega
  have HLen : Hid ((holesL b a (runsL a b xs)).length ≤ N0 + 1) := hlen
  clear hlen hxl hHol
  have hnil := fun (W : World) => seqII_nil W (.func 52) #[] #[.pointer (some ⟨w.heap.size, 0, none⟩), .pointer (some ⟨G, 0, none⟩), .pointer (some ⟨w.heap.size + 1, 0, none⟩)]
  have hfl : ∀ k, FH w.heap.size G (w.heap.size + 1) N B1 p2 k → k < w1.heap.size := fun k hk => by
    rcases hk with rfl | rfl | rfl | hk
    · exact bf.lt
    · exact bp.lt
    · exact bt0.lt
    · exact FP.lt hP hk
  have q1 := below_alloc w1 (.cells #[.slice none 0 0] 36)
  have b8 := Blk.new' w1 36 #[.slice none 0 0]
  have hPV := hP.below q1
  have bfV := bf.kept q1
  have bpV := bp.kept q1
  have btV := bt0.kept q1
  have hBV := bt hb1 q1
  have hsV : (w1.alloc (.cells #[.slice none 0 0] 36)).heap.size = w1.heap.size + 1 := World.size_alloc _ _
  have hw1 := hb1.size
  have hrow0 := World.ownsRow_nil (w1.alloc (.cells #[.slice none 0 0] 36)) (w1.heap.size + 1) 38 2
  gi_wp2
  clear hnil hP bf bp bt0 hb1 q1
  generalize w1.alloc (.cells #[.slice none 0 0] 36) = V at *
  refine range_feeds3 (α := Hol) CH.no (by omega) (gf := 52) (lb := #[.pointer (some ⟨w.heap.size, 0, none⟩), .pointer (some ⟨G, 0, none⟩), .pointer (some ⟨w.heap.size + 1, 0, none⟩)]) rfl (enters_of Try.func52 (by kernel_rfl) rfl)
    (holes_feeds (nf - 1) (by omega) (fun k o => k = w1.heap.size ∨ (V.heap.size ≤ k ∧ ∃ cs, o = .cells cs 38 (0, 0))) w.heap.size G (w.heap.size + 1) N B1 p2 c2 a b xs V bfV bpV btV hPV ha hb
      (fun k o hk ht => by have := hfl k hk; rcases ht with h | ⟨h, _⟩ <;> omega) (fun k o hk ht => by rcases ht with h | ⟨_, h⟩; omega; exact h)) (fun _ => rfl) (fun h k => h.trans k) (fun W l o' => KpO.put _ W l o') (fun _ _ _ _ _ _ _ _ => trivial)
    (fun ys X => ∃ po co, Blk X w1.heap.size 36 [.slice po ys.length co] ∧ X.ownsRow (w1.heap.size + 1) 38 2 (.slice po ys.length co) ys.length (flatH ys) ∧ Below w.heap.size w X)
    (fun _ _ => False)
    (fun ys X Y row hs hg hr => by
      obtain ⟨po, co, e1, e2, e3⟩ := hs
      refine ⟨po, co, e1.same (hg.block _ e1.lt (fun e => by have := (hr _ e.symm).1; omega)), owns_sameH e2 (fun i hi => hg.block i (e2.lt i hi).2 (fun e => ?_)), e3.grown hg e3.size (fun r e => by have := (hr r e).1; omega)⟩
      obtain ⟨cs, hcs⟩ := owns_obj e2 hi
      obtain ⟨_, o, ho, hc⟩ := hr _ e.symm
      rw [hcs] at ho
      cases ho
      rcases hc with hc | ⟨cs', hc⟩ <;> cases hc)
    (fun _ _ _ _ hs _ _ => hs)
    ⟨none, 0, b8, hrow0, hBV⟩
    (fun x a' _ => a' = { tmps := #[.slice P0 N0 C0, .int .i64 f, .int .i64 t, undef, undef, undef, .slice none 0 0, .func (.func 52) #[] #[.pointer (some ⟨w.heap.size, 0, none⟩), .pointer (some ⟨G, 0, none⟩), .pointer (some ⟨w.heap.size + 1, 0, none⟩)], .pointer (some ⟨w1.heap.size, 0, none⟩), .int .i64 x.a, .int .i64 x.l, .slice P0 N0 C0, .int .i64 f, .int .i64 t, .func (.func 52) #[] #[.pointer (some ⟨w.heap.size, 0, none⟩), .pointer (some ⟨G, 0, none⟩), .pointer (some ⟨w.heap.size + 1, 0, none⟩)], .func (.func 52) #[] #[.pointer (some ⟨w.heap.size, 0, none⟩), .pointer (some ⟨G, 0, none⟩), .pointer (some ⟨w.heap.size + 1, 0, none⟩)], .bool false, .func (.func 52) #[] #[.pointer (some ⟨w.heap.size, 0, none⟩), .pointer (some ⟨G, 0, none⟩), .pointer (some ⟨w.heap.size + 1, 0, none⟩)], .int .i64 x.a, .int .i64 x.l, undef, undef, undef, undef, undef, undef, undef], defers := [] })
    (fun x a' _ _ _ _ h _ _ => h)
    ?assign ?body ?done ?stop
  case assign =>
    intro l2 pre x X K hl2 hX hI hG hK
    dsimp only [encH]
    gi_wp2
    exact hK _ _ (KeepsFrom.refl _ _) ⟨Nat.le_refl _, fun _ _ ho _ _ => ho⟩ hI hG rfl
  case stop => rintro D pre X hD hSp hf; exact hf.elim
  case done =>
    rintro D ys X hD rfl ⟨po, co, e1, e2, e3⟩ hdef
    have g5 := e1.cell' (i := 0) rfl
    have e2' := ownsRow_putObj e2 (.deferred none) hdef rfl
    have hbD : Below w.heap.size w (X.putObj D (.deferred none)) := ⟨e3.os, e3.tape, e3.output, by rw [World.putObj_size]; exact e3.size, fun k hk => (World.putObj_heap_other (by omega)).trans (e3.block k hk)⟩
    have hl := HLen.out
    obtain ⟨T, hT⟩ : ∃ T, (holesL b a (runsL a b xs)).length = T := ⟨_, rfl⟩
    rw [hT] at g5 e2' hl
    obtain ⟨p', c', hv', hin'⟩ := in_of_ownsH e2' (by omega)
    cases hv'
    clear hT HLen e2 e1
    gi_wp2
    refine ⟨by simp, .inl ⟨_, _, rfl, run_takeDeferred hdef, ?_⟩⟩
    exact ⟨_, results_tmp Try.results24 _ _ _, _, _, _, rfl, hin', hl, hbD⟩
  case body =>
    rintro l2 pre ⟨xa, xl⟩ a' X hl2 hl2X hX ⟨po, co, e1, e2, e3⟩ - rfl hSp
    have hpl := hSp.length_le
    rw [List.length_append, List.length_singleton] at hpl
    have hk6 : pre.length ≤ 100001 := by have := HLen.out; omega
    have HPL : Hid (pre.length + 1 = (pre ++ [(⟨xa, xl⟩ : Hol)]).length) := by show _ = _; rw [List.length_append]; rfl
    have HFL : Hid (flatH pre ++ [.int .i64 xa, .int .i64 xl] = flatH (pre ++ [(⟨xa, xl⟩ : Hol)])) := flatH_snocL pre ⟨xa, xl⟩
    clear hpl
    obtain ⟨k, hk⟩ : ∃ k, pre.length = k := ⟨_, rfl⟩
    rw [hk] at e1 e2 hk6 HPL
    clear hk
    have g5 := e1.cell' (i := 0) rfl
    have ba := below_alloc X (.cells #[.int .i64 xa, .int .i64 xl] 38)
    have s3 := Blk.new' X 38 #[.int .i64 xa, .int .i64 xl]
    have e2a := owns_below e2 ba
    have hs1 : w1.heap.size + 1 ≤ (X.alloc (.cells #[.int .i64 xa, .int .i64 xl] 38)).heap.size := Nat.le_trans (by omega) ba.size
    have e1l := e1.lt
    have hobj : ∀ i, (Value.slice po k co).ownBlock = some i → w1.heap.size + 1 ≤ i ∧ ∃ cs, X.heap[i]? = some (.cells cs 38 (0, 0)) := fun i hi => ⟨(e2.lt i hi).1, owns_obj e2 hi⟩
    have e1a := e1.kept ba
    gi_wp2_with (gi_at_builtin; refine wpListIn_append_own _ rfl (.tmp 20) (.tmp 24) 36 rfl (w1.heap.size + 1) 38 i0 (.agg #[.int .i64 0, .int .i64 0]) 2 16 Try.underlying36 hi hz0 hz1 hz2 rfl (by decide) (.slice po k co) k (flatH pre) rfl e2a ⟨X.heap.size, 0, none⟩ 1 1 [.int .i64 xa, .int .i64 xl] rfl rfl (fun j u hj => by have := s3.cell' (i := j) hj; rw [addr_add, Nat.zero_add]; exact this) (by simp [Value.oneCell']) (by unfold maxLen; omega) (by omega) hs1 ?_; intro v1 w2 hown1 hgrow1 _; obtain ⟨p1, c1, rfl⟩ := owns_slice hown1; have e1b := e1a.same (hgrow1.block _ e1a.lt (fun e => by have := (hobj _ e.symm).1; omega)); have c8 := e1b.cell' (i := 0) rfl; have f8 := e1b.frozen 0)
    rw [HFL.out] at hown1
    have z8 := e1b.set 0 (.slice p1 (k + 1) c1)
    have tX := Turned.setCell w2 ⟨w1.heap.size, 0, none⟩ (.slice p1 (k + 1) c1)
    have hsz2 := Nat.le_trans ba.size hgrow1.size
    have hto : ∀ i o, X.heap[i]? = some o → i ≠ w1.heap.size → ¬ (w1.heap.size + 1 ≤ i ∧ ∃ cs, o = .cells cs 38 (0, 0)) → (w2.setCell ⟨w1.heap.size, 0, none⟩ (.slice p1 (k + 1) c1)).heap[i]? = some o := fun i o ho hne hnt => by
      have hil := (Array.getElem?_eq_some_iff.1 ho).1
      refine (tX.block i hne).trans ((hgrow1.block i (Nat.lt_of_lt_of_le hil ba.size) (fun e => hnt ?_)).trans ((ba.block i hil).trans ho))
      obtain ⟨h1, cs, hcs⟩ := hobj i e.symm
      rw [hcs] at ho
      cases ho
      exact ⟨h1, cs, rfl⟩
    refine ⟨⟨by rw [tX.size]; exact hsz2, fun i o hi ho hc => hto i o ho (by omega) (fun h => by obtain ⟨_, cs, rfl⟩ := h; cases hc)⟩, ⟨by rw [tX.size]; exact hsz2, fun i o ho _ ht => hto i o ho (fun h => ht (.inl h)) (fun h => ht (.inr ⟨by omega, h.2⟩))⟩, p1, c1, ?_, ?_, ?_⟩
    · rw [← HPL.out]; exact z8
    · rw [← HPL.out]; exact owns_sameH hown1 (fun i hi => tX.block i (by have := (hown1.lt i hi).1; show i ≠ w1.heap.size; omega))
    · refine ⟨(tX.os.trans (hgrow1.os.trans ba.os)).trans e3.os, (tX.tape.trans (hgrow1.tape.trans ba.tape)).trans e3.tape, (tX.output.trans (hgrow1.output.trans ba.output)).trans e3.output, by rw [tX.size]; exact Nat.le_trans e3.size hsz2, fun i hi => ?_⟩
      have hil := Nat.lt_of_lt_of_le hi e3.size
      have ho := e3.block i hi
      obtain ⟨o, ho2⟩ : ∃ o, X.heap[i]? = some o := ⟨_, Array.getElem?_eq_getElem hil⟩
      rw [← ho, ho2]
      exact hto i o ho2 (by omega) (fun h => by have := h.1; omega)
theorem lholes_any (p : Option Addr) (n c : Nat) (l : List Ext) (f t : Int) (w : World) (h : InE w p n c l) (hn : n ≤ 100000) :
    Calls Try.prog 24 #[.slice p n c, .int .i64 f, .int .i64 t] w fun e w' => ∃ p2 n2 c2, e = .returned (.slice p2 n2 c2) ∧ InH w' p2 n2 c2 (holesL (min t 65536) (max f 0) (runsL (max f 0) (min t 65536) (takenL l))) ∧ n2 ≤ n + 1 ∧ Below w.heap.size w w' :=
  (callsIn_wide (n := 6)).1 (lholes_in 6 (Nat.le_refl _) p n c l f t w h hn)
end Go.Proofs.Ytmboohadindlfaa

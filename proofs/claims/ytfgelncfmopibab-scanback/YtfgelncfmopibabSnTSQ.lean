/-
  A table under way: what is settled so far.
-/
import Derived.Test.YtfgelncfmopibabSnTabPQ
import Derived.Test.YtfgelncfmopibabSnRNewQ
namespace Go.Proofs.Ytfgelncfmopibab
open Go.RowKit
theorem owns_tn2 {w w' : World} {B g g' : Nat} {e : TypeId} {s n c : Nat} {xs : List Value} (h : w.ownsRow B e s (.slice (some ⟨g', 0, none⟩) n c) n xs) (ht : Turned w w' g) (hg : g' ≠ g) : w'.ownsRow B e s (.slice (some ⟨g', 0, none⟩) n c) n xs := by
  refine ⟨h.1, ?_⟩
  rcases h.2 with h' | ⟨g2, cap, cur, hv', hB', hh, hr'⟩
  · exact .inl h'
  · have hv2 := hv'
    simp only [Value.slice.injEq, Option.some.injEq, Addr.mk.injEq] at hv2
    obtain ⟨⟨e1, _⟩, _⟩ := hv2
    exact .inr ⟨g2, cap, cur, hv', hB', (ht.block g2 (by rw [← e1]; exact hg)).trans hh, hr'⟩
theorem owns_keep {w w' : World} {B g' : Nat} {e : TypeId} {s n c : Nat} {xs : List Value} (h : w.ownsRow B e s (.slice (some ⟨g', 0, none⟩) n c) n xs) (hk : w'.heap[g']? = w.heap[g']?) : w'.ownsRow B e s (.slice (some ⟨g', 0, none⟩) n c) n xs := by
  refine ⟨h.1, ?_⟩
  rcases h.2 with h' | ⟨g2, cap, cur, hv', hB', hh, hr'⟩
  · exact .inl h'
  · have hv2 := hv'
    simp only [Value.slice.injEq, Option.some.injEq, Addr.mk.injEq] at hv2
    obtain ⟨⟨e1, _⟩, _⟩ := hv2
    exact .inr ⟨g2, cap, cur, hv', hB', by rw [← e1, hk, e1]; exact hh, hr'⟩
theorem owns_has {w : World} {B g' : Nat} {e : TypeId} {s n c : Nat} {xs : List Value} (h : w.ownsRow B e s (.slice (some ⟨g', 0, none⟩) n c) n xs) : ∃ cur, w.heap[g']? = some (.cells cur e) := by
  rcases h.2 with ⟨h', _⟩ | ⟨g2, cap, cur, hv', hB', hh, hr'⟩
  · simp at h'
  · simp only [Value.slice.injEq, Option.some.injEq, Addr.mk.injEq] at hv'
    obtain ⟨⟨e1, _⟩, _⟩ := hv'
    exact ⟨cur, by rw [e1]; exact hh⟩
/-- The table's nine cells: they stay as they are. -/
def cells9 (P L : Nat) (K : Int) (n gd cd gh ch : Nat) (pl : Option Addr) (cl : Nat) : List Value := [.int .i64 (P : Int), .int .i64 (L : Int), .int .i64 K, .slice (some ⟨gd, 0, none⟩) L cd, .slice (some ⟨gh, 0, none⟩) n ch, .int .i64 (-1), .int .i64 0, .int .i64 0, .slice pl 0 cl]
/-- Where the blocks lie. -/
structure Lie (w w3 : World) (gd gh gT : Nat) : Prop where
  d : w.heap.size + 1 ≤ gd
  h : w.heap.size + 1 ≤ gh
  dT : gd < gT
  hT : gh < gT
  T3 : gT < w3.heap.size
  ne : gd ≠ gh
structure TS (w w3 wr : World) (P L : Nat) (K : Int) (n gd cd gh ch gT : Nat) (pl : Option Addr) (cl : Nat) (t : TT) (q : Option Addr) (lq cq : Nat) : Prop where
  res : Blk wr w.heap.size 35 [.int .i64 0, .int .i64 0, .int .i64 0, .slice none 0 0, .slice none 0 0, .int .i64 0, .int .i64 0, .int .i64 0, .slice none 0 0]
  tab : Blk wr gT 35 (cells9 P L K n gd cd gh ch pl cl)
  d : wr.ownsRow (w.heap.size + 1) 3 1 (.slice (some ⟨gd, 0, none⟩) L cd) L (valsI t.d)
  h : wr.ownsRow (w.heap.size + 1) 4 1 (.slice (some ⟨gh, 0, none⟩) n ch) n (valsB t.h)
  l : wr.ownsRow w3.heap.size 3 1 (.slice q lq cq) lq (valsI t.l)
  len : t.l.length = lq
  keep : ∀ j, gT < j → j < w3.heap.size → wr.heap[j]? = w3.heap[j]?
  size : w3.heap.size ≤ wr.heap.size
  bel : Below w.heap.size w wr
theorem TS.next {w w3 wr wr' : World} {P L : Nat} {K : Int} {n gd cd gh ch gT : Nat} {pl : Option Addr} {cl : Nat} {t : TT} {q : Option Addr} {lq cq : Nat} (h : TS w w3 wr P L K n gd cd gh ch gT pl cl t q lq cq) (hb : Below wr.heap.size wr wr') : TS w w3 wr' P L K n gd cd gh ch gT pl cl t q lq cq :=
  ⟨h.res.kept hb, h.tab.kept hb, owns_below h.d hb, owns_below h.h hb, owns_below h.l hb, h.len, fun j h1 h2 => (hb.block j (by have := h.size; omega)).trans (h.keep j h1 h2), Nat.le_trans h.size hb.size, bt h.bel hb⟩
theorem TS.drew {w w3 wr : World} {P L : Nat} {K : Int} {n gd cd gh ch gT : Nat} {pl : Option Addr} {cl : Nat} {t : TT} {q : Option Addr} {lq cq : Nat} (h : TS w w3 wr P L K n gd cd gh ch gT pl cl t q lq cq) : TS w w3 wr.drew P L K n gd cd gh ch gT pl cl t q lq cq :=
  ⟨h.res.drew, h.tab.drew, h.d, h.h, h.l, h.len, h.keep, h.size, h.bel.drew⟩
theorem TS.setD {w w3 wr : World} {P L : Nat} {K : Int} {n gd cd gh ch gT : Nat} {pl : Option Addr} {cl : Nat} {t : TT} {q : Option Addr} {lq cq : Nat} (h : TS w w3 wr P L K n gd cd gh ch gT pl cl t q lq cq) (o : Lie w w3 gd gh gT) (b : Nat) (x : Int) :
    TS w w3 (wr.setCell ⟨gd, b, none⟩ (.int .i64 x)) P L K n gd cd gh ch gT pl cl ⟨t.d.set b x, t.h, t.l⟩ q lq cq := by
  have tn := Turned.setCell wr ⟨gd, b, none⟩ (.int .i64 x)
  dsimp only at tn
  have o1 := o.d; have o2 := o.h; have o3 := o.dT; have o4 := o.hT; have o5 := o.T3
  refine ⟨h.res.turned tn (by omega), h.tab.turned tn (by omega), ?_, owns_tn2 h.h tn (fun e => o.ne e.symm), owns_turnedB h.l tn (by omega), h.len, fun j h1 h2 => (tn.block j (by omega)).trans (h.keep j h1 h2), by rw [tn.size]; exact h.size, tn.below h.bel (by omega)⟩
  have := (h.d.stored b (.int .i64 x)).1
  rwa [valsI_set] at this
theorem TS.setH {w w3 wr : World} {P L : Nat} {K : Int} {n gd cd gh ch gT : Nat} {pl : Option Addr} {cl : Nat} {t : TT} {q : Option Addr} {lq cq : Nat} (h : TS w w3 wr P L K n gd cd gh ch gT pl cl t q lq cq) (o : Lie w w3 gd gh gT) (b : Nat) (x : Bool) :
    TS w w3 (wr.setCell ⟨gh, b, none⟩ (.bool x)) P L K n gd cd gh ch gT pl cl ⟨t.d, t.h.set b x, t.l⟩ q lq cq := by
  have tn := Turned.setCell wr ⟨gh, b, none⟩ (.bool x)
  dsimp only at tn
  have o1 := o.d; have o2 := o.h; have o3 := o.dT; have o4 := o.hT; have o5 := o.T3
  refine ⟨h.res.turned tn (by omega), h.tab.turned tn (by omega), owns_tn2 h.d tn o.ne, ?_, owns_turnedB h.l tn (by omega), h.len, fun j h1 h2 => (tn.block j (by omega)).trans (h.keep j h1 h2), by rw [tn.size]; exact h.size, tn.below h.bel (by omega)⟩
  have := (h.h.stored b (.bool x)).1
  rwa [show (valsB t.h).set b (.bool x) = valsB (t.h.set b x) by simp [valsB, List.map_set]] at this
theorem TS.app {w w3 wr w0 w1 : World} {P L : Nat} {K : Int} {n gd cd gh ch gT : Nat} {pl : Option Addr} {cl : Nat} {t : TT} {q q' : Option Addr} {lq cq cq' : Nat} (h : TS w w3 wr P L K n gd cd gh ch gT pl cl t q lq cq) (o : Lie w w3 gd gh gT) (x : Int)
    (hb : Below wr.heap.size wr w0) (hown : w1.ownsRow w3.heap.size 3 1 (.slice q' (lq + 1) cq') (lq + 1) (valsI t.l ++ [.int .i64 x])) (hg : w0.grownBy w1 (Value.slice q lq cq).ownBlock) :
    TS w w3 w1 P L K n gd cd gh ch gT pl cl ⟨t.d, t.h, t.l ++ [x]⟩ q' (lq + 1) cq' := by
  have h0 := h.next hb
  have o1 := o.d; have o2 := o.h; have o3 := o.dT; have o4 := o.hT; have o5 := o.T3
  have hs0 := h0.size
  have hk : ∀ j, j < w3.heap.size → w1.heap[j]? = w0.heap[j]? := fun j hj => hg.block j (by omega) (fun e => by have := (h0.l.lt j e.symm).1; omega)
  have hsz := h0.bel.size
  refine ⟨(hk _ (by omega)).trans h0.res, (hk _ (by omega)).trans h0.tab, owns_keep h0.d (hk _ (by omega)), owns_keep h0.h (hk _ (by omega)), ?_, by simp [h.len], fun j h1 h2 => (hk j h2).trans (h0.keep j h1 h2), Nat.le_trans hs0 hg.size, h0.bel.grown hg (by omega) (fun j hj => by have := (h0.l.lt j hj).1; omega)⟩
  rwa [show valsI t.l ++ [.int .i64 x] = valsI (t.l ++ [x]) by simp [valsI]] at hown
theorem results_cell_tmp2 {fn : Func} {p u s : Tmp} {ty : TypeId} (h : fn.results = #[.cell p ty, .tmp u, .tmp s]) (tmps : Array Value) (P : Program) (w : World) :
    (results fn tmps).run P w =
      ((asAddr (tmps.getD p undef)).run P w).andThen fun a w₁ => ((loadVar ty a).run P w₁).andThen fun v w₂ => .ok (.tuple #[v, tmps.getD u undef, tmps.getD s undef]) w₂ := by
  simp only [results, h]
  simp [Sem.run_bind, Result.andThen]
theorem TS.turnH {w w3 wr wr' : World} {P L : Nat} {K : Int} {n gd cd gh ch gT : Nat} {pl : Option Addr} {cl : Nat} {t : TT} {q : Option Addr} {lq cq : Nat} (h : TS w w3 wr P L K n gd cd gh ch gT pl cl t q lq cq) (o : Lie w w3 gd gh gT) (b : Nat) (x : Bool) (tn : Turned wr wr' gh)
    (hh : wr'.ownsRow (w.heap.size + 1) 4 1 (.slice (some ⟨gh, 0, none⟩) n ch) n ((valsB t.h).set b (.bool x))) : TS w w3 wr' P L K n gd cd gh ch gT pl cl ⟨t.d, t.h.set b x, t.l⟩ q lq cq := by
  have o1 := o.d; have o2 := o.h; have o3 := o.dT; have o4 := o.hT; have o5 := o.T3
  refine ⟨h.res.turned tn (by omega), h.tab.turned tn (by omega), owns_tn2 h.d tn o.ne, ?_, owns_turnedB h.l tn (by omega), h.len, fun j h1 h2 => (tn.block j (by omega)).trans (h.keep j h1 h2), by rw [tn.size]; exact h.size, tn.below h.bel (by omega)⟩
  rwa [show (valsB t.h).set b (.bool x) = valsB (t.h.set b x) by simp [valsB, List.map_set]] at hh
theorem TS.start {w wr : World} {P L : Nat} {K : Int} {n gd cd gh ch gT : Nat} {pl : Option Addr} {cl : Nat} (zs : List Pl) (res : Blk wr w.heap.size 35 [.int .i64 0, .int .i64 0, .int .i64 0, .slice none 0 0, .slice none 0 0, .int .i64 0, .int .i64 0, .int .i64 0, .slice none 0 0])
    (tab : Blk wr gT 35 (cells9 P L K n gd cd gh ch pl cl)) (d : wr.ownsRow (w.heap.size + 1) 3 1 (.slice (some ⟨gd, 0, none⟩) L cd) L (valsI (List.replicate L (-1)))) (h : wr.ownsRow (w.heap.size + 1) 4 1 (.slice (some ⟨gh, 0, none⟩) n ch) n (valsB (List.replicate n false)))
    (bel : Below w.heap.size w wr) : TS w wr wr P L K n gd cd gh ch gT pl cl (tabTo zs P L n 0) none 0 0 :=
  ⟨res, tab, d, h, ⟨rfl, .inl ⟨rfl, rfl⟩⟩, rfl, fun _ _ _ => rfl, Nat.le_refl _, bel⟩
/-- A new table's rows. -/
def NewR (B : Nat) (w' : World) (P L : Nat) (K : Int) (n : Nat) (e : Ending) : Prop := ∃ gd cd gh ch pl cl, e = .returned (.tuple #[.agg (cells9 P L K n gd cd gh ch pl cl).toArray, .int .i64 0]) ∧
  w'.ownsRow B 3 1 (.slice (some ⟨gd, 0, none⟩) L cd) L (valsI (List.replicate L (-1))) ∧ w'.ownsRow B 4 1 (.slice (some ⟨gh, 0, none⟩) n ch) n (valsB (List.replicate n false)) ∧ LogsIn w' pl 0 cl []
theorem newR_of {B : Nat} {w' : World} {P L : Nat} {K : Int} {n : Nat} {V : TabV} {e : Ending} (hL : 1 ≤ L) (hn : 1 ≤ n) (he : e = .returned (.tuple #[.agg (tabA V (newT (P : Int) L K n)), .int .i64 0])) (ho : OwnT B w' V (newT (P : Int) L K n) []) (h1 : V.nd = L) (h2 : V.nh = n) (h3 : V.nl = 0) : NewR B w' P L K n e := by
  obtain ⟨pd, nd, cd, ph, nh, ch, pl, nl, cl⟩ := V
  dsimp only at h1 h2 h3
  subst h1 h2 h3
  have hd := ho.d
  have hh := ho.h
  have hl := ho.inT.logs
  dsimp only at hd hh hl
  obtain ⟨gd, rfl⟩ := own_some hd (by omega)
  obtain ⟨gh, rfl⟩ := own_some hh (by omega)
  exact ⟨gd, cd, gh, ch, pl, cl, he, hd, hh, hl⟩
/-- What is handed out: a table, its blocks that are not settled, no error. -/
theorem ret_tab3 {fn : Func} {p u s : Tmp} (h : fn.results = #[.cell p 35, .tmp u, .tmp s]) {R : Ending → World → Prop} {a : Act} {w : World} {g : Nat} {t : TypeId} {V : TabV} {T : Tab} {v x : Value} (hp : a.tmps.getD p undef = .pointer (some ⟨g, 0, none⟩))
    (hb : Blk w g t (tabC V T)) (hd : a.defers = []) (hu : a.tmps.getD u undef = v) (hs : a.tmps.getD s undef = x) (hR : R (.returned (.tuple #[.agg (tabA V T), v, x])) w) : bodyPost Try.prog fn R .ret a w := by
  refine bodyPost_ret (v := .tuple #[.agg (tabA V T), v, x]) ?_ hd hR
  rw [results_cell_tmp2 h, hp, hu, hs]
  have := run_loadVar_mid w g 0 35 (tabC V T) _ (hb.range 0 9 _ rfl) Try.underlying35 rfl (by kernel_rfl)
  simp only [asAddr, Sem.run_pure, Result.andThen_ok, this]
  rfl
end Go.Proofs.Ytfgelncfmopibab

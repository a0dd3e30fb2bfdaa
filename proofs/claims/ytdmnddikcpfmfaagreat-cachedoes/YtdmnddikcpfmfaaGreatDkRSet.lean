/-
  The document's disk, turned step by step.
-/
import Derived.Test.YtdmnddikcpfmfaaGreatDkRNew
import Derived.Test.YtdmnddikcpfmfaaGreatBase
namespace Go.Proofs.YtdmnddikcpfmfaaGreat
open Go.RowKit
structure RAfter (w w' : World) (r : Nat) (V V' : RV) (t' : RS) : Prop where
  ref : RefIn w' r V' t'
  keep : Keep (fpR r V) w w'
  fr : ∀ k, fpR r V' k → fpR r V k ∨ w.heap.size ≤ k
theorem RAfter.refl {w : World} {r : Nat} {V : RV} {t : RS} (h : RefIn w r V t) : RAfter w w r V V t := ⟨h, Keep.refl _ _, fun _ hk => .inl hk⟩
theorem RAfter.trans {a b c : World} {r : Nat} {V1 V2 V3 : RV} {t1 t2 : RS} (h : RAfter a b r V1 V2 t1) (k : RAfter b c r V2 V3 t2) : RAfter a c r V1 V3 t2 :=
  ⟨k.ref, h.keep.trans k.keep (fun j hj e => (h.fr j e).elim id (fun e => by omega)), fun j hj => (k.fr j hj).elim (h.fr j) (fun e => .inr (Nat.le_trans h.keep.size e))⟩
theorem RAfter.drop {w w2 w' : World} {r : Nat} {V V' : RV} {t' : RS} (h : RAfter w2 w' r V V' t') (hb : Below w.heap.size w w2) : RAfter w w' r V V' t' :=
  ⟨h.ref, (Keep.of_below (S := fpR r V) hb).trans h.keep (fun _ _ e => e), fun k hk => (h.fr k hk).elim .inl (fun e => .inr (Nat.le_trans hb.size e))⟩
theorem RefIn.nes {w : World} {r : Nat} {V : RV} {t : RS} (h : RefIn w r V t) {k : Nat} (hk : V.sv.ownBlock = some k) : k ≠ r := owns_ne h.srow hk h.blk (by decide)
theorem RefIn.neb {w : World} {r : Nat} {V : RV} {t : RS} (h : RefIn w r V t) {k : Nat} (hk : V.bv.ownBlock = some k) : k ≠ r := owns_ne h.brow hk h.blk (by decide)
theorem RefIn.new {w : World} {r : Nat} {V : RV} {t : RS} (h : RefIn w r V t) {k : Nat} (hk : V.wv.ownBlock = some k) : k ≠ r := owns_ne h.wrow hk h.blk (by decide)
theorem owns_ne2 {w : World} {B C : Nat} {e f : TypeId} {z y : Nat} {v u : Value} {n m : Nat} {xs ys : List Value} (h : w.ownsRow B e z v n xs) (h' : w.ownsRow C f y u m ys) (hne : e ≠ f) {k : Nat} (hk : v.ownBlock = some k) (hj : u.ownBlock = some k) : False := by
  obtain ⟨c, hc, _⟩ := owns_row h hk
  obtain ⟨c', hc', _⟩ := owns_row h' hj
  rw [hc] at hc'
  simp at hc'
  exact hne hc'.2
/-- A field of numbers or bools is turned. -/
theorem RefIn.cell {w : World} {r : Nat} {V : RV} {t : RS} (h : RefIn w r V t) (i : Nat) (v : Value) (t' : RS) (hv : (refV V t).set i v = refV V t') (h1 : t'.secs = t.secs) (h2 : t'.bad = t.bad) (h3 : t'.wrote = t.wrote) (h4 : t'.many ≤ 2000) (h5 : t'.cut = true → 0 ≤ t'.left) (h6 : -9223372036854775808 ≤ t'.left ∧ t'.left ≤ 9223372036854775807) :
    RAfter w (w.setCell ⟨r, i, none⟩ v) r V V t' := by
  have hr := h.blk.set i v
  rw [hv] at hr
  have s1 := set_same h.su8 h.blk (by decide) i v
  have s2 := set_same h.wu8 h.blk (by decide) i v
  refine ⟨⟨hr, owns_same h.srow (fun k hk => heap_setCell_other _ _ _ _ (h.nes hk)), ?_, h.su8.same s1, ?_, ?_, ?_, h.wu8.same s2, by rw [h1]; exact h.ok, by rw [h3]; exact h.wok, by rw [h1, h2]; exact h.bl, by rw [h1]; exact h.n1, by rw [h1]; exact h.n2, by rw [h3]; exact h.wl, h5, h4, h6⟩, Keep.of_turned (Turned.setCell w ⟨r, i, none⟩ v) (.inl rfl), fun k hk => .inl hk⟩
  · rw [h1]; exact h.sec.sameU h.su8 s1
  · rw [h2]; exact owns_same h.brow (fun k hk => heap_setCell_other _ _ _ _ (h.neb hk))
  · rw [h3]; exact owns_same h.wrow (fun k hk => heap_setCell_other _ _ _ _ (h.new hk))
  · rw [h3]; exact h.wec.sameU h.wu8 s2
theorem EachIn.set {w : World} {rs : List SR} {Ds : List (List Nat)} (h : EachIn w rs Ds) (k : Nat) (r : SR) (D : List Nat) (hr : In w r.p r.n r.c D) : EachIn w (rs.set k r) (Ds.set k D) := by
  refine ⟨by simp [h.len], fun i r' D' h1 h2 => ?_⟩
  rw [List.getElem?_set] at h1 h2
  by_cases hi : k = i
  · rw [if_pos hi] at h1 h2
    split at h1
    · split at h2
      · cases h1; cases h2; exact hr
      · cases h2
    · cases h1
  · rw [if_neg hi] at h1 h2
    exact h.each i r' D' h1 h2
theorem AllU8.set {w : World} {rs : List SR} (h : AllU8 w rs) (k : Nat) (r : SR) (hr : U8 w r.p) : AllU8 w (rs.set k r) := fun x hx => by
  rcases List.mem_or_eq_of_mem_set hx with h' | h'
  · exact h x h'
  · rw [h']; exact hr
theorem owns_stored {w : World} {B : Nat} {e : TypeId} {z : Nat} {v : Value} {n : Nat} {xs : List Value} (h : w.ownsRow B e z v n xs) {g : Nat} (hk : v.ownBlock = some g) (j : Nat) (u : Value) : (w.setCell ⟨g, j, none⟩ u).ownsRow B e z v n (xs.set j u) := by
  rcases h.2 with ⟨rfl, _⟩ | ⟨g', cap, cur, rfl, _⟩
  · simp [Value.ownBlock] at hk
  · simp [Value.ownBlock] at hk
    subst hk
    exact (World.ownsRow.stored h j u).1
theorem owns_at {w : World} {B : Nat} {e : TypeId} {z : Nat} {v : Value} {n : Nat} {xs : List Value} (h : w.ownsRow B e z v n xs) (h0 : 0 < n) : ∃ g cap, v = .slice (some ⟨g, 0, none⟩) n cap ∧ g < w.heap.size ∧ n ≤ cap := by
  rcases h.2 with ⟨rfl, hn⟩ | ⟨g, cap, cur, rfl, _, hh, hc, _⟩
  · omega
  · refine ⟨g, cap, rfl, ?_, hc⟩
    rcases Nat.lt_or_ge g w.heap.size with h' | h'
    · exact h'
    · rw [Array.getElem?_eq_none h'] at hh; simp at hh
theorem set_same_row {w : World} {rs : List SR} (hu : AllU8 w rs) {B : Nat} {e : TypeId} {z : Nat} {v : Value} {n : Nat} {xs : List Value} (ho : w.ownsRow B e z v n xs) (ht : e ≠ 5) {g : Nat} (hk : v.ownBlock = some g) (i : Nat) (u : Value) : ∀ r ∈ rs, ∀ a, r.p = some a → (w.setCell ⟨g, i, none⟩ u).heap[a.block]? = w.heap[a.block]? :=
  fun r hr _ ha => heap_setCell_other _ _ _ _ (fun e => (hu r hr).ne_row ha ho ht (by rw [hk, e]))
/-- A sector is replaced by new bytes. -/
theorem RefIn.sector {w w2 : World} {r : Nat} {V : RV} {t : RS} (h : RefIn w r V t) (hb : Below w.heap.size w w2) {p : Option Addr} {c : Nat} {xs : List Nat} (hin : In w2 p 256 c xs) (hu : U8 w2 p) (k : Nat) {g : Nat} (hg : V.sv.ownBlock = some g) :
    RAfter w (w2.setCell ⟨g, k, none⟩ (.slice p 256 c)) r V { V with rs := V.rs.set k ⟨p, 256, c⟩ } { t with secs := t.secs.set k xs } := by
  have h2 := h.below hb
  have hst := owns_stored h2.srow hg k (.slice p 256 c)
  have us : AllU8 w2 (V.rs.set k ⟨p, 256, c⟩) := h2.su8.set k _ hu
  have es : EachIn w2 (V.rs.set k ⟨p, 256, c⟩) (t.secs.set k xs) := h2.sec.set k ⟨p, 256, c⟩ xs hin
  have s1 := set_same_row us h2.srow (by decide) hg k (.slice p 256 c)
  have s2 := set_same_row h2.wu8 h2.srow (by decide) hg k (.slice p 256 c)
  have hI : Is xs := ⟨hin.len, hin.byte⟩
  refine ⟨⟨h2.blk.setOther _ _ (fun e => h.nes hg e.symm), ?_, es.sameU us s1, us.same s1, owns_same h2.brow (fun j hj => heap_setCell_other _ _ _ _ (fun e => owns_ne2 h2.srow h2.brow (by decide) hg (by rw [hj, e]))), owns_same h2.wrow (fun j hj => heap_setCell_other _ _ _ _ (fun e => owns_ne2 h2.srow h2.wrow (by decide) hg (by rw [hj, e]))), h2.wec.sameU h2.wu8 s2, h2.wu8.same s2, fun D hD => ?_, h.wok, ?_, ?_, ?_, h.wl, h.lc, h.lim, h.le⟩, ?_, fun j hj => .inl hj⟩
  · rw [List.length_set, List.map_set]; exact hst
  · rcases List.mem_or_eq_of_mem_set hD with h' | h'
    · exact h.ok D h'
    · rw [h']; exact hI
  · simpa using h.bl
  · simpa using h.n1
  · simpa using h.n2
  · exact (Keep.of_below (S := fpR r V) hb).trans (Keep.of_turned (Turned.setCell w2 ⟨g, k, none⟩ (.slice p 256 c)) (.inr (.inl hg))) (fun _ _ e => e)
/-- A sector is made bad, or good. -/
theorem RefIn.badset {w : World} {r : Nat} {V : RV} {t : RS} (h : RefIn w r V t) (k : Nat) (b : Bool) {g : Nat} (hg : V.bv.ownBlock = some g) :
    RAfter w (w.setCell ⟨g, k, none⟩ (.bool b)) r V V { t with bad := t.bad.set k b } := by
  have hst := owns_stored h.brow hg k (.bool b)
  have s1 := set_same_row h.su8 h.brow (by decide) hg k (.bool b)
  have s2 := set_same_row h.wu8 h.brow (by decide) hg k (.bool b)
  refine ⟨⟨h.blk.setOther _ _ (fun e => h.neb hg e.symm), owns_same h.srow (fun j hj => heap_setCell_other _ _ _ _ (fun e => owns_ne2 h.brow h.srow (by decide) hg (by rw [hj, e]))), h.sec.sameU h.su8 s1, h.su8.same s1, ?_, owns_same h.wrow (fun j hj => heap_setCell_other _ _ _ _ (fun e => owns_ne2 h.brow h.wrow (by decide) hg (by rw [hj, e]))), h.wec.sameU h.wu8 s2, h.wu8.same s2, h.ok, h.wok, ?_, h.n1, h.n2, h.wl, h.lc, h.lim, h.le⟩, Keep.of_turned (Turned.setCell w ⟨g, k, none⟩ (.bool b)) (.inr (.inr (.inl hg))), fun j hj => .inl hj⟩
  · rw [List.length_set, valsBo, List.map_set]; exact hst
  · rw [List.length_set]; exact h.bl
theorem infoRW : (Tryz.prog.info? 124).map (fun i => (i.zero, i.size, i.bytes)) = some (some (.agg #[.int .i64 0, .slice none 0 0]), 2, 32) := by kernel_rfl
theorem flatR_one (ks : List Int) (ws : List SR) : ∀ v ∈ flatR ks ws, v.oneCell' = true := by
  intro v hv
  obtain ⟨l, hl, hv⟩ := List.mem_flatten.1 hv
  obtain ⟨x, _, rfl⟩ := List.mem_map.1 hl
  simp [rwV] at hv
  rcases hv with rfl | rfl <;> rfl
/-- A write appended to the document's list: the operation. -/
theorem wp_appendR {o : Oper} {a : Act} {w : World} {K : Act → World → Prop} {Q : Exit → Act → World → Prop} (s x : Operand) (ho : o.op = .call { callee := .builtin .append, args := #[s, x], argTypes := #[64, 64] }) (v : Value) (ks : List Int) (ws : List SR) (hl : ks.length = ws.length) (hs : a.eval s = v)
    (hp : w.ownsRow 0 124 2 v ws.length (flatR ks ws)) (b : Nat) (k : Int) (r : SR) (hx : a.eval x = .slice (some ⟨b, 0, none⟩) 1 1) (hnews : Blk w b 124 (rwV (k, r))) (hlen : ws.length < 100000)
    (h : ∀ p1 c1 w', w'.ownsRow 0 124 2 (.slice p1 (ws.length + 1) c1) (ws.length + 1) (flatR (ks ++ [k]) (ws ++ [r])) → w.grownBy w' v.ownBlock → ((Value.slice p1 (ws.length + 1) c1).ownBlock = v.ownBlock ∨ (Value.slice p1 (ws.length + 1) c1).ownBlock = some w.heap.size) → K (a.put o.dst (.slice p1 (ws.length + 1) c1)) w') : o.wp Tryz.prog a w K Q := by
  obtain ⟨i0, hi, hz0, hz1, hz2⟩ := info_parts infoRW
  obtain ⟨v', w', hr, h2, h3, _, h5⟩ := run_append_own_at (P := Tryz.prog) w 0 64 o.type 124 i0 _ 2 32 Tryz.underlying64 hi hz0 hz1 hz2 rfl (by decide) v ws.length (flatR ks ws) hp ⟨b, 0, none⟩ 1 1 (rwV (k, r)) rfl (fun j u hj => by rw [addr_add, Nat.zero_add]; exact hnews.cell' hj) (by
      intro u hu
      simp [rwV] at hu
      rcases hu with rfl | rfl <;> rfl) (by unfold maxLen; omega) (by omega) (Nat.zero_le _)
  obtain ⟨p1, c1, rfl⟩ := owns_slice h2
  unfold Oper.wp execOp
  simp only [ho, resolve, invoke, builtin, Sem.run_bind, Sem.run_pure, Result.andThen_ok, List.map_toArray, List.map_cons, List.map_nil, hs, hx, hr]
  exact h p1 c1 w' (by rw [flatR_snoc _ _ _ _ hl]; exact h2) h3 h5
/-- A write is kept in the document's list; the disk's cell is to be turned. -/
theorem RefIn.logged {w wa w1 : World} {r : Nat} {V : RV} {t : RS} (h : RefIn w r V t) (ha : Below w.heap.size w wa) {p : Option Addr} {c : Nat} {xs : List Nat} (hin : In wa p 256 c xs) (hu : U8 wa p) (k : Int) (hg : wa.grownBy w1 V.wv.ownBlock) {p1 : Option Addr} {c1 : Nat}
    (hp : w1.ownsRow 0 124 2 (.slice p1 (V.ws.length + 1) c1) (V.ws.length + 1) (flatR (t.wrote.map (·.1) ++ [k]) (V.ws ++ [(⟨p, 256, c⟩ : SR)])))
    (hat : (Value.slice p1 (V.ws.length + 1) c1).ownBlock = V.wv.ownBlock ∨ (Value.slice p1 (V.ws.length + 1) c1).ownBlock = some wa.heap.size) (hw : t.wrote.length < 2000) :
    Blk w1 r 66 (refV V t) ∧ RAfter w (w1.setCell ⟨r, 6, none⟩ (.slice p1 (V.ws.length + 1) c1)) r V { V with wv := .slice p1 (V.ws.length + 1) c1, ws := V.ws ++ [⟨p, 256, c⟩] } { t with wrote := t.wrote ++ [(k, xs)] } := by
  have hA := h.below ha
  have i4 : Blk w1 r 66 (refV V t) := hA.blk.grown hg (fun e => h.new e.symm rfl)
  have uA : AllU8 wa (V.ws ++ [⟨p, 256, c⟩]) := hA.wu8.snoc hu
  have eA : EachIn wa (V.ws ++ [⟨p, 256, c⟩]) (t.wrote.map (·.2) ++ [xs]) := hA.wec.snoc (r := ⟨p, 256, c⟩) hin
  have s4 := grow_same uA hA.wrow (by decide) hg
  have s4' := grow_same hA.su8 hA.wrow (by decide) hg
  have u4 := uA.same s4
  have E4 := eA.sameU uA s4
  have u4' := hA.su8.same s4'
  have E4' := hA.sec.sameU hA.su8 s4'
  have s5 := set_same u4 i4 (by decide) 6 (.slice p1 (V.ws.length + 1) c1)
  have s5' := set_same u4' i4 (by decide) 6 (.slice p1 (V.ws.length + 1) c1)
  have np : ∀ j, (Value.slice p1 (V.ws.length + 1) c1).ownBlock = some j → j ≠ r := fun j hj => owns_ne hp hj i4 (by decide)
  have rs1 : w1.ownsRow 0 52 1 V.sv V.rs.length (V.rs.map srV) := owns_same hA.srow (fun j hj => by
    obtain ⟨cs, hc, hlt⟩ := owns_row hA.srow hj
    exact hg.block j hlt (fun e => owns_ne2 hA.srow hA.wrow (by decide) hj e.symm))
  have rb1 : w1.ownsRow 0 4 1 V.bv t.bad.length (valsBo t.bad) := owns_same hA.brow (fun j hj => by
    obtain ⟨cs, hc, hlt⟩ := owns_row hA.brow hj
    exact hg.block j hlt (fun e => owns_ne2 hA.brow hA.wrow (by decide) hj e.symm))
  have hI : Is xs := ⟨hin.len, hin.byte⟩
  refine ⟨i4, ⟨i4.set 6 _, owns_same rs1 (fun j hj => heap_setCell_other _ _ _ _ (h.nes hj)), E4'.sameU u4' s5', u4'.same s5', owns_same rb1 (fun j hj => heap_setCell_other _ _ _ _ (h.neb hj)), ?_, ?_, u4.same s5, h.ok, fun x hx => ?_, h.bl, h.n1, h.n2, ?_, h.lc, h.lim, h.le⟩, ?_, fun j hj => ?_⟩
  · show World.ownsRow _ 0 124 2 (.slice p1 (V.ws.length + 1) c1) (V.ws ++ [_]).length (flatR ((t.wrote ++ [(k, xs)]).map (·.1)) (V.ws ++ [_]))
    rw [List.length_append, List.map_append]
    exact owns_same hp (fun j hj => heap_setCell_other _ _ _ _ (np j hj))
  · show EachIn _ _ ((t.wrote ++ [(k, xs)]).map (·.2))
    rw [List.map_append]
    exact E4.sameU u4 s5
  · rcases List.mem_append.1 hx with h' | h'
    · exact h.wok x h'
    · rw [List.mem_singleton.1 h']; exact hI
  · show (t.wrote ++ [(k, xs)]).length ≤ 2000
    rw [List.length_append]; simp; omega
  · exact ((Keep.of_below (S := fpR r V) ha).trans (Keep.of_grown (S := fpR r V) hg (fun j e _ => .inr (.inr (.inr e)))) (fun _ _ e => e)).trans (Keep.of_turned (S := fpR r V) (Turned.setCell w1 ⟨r, 6, none⟩ (.slice p1 (V.ws.length + 1) c1)) (.inl rfl)) (fun _ _ e => e)
  · rcases hj with rfl | hj | hj | hj
    · exact .inl (.inl rfl)
    · exact .inl (.inr (.inl hj))
    · exact .inl (.inr (.inr (.inl hj)))
    · rcases hat with e | e
      · exact .inl (.inr (.inr (.inr (e ▸ hj))))
      · have hj' : (Value.slice p1 (V.ws.length + 1) c1).ownBlock = some j := hj
        rw [hj'] at e; cases e; exact .inr ha.size
end Go.Proofs.YtdmnddikcpfmfaaGreat

namespace Go.Proofs.YtdmnddikcpfmfaaGreat
def upd (f : Nat → Nat) (a b : Nat) : Nat → Nat := fun x => if x = a then b else f x
theorem upd_same (f : Nat → Nat) (a b : Nat) : upd f a b a = b := if_pos rfl
theorem upd_other (f : Nat → Nat) {a b x : Nat} (h : x ≠ a) : upd f a b x = f x := if_neg h
/-- From a through the list to e: each one's next, and the one ahead of it. -/
def Chain (O N : Nat → Nat) : Nat → List Nat → Nat → Prop
  | a, [], e => N a = e ∧ O e = a
  | a, b :: r, e => N a = b ∧ O b = a ∧ Chain O N b r e
def lst : Nat → List Nat → Nat
  | a, [] => a
  | _, b :: r => lst b r
def hed : List Nat → Nat → Nat
  | [], e => e
  | b :: _, _ => b
theorem lst_mem : ∀ (a : Nat) (p : List Nat), lst a p = a ∨ lst a p ∈ p
  | _, [] => .inl rfl
  | _, b :: r => .inr (by
    show lst b r ∈ b :: r
    rcases lst_mem b r with h | h
    · rw [h]; exact List.mem_cons_self ..
    · exact List.mem_cons_of_mem _ h)
theorem hed_mem (q : List Nat) (e : Nat) : hed q e = e ∨ hed q e ∈ q := by
  cases q with
  | nil => exact .inl rfl
  | cons b r => exact .inr (List.mem_cons_self ..)
theorem chain_append {O N : Nat → Nat} {x e : Nat} {q : List Nat} : ∀ {a : Nat} {p : List Nat}, Chain O N a (p ++ x :: q) e ↔ Chain O N a p x ∧ Chain O N x q e
  | a, [] => by simp [Chain, and_assoc]
  | a, b :: r => by
    have := @chain_append O N x e q b r
    simp [Chain, and_assoc, this]
theorem Chain.congr {O N O' N' : Nat → Nat} {e : Nat} : ∀ {a : Nat} {p : List Nat}, Chain O N a p e → (∀ y, y = a ∨ y ∈ p → N' y = N y) → (∀ y, y = e ∨ y ∈ p → O' y = O y) → Chain O' N' a p e
  | a, [], h, hN, hO => ⟨(hN a (.inl rfl)).trans h.1, (hO e (.inl rfl)).trans h.2⟩
  | a, b :: r, h, hN, hO => ⟨(hN a (.inl rfl)).trans h.1, (hO b (.inr (List.mem_cons_self ..))).trans h.2.1,
      h.2.2.congr (fun y hy => hN y (.inr (by rcases hy with rfl | hy; exact List.mem_cons_self ..; exact List.mem_cons_of_mem _ hy))) (fun y hy => hO y (by rcases hy with rfl | hy; exact .inl rfl; exact .inr (List.mem_cons_of_mem _ hy)))⟩
theorem Chain.ends {O N : Nat → Nat} {e : Nat} : ∀ {a : Nat} {p : List Nat}, Chain O N a p e → N (lst a p) = e ∧ O e = lst a p
  | _, [], h => h
  | _, _ :: _, h => h.2.2.ends
theorem Chain.first {O N : Nat → Nat} {e a : Nat} {p : List Nat} (h : Chain O N a p e) : N a = hed p e := by
  cases p with
  | nil => exact h.1
  | cons b r => exact h.1
/-- The last one leads elsewhere. -/
theorem Chain.turn {O N : Nat → Nat} {e y : Nat} : ∀ {a : Nat} {p : List Nat}, Chain O N a p e → (a :: p).Nodup → y ∉ p → Chain (upd O y (lst a p)) (upd N (lst a p) y) a p y
  | a, [], _, _, _ => ⟨upd_same _ _ _, upd_same _ _ _⟩
  | a, b :: r, h, hn, hy => by
    have hn' : (b :: r).Nodup := (List.nodup_cons.1 hn).2
    have ha : a ∉ b :: r := (List.nodup_cons.1 hn).1
    have hl : a ≠ lst b r := by
      rintro rfl
      rcases lst_mem b r with h' | h'
      · rw [h'] at ha; exact ha (List.mem_cons_self ..)
      · exact ha (List.mem_cons_of_mem _ h')
    have hb : b ≠ y := fun e => hy (e ▸ List.mem_cons_self ..)
    refine ⟨?_, ?_, h.2.2.turn hn' (fun e => hy (List.mem_cons_of_mem _ e))⟩
    · show upd N (lst b r) y a = b
      rw [upd_other _ hl]; exact h.1
    · show upd O y (lst b r) b = a
      rw [upd_other _ hb]; exact h.2.1
theorem nodup_mid {e x : Nat} {p q : List Nat} (h : (e :: (p ++ x :: q)).Nodup) : (e :: p).Nodup ∧ x ∉ p ∧ x ≠ e ∧ x ∉ q ∧ e ∉ q ∧ q.Nodup ∧ (∀ y, y ∈ q → y ∉ p) ∧ e ∉ p := by
  simp only [List.nodup_cons, List.nodup_append, List.mem_append, List.mem_cons] at h ⊢
  obtain ⟨h1, h2, ⟨h3, h4⟩, h5⟩ := h
  refine ⟨⟨fun h => h1 (.inl h), h2⟩, fun h => (h5 x h x (.inl rfl)) rfl, fun h => h1 (.inr (.inl h.symm)), h3, fun h => h1 (.inr (.inr h)), h4, fun y hy hp => h5 y hp y (.inr hy) rfl, fun h => h1 (.inl h)⟩
/-- One of the ring is taken out. -/
theorem ring_out {O N : Nat → Nat} {e x : Nat} {p q : List Nat} (h : Chain O N e (p ++ x :: q) e) (hn : (e :: (p ++ x :: q)).Nodup) :
    O x = lst e p ∧ N x = hed q e ∧ Chain (upd O (hed q e) (lst e p)) (upd N (lst e p) (hed q e)) e (p ++ q) e := by
  obtain ⟨h1, h2⟩ := chain_append.1 h
  obtain ⟨n1, n2, n3, n4, n5, n6, n7, n8⟩ := nodup_mid hn
  refine ⟨h1.ends.2, h2.first, ?_⟩
  cases q with
  | nil => rw [List.append_nil]; exact h1.turn n1 n8
  | cons b r =>
    refine chain_append.2 ⟨h1.turn n1 (n7 b (List.mem_cons_self ..)), h2.2.2.congr (fun y hy => upd_other _ ?_) (fun y hy => upd_other _ ?_)⟩
    · have hy' : y ∈ b :: r := by rcases hy with rfl | hy; exact List.mem_cons_self ..; exact List.mem_cons_of_mem _ hy
      rintro rfl
      rcases lst_mem e p with h' | h'
      · rw [h'] at hy'; exact n5 hy'
      · exact n7 _ hy' h'
    · show y ≠ b
      rintro rfl
      rcases hy with h' | h'
      · exact n5 (h' ▸ List.mem_cons_self ..)
      · exact (List.nodup_cons.1 n6).1 h'
/-- One is laid into the ring, as the last. -/
theorem ring_in {O N : Nat → Nat} {e x : Nat} {p : List Nat} (h : Chain O N e p e) (hn : (e :: p).Nodup) (hx : x ≠ e) (hp : x ∉ p) :
    O e = lst e p ∧ Chain (upd (upd O x (lst e p)) e x) (upd (upd N x e) (lst e p) x) e (p ++ [x]) e := by
  refine ⟨h.ends.2, chain_append.2 ⟨(h.turn hn hp).congr (fun y hy => ?_) (fun y hy => ?_), ?_, upd_same _ _ _⟩⟩
  · have hy' : y ≠ x := by rcases hy with rfl | hy; exact hx.symm; exact fun e => hp (e ▸ hy)
    simp only [upd, if_neg hy']
  · have hy' : y ≠ e := by rcases hy with rfl | hy; exact hx; exact fun e => (List.nodup_cons.1 hn).1 (e ▸ hy)
    exact upd_other _ hy'
  · have hl : x ≠ lst e p := by
      rintro rfl
      rcases lst_mem e p with h' | h'
      · exact hx h'
      · exact hp h'
    rw [upd_other _ hl, upd_same]
end Go.Proofs.YtdmnddikcpfmfaaGreat

/-
  A ring: each thing knows the one ahead of it and the one behind.
-/
import Derived.Test.YtdmnddikcpfmfaaBase
namespace Go.Proofs.Ytdmnddikcpfmfaa
def upd (f : Nat → Nat) (a b : Nat) : Nat → Nat := fun x => if x = a then b else f x
theorem upd_same (f : Nat → Nat) (a b : Nat) : upd f a b a = b := if_pos rfl
theorem upd_other (f : Nat → Nat) {a b x : Nat} (h : x ≠ a) : upd f a b x = f x := if_neg h
/-- From a through the list to e: each one's next, and the one ahead of it. -/
def Chain (O N : Nat → Nat) : Nat → List Nat → Nat → Prop
  | a, [], e => N a = e ∧ O e = a
  | a, b :: r, e => N a = b ∧ O b = a ∧ Chain O N b r e
def lst : Nat → List Nat → Nat
  | a, [] => a
  | _, b :: r => lst b r
def hed : List Nat → Nat → Nat
  | [], e => e
  | b :: _, _ => b
theorem lst_mem : ∀ (a : Nat) (p : List Nat), lst a p = a ∨ lst a p ∈ p
  | _, [] => .inl rfl
  | _, b :: r => .inr (by
    show lst b r ∈ b :: r
    rcases lst_mem b r with h | h
    · rw [h]; exact List.mem_cons_self ..
    · exact List.mem_cons_of_mem _ h)
theorem hed_mem (q : List Nat) (e : Nat) : hed q e = e ∨ hed q e ∈ q := by
  cases q with
  | nil => exact .inl rfl
  | cons b r => exact .inr (List.mem_cons_self ..)
theorem chain_append {O N : Nat → Nat} {x e : Nat} {q : List Nat} : ∀ {a : Nat} {p : List Nat}, Chain O N a (p ++ x :: q) e ↔ Chain O N a p x ∧ Chain O N x q e
  | a, [] => by simp [Chain, and_assoc]
  | a, b :: r => by
    have := @chain_append O N x e q b r
    simp [Chain, and_assoc, this]
theorem Chain.congr {O N O' N' : Nat → Nat} {e : Nat} : ∀ {a : Nat} {p : List Nat}, Chain O N a p e → (∀ y, y = a ∨ y ∈ p → N' y = N y) → (∀ y, y = e ∨ y ∈ p → O' y = O y) → Chain O' N' a p e
  | a, [], h, hN, hO => ⟨(hN a (.inl rfl)).trans h.1, (hO e (.inl rfl)).trans h.2⟩
  | a, b :: r, h, hN, hO => ⟨(hN a (.inl rfl)).trans h.1, (hO b (.inr (List.mem_cons_self ..))).trans h.2.1,
      h.2.2.congr (fun y hy => hN y (.inr (by rcases hy with rfl | hy; exact List.mem_cons_self ..; exact List.mem_cons_of_mem _ hy))) (fun y hy => hO y (by rcases hy with rfl | hy; exact .inl rfl; exact .inr (List.mem_cons_of_mem _ hy)))⟩
theorem Chain.ends {O N : Nat → Nat} {e : Nat} : ∀ {a : Nat} {p : List Nat}, Chain O N a p e → N (lst a p) = e ∧ O e = lst a p
  | _, [], h => h
  | _, _ :: _, h => h.2.2.ends
theorem Chain.first {O N : Nat → Nat} {e a : Nat} {p : List Nat} (h : Chain O N a p e) : N a = hed p e := by
  cases p with
  | nil => exact h.1
  | cons b r => exact h.1
/-- The last one leads elsewhere. -/
theorem Chain.turn {O N : Nat → Nat} {e y : Nat} : ∀ {a : Nat} {p : List Nat}, Chain O N a p e → (a :: p).Nodup → y ∉ p → Chain (upd O y (lst a p)) (upd N (lst a p) y) a p y
  | a, [], _, _, _ => ⟨upd_same _ _ _, upd_same _ _ _⟩
  | a, b :: r, h, hn, hy => by
    have hn' : (b :: r).Nodup := (List.nodup_cons.1 hn).2
    have ha : a ∉ b :: r := (List.nodup_cons.1 hn).1
    have hl : a ≠ lst b r := by
      rintro rfl
      rcases lst_mem b r with h' | h'
      · rw [h'] at ha; exact ha (List.mem_cons_self ..)
      · exact ha (List.mem_cons_of_mem _ h')
    have hb : b ≠ y := fun e => hy (e ▸ List.mem_cons_self ..)
    refine ⟨?_, ?_, h.2.2.turn hn' (fun e => hy (List.mem_cons_of_mem _ e))⟩
    · show upd N (lst b r) y a = b
      rw [upd_other _ hl]; exact h.1
    · show upd O y (lst b r) b = a
      rw [upd_other _ hb]; exact h.2.1
theorem nodup_mid {e x : Nat} {p q : List Nat} (h : (e :: (p ++ x :: q)).Nodup) : (e :: p).Nodup ∧ x ∉ p ∧ x ≠ e ∧ x ∉ q ∧ e ∉ q ∧ q.Nodup ∧ (∀ y, y ∈ q → y ∉ p) ∧ e ∉ p := by
  simp only [List.nodup_cons, List.nodup_append, List.mem_append, List.mem_cons] at h ⊢
  obtain ⟨h1, h2, ⟨h3, h4⟩, h5⟩ := h
  refine ⟨⟨fun h => h1 (.inl h), h2⟩, fun h => (h5 x h x (.inl rfl)) rfl, fun h => h1 (.inr (.inl h.symm)), h3, fun h => h1 (.inr (.inr h)), h4, fun y hy hp => h5 y hp y (.inr hy) rfl, fun h => h1 (.inl h)⟩
/-- One of the ring is taken out. -/
theorem ring_out {O N : Nat → Nat} {e x : Nat} {p q : List Nat} (h : Chain O N e (p ++ x :: q) e) (hn : (e :: (p ++ x :: q)).Nodup) :
    O x = lst e p ∧ N x = hed q e ∧ Chain (upd O (hed q e) (lst e p)) (upd N (lst e p) (hed q e)) e (p ++ q) e := by
  obtain ⟨h1, h2⟩ := chain_append.1 h
  obtain ⟨n1, n2, n3, n4, n5, n6, n7, n8⟩ := nodup_mid hn
  refine ⟨h1.ends.2, h2.first, ?_⟩
  cases q with
  | nil => rw [List.append_nil]; exact h1.turn n1 n8
  | cons b r =>
    refine chain_append.2 ⟨h1.turn n1 (n7 b (List.mem_cons_self ..)), h2.2.2.congr (fun y hy => upd_other _ ?_) (fun y hy => upd_other _ ?_)⟩
    · have hy' : y ∈ b :: r := by rcases hy with rfl | hy; exact List.mem_cons_self ..; exact List.mem_cons_of_mem _ hy
      rintro rfl
      rcases lst_mem e p with h' | h'
      · rw [h'] at hy'; exact n5 hy'
      · exact n7 _ hy' h'
    · show y ≠ b
      rintro rfl
      rcases hy with h' | h'
      · exact n5 (h' ▸ List.mem_cons_self ..)
      · exact (List.nodup_cons.1 n6).1 h'
/-- One is laid into the ring, as the last. -/
theorem ring_in {O N : Nat → Nat} {e x : Nat} {p : List Nat} (h : Chain O N e p e) (hn : (e :: p).Nodup) (hx : x ≠ e) (hp : x ∉ p) :
    O e = lst e p ∧ Chain (upd (upd O x (lst e p)) e x) (upd (upd N x e) (lst e p) x) e (p ++ [x]) e := by
  refine ⟨h.ends.2, chain_append.2 ⟨(h.turn hn hp).congr (fun y hy => ?_) (fun y hy => ?_), ?_, upd_same _ _ _⟩⟩
  · have hy' : y ≠ x := by rcases hy with rfl | hy; exact hx.symm; exact fun e => hp (e ▸ hy)
    simp only [upd, if_neg hy']
  · have hy' : y ≠ e := by rcases hy with rfl | hy; exact hx; exact fun e => (List.nodup_cons.1 hn).1 (e ▸ hy)
    exact upd_other _ hy'
  · have hl : x ≠ lst e p := by
      rintro rfl
      rcases lst_mem e p with h' | h'
      · exact hx h'
      · exact hp h'
    rw [upd_other _ hl, upd_same]
end Go.Proofs.Ytdmnddikcpfmfaa

/-
  Rc1, Rc2 in one.
-/
import Derived.Test.YtdjanbojhblijaaGreatLkAg
set_option maxRecDepth 100000
set_option linter.unusedVariables false
set_option linter.unusedSimpArgs false
namespace Go.Proofs.YtdjanbojhblijaaGreat
open Mc Go.RowKit
namespace LW
theorem own_baseR {W : World} {B B' k n : Nat} {t : TypeId} {v : Value} {xs : List Value} (h : W.ownsRow B t k v n xs) (hB : B' ≤ B) : W.ownsRow B' t k v n xs := by
 refine ⟨h.1, ?_⟩
 rcases h.2 with h1 | ⟨g, cap, cur, e, h1, h2⟩
 ·exact .inl h1
 ·exact .inr ⟨g, cap, cur, e, Nat.le_trans hB h1, h2⟩
def up3 {α : Type} (f : Bool → Nat → Nat → α) (s : Bool) (c p : Nat) (u : α) : Bool → Nat → Nat → α := fun s' c' p' => if s' = s ∧ c' = c ∧ p' = p then u else f s' c' p'
theorem up3_same {α : Type} (f : Bool → Nat → Nat → α) (s : Bool) (c p : Nat) (u : α) : up3 f s c p u s c p = u := if_pos ⟨rfl, rfl, rfl⟩
theorem up3_other {α : Type} (f : Bool → Nat → Nat → α) (s s' : Bool) (c c' p p' : Nat) (u : α) (h : ¬ (s' = s ∧ c' = c ∧ p' = p)) : up3 f s c p u s' c' p' = f s' c' p' := if_neg h
def fA (C M : Nat) (top : Bool → Value) (mid : Bool → Nat → Value) (iv inn : Bool → Nat → Nat → Value) (cs : Bool → Nat → Nat → List Int) : Bool × Option (Nat × Option Nat) → Rw
 | (s, none) => ⟨70, 1, top s, C, rwI C (mid s)⟩
 | (s, some (c, none)) => ⟨23, 1, mid s c, if c < C then M else 0, rwI (if c < C then M else 0) (iv s c)⟩
 | (s, some (c, some p)) => ⟨3, 1, inn s c p, (cs s c p).length, (cs s c p).map (Value.int .i64)⟩
structure AM (W : World) (B C M : Nat) (top : Bool → Value) (mid : Bool → Nat → Value) (iv inn : Bool → Nat → Nat → Value) (cs : Bool → Nat → Nat → List Int) : Prop where
 fam : Fam W B (fA C M top mid iv inn cs)
section
variable {W W1 : World} {B C M : Nat} {top : Bool → Value} {mid : Bool → Nat → Value} {iv inn : Bool → Nat → Nat → Value} {cs : Bool → Nat → Nat → List Int}
theorem AM.below (h : AM W B C M top mid iv inn cs) (hb : Below W.heap.size W W1) : AM W1 B C M top mid iv inn cs := ⟨h.fam.below hb⟩
theorem AM.topAt (h : AM W B C M top mid iv inn cs) (s : Bool) (c : Nat) (hc : c < C) : ∃ b cap, top s = .slice (some ⟨b, 0, none⟩) C cap ∧ B ≤ b ∧ W.cell? ⟨b, c, none⟩ = some (mid s c) ∧ W.frozen? ⟨b, c, none⟩ = false := by
 have hl : c < (fA C M top mid iv inn cs (s, none)).con.length := by show c < (rwI C (mid s)).length; rw [rwI_len]; exact hc
 obtain ⟨b, cap, e, h1, h2, h3⟩ := h.fam.cell (s, none) c hl
 refine ⟨b, cap, e, h1, ?_, h3⟩
 rw [h2]
 show some ((rwI C (mid s)).getD c (.bool false)) = _
 rw [List.getD_eq_getElem?_getD, rwI_get C _ c hc]
 rfl
theorem AM.midAt (h : AM W B C M top mid iv inn cs) (s : Bool) (c p : Nat) (hc : c < C) (hp : p < M) : ∃ b cap, mid s c = .slice (some ⟨b, 0, none⟩) M cap ∧ B ≤ b ∧ W.cell? ⟨b, p, none⟩ = some (iv s c p) ∧ W.frozen? ⟨b, p, none⟩ = false := by
 have hl : p < (fA C M top mid iv inn cs (s, some (c, none))).con.length := by
  show p < (rwI (if c < C then M else 0) (iv s c)).length
  rw [rwI_len, if_pos hc]; exact hp
 obtain ⟨b, cap, e, h1, h2, h3⟩ := h.fam.cell (s, some (c, none)) p hl
 have e : mid s c = .slice (some ⟨b, 0, none⟩) (if c < C then M else 0) cap := e
 rw [if_pos hc] at e
 refine ⟨b, cap, e, h1, ?_, h3⟩
 rw [h2]
 show some ((rwI (if c < C then M else 0) (iv s c)).getD p (.bool false)) = _
 rw [List.getD_eq_getElem?_getD, rwI_get _ _ p (by rw [if_pos hc]; exact hp)]
 rfl
theorem AM.innIs (h : AM W B C M top mid iv inn cs) (s : Bool) (c p : Nat) : ∃ a k, inn s c p = .slice a (cs s c p).length k ∧ NR W a (cs s c p) := by
 have ho : W.ownsRow B 3 1 (inn s c p) (cs s c p).length ((cs s c p).map (Value.int .i64)) := h.fam.own (s, some (c, some p))
 rcases ho.2 with ⟨e, h0⟩ | ⟨g, cap, cur, e, _, hh, h1, _⟩
 ·exact ⟨none, 0, by rw [e, h0], .inl (List.eq_nil_of_length_eq_zero h0)⟩
 ·refine ⟨_, cap, e, .inr ⟨g, 0, rfl, fun j hj => ?_⟩⟩
  have hc := ho.cells (g := g) (by rw [e]; rfl) j (.int .i64 ((cs s c p).getD j 0)) (by rw [List.getElem?_map, List.getElem?_eq_getElem hj, List.getD_eq_getElem?_getD, List.getElem?_eq_getElem hj]; rfl)
  rw [Nat.zero_add]
  unfold Addr.add at hc
  split at hc
  ·rename_i h0; rw [h0] at hc ⊢; exact hc
  ·simpa using hc
theorem AM.midIs (h : AM W B C M top mid iv inn cs) (s : Bool) (c : Nat) (hc : c < C) : ∃ a k, mid s c = .slice a M k := by
 have h1 := own_openE (h.fam.own (s, some (c, none)))
 obtain ⟨a, k, e⟩ := h1
 have e : mid s c = .slice a (if c < C then M else 0) k := e
 rw [if_pos hc] at e
 exact ⟨a, k, e⟩
/-- A row of accesses grows. -/
theorem AM.appI (h : AM W B C M top mid iv inn cs) (s : Bool) (c p : Nat) (x : Int) (u : Value) (ho : W1.ownsRow B 3 1 u ((cs s c p).length + 1) ((cs s c p).map (Value.int .i64) ++ [.int .i64 x])) (hg : W.grownBy W1 (inn s c p).ownBlock) (hat : u.ownBlock = (inn s c p).ownBlock ∨ u.ownBlock = some W.heap.size) : AM W1 B C M top mid iv (up3 inn s c p u) (up3 cs s c p (cs s c p ++ [x])) := by
 have h1 := h.fam.grown (s, some (c, some p)) ⟨3, 1, u, (cs s c p).length + 1, (cs s c p).map (Value.int .i64) ++ [Value.int .i64 x]⟩ hg ho (hat.imp id (fun e b hb => by rw [e] at hb; injection hb with hb; omega))
 refine ⟨h1.congr (fun i => ?_)⟩
 obtain ⟨s', i⟩ := i
 rcases i with _ | ⟨c', _ | p'⟩
 ·rw [upd_other _ _ _ _ (by intro e; cases e)]; rfl
 ·rw [upd_other _ _ _ _ (by intro e; cases e)]; rfl
 ·by_cases e : s' = s ∧ c' = c ∧ p' = p
  ·obtain ⟨rfl, rfl, rfl⟩ := e
   rw [upd_same]
   unfold fA
   simp only [up3_same, List.length_append, List.map_append]
   rfl
  ·rw [upd_other _ _ _ _ (by intro e2; cases e2; exact e ⟨rfl, rfl, rfl⟩)]
   unfold fA
   simp only [up3_other _ _ _ _ _ _ _ _ e]
/-- A place of a cell's list is set. -/
theorem AM.setI (h : AM W B C M top mid iv inn cs) (s : Bool) (c p : Nat) (hc : c < C) (u : Value) {b k : Nat} (hm : mid s c = .slice (some ⟨b, 0, none⟩) M k) : AM (W.setCell ⟨b, p, none⟩ u) B C M top mid (up3 iv s c p u) inn cs := by
 have h1 := h.fam.set (s, some (c, none)) (b := b) (n := M) (cap := k) hm (if_pos hc) p u
 refine ⟨h1.congr (fun i => ?_)⟩
 obtain ⟨s', i⟩ := i
 rcases i with _ | ⟨c', _ | p'⟩
 ·rw [upd_other _ _ _ _ (by intro e; cases e)]; rfl
 ·by_cases e : s' = s ∧ c' = c
  ·obtain ⟨rfl, rfl⟩ := e
   rw [upd_same]
   unfold fA
   dsimp only
   congr 1
   symm
   refine rwI_set _ _ _ p u ?_ (fun j hj => ?_)
   ·exact up3_same iv s' c' p u
   ·exact up3_other _ _ _ _ _ _ _ _ (fun h => hj h.2.2)
  ·rw [upd_other _ _ _ _ (by intro e2; cases e2; exact e ⟨rfl, rfl⟩)]
   unfold fA
   dsimp only
   congr 1
   refine rwI_congr _ _ _ (fun j _ => ?_)
   exact up3_other _ _ _ _ _ _ _ _ (fun h => e ⟨h.1, h.2.1⟩)
 ·rw [upd_other _ _ _ _ (by intro e; cases e)]; rfl
end
/-- One such list of lists, so far as it has been made. -/
def fN (C M k : Nat) (top : Value) (mid : Nat → Value) : Option Nat → Rw
 | none => ⟨70, 1, top, C, rwI C mid⟩
 | some c => ⟨23, 1, mid c, if c < k then M else 0, List.replicate (if c < k then M else 0) (.slice none 0 0)⟩
structure AN (W : World) (B C M k : Nat) (top : Value) (mid : Nat → Value) : Prop where
 fam : Fam W B (fN C M k top mid)
 lo : ∀ c, k ≤ c → mid c = .slice none 0 0
theorem AN.below {W W1 : World} {B C M k : Nat} {top : Value} {mid : Nat → Value} (h : AN W B C M k top mid) (hb : Below W.heap.size W W1) : AN W1 B C M k top mid := ⟨h.fam.below hb, h.lo⟩
theorem AN.topAt {W : World} {B C M k : Nat} {top : Value} {mid : Nat → Value} (h : AN W B C M k top mid) (c : Nat) (hc : c < C) : ∃ b cap, top = .slice (some ⟨b, 0, none⟩) C cap ∧ W.cell? ⟨b, c, none⟩ = some (mid c) ∧ W.frozen? ⟨b, c, none⟩ = false := by
 have hl : c < (fN C M k top mid none).con.length := by show c < (rwI C mid).length; rw [rwI_len]; exact hc
 obtain ⟨b, cap, e, h1, h2, h3⟩ := h.fam.cell none c hl
 refine ⟨b, cap, e, ?_, h3⟩
 rw [h2]
 show some ((rwI C mid).getD c (.bool false)) = _
 rw [List.getD_eq_getElem?_getD, rwI_get C _ c hc]
 rfl
/-- A box of another type is written. -/
theorem AN.setB {W : World} {B C M k g : Nat} {top : Value} {mid : Nat → Value} {c cs : Array Value} (h : AN W B C M k top mid) (hg : W.heap[g]? = some (.cells c 89 (0, 0))) : AN (W.setRow g cs) B C M k top mid := by
 refine ⟨h.fam.keep (fun i b hb => setRow_other _ _ _ _ (fun e => ?_)), h.lo⟩
 subst e
 refine own_neB (h.fam.own i) hg ?_ hb
 rcases i with _ | c
 ·show 70 ≠ _
  decide
 ·show 23 ≠ _
  decide
theorem AN.start {W W1 : World} {C M : Nat} {top : Value} (hb : Below W.heap.size W W1) (ho : W1.ownsRow W.heap.size 70 1 top C (List.replicate C (.slice none 0 0))) : AN W1 W.heap.size C M 0 top (fun _ => .slice none 0 0) := by
 have g1 := Fam.none W W.heap.size (fun i : Option Nat => match i with | none => 70 | some _ => 23) (fun _ => 1)
 have g2 := g1.fresh none ⟨70, 1, top, C, List.replicate C (.slice none 0 0)⟩ hb ho (fun b e => own_blkI ho b e)
 refine ⟨g2.congr (fun i => ?_), fun _ _ => rfl⟩
 rcases i with _ | c
 ·rw [upd_same]
  unfold fN
  dsimp only
  congr 1
  unfold rwI
  rw [List.map_const', List.length_range]
 ·rw [upd_other _ _ _ _ (by intro e; cases e)]
  unfold fN
  simp
/-- A cell's list is made and put into its place. -/
theorem AN.next {W W1 : World} {B C M k b cap : Nat} {top : Value} {mid : Nat → Value} (h : AN W B C M k top mid) (ht : top = .slice (some ⟨b, 0, none⟩) C cap) (hb : Below W.heap.size W W1) (u : Value) (ho : W1.ownsRow B 23 1 u M (List.replicate M (.slice none 0 0))) (hu : ∀ q, u.ownBlock = some q → W.heap.size ≤ q) : AN (W1.setCell ⟨b, k, none⟩ u) B C M (k + 1) top (fun c => if c = k then u else mid c) := by
 have g1 := h.fam.fresh (some k) ⟨23, 1, u, M, List.replicate M (.slice none 0 0)⟩ hb ho hu
 have g2 := g1.set none (b := b) (n := C) (cap := cap) (by rw [upd_other _ _ _ _ (by intro e; cases e)]; exact ht) (by rw [upd_other _ _ _ _ (by intro e; cases e)]; rfl) k u
 refine ⟨g2.congr (fun i => ?_), fun c hc => by show (if c = k then u else mid c) = _; rw [if_neg (by omega)]; exact h.lo c (by omega)⟩
 rcases i with _ | c
 ·rw [upd_same, upd_other _ _ _ _ (by intro e; cases e)]
  unfold fN
  dsimp only
  congr 1
  symm
  refine rwI_set _ _ _ k u (if_pos rfl) (fun j hj => if_neg hj)
 ·rw [upd_other _ _ _ _ (by intro e; cases e)]
  by_cases e : c = k
  ·subst e
   rw [upd_same]
   unfold fN
   simp
  ·rw [upd_other _ _ _ _ (by intro e2; injection e2 with e2; exact e e2)]
   unfold fN
   dsimp only
   rw [if_neg e]
   by_cases c1 : c < k
   ·rw [if_pos c1, if_pos (by omega)]
   ·rw [if_neg c1, if_neg (by omega)]
/-- Two of them, made one behind the other. -/
theorem AN.join {W : World} {B B2 C M : Nat} {t1 t2 : Value} {m1 m2 : Nat → Value} (h1 : AN W B C M C t1 m1) (h2 : AN W B2 C M C t2 m2) (hB : B ≤ B2) (hlt : ∀ i b, (fN C M C t1 m1 i).val.ownBlock = some b → b < B2) : AM W B C M (fun s => if s = true then t2 else t1) (fun s => if s = true then m2 else m1) (fun _ _ _ => .slice none 0 0) (fun _ _ _ => .slice none 0 0) (fun _ _ _ => []) := by
 have hge : ∀ i b, (fN C M C t2 m2 i).val.ownBlock = some b → B2 ≤ b := fun i b hb => own_blkI (h2.fam.own i) b hb
 have hrep : ∀ n, rwI n (fun _ => Value.slice none 0 0) = List.replicate n (.slice none 0 0) := fun n => by
  unfold rwI
  rw [List.map_const', List.length_range]
 refine ⟨⟨fun i => ?_, fun i j b hi hj => ?_⟩⟩
 ·obtain ⟨s, i⟩ := i
  rcases i with _ | ⟨c, _ | p⟩
  ·cases s with
   | false => exact h1.fam.own none
   | true => exact own_baseR (h2.fam.own none) hB
  ·show World.ownsRow _ _ _ _ _ _ _
   unfold fA
   dsimp only
   rw [hrep]
   cases s with
   | false => exact h1.fam.own (some c)
   | true => exact own_baseR (h2.fam.own (some c)) hB
  ·exact World.ownsRow_nil _ _ _ _
 ·have key : ∀ (s : Bool) (i : Option (Nat × Option Nat)) (b : Nat), (fA C M (fun s => if s = true then t2 else t1) (fun s => if s = true then m2 else m1) (fun _ _ _ => .slice none 0 0) (fun _ _ _ => .slice none 0 0) (fun _ _ _ => []) (s, i)).val.ownBlock = some b → ∃ k : Option Nat, i = k.map (fun c => (c, none)) ∧ (if s = true then (fN C M C t2 m2 k).val.ownBlock = some b else (fN C M C t1 m1 k).val.ownBlock = some b) := by
   intro s i b hb
   rcases i with _ | ⟨c, _ | p⟩
   ·exact ⟨none, rfl, by cases s <;> exact hb⟩
   ·exact ⟨some c, rfl, by cases s <;> exact hb⟩
   ·cases hb
  obtain ⟨s1, i1⟩ := i
  obtain ⟨s2, i2⟩ := j
  obtain ⟨k1, e1, g1⟩ := key s1 i1 b hi
  obtain ⟨k2, e2, g2⟩ := key s2 i2 b hj
  subst e1 e2
  cases s1 with
  | false =>
   have g1 : (fN C M C t1 m1 k1).val.ownBlock = some b := g1
   cases s2 with
   | false =>
    have g2 : (fN C M C t1 m1 k2).val.ownBlock = some b := g2
    rw [h1.fam.dis k1 k2 b g1 g2]
   | true =>
    have g2 : (fN C M C t2 m2 k2).val.ownBlock = some b := g2
    have := hlt k1 b g1
    have := hge k2 b g2
    omega
  | true =>
   have g1 : (fN C M C t2 m2 k1).val.ownBlock = some b := g1
   cases s2 with
   | false =>
    have g2 : (fN C M C t1 m1 k2).val.ownBlock = some b := g2
    have := hlt k2 b g2
    have := hge k1 b g1
    omega
   | true =>
    have g2 : (fN C M C t2 m2 k2).val.ownBlock = some b := g2
    rw [h2.fam.dis k1 k2 b g1 g2]
end LW
end Go.Proofs.YtdjanbojhblijaaGreat
namespace Go.Proofs.YtdjanbojhblijaaGreat
open List renaming setIfInBounds_toArray → lpA, set_cons_zero → lpZ, set_cons_succ → lpS, getElem_toArray → lgT, getElem_cons_zero → lgZ, getElem_cons_succ → lgS
open Go.RowKit
set_option linter.unusedVariables false
set_option linter.unusedSimpArgs false
namespace LW
open Mc
theorem sinfoA : (Tryz.prog.info? 70).map (fun i => (i.zero, i.size, i.bytes)) = some (some (.slice none 0 0), 1, 24) := by kernel_rfl
theorem sinfoB : (Tryz.prog.info? 23).map (fun i => (i.zero, i.size, i.bytes)) = some (some (.slice none 0 0), 1, 24) := by kernel_rfl
theorem cellsR3 {w : World} {b : Nat} {t : TypeId} {v0 v1 v2 : Value} (h : w.heap[b]? = some (.cells #[v0, v1, v2] t (0, 0))) : w.cell? ⟨b, 0, none⟩ = some v0 ∧ w.cell? ⟨b, 1, none⟩ = some v1 ∧ w.cell? ⟨b, 2, none⟩ = some v2 := by
 simp [World.cell?, h]
theorem cellsR2 {w : World} {b : Nat} {t : TypeId} {v0 v1 : Value} (h : w.heap[b]? = some (.cells #[v0, v1] t (0, 0))) : w.cell? ⟨b, 0, none⟩ = some v0 ∧ w.cell? ⟨b, 1, none⟩ = some v1 := by
 simp [World.cell?, h]
set_option maxRecDepth 100000 in
set_option maxHeartbeats 40000000 in
theorem pnewAcc (s : Syst) (pa : Option Addr) (pc : Nat) (ra : Option Addr) (rc : Nat) (la : Option Addr) (lc : Nat) (l : List Ev) (C M : Nat) (first : Int) (w : World) (hC : s.cells = (C : Int)) (hC6 : C ≤ 1000000) (hM6 : M ≤ 1000000) :
  Calls Tryz.prog 41 #[.agg #[.slice pa s.progs.length pc, .slice ra s.rooms.length rc, .int .i64 s.groups, .int .i64 s.locks, .int .i64 s.cells, .slice la l.length lc, .int .i64 (Tr.rnC l : Int)], .agg #[.int .i64 first, .int .i64 (M : Int)]] w (fun e w' => ∃ (top : Value) (mid : Nat → Value), e = .returned (.agg #[.int .i64 first, .int .i64 (M : Int), top]) ∧ AN w' w.heap.size C M C top mid ∧ Below w.heap.size w w') := by
 obtain ⟨POST, hP⟩ : ∃ P : Ending → World → Prop, P = fun e w' => ∃ (top : Value) (mid : Nat → Value), e = .returned (.agg #[.int .i64 first, .int .i64 (M : Int), top]) ∧ AN w' w.heap.size C M C top mid ∧ Below w.heap.size w w' := ⟨_, rfl⟩
 have HPo : Hid (∀ top mid w', AN w' w.heap.size C M C top mid → Below w.heap.size w w' → POST (.returned (.agg #[.int .i64 first, .int .i64 (M : Int), top])) w') := fun top mid w' q1 q2 => by rw [hP]; exact ⟨top, mid, rfl, q1, q2⟩
 rw [← hP, hC]
 clear hP
 have NB : Hid (Below w.heap.size w (((w.alloc (.cells #[.slice pa s.progs.length pc, .slice ra s.rooms.length rc, .int .i64 s.groups, .int .i64 s.locks, .int .i64 (C : Int), .slice la l.length lc, .int .i64 (Tr.rnC l : Int)] 43)).alloc (.cells #[.int .i64 first, .int .i64 (M : Int)] 63)).alloc (.cells #[.int .i64 0, .int .i64 0, .slice none 0 0] 89))) := (((Below.refl _ _).alloc (Nat.le_refl _) _).alloc (by simp) _).alloc (by simp; omega) _
 have N1 : Hid ((((w.alloc (.cells #[.slice pa s.progs.length pc, .slice ra s.rooms.length rc, .int .i64 s.groups, .int .i64 s.locks, .int .i64 (C : Int), .slice la l.length lc, .int .i64 (Tr.rnC l : Int)] 43)).alloc (.cells #[.int .i64 first, .int .i64 (M : Int)] 63)).alloc (.cells #[.int .i64 0, .int .i64 0, .slice none 0 0] 89)).heap[w.heap.size]? = some (.cells #[.slice pa s.progs.length pc, .slice ra s.rooms.length rc, .int .i64 s.groups, .int .i64 s.locks, .int .i64 (C : Int), .slice la l.length lc, .int .i64 (Tr.rnC l : Int)] 43 (0, 0))) := blk_alloc (blk_alloc (heap_alloc_new w _))
 have N2 : Hid ((((w.alloc (.cells #[.slice pa s.progs.length pc, .slice ra s.rooms.length rc, .int .i64 s.groups, .int .i64 s.locks, .int .i64 (C : Int), .slice la l.length lc, .int .i64 (Tr.rnC l : Int)] 43)).alloc (.cells #[.int .i64 first, .int .i64 (M : Int)] 63)).alloc (.cells #[.int .i64 0, .int .i64 0, .slice none 0 0] 89)).heap[w.heap.size + 1]? = some (.cells #[.int .i64 first, .int .i64 (M : Int)] 63 (0, 0))) := by
  have h1 := heap_alloc_new (w.alloc (.cells #[.slice pa s.progs.length pc, .slice ra s.rooms.length rc, .int .i64 s.groups, .int .i64 s.locks, .int .i64 (C : Int), .slice la l.length lc, .int .i64 (Tr.rnC l : Int)] 43)) (.cells #[.int .i64 first, .int .i64 (M : Int)] 63)
  have h2 : (w.alloc (.cells #[.slice pa s.progs.length pc, .slice ra s.rooms.length rc, .int .i64 s.groups, .int .i64 s.locks, .int .i64 (C : Int), .slice la l.length lc, .int .i64 (Tr.rnC l : Int)] 43)).heap.size = w.heap.size + 1 := by simp
  rw [h2] at h1
  exact blk_alloc h1
 have N3 : Hid ((((w.alloc (.cells #[.slice pa s.progs.length pc, .slice ra s.rooms.length rc, .int .i64 s.groups, .int .i64 s.locks, .int .i64 (C : Int), .slice la l.length lc, .int .i64 (Tr.rnC l : Int)] 43)).alloc (.cells #[.int .i64 first, .int .i64 (M : Int)] 63)).alloc (.cells #[.int .i64 0, .int .i64 0, .slice none 0 0] 89)).heap[w.heap.size + 1 + 1]? = some (.cells #[.int .i64 0, .int .i64 0, .slice none 0 0] 89 (0, 0))) := by
  have h1 := heap_alloc_new ((w.alloc (.cells #[.slice pa s.progs.length pc, .slice ra s.rooms.length rc, .int .i64 s.groups, .int .i64 s.locks, .int .i64 (C : Int), .slice la l.length lc, .int .i64 (Tr.rnC l : Int)] 43)).alloc (.cells #[.int .i64 first, .int .i64 (M : Int)] 63)) (.cells #[.int .i64 0, .int .i64 0, .slice none 0 0] 89)
  have h2 : ((w.alloc (.cells #[.slice pa s.progs.length pc, .slice ra s.rooms.length rc, .int .i64 s.groups, .int .i64 s.locks, .int .i64 (C : Int), .slice la l.length lc, .int .i64 (Tr.rnC l : Int)] 43)).alloc (.cells #[.int .i64 first, .int .i64 (M : Int)] 63)).heap.size = w.heap.size + 1 + 1 := by simp
  rw [h2] at h1
  exact h1
 obtain ⟨i3, hi3, hz30, hz31, hz32⟩ := info_parts' sinfoA
 obtain ⟨i4, hi4, hz40, hz41, hz42⟩ := info_parts' sinfoB
 clear hC
 go_enter Tryz.func41, Tryz.ntmps41
 refine wp_seq_k fun K1 hK1 => ?_
 have HK1 := TW.hide hK1
 clear hK1
 go_wp2
 refine HK1.out _ _ ?_
 clear HK1
 generalize World.alloc _ _ = X at *
 have hgw : w.heap.size + 1 + 1 < X.heap.size := blk_lt N3.out
 have HGw : Hid (w.heap.size ≤ X.heap.size) := by show _ ≤ _; omega
 obtain ⟨g2, hg2⟩ : ∃ g, w.heap.size + 1 = g := ⟨_, rfl⟩
 rw [hg2] at N2 N3 hgw ⊢
 obtain ⟨g3, hg3⟩ : ∃ g, g2 + 1 = g := ⟨_, rfl⟩
 rw [hg3] at N3 hgw ⊢
 have HGw3 : Hid (w.heap.size + 1 + 1 = g3) := by show _ = _; omega
 clear hg2 hg3
 have HX : Hid (Below X.heap.size X X) := Below.refl _ _
 refine wp_seq_k fun K2 hK2 => ?_
 have HR : Hid (∀ (TB ga : Nat) (W : World) {u6 u7 u8 u9 u10 u11 u12 u13 u14 u15 u16 u17 u18 u19 u20 u21 u22 u23 u24 u25 u26 u27 : Value}, W.ownsRow w.heap.size 70 1 (.slice (some ⟨TB, 0, none⟩) C C) C (List.replicate C (.slice none 0 0)) → W.heap[ga]? = some (.cells #[.int .i64 first, .int .i64 (M : Int), .slice (some ⟨TB, 0, none⟩) C C] 89 (0, 0)) → X.heap.size ≤ ga → Below X.heap.size X W → K2 { tmps := #[.agg #[.slice pa s.progs.length pc, .slice ra s.rooms.length rc, .int .i64 s.groups, .int .i64 s.locks, .int .i64 (C : Int), .slice la l.length lc, .int .i64 (Tr.rnC l : Int)], .agg #[.int .i64 first, .int .i64 (M : Int)], .pointer (some ⟨w.heap.size, 0, none⟩), .pointer (some ⟨g2, 0, none⟩), .pointer (some ⟨g3, 0, none⟩), .pointer (some ⟨ga, 0, none⟩), u6, u7, u8, u9, u10, u11, u12, u13, u14, u15, u16, u17, u18, u19, u20, u21, u22, u23, u24, u25, u26, u27], defers := [] } W) := by
  refine TW.hide ?_
  intro TB ga W u6 u7 u8 u9 u10 u11 u12 u13 u14 u15 u16 u17 u18 u19 u20 u21 u22 u23 u24 u25 u26 u27 ho hga hgB hb
  have HBw : Hid (Below w.heap.size w W) := NB.trans (hb.mono HGw.out)
  have HM0 : Hid (AN W w.heap.size C M 0 (.slice (some ⟨TB, 0, none⟩) C C) (fun _ => .slice none 0 0)) := AN.start HBw.out ho
  have NA0 := TW.hide hga
  have N20 := TW.hide (blk_keep N2 hb)
  have N30 := TW.hide (blk_keep N3 hb)
  have HB0 := TW.hide hb
  have HGa : Hid (X.heap.size ≤ ga) := hgB
  obtain ⟨c0, c1, c2⟩ := cellsR3 hga
  clear ho hga hb hgB
  refine hK2 _ _ ?_
  clear hK2
  refine wp_seq_k fun K3 hK3 => ?_
  have HK3 := TW.hide hK3
  clear hK3
  go_wp2
  clear c0 c1 c2
  go_loopw [16] (fun kv wr => ∃ (k : Nat) (mid : Nat → Value), k ≤ C ∧ kv = .int .i64 (k : Int) ∧ Hid (AN wr w.heap.size C M k (.slice (some ⟨TB, 0, none⟩) C C) mid) ∧ Hid (wr.heap[ga]? = some (.cells #[.int .i64 first, .int .i64 (M : Int), .slice (some ⟨TB, 0, none⟩) C C] 89 (0, 0))) ∧ Hid (wr.heap[g2]? = some (.cells #[.int .i64 first, .int .i64 (M : Int)] 63 (0, 0))) ∧ Hid (wr.heap[g3]? = some (.cells #[.int .i64 0, .int .i64 0, .slice none 0 0] 89 (0, 0))) ∧ Hid (Below w.heap.size w wr)) (fun kv wr => C - (intOf kv).toNat)
  case atStart => exact ⟨0, _, Nat.zero_le _, rfl, HM0, NA0, N20, N30, HBw⟩
  case round =>
   clear HM0 NA0 N20 N30 HBw
   obtain ⟨k, mid, hk, rfl, HM, NA, N2, N3, HB⟩ := hrel
   obtain ⟨wk, rfl⟩ : ∃ x, x = wr := ⟨_, rfl⟩
   by_cases hlt : k < C
   ·have q1 : (k : Int) < (C : Int) := by omega
    have q0 : (0 : Int) ≤ (k : Int) := by omega
    have HLk : Hid (k < C) := hlt
    have HBs : Hid (w.heap.size ≤ wk.heap.size) := HB.out.size
    clear hlt hk
    refine wp_seq_k fun Ka hKa => ?_
    have HKa := TW.hide hKa
    clear hKa
    go_wp2
    refine HKa.out _ _ ?_
    clear HKa
    refine wp_seq_k fun Kb hKb => ?_
    have HKb := TW.hide hKb
    clear hKb
    go_wp2
    refine HKb.out _ _ ?_
    clear HKb
    refine wp_seq_k fun K5 hK5 => ?_
    have HK5 := TW.hide hK5
    clear hK5
    refine wp_block ?_
    refine wp_seq_k fun K4 hK4 => ?_
    have HK4 := TW.hide hK4
    clear hK4
    go_wp2
    refine HK4.out _ _ ?_
    clear HK4
    refine wp_region_noPanic ?_
    refine RG.wp_region_L (fun Z => Below wk.heap.size wk Z) (fun Z => True) [7] (by kernel_rfl) ?_
    refine RG.wpL_any fun Ym5 hY => ?_
    have HBm5 : Hid (Below wk.heap.size wk Ym5) := by rw [hY]; exact below_drewN (Below.refl _ _) 1
    clear hY
    refine RG.wpL_takeS (fuel := 3) (a' := ?Am5) [0, 1, 2, 3, 4] (by kernel_rfl) (by kernel_rfl) (fun _ _ _ _ _ h => h) trivial (HBm5.out) ?rm5 ?_
    case rm5 =>
     refine RG.RunsS.one (v := ?_) (by rfl) (by rfl) (fun Z hT hS => ?_) ?_
     rotate_left
     ·go_simp
      rfl
     simp only [Act.put, lpA, lpZ, lpS, lgT, lgZ, lgS]
     refine RG.RunsS.one (v := .slice (some ⟨TB, 0, none⟩) C C) (by rfl) (by rfl) (fun Z hT hS => ?_) ?_
     ·obtain ⟨c0, c1, c2⟩ := cellsR3 (blk_keep NA.out hS); obtain ⟨b0, b1⟩ := cellsR2 (blk_keep N2.out hS)
      go_simp
     simp only [Act.put, lpA, lpZ, lpS, lgT, lgZ, lgS]
     iterate 2
      refine RG.RunsS.one (v := ?_) (by rfl) (by rfl) (fun Z hT hS => ?_) ?_
      rotate_left
      ·go_simp
       rfl
      simp only [Act.put, lpA, lpZ, lpS, lgT, lgZ, lgS]
     refine RG.RunsS.one (v := .int .i64 (M : Int)) (by rfl) (by rfl) (fun Z hT hS => ?_) ?_
     ·obtain ⟨c0, c1, c2⟩ := cellsR3 (blk_keep NA.out hS); obtain ⟨b0, b1⟩ := cellsR2 (blk_keep N2.out hS)
      go_simp
     simp only [Act.put, lpA, lpZ, lpS, lgT, lgZ, lgS]
     exact RG.RunsS.nil
    refine RG.wpL_step (i := 5) (by kernel_rfl) (by rfl) (by rfl) (fun KX hK => ?_)
    have HK := TW.hide hK
    clear hK
    refine wp_make_full Ym5 _ _ 70 (by rfl) w.heap.size 23 i4 (.slice none 0 0) 1 Tryz.underlying70 hi4 hz40 hz41 .i64 .i64 (M : Int) (M : Int) M (by rfl) (by rfl) rfl rfl (by rw [hz42]; omega) (by unfold maxLen; omega) (Nat.le_trans HBs.out HBm5.out.size) ?_
    intro V hown hgrow
    rw [made_rep _ rfl] at hown
    have HO := TW.hide hown
    have HYV : Hid (Below Ym5.heap.size Ym5 V) := (Below.refl _ _).grown hgrow (Nat.le_refl _) (by intro k h; cases h)
    have HBv : Hid (Below wk.heap.size wk V) := HBm5.out.trans (HYV.out.mono HBm5.out.size)
    have HUy : Hid (wk.heap.size ≤ Ym5.heap.size) := HBm5.out.size
    refine HK.out _ _ trivial (fun _ => HBv.out) ?_
    clear HK KX hown hgrow
    try simp only [Act.put, lpA, lpZ, lpS, lgT, lgZ, lgS]
    obtain ⟨_, _, eT, cz, fz⟩ := (HM.out.below HBv.out).topAt k HLk.out
    injection eT with eT1 eT2 eT3
    injection eT1 with eT1
    injection eT1 with eT1
    subst eT1 eT3
    clear eT2
    refine RG.wpL_take (fuel := 1) (a' := ?Am6) [6] (by kernel_rfl) (by kernel_rfl) (fun _ _ _ _ _ h => h) trivial (fun _ => HBv.out) ?rm6 ?_
    case rm6 =>
     refine RG.RunsIf.weak (v := ?_) (by rfl) (by rfl) (fun Z hT => ?_) ?_
     rotate_left
     ·go_simp
      rfl
     simp only [Act.put, lpA, lpZ, lpS, lgT, lgZ, lgS]
     exact RG.RunsIf.nil
    refine RG.wpL_late (i := 7) (by kernel_rfl) (by rfl) (by rfl) (by kernel_rfl) (fun KX hK => ?_)
    have HK := TW.hide hK
    clear hK
    go_simp
    refine HK.out _ _ trivial ?_
    clear HK KX cz fz
    refine RG.wpL_done (by kernel_rfl) ?_ _
    refine NoPanic.normal ?_
    refine HK5.out _ _ ?_
    clear HK5
    have hto : wk.ownsRow w.heap.size 70 1 (.slice (some ⟨TB, 0, none⟩) C C) C (rwI C mid) := HM.out.fam.own none
    have htb : w.heap.size ≤ TB := own_blkI hto TB rfl
    have hne : ∀ (g : Nat) (c : Array Value) (t : TypeId), 70 ≠ t → wk.heap[g]? = some (.cells c t (0, 0)) → (V.setCell ⟨TB, k, none⟩ (.slice (some ⟨Ym5.heap.size, 0, none⟩) M M)).heap[g]? = some (.cells c t (0, 0)) := fun g c t h1 h2 => by
     rw [Below.heap_setCell _ _ _ _ (fun e => own_neB hto h2 h1 (by rw [e]; rfl))]
     exact blk_keep h2 HBv.out
    have HM5 : Hid (AN (V.setCell ⟨TB, k, none⟩ (.slice (some ⟨Ym5.heap.size, 0, none⟩) M M)) w.heap.size C M (k + 1) (.slice (some ⟨TB, 0, none⟩) C C) (fun c => if c = k then (.slice (some ⟨Ym5.heap.size, 0, none⟩) M M) else mid c)) := HM.out.next rfl HBv.out _ HO.out (fun q hq => by injection hq with hq; subst hq; exact HUy.out)
    have NA5 : Hid ((V.setCell ⟨TB, k, none⟩ (.slice (some ⟨Ym5.heap.size, 0, none⟩) M M)).heap[ga]? = some (.cells #[.int .i64 first, .int .i64 (M : Int), .slice (some ⟨TB, 0, none⟩) C C] 89 (0, 0))) := hne ga _ _ (by decide) NA.out
    have N25 : Hid ((V.setCell ⟨TB, k, none⟩ (.slice (some ⟨Ym5.heap.size, 0, none⟩) M M)).heap[g2]? = some (.cells #[.int .i64 first, .int .i64 (M : Int)] 63 (0, 0))) := hne g2 _ _ (by decide) N2.out
    have N35 : Hid ((V.setCell ⟨TB, k, none⟩ (.slice (some ⟨Ym5.heap.size, 0, none⟩) M M)).heap[g3]? = some (.cells #[.int .i64 0, .int .i64 0, .slice none 0 0] 89 (0, 0))) := hne g3 _ _ (by decide) N3.out
    have HB5 : Hid (Below w.heap.size w (V.setCell ⟨TB, k, none⟩ (.slice (some ⟨Ym5.heap.size, 0, none⟩) M M))) := (HB.out.trans (HBv.out.mono HB.out.size)).setCell (p := ⟨TB, k, none⟩) htb _
    clear hto htb hne HM NA N2 N3 HB HBv HYV HO HUy
    generalize World.setCell _ _ _ = wz at *
    generalize Ym5.heap.size = gu at *
    go_wp2
    go_roundw
    case rel => exact ⟨k + 1, _, HLk.out, by go_num, HM5, NA5, N25, N35, HB5⟩
    case measure => simp [intOf]; have := HLk.out; omega
   ·obtain rfl : k = C := by omega
    have q1 : ¬ (k : Int) < (k : Int) := by omega
    obtain ⟨c0, c1, c2⟩ := cellsR3 NA.out
    have N9 : Hid ((wk.setRow g3 #[.int .i64 first, .int .i64 (M : Int), .slice (some ⟨TB, 0, none⟩) k k]).heap[g3]? = some (.cells #[.int .i64 first, .int .i64 (M : Int), .slice (some ⟨TB, 0, none⟩) k k] 89 (0, 0))) := setRow_heap wk g3 #[.int .i64 0, .int .i64 0, .slice none 0 0] #[.int .i64 first, .int .i64 (M : Int), .slice (some ⟨TB, 0, none⟩) k k] _ _ N3.out
    have hg3 : w.heap.size ≤ g3 := by
     have := HGw3.out
     omega
    have HB9 : Hid (Below w.heap.size w (wk.setRow g3 #[.int .i64 first, .int .i64 (M : Int), .slice (some ⟨TB, 0, none⟩) k k])) := below_setRow HB.out hg3
    have HM9 : Hid (AN (wk.setRow g3 #[.int .i64 first, .int .i64 (M : Int), .slice (some ⟨TB, 0, none⟩) k k]) w.heap.size k M k (.slice (some ⟨TB, 0, none⟩) k k) mid) := HM.out.setB N3.out
    have HR9 := TW.hide (HPo.out _ _ _ HM9.out HB9.out)
    clear hlt hk HM HB HB9 HM9 hg3
    go_wp2
    refine HK3.out _ _ ?_
    go_wp2_with (first | (refine wpList_store_row (by rfl) 89 _ _ (by rfl) g3 #[.int .i64 first, .int .i64 (M : Int), .slice (some ⟨TB, 0, none⟩) k k] (by rfl) (by rfl) 89 _ N3.out (by kernel_rfl) (by rfl) (by simp [Value.oneCell']) ?_) | fail)
    refine bodyPost_ret (v := .agg #[.int .i64 first, .int .i64 (M : Int), .slice (some ⟨TB, 0, none⟩) k k]) (results_cell_row (P := Tryz.prog) Tryz.results41 _ _ g3 89 _ (0, 0) _ rfl N9.out Tryz.underlying89 rfl (by kernel_rfl)) rfl ?_
    exact HR9.out
 clear hK2
 refine wp_region_noPanic ?_
 refine RG.wp_region_L (fun Z => True) (fun Z => Below X.heap.size X Z) [] (by kernel_rfl) ?_
 refine RG.wpL_any fun Ya hY => ?_
 have HTa : Hid (Below X.heap.size X Ya) := by rw [hY]; exact below_drewN HX.out 1
 clear hY
 refine RG.wpL_take (fuel := 4) (a' := ?Aa) [0, 1, 2, 3] (by kernel_rfl) (by kernel_rfl) (fun _ _ _ _ _ h => h) HTa.out (fun _ => trivial) ?ra ?_
 case ra =>
  refine RG.RunsIf.weak (v := .agg #[.int .i64 first, .int .i64 (M : Int)]) (by rfl) (by rfl) (fun Z hT => ?_) ?_
  ·obtain ⟨z0, z1, z2, z3, z4, z5, z6⟩ := cellsY7 (blk_keep N1.out hT); obtain ⟨b0, b1⟩ := cellsR2 (blk_keep N2.out hT)
   go_simp
  simp only [Act.put, lpA, lpZ, lpS, lgT, lgZ, lgS]
  iterate 2
   refine RG.RunsIf.weak (v := ?_) (by rfl) (by rfl) (fun Z hT => ?_) ?_
   rotate_left
   ·go_simp
    rfl
   simp only [Act.put, lpA, lpZ, lpS, lgT, lgZ, lgS]
  refine RG.RunsIf.weak (v := .int .i64 (C : Int)) (by rfl) (by rfl) (fun Z hT => ?_) ?_
  ·obtain ⟨z0, z1, z2, z3, z4, z5, z6⟩ := cellsY7 (blk_keep N1.out hT); obtain ⟨b0, b1⟩ := cellsR2 (blk_keep N2.out hT)
   go_simp
  simp only [Act.put, lpA, lpZ, lpS, lgT, lgZ, lgS]
  exact RG.RunsIf.nil
 refine RG.wpL_pair (i := 4) (j := 6) (by kernel_rfl) (by rfl) (by rfl) (by rfl) (by rfl) (fun KX hK => ?_) (fun KX hK => ?_)
 ·have HK := TW.hide hK
  clear hK
  refine wp_make_full Ya _ _ 87 (by rfl) w.heap.size 70 i3 (.slice none 0 0) 1 Tryz.underlying87 hi3 hz30 hz31 .i64 .i64 (C : Int) (C : Int) C (by rfl) (by rfl) rfl rfl (by rw [hz32]; omega) (by unfold maxLen; omega) (Nat.le_trans HGw.out HTa.out.size) ?_
  intro Va hown hgrow
  rw [made_rep _ rfl] at hown
  have HO := TW.hide hown
  have HBv : Hid (Below Ya.heap.size Ya Va) := (Below.refl _ _).grown hgrow (Nat.le_refl _) (by intro k h; cases h)
  have HTb : Hid (Below X.heap.size X Va) := HTa.out.trans (HBv.out.mono HTa.out.size)
  refine HK.out _ _ HTb.out (fun _ => trivial) ?_
  clear HK KX hown hgrow
  try simp only [Act.put, lpA, lpZ, lpS, lgT, lgZ, lgS]
  refine RG.wpL_take (fuel := 2) (a' := ?Afx) [5] (by kernel_rfl) (by kernel_rfl) (fun _ _ _ _ _ h => h) HTb.out (fun _ => trivial) ?rfx ?_
  case rfx =>
   refine RG.RunsIf.weak (v := .agg #[.int .i64 first, .int .i64 (M : Int), .slice (some ⟨Ya.heap.size, 0, none⟩) C C]) (by rfl) (by rfl) (fun Z hT => ?_) ?_
   ·go_simp
   simp only [Act.put, lpA, lpZ, lpS, lgT, lgZ, lgS]
   exact RG.RunsIf.nil
  refine RG.wpL_step (i := 6) (by kernel_rfl) (by rfl) (by rfl) (fun KX hK => ?_)
  have HK := TW.hide hK
  clear hK
  go_simp
  have NA := TW.hide (heap_alloc_new Va (.cells #[.int .i64 0, .int .i64 0, .slice none 0 0] 89))
  have HTc : Hid (Below X.heap.size X (Va.alloc (.cells #[.int .i64 0, .int .i64 0, .slice none 0 0] 89))) := HTb.out.alloc HTb.out.size _
  have HBl : Hid (Below Va.heap.size Va (Va.alloc (.cells #[.int .i64 0, .int .i64 0, .slice none 0 0] 89))) := (Below.refl _ _).alloc (Nat.le_refl _) _
  have HGa : Hid (X.heap.size ≤ Va.heap.size) := HTb.out.size
  refine HK.out _ _ HTc.out (fun _ => trivial) ?_
  clear HK KX
  try simp only [Act.put, lpA, lpZ, lpS, lgT, lgZ, lgS]
  have HOk := TW.hide (own_belowI HO.out HBl.out)
  have T5 : Hid (Below X.heap.size X ((Va.alloc (.cells #[.int .i64 0, .int .i64 0, .slice none 0 0] 89)).setRow Va.heap.size #[.int .i64 first, .int .i64 (M : Int), .slice (some ⟨Ya.heap.size, 0, none⟩) C C])) := below_setRow HTc.out HGa.out
  have N5 := TW.hide (setRow_heap _ _ _ #[.int .i64 first, .int .i64 (M : Int), .slice (some ⟨Ya.heap.size, 0, none⟩) C C] _ _ NA.out)
  have O5 : Hid (((Va.alloc (.cells #[.int .i64 0, .int .i64 0, .slice none 0 0] 89)).setRow Va.heap.size #[.int .i64 first, .int .i64 (M : Int), .slice (some ⟨Ya.heap.size, 0, none⟩) C C]).ownsRow w.heap.size 70 1 (.slice (some ⟨Ya.heap.size, 0, none⟩) C C) C (List.replicate C (.slice none 0 0))) := own_keepK HOk.out (fun b hb => setRow_other _ _ _ _ (fun e => own_neB HOk.out NA.out (by decide) (by rw [hb, e])))
  refine RG.wpL_step (i := 7) (by kernel_rfl) (by rfl) (by rfl) (fun KX hK => ?_)
  have HK := TW.hide hK
  clear hK
  refine wp_store_row 89 _ _ (by rfl) Va.heap.size #[.int .i64 first, .int .i64 (M : Int), .slice (some ⟨Ya.heap.size, 0, none⟩) C C] (by rfl) (by rfl) 89 _ NA.out (by kernel_rfl) (by rfl) (by simp [Value.oneCell']) ?_
  simp only [Act.put, lpA, lpZ, lpS, lgT, lgZ, lgS]
  refine HK.out _ _ T5.out (fun _ => trivial) ?_
  clear HK KX
  refine RG.wpL_done (by kernel_rfl) ?_ _
  refine NoPanic.normal ?_
  exact HR.out _ _ _ O5.out N5.out HGa.out T5.out
 ·have HK := TW.hide hK
  clear hK
  go_simp
  have NA := TW.hide (heap_alloc_new Ya (.cells #[.int .i64 0, .int .i64 0, .slice none 0 0] 89))
  have HTb : Hid (Below X.heap.size X (Ya.alloc (.cells #[.int .i64 0, .int .i64 0, .slice none 0 0] 89))) := HTa.out.alloc HTa.out.size _
  have HBl : Hid (Below Ya.heap.size Ya (Ya.alloc (.cells #[.int .i64 0, .int .i64 0, .slice none 0 0] 89))) := (Below.refl _ _).alloc (Nat.le_refl _) _
  have HGa : Hid (X.heap.size ≤ Ya.heap.size) := HTa.out.size
  refine HK.out _ _ HTb.out (fun _ => trivial) ?_
  clear HK KX
  try simp only [Act.put, lpA, lpZ, lpS, lgT, lgZ, lgS]
  refine RG.wpL_step (i := 4) (by kernel_rfl) (by rfl) (by rfl) (fun KX hK => ?_)
  have HK := TW.hide hK
  clear hK
  refine wp_make_full (Ya.alloc (.cells #[.int .i64 0, .int .i64 0, .slice none 0 0] 89)) _ _ 87 (by rfl) w.heap.size 70 i3 (.slice none 0 0) 1 Tryz.underlying87 hi3 hz30 hz31 .i64 .i64 (C : Int) (C : Int) C (by rfl) (by rfl) rfl rfl (by rw [hz32]; omega) (by unfold maxLen; omega) (Nat.le_trans HGw.out HTb.out.size) ?_
  intro Va hown hgrow
  rw [made_rep _ rfl] at hown
  have HO := TW.hide hown
  have HBv : Hid (Below (Ya.alloc (.cells #[.int .i64 0, .int .i64 0, .slice none 0 0] 89)).heap.size (Ya.alloc (.cells #[.int .i64 0, .int .i64 0, .slice none 0 0] 89)) Va) := (Below.refl _ _).grown hgrow (Nat.le_refl _) (by intro k h; cases h)
  have HTc : Hid (Below X.heap.size X Va) := HTb.out.trans (HBv.out.mono HTb.out.size)
  refine HK.out _ _ HTc.out (fun _ => trivial) ?_
  clear HK KX hown hgrow
  try simp only [Act.put, lpA, lpZ, lpS, lgT, lgZ, lgS]
  have NA2 := TW.hide (blk_keep NA.out HBv.out)
  clear NA
  have NA := NA2
  refine RG.wpL_take (fuel := 1) (a' := ?Afy) [5] (by kernel_rfl) (by kernel_rfl) (fun _ _ _ _ _ h => h) HTc.out (fun _ => trivial) ?rfy ?_
  case rfy =>
   refine RG.RunsIf.weak (v := .agg #[.int .i64 first, .int .i64 (M : Int), .slice (some ⟨(Ya.alloc (.cells #[.int .i64 0, .int .i64 0, .slice none 0 0] 89)).heap.size, 0, none⟩) C C]) (by rfl) (by rfl) (fun Z hT => ?_) ?_
   ·go_simp
   simp only [Act.put, lpA, lpZ, lpS, lgT, lgZ, lgS]
   exact RG.RunsIf.nil
  have T5 : Hid (Below X.heap.size X (Va.setRow Ya.heap.size #[.int .i64 first, .int .i64 (M : Int), .slice (some ⟨(Ya.alloc (.cells #[.int .i64 0, .int .i64 0, .slice none 0 0] 89)).heap.size, 0, none⟩) C C])) := below_setRow HTc.out HGa.out
  have N5 := TW.hide (setRow_heap _ _ _ #[.int .i64 first, .int .i64 (M : Int), .slice (some ⟨(Ya.alloc (.cells #[.int .i64 0, .int .i64 0, .slice none 0 0] 89)).heap.size, 0, none⟩) C C] _ _ NA.out)
  have O5 : Hid ((Va.setRow Ya.heap.size #[.int .i64 first, .int .i64 (M : Int), .slice (some ⟨(Ya.alloc (.cells #[.int .i64 0, .int .i64 0, .slice none 0 0] 89)).heap.size, 0, none⟩) C C]).ownsRow w.heap.size 70 1 (.slice (some ⟨(Ya.alloc (.cells #[.int .i64 0, .int .i64 0, .slice none 0 0] 89)).heap.size, 0, none⟩) C C) C (List.replicate C (.slice none 0 0))) := own_keepK HO.out (fun b hb => setRow_other _ _ _ _ (fun e => own_neB HO.out NA.out (by decide) (by rw [hb, e])))
  refine RG.wpL_step (i := 7) (by kernel_rfl) (by rfl) (by rfl) (fun KX hK => ?_)
  have HK := TW.hide hK
  clear hK
  refine wp_store_row 89 _ _ (by rfl) Ya.heap.size #[.int .i64 first, .int .i64 (M : Int), .slice (some ⟨(Ya.alloc (.cells #[.int .i64 0, .int .i64 0, .slice none 0 0] 89)).heap.size, 0, none⟩) C C] (by rfl) (by rfl) 89 _ NA.out (by kernel_rfl) (by rfl) (by simp [Value.oneCell']) ?_
  simp only [Act.put, lpA, lpZ, lpS, lgT, lgZ, lgS]
  refine HK.out _ _ T5.out (fun _ => trivial) ?_
  clear HK KX
  refine RG.wpL_done (by kernel_rfl) ?_ _
  refine NoPanic.normal ?_
  exact HR.out _ _ _ O5.out N5.out HGa.out T5.out
end LW
end Go.Proofs.YtdjanbojhblijaaGreat

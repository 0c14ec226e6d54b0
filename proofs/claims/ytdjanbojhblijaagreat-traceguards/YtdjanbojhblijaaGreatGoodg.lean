/-
 Which systems may be, and what then holds of every state of a run: all places, registers and numbers are there.
-/
import Derived.Test.YtdjanbojhblijaaGreatMachg
namespace Go.Proofs.YtdjanbojhblijaaGreat
open Go
set_option linter.unusedVariables false
set_option linter.unusedSimpArgs false
namespace Mc
/-- What an operation's fields are, as letters. -/
def fl : List (List Int) := [[], [114, 120, 110], [114, 114, 110], [114, 114, 112], [110, 110, 112], [99, 114, 110], [99, 114, 112], [99, 110, 110], [108, 110, 110], [108, 110, 110], [103, 120, 110], [103, 110, 110], [114, 114, 110], [114, 114, 110], [115, 110, 110], [120, 114, 110], [110, 110, 110]]
def fdM (op : Int) : List Int := if op < 1 ∨ 17 ≤ op then [] else fl.getD op.toNat []
/-- How many there are of what a letter says. -/
def bdM (s : Syst) (p : Nat) (c : Int) : Int :=
 if c = 114 then 8 else if c = 112 then ((s.progs.getD p []).length : Int) + 1 else if c = 99 then s.rooms.length else if c = 108 then s.locks else if c = 103 then s.groups else if c = 115 then s.progs.length else 1
def fitM (s : Syst) (p : Nat) (c v : Int) : Prop := c = 120 ∨ (0 ≤ v ∧ v < bdM s p c)
/-- May an instruction be? -/
def rightM (s : Syst) (p : Nat) (i : Ins) : Prop := 1 ≤ i.op ∧ i.op ≤ 16 ∧ fitM s p ((fdM i.op).getD 0 0) i.a ∧ fitM s p ((fdM i.op).getD 1 0) i.b ∧ fitM s p ((fdM i.op).getD 2 0) i.c ∧ ((i.op = 12 ∨ i.op = 13) → 0 < s.cells)
/-- May a system be? -/
structure Ok (s : Syst) : Prop where
 p1 : 1 ≤ s.progs.length
 p2 : s.progs.length ≤ 64
 r1 : s.rooms.length ≤ 64
 g1 : 0 ≤ s.groups ∧ s.groups ≤ 64
 l1 : 0 ≤ s.locks ∧ s.locks ≤ 64
 c1 : 0 ≤ s.cells ∧ s.cells ≤ 64
 rm : ∀ i, i < s.rooms.length → 1 ≤ s.rooms.getD i 0 ∧ s.rooms.getD i 0 ≤ 1024
 pl : ∀ p, p < s.progs.length → (s.progs.getD p []).length ≤ 256
 rt : ∀ p, p < s.progs.length → ∀ j, j < (s.progs.getD p []).length → rightM s p ((s.progs.getD p []).getD j i0)
def i64 (x : Int) : Prop := -9223372036854775808 ≤ x ∧ x ≤ 9223372036854775807
/-- A runner that may be. -/
structure GR (s : Syst) (r : Rn) : Prop where
 pr : 0 ≤ r.prog ∧ r.prog < s.progs.length
 rl : r.regs.length = 8
 rg : ∀ j, i64 (r.regs.getD j 0)
 ps : r.ended = false → 0 ≤ r.pos ∧ r.pos < (pg s r.prog).length
 pb : 0 ≤ r.pos ∧ r.pos ≤ (pg s r.prog).length
/-- A state that may be. -/
structure Good (s : Syst) (t : St) : Prop where
 r1 : 1 ≤ t.rns.length
 r2 : t.rns.length ≤ 512
 gr : ∀ k, k < t.rns.length → GR s (rn t k)
 hl : t.held.length = s.rooms.length
 hv : ∀ c j, i64 ((t.held.getD c []).getD j 0)
 hr : ∀ c, c < s.rooms.length → ((t.held.getD c []).length : Int) ≤ s.rooms.getD c 0
 sl : t.shut.length = s.rooms.length
 ll : (t.locked.length : Int) = s.locks
 gl : (t.groups.length : Int) = s.groups
 gv : ∀ j, 0 ≤ t.groups.getD j 0 ∧ t.groups.getD j 0 ≤ 9223372036854775807
 cl : (t.cells.length : Int) = s.cells
 cv : ∀ j, i64 (t.cells.getD j 0)
 el : t.evs.length ≤ 40000
theorem i64_0 : i64 0 := by unfold i64; omega
theorem getD_set {α : Type} (l : List α) (i j : Nat) (v d : α) : (l.set i v).getD j d = if i = j ∧ i < l.length then v else l.getD j d := by
 rw [List.getD_eq_getElem?_getD, List.getD_eq_getElem?_getD, List.getElem?_set]
 by_cases h : i = j
 ·subst h
  by_cases h2 : i < l.length
  ·simp [h2]
  ·simp [h2]
 ·simp [h]
theorem rn_set (t : St) (k j : Nat) (r : Rn) (hk : k < t.rns.length) : (t.rns.set k r).getD j r0 = if k = j then r else rn t j := by
 rw [getD_set]
 by_cases h : k = j
 ·rw [if_pos ⟨h, hk⟩, if_pos h]
 ·rw [if_neg (fun hh => h hh.1), if_neg h]; rfl
/-- A runner in the middle of its step: it goes on one behind. -/
structure MR (s : Syst) (r : Rn) : Prop where
 pr : 0 ≤ r.prog ∧ r.prog < s.progs.length
 rl : r.regs.length = 8
 rg : ∀ j, i64 (r.regs.getD j 0)
 pb : 0 ≤ r.pos + 1 ∧ r.pos + 1 ≤ (pg s r.prog).length
/-- Runners while the k-th takes its step. -/
structure Rs (s : Syst) (rs : List Rn) (k : Nat) : Prop where
 k1 : k < rs.length
 k2 : rs.length ≤ 512
 me : MR s (rs.getD k r0)
 ot : ∀ j, j < rs.length → j ≠ k → GR s (rs.getD j r0)
theorem Rs.on {s : Syst} {rs : List Rn} {k : Nat} (h : Rs s rs k) : ∀ j, j < (on s rs k).length → GR s ((on s rs k).getD j r0) := by
 intro j hj
 unfold Mc.on at hj ⊢
 rw [List.length_set] at hj
 rw [getD_set]
 by_cases hjk : k = j
 ·subst hjk
  rw [if_pos ⟨rfl, h.k1⟩]
  have hm := h.me
  refine ⟨hm.pr, hm.rl, hm.rg, fun he => ?_, hm.pb⟩
  have hp := hm.pb
  simp only [Bool.or_eq_false_iff, decide_eq_false_iff_not] at he
  exact ⟨hp.1, by have := he.2; show _ + 1 < ((pg s (rs.getD k r0).prog).length : Int); omega⟩
 ·rw [if_neg (fun hh => hjk hh.1)]
  exact h.ot j hj (fun e => hjk e.symm)
theorem Rs.refl {s : Syst} {t : St} {k : Nat} (h : Good s t) (hk : k < t.rns.length) (he : (rn t k).ended = false) : Rs s t.rns k :=
 ⟨hk, h.r2, ⟨(h.gr k hk).pr, (h.gr k hk).rl, (h.gr k hk).rg, by have := (h.gr k hk).ps he; show 0 ≤ (rn t k).pos + 1 ∧ _; constructor; omega; show (rn t k).pos + 1 ≤ _; exact Int.add_one_le_of_lt this.2⟩, fun j hj _ => h.gr j hj⟩
theorem Rs.setR {s : Syst} {t : St} {k : Nat} (h : Good s t) (hk : k < t.rns.length) (he : (rn t k).ended = false) (r v : Int) (hv : i64 v) : Rs s (setR t k r v) k := by
 have h0 := Rs.refl h hk he
 unfold Mc.setR
 refine ⟨by rw [List.length_set]; exact hk, by rw [List.length_set]; exact h.r2, ?_, fun j hj hjk => ?_⟩
 ·rw [rn_set t k k _ hk, if_pos rfl]
  refine ⟨h0.me.pr, by rw [List.length_set]; exact h0.me.rl, fun j => ?_, h0.me.pb⟩
  dsimp only
  rw [getD_set]
  split
  ·exact hv
  ·exact h0.me.rg j
 ·rw [rn_set t k j _ hk, if_neg (fun e => hjk e.symm)]
  rw [List.length_set] at hj
  exact h0.ot j hj hjk
theorem Rs.setP {s : Syst} {t : St} {k : Nat} (h : Good s t) (hk : k < t.rns.length) (he : (rn t k).ended = false) (p : Int) (hp : 0 ≤ p + 1 ∧ p + 1 ≤ (pg s (rn t k).prog).length) : Rs s (setP t k p) k := by
 have h0 := Rs.refl h hk he
 unfold Mc.setP
 refine ⟨by rw [List.length_set]; exact hk, by rw [List.length_set]; exact h.r2, ?_, fun j hj hjk => ?_⟩
 ·rw [rn_set t k k _ hk, if_pos rfl]
  exact ⟨h0.me.pr, h0.me.rl, h0.me.rg, hp⟩
 ·rw [rn_set t k j _ hk, if_neg (fun e => hjk e.symm)]
  rw [List.length_set] at hj
  exact h0.ot j hj hjk
theorem Rs.new {s : Syst} {t : St} {k : Nat} (h : Good s t) (hk : k < t.rns.length) (he : (rn t k).ended = false) (hl : t.rns.length < 512) (p : Int) (hp : 0 ≤ p ∧ p < s.progs.length) : Rs s (t.rns ++ [⟨p, 0, (rn t k).regs, (pg s p).isEmpty⟩]) k := by
 have h0 := Rs.refl h hk he
 have hg : ∀ j, j < t.rns.length → (t.rns ++ ([⟨p, 0, (rn t k).regs, (pg s p).isEmpty⟩] : List Rn)).getD j r0 = t.rns.getD j r0 := fun j hj => by
  rw [List.getD_eq_getElem?_getD, List.getD_eq_getElem?_getD, List.getElem?_append_left hj]
 refine ⟨by simp; omega, by simp; omega, by rw [hg k hk]; exact h0.me, fun j hj hjk => ?_⟩
 rcases Nat.lt_or_ge j t.rns.length with h1 | h1
 ·rw [hg j h1]; exact h0.ot j h1 hjk
 ·obtain rfl : j = t.rns.length := by simp at hj; omega
  rw [List.getD_eq_getElem?_getD, List.getElem?_append_right (Nat.le_refl _), Nat.sub_self]
  show GR s ⟨p, 0, (rn t k).regs, (pg s p).isEmpty⟩
  refine ⟨hp, h0.me.rl, h0.me.rg, fun hx => ?_, ⟨by simp, by simp⟩⟩
  refine ⟨by simp, ?_⟩
  have : pg s p ≠ [] := by simpa using hx
  have h9 := List.length_pos_iff.2 this
  show (0 : Int) < ((pg s p).length : Int)
  omega
/-- What is shared, as it may be. -/
structure Sh (s : Syst) (held : List (List Int)) (shut locked : List Bool) (groups cells : List Int) : Prop where
 hl : held.length = s.rooms.length
 hv : ∀ c j, i64 ((held.getD c []).getD j 0)
 hr : ∀ c, c < s.rooms.length → ((held.getD c []).length : Int) ≤ s.rooms.getD c 0
 sl : shut.length = s.rooms.length
 ll : (locked.length : Int) = s.locks
 gl : (groups.length : Int) = s.groups
 gv : ∀ j, 0 ≤ groups.getD j 0 ∧ groups.getD j 0 ≤ 9223372036854775807
 cl : (cells.length : Int) = s.cells
 cv : ∀ j, i64 (cells.getD j 0)
theorem Good.sh {s : Syst} {t : St} (h : Good s t) : Sh s t.held t.shut t.locked t.groups t.cells := ⟨h.hl, h.hv, h.hr, h.sl, h.ll, h.gl, h.gv, h.cl, h.cv⟩
theorem tail_getD (l : List Int) (j : Nat) : l.tail.getD j 0 = l.getD (j + 1) 0 := by
 cases l <;> simp
end Mc
end Go.Proofs.YtdjanbojhblijaaGreat

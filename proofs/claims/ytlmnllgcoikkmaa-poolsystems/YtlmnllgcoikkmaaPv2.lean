/-
  The programs of the pool's system, as the program tells them.
-/
import Derived.Test.YtlmnllgcoikkmaaArgs13
import Derived.Test.YtlmnllgcoikkmaaPv1
namespace Go.Proofs.Ytlmnllgcoikkmaa
open Go.RowKit
set_option linter.unusedVariables false
set_option linter.unusedSimpArgs false
namespace LW
open Mc
def cmL (a : Int) : List Ins := [⟨1, 0, 0, 0⟩, ⟨1, 1, a, 0⟩, ⟨1, 2, 1, 0⟩, ⟨3, 0, 1, 5⟩, ⟨4, 0, 0, 9⟩, ⟨10, 0, 1, 0⟩, ⟨14, 1, 0, 0⟩, ⟨2, 0, 2, 0⟩, ⟨4, 0, 0, 3⟩, ⟨14, 2, 0, 0⟩, ⟨14, 3, 0, 0⟩, ⟨6, 1, 3, 14⟩, ⟨15, 1, 3, 0⟩, ⟨4, 0, 0, 11⟩, ⟨16, 0, 0, 0⟩]
def wkL : List Ins := [⟨6, 0, 3, 6⟩, ⟨12, 3, 4, 0⟩, ⟨15, 0, 4, 0⟩, ⟨5, 2, 3, 0⟩, ⟨5, 1, 4, 0⟩, ⟨4, 0, 0, 0⟩, ⟨10, 0, -1, 0⟩, ⟨16, 0, 0, 0⟩]
def fdL (b n : Int) : List Ins := [⟨1, 0, 0, 0⟩, ⟨1, 1, b, 0⟩, ⟨1, 2, 1, 0⟩, ⟨3, 0, 1, 5⟩, ⟨4, 0, 0, 8⟩, ⟨5, 2, 0, 0⟩, ⟨2, 0, 2, 0⟩, ⟨4, 0, 0, 3⟩, ⟨1, 0, 0, 0⟩, ⟨1, 1, n, 0⟩, ⟨3, 0, 1, 12⟩, ⟨4, 0, 0, 17⟩, ⟨6, 2, 3, 17⟩, ⟨13, 3, 0, 0⟩, ⟨5, 0, 3, 0⟩, ⟨2, 0, 2, 0⟩, ⟨4, 0, 0, 10⟩, ⟨7, 0, 0, 0⟩, ⟨16, 0, 0, 0⟩]
def clL : List Ins := [⟨11, 0, 0, 0⟩, ⟨7, 1, 0, 0⟩, ⟨16, 0, 0, 0⟩]
def insC (i : Ins) : List Value := [.int .i64 i.op, .int .i64 i.a, .int .i64 i.b, .int .i64 i.c]
theorem flat4 : ∀ (l : List Ins) (j r : Nat), j < l.length → r < 4 → (l.flatMap insC)[j * 4 + r]? = (insC (l.getD j i0))[r]? := by
  intro l
  induction l with
  | nil => intro j r h; simp at h
  | cons x l ih =>
    intro j r h hr
    rw [List.flatMap_cons]
    have h4 : (insC x).length = 4 := rfl
    cases j with
    | zero => rw [List.getElem?_append_left (by omega)]; simp
    | succ j =>
      rw [List.getElem?_append_right (by omega), h4, show (j + 1) * 4 + r - 4 = j * 4 + r by omega, ih j r (by simpa using h) hr]
      simp
theorem IR_block {w : World} {b : Nat} {t : TypeId} {l : List Ins} (h : w.heap[b]? = some (.cells (l.flatMap insC).toArray t (0, 0))) : IR w (some ⟨b, 0, none⟩) l := by
  refine .inr ⟨b, 0, rfl, fun j hj => ?_⟩
  have e : ∀ r, r < 4 → w.cell? ⟨b, 0 + j * 4 + r, none⟩ = (insC (l.getD j i0))[r]? := by
    intro r hr
    rw [← flat4 l j r hj hr]
    simp [World.cell?, h]
  exact ⟨e 0 (by omega), e 1 (by omega), e 2 (by omega), e 3 (by omega)⟩
/-- It lies from a block on. -/
def Aw (B : Nat) (A : Option Addr) : Prop := ∀ b off s, A = some ⟨b, off, s⟩ → B ≤ b
theorem Aw.low {B C : Nat} {A : Option Addr} (h : Aw B A) (hc : C ≤ B) : Aw C A := fun b off s e => Nat.le_trans hc (h b off s e)
theorem Aw.new (B : Nat) : Aw B (some ⟨B, 0, none⟩) := fun b off s e => by cases e; exact Nat.le_refl _
theorem IR.row {w : World} {G g : Nat} {A : Option Addr} {l : List Ins} {cs : Array Value} (h : IR w A l) (ha : Aw G A) (hg : g < G) : IR (w.setRow g cs) A l := by
  rcases h with h | ⟨b, off, rfl, hc⟩
  · exact .inl h
  · have hb : b ≠ g := by have := ha b off none rfl; omega
    refine .inr ⟨b, off, rfl, fun j hj => ?_⟩
    have e : ∀ o, (w.setRow g cs).cell? ⟨b, o, none⟩ = w.cell? ⟨b, o, none⟩ := fun o => by simp only [World.cell?]; rw [setRow_other _ _ _ _ hb]
    simp only [e]
    exact hc j hj
theorem NR.row {w : World} {G g : Nat} {A : Option Addr} {l : List Int} {cs : Array Value} (h : NR w A l) (ha : Aw G A) (hg : g < G) : NR (w.setRow g cs) A l := by
  rcases h with h | ⟨b, off, rfl, hc⟩
  · exact .inl h
  · have hb : b ≠ g := by have := ha b off none rfl; omega
    refine .inr ⟨b, off, rfl, fun j hj => ?_⟩
    have e : ∀ o, (w.setRow g cs).cell? ⟨b, o, none⟩ = w.cell? ⟨b, o, none⟩ := fun o => by simp only [World.cell?]; rw [setRow_other _ _ _ _ hb]
    simp only [e]
    exact hc j hj
/-- Programs that lie from a block on. -/
def PG (G : Nat) (w : World) (A : Option Addr) (ps : List (List Ins)) : Prop := ∃ b, A = some ⟨b, 0, none⟩ ∧ G ≤ b ∧ ∀ p, p < ps.length → ∃ A' K, w.cell? ⟨b, 0 + p, none⟩ = some (.slice A' (ps.getD p []).length K) ∧ IR w A' (ps.getD p []) ∧ Aw G A'
theorem PG.below {G : Nat} {w w' : World} {A : Option Addr} {ps : List (List Ins)} (h : PG G w A ps) (hb : Below w.heap.size w w') : PG G w' A ps := by
  obtain ⟨b, rfl, hg, hc⟩ := h
  refine ⟨b, rfl, hg, fun p hp => ?_⟩
  obtain ⟨A', K, h1, h2, h3⟩ := hc p hp
  exact ⟨A', K, by rw [← h1]; exact hb.cell (lt_of_cell h1), h2.below hb, h3⟩
theorem PG.low {G H : Nat} {w : World} {A : Option Addr} {ps : List (List Ins)} (h : PG G w A ps) (hH : H ≤ G) : PG H w A ps := by
  obtain ⟨b, rfl, hG, hc⟩ := h
  refine ⟨b, rfl, by omega, fun p hp => ?_⟩
  obtain ⟨A', K, h1, h2, h3⟩ := hc p hp
  exact ⟨A', K, h1, h2, h3.low hH⟩
theorem PG.set {G g : Nat} {w : World} {A : Option Addr} {ps : List (List Ins)} {cs : Array Value} (h : PG G w A ps) (hg : g < G) : PG G (w.setRow g cs) A ps := by
  obtain ⟨b, rfl, hG, hc⟩ := h
  have hb : b ≠ g := by omega
  refine ⟨b, rfl, hG, fun p hp => ?_⟩
  obtain ⟨A', K, h1, h2, h3⟩ := hc p hp
  refine ⟨A', K, ?_, h2.row h3 hg, h3⟩
  rw [← h1]
  simp only [World.cell?]
  rw [setRow_other _ _ _ _ hb]
theorem PG.pr {G g : Nat} {w : World} {A : Option Addr} {ps : List (List Ins)} {cs : Array Value} (h : PG G w A ps) (hg : g < G) : PR (w.setRow g cs) A ps := by
  obtain ⟨b, rfl, hG, hc⟩ := h
  have hb : b ≠ g := by omega
  refine .inr ⟨b, 0, rfl, fun p hp => ?_⟩
  obtain ⟨A', K, h1, h2, h3⟩ := hc p hp
  refine ⟨A', K, ?_, h2.row h3 hg⟩
  rw [← h1]
  simp only [World.cell?]
  rw [setRow_other _ _ _ _ hb]
set_option maxHeartbeats 4000000 in
theorem pcloser (w : World) : Calls Try.prog 27 #[] w fun e w' => (∃ A, e = .returned (.slice A 3 3) ∧ IR w' A clL ∧ Aw w.heap.size A) ∧ Below w.heap.size w w' := by
  go_enter Try.func27, Try.ntmps27
  go_wp2
  go_ret
  exact ⟨⟨_, rfl, IR_block (heap_alloc_new w _), Aw.new _⟩, (Below.refl w.heap.size w).alloc (Nat.le_refl _) _⟩
set_option maxHeartbeats 4000000 in
theorem pcombiner (a : Int) (w : World) : Calls Try.prog 24 #[.int .i64 a] w fun e w' => (∃ A, e = .returned (.slice A 15 15) ∧ IR w' A (cmL a) ∧ Aw w.heap.size A) ∧ Below w.heap.size w w' := by
  go_enter Try.func24, Try.ntmps24
  go_wp2
  go_ret
  exact ⟨⟨_, rfl, IR_block (heap_alloc_new w _), Aw.new _⟩, (Below.refl w.heap.size w).alloc (Nat.le_refl _) _⟩
set_option maxHeartbeats 4000000 in
theorem pworker (w : World) : Calls Try.prog 25 #[] w fun e w' => (∃ A, e = .returned (.slice A 8 8) ∧ IR w' A wkL ∧ Aw w.heap.size A) ∧ Below w.heap.size w w' := by
  go_enter Try.func25, Try.ntmps25
  go_wp2
  go_ret
  exact ⟨⟨_, rfl, IR_block (heap_alloc_new w _), Aw.new _⟩, (Below.refl w.heap.size w).alloc (Nat.le_refl _) _⟩
set_option maxHeartbeats 4000000 in
theorem pfeeder (b n : Int) (w : World) : Calls Try.prog 26 #[.int .i64 b, .int .i64 n] w fun e w' => (∃ A, e = .returned (.slice A 19 19) ∧ IR w' A (fdL b n) ∧ Aw w.heap.size A) ∧ Below w.heap.size w w' := by
  go_enter Try.func26, Try.ntmps26
  go_wp2
  go_ret
  exact ⟨⟨_, rfl, IR_block (heap_alloc_new w _), Aw.new _⟩, (Below.refl w.heap.size w).alloc (Nat.le_refl _) _⟩
end LW
end Go.Proofs.Ytlmnllgcoikkmaa

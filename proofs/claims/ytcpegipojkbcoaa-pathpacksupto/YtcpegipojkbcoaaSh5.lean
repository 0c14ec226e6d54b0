/-
  What Rows and Nodes of the program give.
-/
import Derived.Maps.AppendAt
import Derived.Test.YtcpegipojkbcoaaSh4
namespace Go.Proofs.Ytcpegipojkbcoaa
open Go.RowKit Go.Shelf
attribute [local go_sem] Oper.semAt_some
set_option linter.unusedVariables false
set_option linter.unusedSimpArgs false
namespace LW
open Words
/-- Numbers as cells. -/
def us (l : List Nat) : List Value := l.map fun x : Nat => Value.int .u64 (x : Int)
theorem us_snoc (l : List Nat) (x : Nat) : us (l ++ [x]) = us l ++ [.int .u64 (x : Int)] := by simp [us]
theorem us_len (l : List Nat) : (us l).length = l.length := by simp [us]
/-- What Rows hands back. -/
def RoP (T : Tr) (n : Nat) (w : World) (e : Ending) (W' : World) : Prop :=
  ∃ v, e = .returned (.tuple #[v, .int .i64 0]) ∧ W'.ownsRow w.heap.size 27 1 v (roL T n).length (us (roL T n)) ∧ Below w.heap.size w W'
theorem en_snd : ∀ (l : List Nat) (r : Nat), (en r l).map Prod.snd = l
  | [], _ => rfl
  | x :: l, r => by simp [en, en_snd l (r + 1)]
theorem lvE_ok {T : Tr} {n : Nat} (h : lvE T n = 0) : vd T = 0 := by
  unfold lvE at h
  split at h
  · rename_i h1; exact absurd h h1
  · rename_i h1; simpa using h1
theorem u64info : (Try.prog.info? 27).map (fun i => (i.zero, i.size, i.bytes)) = some (some (.int .u64 0), 1, 8) := by kernel_rfl
theorem row_ne {W : World} {z : Nat} {t e : TypeId} {cs : Array Value} (hz : W.heap[z]? = some (.cells cs t (0, 0))) (hte : t ≠ e) {base size k : Nat} {v : Value} {xs : List Value} (hr : W.ownsRow base e size v k xs) : some z ≠ v.ownBlock := by
  rcases hr.2 with ⟨rfl, _⟩ | ⟨g, cap, cur, rfl, _, hgb, _⟩
  · simp [Value.ownBlock]
  · intro e'
    obtain rfl : z = g := by simpa [Value.ownBlock] using e'
    have := hz.symm.trans hgb
    simp at this
    exact hte this.2
theorem app_keep {W w1 : World} {z y : Nat} {t e : TypeId} {cs : Array Value} {tmp : Obj} {base size k : Nat} {v v' : Value} {xs : List Value} (hz : W.heap[z]? = some (.cells cs t (0, 0))) (hte : t ≠ e) (hr : W.ownsRow base e size v k xs) (hgrow : (W.alloc tmp).grownBy w1 v.ownBlock) (hy : z ≠ y) : (w1.setCell ⟨y, 0, none⟩ v').heap[z]? = W.heap[z]? := by
  rw [Below.heap_setCell _ _ _ z hy, hgrow.block z (by have := blk_lt hz; simp; omega) (row_ne hz hte hr)]
  exact Below.heap_alloc _ _ _ (blk_lt hz)
end LW
end Go.Proofs.Ytcpegipojkbcoaa

/-
  What the calls of the program and of the document on a node's parameters give.
-/
import Derived.Test.YthbakhgfnfdahaaLanesB
import Derived.Test.YthbakhgfnfdahaaPlain
namespace Go.Proofs.Ythbakhgfnfdahaa
open Go.RowKit
set_option linter.unusedVariables false
set_option linter.unusedSimpArgs false
namespace LW
open Words
/-- The cells of one node. -/
def stC (k d y : Int) (s p : Value) (at_ : Int) : Array Value := #[.int .i64 k, .int .i64 d, .int .i64 y, s, p, .int .i64 at_]
theorem cells6 {w : World} {b : Nat} {t : TypeId} {v0 v1 v2 v3 v4 v5 : Value} (h : w.heap[b]? = some (.cells #[v0, v1, v2, v3, v4, v5] t (0, 0))) :
    w.cell? ⟨b, 0, none⟩ = some v0 ∧ w.cell? ⟨b, 1, none⟩ = some v1 ∧ w.cell? ⟨b, 2, none⟩ = some v2 ∧ w.cell? ⟨b, 3, none⟩ = some v3 ∧ w.cell? ⟨b, 4, none⟩ = some v4 ∧ w.cell? ⟨b, 5, none⟩ = some v5 := by
  simp [World.cell?, h]
theorem inner (k d y : Int) (s p : Value) (w : World) : Calls Try.prog 34 #[.agg (shC k d y s p)] w fun e w' => e = .returned (.int .i64 (mo k)) ∧ Below w.heap.size w w' := by
  have HM := TW.hide (fun W => most k W)
  generalize mo k = m at *
  generalize ke k = e at *
  unfold shC
  go_enter Try.func34, Try.ntmps34
  go_wp2_with fail
  refine (HM.out _).mono ?_
  rintro e w1 ⟨rfl, hb⟩
  have HB : Hid (Below w.heap.size w w1) := ((Below.refl _ _).alloc (Nat.le_refl _) _).trans (hb.mono (by simp))
  clear hb
  go_wp2
  go_ret
  exact ⟨rfl, HB.out⟩
theorem isRoot (k d y : Int) (s p : Value) (at_ : Int) (w : World) : Calls Try.prog 35 #[.agg (stC k d y s p at_)] w fun e w' => e = .returned (.bool (at_ == (nl k : Int))) ∧ Below w.heap.size w w' := by
  have HL := TW.hide (fun W => lanes k d y s p W)
  generalize nl k = n at *
  have hn := heap_alloc_new w (.cells #[.int .i64 k, .int .i64 d, .int .i64 y, s, p, .int .i64 at_] 60)
  have hb : Below w.heap.size w (w.alloc (.cells #[.int .i64 k, .int .i64 d, .int .i64 y, s, p, .int .i64 at_] 60)) := (Below.refl _ _).alloc (Nat.le_refl _) _
  have hl : w.heap.size < (w.alloc (.cells #[.int .i64 k, .int .i64 d, .int .i64 y, s, p, .int .i64 at_] 60)).heap.size := by simp
  have HN := TW.hide hn
  have HB := TW.hide hb
  have HE := TW.hide hl
  clear hn hb hl
  unfold stC
  unfold shC at *
  go_enter Try.func35, Try.ntmps35
  go_wp2_with fail
  have hN := HN.out
  have hB := HB.out
  have hE := HE.out
  generalize w.alloc _ = W at hN hB hE ⊢
  clear HN HB HE
  obtain ⟨c0, c1, c2, c3, c4, c5⟩ := cells6 hN
  go_region_held3 (fun w' => w'.cell? ⟨w.heap.size, 0, none⟩ = some (.int .i64 k) ∧ w'.cell? ⟨w.heap.size, 1, none⟩ = some (.int .i64 d) ∧ w'.cell? ⟨w.heap.size, 2, none⟩ = some (.int .i64 y) ∧ w'.cell? ⟨w.heap.size, 3, none⟩ = some s ∧ w'.cell? ⟨w.heap.size, 4, none⟩ = some p ∧ w'.cell? ⟨w.heap.size, 5, none⟩ = some (.int .i64 at_))
    (first | go_keep | (refine ⟨?_, ?_, ?_, ?_, ?_, ?_⟩ <;> rw [hb2.cell hE] <;> assumption))
    (first | (go_at_call 23; refine (HL.out _).mono ?_; rintro e w2 ⟨rfl, hb2⟩))
  have HX : Hid (Below w.heap.size w w2) := hB.trans ((show Below W.heap.size W w2 from below_of_drew hb2).mono (by omega))
  clear hb2 hN hB
  go_wp2
  go_ret
  exact ⟨rfl, HX.out⟩
theorem lane_ (k d y at_ : Int) (sa ta : Option Addr) (sl sc tl tc : Nat) (w : World) : Calls Try.prog 24 #[.agg (shC k d y (.slice sa sl sc) (.slice ta tl tc)), .int .i64 at_] w fun e w' => e = .returned (.agg (stC k d y (.slice sa sl sc) (.slice ta tl tc) at_)) ∧ Below w.heap.size w w' := by
  unfold stC shC
  go_enter Try.func24, Try.ntmps24
  refine wp_seq_k fun K hK => ?_
  have HK := TW.hide hK
  clear hK
  go_wp2
  refine HK.out _ _ ?_
  clear HK
  have n0 := blk_alloc (o' := .cells #[.int .i64 0, .int .i64 0, .int .i64 0, .slice none 0 0, .slice none 0 0, .int .i64 0] 60) (heap_alloc_new w (.cells #[.int .i64 k, .int .i64 d, .int .i64 y, .slice sa sl sc, .slice ta tl tc] 53))
  have n1 := heap_alloc_new (w.alloc (.cells #[.int .i64 k, .int .i64 d, .int .i64 y, .slice sa sl sc, .slice ta tl tc] 53)) (.cells #[.int .i64 0, .int .i64 0, .int .i64 0, .slice none 0 0, .slice none 0 0, .int .i64 0] 60)
  have hb := ((Below.refl w.heap.size w).alloc (Nat.le_refl _) (.cells #[.int .i64 k, .int .i64 d, .int .i64 y, .slice sa sl sc, .slice ta tl tc] 53)).alloc (by simp) (.cells #[.int .i64 0, .int .i64 0, .int .i64 0, .slice none 0 0, .slice none 0 0, .int .i64 0] 60)
  rw [show (w.alloc (.cells #[.int .i64 k, .int .i64 d, .int .i64 y, .slice sa sl sc, .slice ta tl tc] 53)).heap.size = w.heap.size + 1 by simp] at n1
  generalize (w.alloc _).alloc _ = W at n0 n1 hb ⊢
  obtain ⟨c0, c1, c2, c3, c4⟩ := cells5 n0
  have HN := TW.hide n1
  have HB := TW.hide hb
  clear n0 n1 hb
  go_wp2_with (refine wpList_store_row (by rfl) 60 _ _ (by rfl) (w.heap.size + 1) #[.int .i64 k, .int .i64 d, .int .i64 y, .slice sa sl sc, .slice ta tl tc, .int .i64 at_] (by rfl) (by rfl) 60 _ HN.out (by kernel_rfl) (by rfl) (by simp [Value.oneCell']) ?_)
  have hN := setRow_heap _ _ _ #[.int .i64 k, .int .i64 d, .int .i64 y, .slice sa sl sc, .slice ta tl tc, .int .i64 at_] _ _ HN.out
  have hB := below_setRow (cs := #[.int .i64 k, .int .i64 d, .int .i64 y, .slice sa sl sc, .slice ta tl tc, .int .i64 at_]) HB.out (g := w.heap.size + 1) (by omega)
  generalize W.setRow _ _ = X at hN hB ⊢
  refine bodyPost_ret (v := .agg #[.int .i64 k, .int .i64 d, .int .i64 y, .slice sa sl sc, .slice ta tl tc, .int .i64 at_]) (results_cell_row (P := Try.prog) Try.results24 _ _ (w.heap.size + 1) 60 _ (0, 0) _ rfl hN Try.underlying60 rfl (by kernel_rfl)) rfl ⟨rfl, ?_⟩
  exact hB
theorem held5 {w W Z : World} {b : Nat} {t : TypeId} {v0 v1 v2 v3 v4 v5 : Value} (h : W.heap[b]? = some (.cells #[v0, v1, v2, v3, v4, v5] t (0, 0))) (hb : Below W.heap.size W Z) :
    Z.cell? ⟨b, 0, none⟩ = some v0 ∧ Z.cell? ⟨b, 1, none⟩ = some v1 ∧ Z.cell? ⟨b, 2, none⟩ = some v2 ∧ Z.cell? ⟨b, 3, none⟩ = some v3 ∧ Z.cell? ⟨b, 4, none⟩ = some v4 := by
  obtain ⟨c0, c1, c2, c3, c4, _⟩ := cells6 (blk_keep h hb)
  exact ⟨c0, c1, c2, c3, c4⟩
/-- The offset and the row of a node. -/
def ofs (k at_ : Int) : Int := if at_ = (nl k : Int) then 0 else at_
def ndp (k at_ : Int) : Int := if at_ = (nl k : Int) then 1 else 0
end LW
end Go.Proofs.Ythbakhgfnfdahaa

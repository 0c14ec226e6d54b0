/-
  Arrays of words in memory, as lists; the parts of two lists.
-/
import Derived.Test.YtplpplbmajiclabGreatEncU
import Derived.Laws.Rows
import Derived.Laws.Tables
import Derived.Deep.MidRow
namespace Go.Proofs.YtplpplbmajiclabGreat
open Go.RowKit
set_option linter.unusedVariables false
set_option linter.unusedSimpArgs false
namespace LW
open Words
/-- The cells of an array of integers of one kind. -/
def K (k : IntKind) (vs : List Int) : Array Value := (vs.map (Value.int k)).toArray
theorem K_size (k : IntKind) (vs : List Int) : (K k vs).size = vs.length := by simp [K]
theorem K_get (k : IntKind) (vs : List Int) (i : Nat) (h : i < vs.length) : (K k vs)[i]? = some (.int k (vs.getD i 0)) := by
  simp [K, List.getD_eq_getElem?_getD, List.getElem?_eq_getElem h]
theorem K_set (k : IntKind) (vs : List Int) (i : Nat) (x : Int) : (K k vs).setIfInBounds i (.int k x) = K k (vs.set i x) := by
  simp [K]
theorem K_one (k : IntKind) (vs : List Int) : (K k vs).all (·.oneCell') = true := by
  rw [Array.all_eq_true_iff_forall_mem]
  intro v hv
  simp [K] at hv
  obtain ⟨a, _, rfl⟩ := hv
  rfl
theorem blk_cellK {w : World} {b i : Nat} {k : IntKind} {vs : List Int} {t : TypeId} {fr : Nat × Nat} (h : w.heap[b]? = some (.cells (K k vs) t fr)) (hi : i < vs.length) : w.cell? ⟨b, i, none⟩ = some (.int k (vs.getD i 0)) :=
  blk_cell h (K_get k vs i hi)
theorem blk_setK {w : World} {g : Nat} {k : IntKind} {vs : List Int} {t : TypeId} {i : Nat} {x : Int} (h : w.heap[g]? = some (.cells (K k vs) t (0, 0))) : (w.setCell ⟨g, i, none⟩ (.int k x)).heap[g]? = some (.cells (K k (vs.set i x)) t (0, 0)) := by
  rw [← K_set]; exact blk_set h
theorem blk_frozen {w : World} {b i : Nat} {cs : Array Value} {t : TypeId} (h : w.heap[b]? = some (.cells cs t (0, 0))) : w.frozen? ⟨b, i, none⟩ = false := by
  simp [World.frozen?, h]
/-- Eight of a kind are eight words. -/
theorem eight (l : List Int) (h : l.length = 8) : ∃ a b c d e f g i, l = [a, b, c, d, e, f, g, i] := by
  match l, h with
  | [a, b, c, d, e, f, g, i], _ => exact ⟨a, b, c, d, e, f, g, i, rfl⟩
theorem info85 (l : List Int) (h : l.length = 8) : (Tryz.prog.info? 102).map (·.size) = some (K .u64 l).size := by rw [K_size, h]; kernel_rfl
theorem size8 (l l' : List Int) (h : l.length = 8) (h' : l'.length = 8) : (K .u64 l).size = (K .u64 l').size := by rw [K_size, K_size, h, h']
set_option maxRecDepth 100000 in
set_option maxHeartbeats 2000000 in
/-- Start of 64 bytes: eight words, whatever the table's are. -/
theorem start8 (a : Option Addr) (cap : Nat) (zs iv : List Int) (w : World) (hz : Byt zs) (hr : Row w a zs) (hl : zs.length = 64) (hiv : iv.length = 8) (ti : w.heap[2]? = some (.cells (K .u64 iv) 102 (0, 0))) :
    Calls Tryz.prog 132 #[.slice a 64 cap] w fun e w' => ∃ l : List Int, l.length = 8 ∧ e = .returned (.tuple #[.agg (K .u64 l), .int .i64 0]) ∧ Below w.heap.size w w' := by
  have hld : ∀ (i : Nat) (X : World), i < 8 → Row X a zs → Calls Tryz.prog 134 #[.slice a 64 cap, .int .i64 (8 * (i : Int))] X fun e w' => e = .returned (.tuple #[.int .u64 (ld zs (8 * (i : Int)) 8).1, .int .i64 (ld zs (8 * (i : Int)) 8).2]) ∧ X = w' := fun i X hi h => by
    have h1 := load64 a cap zs (8 * (i : Int)) X hz h (by rw [hl]; unfold maxLen; omega) (by omega) (by omega)
    rw [hl] at h1
    exact h1
  have hb := ((Below.refl w.heap.size w).alloc (Nat.le_refl _) (.cells (K .u64 (List.replicate 8 0)) 102))
  have n0 := (heap_alloc_new w (.cells (K .u64 (List.replicate 8 0)) 102))
  have HLD := TW.hide hld
  have HR := TW.hide hr
  clear hld hr hz hl
  go_enter Tryz.func132, Tryz.ntmps132
  refine wp_seq_k fun K hK => ?_
  have HK := TW.hide hK
  clear hK
  go_wp2
  refine HK.out _ _ ?_
  clear HK K
  change Code.wp _ _ _ _ (w.alloc (.cells (K .u64 (List.replicate 8 0)) 102))
  have tI := blk_alloc (o' := .cells (K .u64 (List.replicate 8 0)) 102) ti
  generalize hWW : w.alloc (.cells (K .u64 (List.replicate 8 0)) 102) = W at hb n0 tI ⊢
  have hW : W.heap.size = w.heap.size + 1 := by rw [← hWW]; simp
  clear hWW
  generalize hB : w.heap.size = B at *
  have HTI := TW.hide tI
  have N0 := TW.hide n0
  have NB := TW.hide hb
  clear n0 hb ti tI
  have hne : ((64 : Int) != 64) = false := by simp
  have hn1 : ∀ o, (W.alloc o).heap[B + 1]? = some o := fun o => by rw [← hW]; exact heap_alloc_new W o
  have HN1 := TW.hide hn1
  have IU := TW.hide (info85 iv hiv)
  have IS := TW.hide (size8 (List.replicate 8 0) iv rfl hiv)
  have HIV := TW.hide hiv
  clear hn1 hiv
  go_wp2_with (first | (refine wpList_load_row (by rfl) 102 _ (by rfl) 2 (by rfl) 102 (K .u64 iv) (0, 0) _ HTI.out Tryz.underlying102 rfl IU.out ?_) | (refine wpList_store_row (by rfl) 102 _ _ (by rfl) (B + 1) (K .u64 iv) (by rfl) (by rfl) 102 _ (HN1.out _) IU.out IS.out (K_one _ _) ?_))
  have n1 := setRow_heap _ _ _ (K .u64 iv) _ _ (HN1.out (.cells #[.int .u64 0, .int .u64 0, .int .u64 0, .int .u64 0, .int .u64 0, .int .u64 0, .int .u64 0, .int .u64 0] 102))
  have bx := below_setRow (cs := K .u64 iv) ((Below.refl W.heap.size W).alloc (Nat.le_refl _) (.cells #[.int .u64 0, .int .u64 0, .int .u64 0, .int .u64 0, .int .u64 0, .int .u64 0, .int .u64 0, .int .u64 0] 102)) (g := B + 1) (by omega)
  generalize (W.alloc (.cells #[.int .u64 0, .int .u64 0, .int .u64 0, .int .u64 0, .int .u64 0, .int .u64 0, .int .u64 0, .int .u64 0] 102)).setRow (B + 1) (K .u64 iv) = X at n1 bx ⊢
  have M0 := TW.hide (blk_keep N0.out bx)
  have M1 := TW.hide n1
  have MB : Hid (Below B w X) := below_row NB.out bx (by omega)
  clear n1 bx N0 NB HTI HN1 hW
  go_loopw [13] (fun i wr => ∃ (k : Nat) (l : List Int), k ≤ 8 ∧ l.length = 8 ∧ i = .int .i64 k ∧ wr.heap[B]? = some (.cells (K .u64 (List.replicate 8 0)) 102 (0, 0)) ∧ wr.heap[B + 1]? = some (.cells (K .u64 l) 102 (0, 0)) ∧ Below B w wr) (fun i _ => 8 - (intOf i).toNat)
  case atStart => exact ⟨0, iv, Nat.zero_le _, HIV.out, rfl, M0.out, M1.out, MB.out⟩
  case round =>
    obtain ⟨k, l, hk, hll, rfl, n0, n1, hb⟩ := hrel
    clear M0 M1 MB X W
    have G0 := TW.hide n0
    have G1 := TW.hide n1
    have GB := TW.hide hb
    have GL := TW.hide hll
    by_cases hlt : k < 8
    · have hc := blk_cellK n1 (i := k) (by rw [hll]; exact hlt)
      have hf := blk_frozen n1 (i := k)
      have hcall := HLD.out k wr hlt (HR.out.below (hB ▸ hb))
      have HC := TW.hide hcall
      clear n0 n1 hb hcall hll
      generalize (ld zs (8 * (k : Int)) 8).1 = z at *
      generalize (ld zs (8 * (k : Int)) 8).2 = z2 at *
      generalize l.getD k 0 = y at *
      have hk1 : (k : Int) < 8 := by omega
      go_wp2_with fail
      refine HC.out.mono ?_
      rintro e w1 ⟨rfl, rfl⟩
      go_wp2
      go_roundw
      case rel =>
        exact ⟨k + 1, _, by omega, (by rw [List.length_set]; exact GL.out), by go_num, blk_other G0.out (by omega), blk_setK G1.out, GB.out.setCell (by simp) _⟩
      case measure => simp [intOf]; omega
    · obtain rfl : k = 8 := by omega
      have HI2 := TW.hide (info85 l hll)
      have HO := TW.hide (size8 (List.replicate 8 0) l rfl hll)
      have HN := TW.hide n1
      clear n0 n1 hb hll
      go_wp2_with (first | (refine wpList_load_row (by rfl) 102 _ (by rfl) (B + 1) (by rfl) 102 (K .u64 l) (0, 0) _ HN.out Tryz.underlying102 rfl HI2.out ?_) | (refine wpList_store_row (by rfl) 102 _ _ (by rfl) (B) (K .u64 l) (by rfl) (by rfl) 102 _ G0.out HI2.out HO.out (K_one _ _) ?_))
      refine bodyPost_ret (v := .tuple #[.agg (K .u64 l), .int .i64 0]) (results_row_tmp (P := Tryz.prog) Tryz.results132 _ _ B 102 _ (0, 0) _ _ (by rfl) (by rfl) (setRow_heap _ _ _ _ _ _ G0.out) Tryz.underlying102 rfl HI2.out) rfl ?_
      exact ⟨l, GL.out, rfl, below_setRow GB.out (Nat.le_refl _)⟩
end LW
end Go.Proofs.YtplpplbmajiclabGreat

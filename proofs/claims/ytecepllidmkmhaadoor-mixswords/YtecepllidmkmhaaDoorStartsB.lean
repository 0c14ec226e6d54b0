/-
  What the calls Start (the program, the document) give, for all bytes.
-/
import Derived.Test.YtecepllidmkmhaaDoorWordsB
import Derived.Test.YtecepllidmkmhaaDoorTabs
import Derived.Test.YtecepllidmkmhaaDoorOrder
namespace Go.Proofs.YtecepllidmkmhaaDoor
open Go.RowKit
set_option linter.unusedVariables false
set_option linter.unusedSimpArgs false
namespace MX
open Turn
attribute [local go_sem ↓] Go.wp_at_zero Go.wp_at_succ
open Words
/-- The chain that a block of parameters begins with. -/
def startL (zs : List Int) : List Int := (List.range 8).map fun i => xo (ivL.getD i 0) (wd zs i)
theorem startL_length (zs : List Int) : (startL zs).length = 8 := by simp [startL]
theorem startL_get (zs : List Int) (i : Nat) (h : i < 8) : (startL zs).getD i 0 = xo (ivL.getD i 0) (wd zs i) := by
  simp [startL, List.getD_eq_getElem?_getD, h]
theorem ivL_len8 : ivL.length = 8 := rfl
/-- The first 'k' of one list, the others of another. -/
def part2 (l m : List Int) (k : Nat) : List Int := l.take k ++ m.drop k
theorem part2_length (l m : List Int) (n k : Nat) (h : l.length = n) (h' : m.length = n) (hk : k ≤ n) : (part2 l m k).length = n := by simp [part2]; omega
theorem part2_get (l m : List Int) (n k : Nat) (h : l.length = n) (h' : m.length = n) (hk : k < n) : (part2 l m k).getD k 0 = m.getD k 0 := by
  unfold part2
  rw [List.getD_eq_getElem?_getD, List.getElem?_append_right (by simp; omega), List.length_take, show k - min k l.length = 0 by omega, List.getElem?_drop, Nat.add_zero, List.getD_eq_getElem?_getD]
theorem part2_set (l m : List Int) (n k : Nat) (h : l.length = n) (h' : m.length = n) (hk : k < n) : (part2 l m k).set k (l.getD k 0) = part2 l m (k + 1) := by
  unfold part2
  rw [List.set_append_right _ _ (by simp; omega), LW.take_snoc l k (by omega), List.length_take, show k - min k l.length = 0 by omega, List.drop_eq_getElem_cons (by omega : k < m.length), List.set_cons_zero, List.append_assoc]
  rfl
theorem part2_full (l m : List Int) (n : Nat) (h : l.length = n) (h' : m.length = n) : part2 l m n = l := by simp [part2, ← h]; omega
set_option maxRecDepth 100000 in
set_option maxHeartbeats 2000000 in
theorem startOk (a : Option Addr) (cap : Nat) (zs : List Int) (w : World) (hz : Byt zs) (hr : LW.Row w a zs) (hl : zs.length = 32) (ti : Tab w 0 .u32 ivL) :
    Calls Tryd.prog 11 #[.slice a 32 cap] w fun e w' => e = .returned (.tuple #[.agg (K .u32 (startL zs)), .int .i64 0]) ∧ Below w.heap.size w w' := by
  have hld : ∀ (i : Nat) (X : World), i < 8 → LW.Row X a zs → Calls Tryd.prog 35 #[.slice a 32 cap, .int .i64 (4 * (i : Int))] X fun e w' => e = .returned (.tuple #[.int .u32 (wd zs i), .int .i64 0]) ∧ X = w' := fun i X hi h => by
    have h1 := LW.load32 a cap zs (4 * (i : Int)) X hz h (by rw [hl]; unfold maxLen; omega) (by omega) (by omega)
    rw [ld_wd zs 8 i hl hi, hl] at h1
    exact h1
  have hlw := startL_length zs
  have hju := fun Y => just a 32 cap 32 Y
  have hb := ((Below.refl w.heap.size w).alloc (Nat.le_refl _) (.cells (K .u32 (List.replicate 8 0)) 24))
  have n0 := (heap_new w (.cells (K .u32 (List.replicate 8 0)) 24))
  have HLD := TW.hide hld
  have HR := TW.hide hr
  have HL := TW.hide hlw
  have HJ := TW.hide hju
  clear hld hr hlw hz hl hju
  go_enter Tryd.func11, Tryd.ntmps11
  refine wp_seq_k fun K hK => ?_
  have HK := TW.hide hK
  clear hK
  go_wp2
  refine HK.out _ _ ?_
  clear HK K
  change Code.wp _ _ _ _ (w.alloc (.cells (K .u32 (List.replicate 8 0)) 24))
  generalize hWW : w.alloc (.cells (K .u32 (List.replicate 8 0)) 24) = W at hb n0 ⊢
  have hW : W.heap.size = w.heap.size + 1 := by rw [← hWW]; simp
  clear hWW
  generalize hB : w.heap.size = B at *
  have HTI : Hid (W.rangeAt 0 0 (ivL.map (Value.int .u32))) := ti.below (hB ▸ hb)
  have N0 := TW.hide n0
  have NB := TW.hide hb
  clear n0 hb
  clear ti
  have hn1 : ∀ o, (W.alloc o).heap[B + 1]? = some o := fun o => by rw [← hW]; exact heap_new W o
  have HN1 := TW.hide hn1
  clear hn1
  go_wp2_with fail
  refine (HJ.out _).mono ?_
  rintro e w1 ⟨rfl, rfl⟩
  rw [show justE 32 32 = 0 from rfl]
  have n1 := setRow_heap _ _ _ (K .u32 ivL) _ _ (HN1.out (.cells #[.int .u32 0, .int .u32 0, .int .u32 0, .int .u32 0, .int .u32 0, .int .u32 0, .int .u32 0, .int .u32 0] 24))
  have bx := below_setRow (cs := K .u32 ivL) ((Below.refl W.heap.size W).alloc (Nat.le_refl _) (.cells #[.int .u32 0, .int .u32 0, .int .u32 0, .int .u32 0, .int .u32 0, .int .u32 0, .int .u32 0, .int .u32 0] 24)) (g := B + 1) (by omega)
  have M0 := TW.hide (blk_keep N0.out bx)
  have M1 := TW.hide n1
  have MB : Hid (Below B w ((W.alloc (.cells #[.int .u32 0, .int .u32 0, .int .u32 0, .int .u32 0, .int .u32 0, .int .u32 0, .int .u32 0, .int .u32 0] 24)).setRow (B + 1) (K .u32 ivL))) := below_row NB.out bx (by omega)
  clear n1 bx N0 NB
  go_wp2_with (first | (refine wpList_load_mid (by rfl) 24 _ (by rfl) 0 0 (by rfl) (ivL.map (Value.int .u32)) _ HTI.out Tryd.underlying24 rfl (by kernel_rfl) ?_) | (refine wpList_store_row (by rfl) 24 _ _ (by rfl) (B + 1) (K .u32 ivL) (by rfl) (by rfl) 24 _ (HN1.out _) (by kernel_rfl) (by kernel_rfl) (K_one _ _) ?_; generalize (W.alloc (.cells #[.int .u32 0, .int .u32 0, .int .u32 0, .int .u32 0, .int .u32 0, .int .u32 0, .int .u32 0, .int .u32 0] 24)).setRow (B + 1) (K .u32 ivL) = X at *))
  clear HTI HN1 hW
  go_loopw [16] (fun i wr => ∃ k : Nat, k ≤ 8 ∧ i = .int .i64 k ∧ wr.heap[B]? = some (.cells (K .u32 (List.replicate 8 0)) 24 (0, 0)) ∧ wr.heap[B + 1]? = some (.cells (K .u32 (part2 (startL zs) ivL k)) 24 (0, 0)) ∧ Below B w wr) (fun i _ => 8 - (intOf i).toNat)
  case atStart => exact ⟨0, Nat.zero_le _, rfl, M0.out, M1.out, MB.out⟩
  case round =>
    obtain ⟨k, hk, rfl, n0, n1, hb⟩ := hrel
    clear M0 M1 MB
    have G0 := TW.hide n0
    have G1 := TW.hide n1
    have GB := TW.hide hb
    by_cases hlt : k < 8
    · have hc := blk_cellK n1 (i := k) (by rw [part2_length _ _ 8 _ HL.out ivL_len8 hk]; exact hlt)
      rw [part2_get _ _ 8 _ HL.out ivL_len8 hlt] at hc
      have hf := blk_frozen n1 (i := k)
      have hsz := part2_set (startL zs) ivL 8 k HL.out ivL_len8 hlt
      rw [startL_get zs k hlt] at hsz
      have hcall := HLD.out k wr hlt (HR.out.below (hB ▸ hb))
      have HC := TW.hide hcall
      clear n0 n1 hb hcall
      generalize wd zs k = z at *
      generalize ivL.getD k 0 = y at *
      obtain ⟨q, hq⟩ : ∃ q, xo y z = q := ⟨_, rfl⟩
      rw [hq] at hsz
      unfold xo at hq
      have HS := TW.hide hsz
      clear hsz
      have hk1 : (k : Int) < 8 := by omega
      go_wp2_with fail
      refine HC.out.mono ?_
      rintro e w1 ⟨rfl, rfl⟩
      go_wp2
      go_roundw
      case rel =>
        refine ⟨k + 1, by omega, by go_num, blk_other G0.out (by omega), ?_, GB.out.setCell (by simp) _⟩
        rw [← HS.out]; exact blk_setK G1.out
      case measure => simp [intOf]; omega
    · obtain rfl : k = 8 := by omega
      rw [part2_full _ _ 8 HL.out ivL_len8] at n1
      have hi23 := info8 (startL zs) HL.out
      have HO := TW.hide (size8 (List.replicate 8 0) (startL zs) rfl HL.out)
      have HI2 := TW.hide hi23
      have HN := TW.hide n1
      clear n0 n1 hb hi23
      go_wp2_with (first | (refine wpList_load_row (by rfl) 24 _ (by rfl) (B + 1) (by rfl) 24 (K .u32 (startL zs)) (0, 0) _ HN.out Tryd.underlying24 rfl HI2.out ?_) | (refine wpList_store_row (by rfl) 24 _ _ (by rfl) (B) (K .u32 (startL zs)) (by rfl) (by rfl) 24 _ G0.out HI2.out HO.out (K_one _ _) ?_))
      refine bodyPost_ret (v := .tuple #[.agg (K .u32 (startL zs)), .int .i64 0]) (results_row_tmp (P := Tryd.prog) Tryd.results11 _ _ B 24 _ (0, 0) _ _ (by rfl) (by rfl) (setRow_heap _ _ _ _ _ _ G0.out) Tryd.underlying24 rfl HI2.out) rfl ?_
      exact ⟨rfl, below_setRow GB.out (Nat.le_refl _)⟩
theorem wpList_buildTo0 {P : Program} {ops : Array Oper} {rest : List Oper} {o : Oper} {a : Act} {w : World} {Q : Exit → Act → World → Prop} (hg : o.guard = none) (t : TypeId) (parts : Array (Nat × Operand)) (ho : o.op = .build t parts) (v : Value)
    (hrun : (execOp a.eval o).run P w = .ok (.value v) w) (h : wpList P ops Q rest (a.put o.dst v) w) : wpList P ops Q (o :: rest) a w := Great.wpList_runTo hg _ rfl v w hrun h
set_option maxRecDepth 100000 in
theorem startNo (a : Option Addr) (cap n : Nat) (w : World) (hn : n ≠ 32) :
    Calls Tryd.prog 11 #[.slice a n cap] w fun e w' => e = .returned (.tuple #[.agg (K .u32 (List.replicate 8 0)), .int .i64 (justE n 32)]) ∧ Below w.heap.size w w' := by
  have hb := ((Below.refl w.heap.size w).alloc (Nat.le_refl _) (.cells (K .u32 (List.replicate 8 0)) 24))
  have n0 := (heap_new w (.cells (K .u32 (List.replicate 8 0)) 24))
  have hju := fun Y => just a n cap 32 Y
  have HJ := TW.hide hju
  clear hju
  have hje : (justE n 32 != 0) = true := by unfold justE; split <;> (try split) <;> first | rfl | (exfalso; omega)
  generalize justE n 32 = er at *
  go_enter Tryd.func11, Tryd.ntmps11
  refine wp_seq_k fun K hK => ?_
  have HK := TW.hide hK
  clear hK
  go_wp2
  refine HK.out _ _ ?_
  clear HK K
  change Code.wp _ _ _ _ (w.alloc (.cells (K .u32 (List.replicate 8 0)) 24))
  generalize hWW : w.alloc (.cells (K .u32 (List.replicate 8 0)) 24) = W at hb n0 ⊢
  have hW : W.heap.size = w.heap.size + 1 := by rw [← hWW]; simp
  clear hWW
  generalize hB : w.heap.size = B at *
  have iu := info8 (List.replicate 8 0) rfl
  have N0 := TW.hide n0
  have NB := TW.hide hb
  have IU := TW.hide iu
  clear n0 hb iu
  clear hW
  go_wp2_with fail
  refine (HJ.out _).mono ?_
  rintro e w1 ⟨rfl, rfl⟩
  go_wp2_with (first | (refine wpList_buildTo0 (by rfl) 24 _ (by rfl) (.agg (K .u32 (List.replicate 8 0))) (by kernel_rfl) ?_; simp only [Act.put, List.setIfInBounds_toArray, List.set_cons_zero, List.set_cons_succ, List.getElem_toArray, List.getElem_cons_zero, List.getElem_cons_succ]) | (refine wpList_store_row (by rfl) 24 _ _ (by rfl) (B) (K .u32 (List.replicate 8 0)) (by rfl) (by rfl) 24 _ N0.out IU.out rfl (K_one _ _) ?_))
  refine bodyPost_ret (v := .tuple #[.agg (K .u32 (List.replicate 8 0)), .int .i64 er]) (results_row_tmp (P := Tryd.prog) Tryd.results11 _ _ B 24 _ (0, 0) _ _ (by rfl) (by rfl) (setRow_heap _ _ _ _ _ _ N0.out) Tryd.underlying24 rfl IU.out) rfl ?_
  exact ⟨rfl, below_setRow NB.out (Nat.le_refl _)⟩
set_option maxRecDepth 100000 in
set_option maxHeartbeats 600000 in
theorem rstartOk (a : Option Addr) (cap : Nat) (zs : List Int) (w : World) (hz : Byt zs) (hr : LW.Row w a zs) (hl : zs.length = 32) :
    Calls Tryd.prog 12 #[.slice a 32 cap] w fun e w' => e = .returned (.tuple #[.agg (K .u32 (startL zs)), .int .i64 0]) ∧ Below w.heap.size w w' := by
  have hld : ∀ (i : Nat) (X : World), i < 8 → LW.Row X a zs → Calls Tryd.prog 36 #[.slice a 32 cap, .int .i64 (4 * (i : Int))] X fun e w' => e = .returned (.int .u32 (wd zs i)) ∧ ∃ q, w' = X.drewN q := fun i X hi h => by
    have h1 := rload4 a cap zs i X hz h (by omega) (by rw [hl]; unfold maxLen; omega)
    rw [hl] at h1
    exact h1
  have hlw := startL_length zs
  have hiv := fun Y => riv Y
  have hb := (((Below.refl w.heap.size w).alloc (Nat.le_refl _) (.cells (K .u32 (List.replicate 8 0)) 24)).alloc (by simp; try omega) (.cells (K .u32 (List.replicate 8 0)) 24))
  have n0 := (blk_alloc (o' := .cells (K .u32 (List.replicate 8 0)) 24) (heap_new w (.cells (K .u32 (List.replicate 8 0)) 24)))
  have n1 := (heap_new (w.alloc (.cells (K .u32 (List.replicate 8 0)) 24)) (.cells (K .u32 (List.replicate 8 0)) 24))
  rw [show (w.alloc (.cells (K .u32 (List.replicate 8 0)) 24)).heap.size = w.heap.size + 1 by simp] at n1
  have HLD := TW.hide hld
  have HR := TW.hide hr
  have HL := TW.hide hlw
  have HIV := TW.hide hiv
  clear hld hr hlw hz hl hiv
  go_enter Tryd.func12, Tryd.ntmps12
  refine wp_seq_k fun K hK => ?_
  have HK := TW.hide hK
  clear hK
  go_wp2
  refine HK.out _ _ ?_
  clear HK K
  refine wp_seq_k fun K hK => ?_
  have HK := TW.hide hK
  clear hK
  go_wp2
  refine HK.out _ _ ?_
  clear HK K
  change Code.wp _ _ _ _ ((w.alloc (.cells (K .u32 (List.replicate 8 0)) 24)).alloc (.cells (K .u32 (List.replicate 8 0)) 24))
  generalize hWW : (w.alloc (.cells (K .u32 (List.replicate 8 0)) 24)).alloc (.cells (K .u32 (List.replicate 8 0)) 24) = W at hb n0 n1 ⊢
  have hW : W.heap.size = w.heap.size + 1 + 1 := by rw [← hWW]; simp
  clear hWW
  generalize hB : w.heap.size = B at *
  have N0 := TW.hide n0
  have N1 := TW.hide n1
  have NB := TW.hide hb
  clear n0 n1 hb
  clear hW
  go_wp2_with fail
  refine (HIV.out _).mono ?_
  rintro e w1 ⟨rfl, hb1⟩
  have K0 := TW.hide (blk_keep N0.out hb1)
  have K1 := TW.hide (blk_keep N1.out hb1)
  have KB : Hid (Below B w w1) := below_row NB.out hb1 (by have := blk_lt N0.out; omega)
  have M0 : Hid ((w1.setRow (B + 1) (K .u32 ivL)).heap[B]? = some (.cells (K .u32 (List.replicate 8 0)) 24 (0, 0))) := by
    show _ = _
    rw [setRow_other _ _ _ _ (by omega)]; exact K0.out
  have M1 := TW.hide (setRow_heap _ _ _ (K .u32 ivL) _ _ K1.out)
  have MB : Hid (Below B w (w1.setRow (B + 1) (K .u32 ivL))) := below_setRow KB.out (by omega)
  clear N0 N1 NB hb1 KB K0
  go_wp2_with (refine wpList_store_row (by rfl) 24 _ _ (by rfl) (B + 1) (K .u32 ivL) (by rfl) (by rfl) 24 _ K1.out (by kernel_rfl) (by kernel_rfl) (K_one _ _) ?_; generalize w1.setRow (B + 1) (K .u32 ivL) = X at *)
  go_loopw [5] (fun i wr => ∃ k : Nat, k ≤ 8 ∧ i = .int .i64 k ∧ wr.heap[B]? = some (.cells (K .u32 (List.replicate 8 0)) 24 (0, 0)) ∧ wr.heap[B + 1]? = some (.cells (K .u32 (part2 (startL zs) ivL k)) 24 (0, 0)) ∧ Below B w wr) (fun i _ => 8 - (intOf i).toNat)
  case atStart => exact ⟨0, Nat.zero_le _, rfl, M0.out, M1.out, MB.out⟩
  case round =>
    obtain ⟨k, hk, rfl, n0, n1, hb⟩ := hrel
    clear M0 M1 MB
    by_cases hlt : k < 8
    · have hsz := part2_set (startL zs) ivL 8 k HL.out ivL_len8 hlt
      have hpl := part2_length (startL zs) ivL 8 k HL.out ivL_len8 hk
      have hpg := part2_get (startL zs) ivL 8 k HL.out ivL_len8 hlt
      rw [startL_get zs k hlt] at hsz
      have hcall := fun Y (h : Below B w Y) => HLD.out k Y hlt (HR.out.below (hB ▸ h))
      generalize wd zs k = z at *
      generalize ivL.getD k 0 = y at *
      generalize part2 (startL zs) ivL k = us at *
      obtain ⟨q, hq⟩ : ∃ q, xo y z = q := ⟨_, rfl⟩
      rw [hq] at hsz
      unfold xo at hq
      have HCY : Hid (∀ Z : World, Z.heap[B + 1]? = some (.cells (K .u32 us) 24 (0, 0)) → Z.cell? ⟨B + 1, k, none⟩ = some (.int .u32 y)) := fun Z h => by
        have := blk_cellK h (i := k) (by rw [hpl]; exact hlt)
        rw [hpg] at this
        exact this
      have HC := TW.hide hcall
      have HS := TW.hide hsz
      have HT : Hid (wr.heap[B]? = some (.cells (K .u32 (List.replicate 8 0)) 24 (0, 0)) ∧ Below B w wr) := ⟨n0, hb⟩
      have HSS : Hid (wr.heap[B + 1]? = some (.cells (K .u32 us) 24 (0, 0))) := n1
      clear hsz hpl hpg hcall n0 n1 hb
      have hk1 : (k : Int) < 8 := by omega
      have k4 : IntKind.i64.wrap (4 * (k : Int)) = 4 * (k : Int) := by rw [IntKind.wrap_i64]; omega
      go_wp2
      refine wp_region_noPanic ?_
      refine RG.wp_region_L (fun Z => Z.heap[B + 1]? = some (.cells (K .u32 us) 24 (0, 0))) (fun Z => Z.heap[B]? = some (.cells (K .u32 (List.replicate 8 0)) 24 (0, 0)) ∧ Below B w Z) [10] (by kernel_rfl) ?_
      refine RG.wpL_any fun Y hY => ?_
      have HY : Hid (Y.heap[B]? = some (.cells (K .u32 (List.replicate 8 0)) 24 (0, 0)) ∧ Below B w Y) := by rw [hY]; exact ⟨HT.out.1, below_drewN HT.out.2 1⟩
      have HYS : Hid (Y.heap[B + 1]? = some (.cells (K .u32 us) 24 (0, 0))) := by rw [hY]; exact HSS.out
      clear hY HT HSS
      refine RG.wpL_take (fuel := 4) (a' := ?A) [0, 1, 2, 3, 4, 5, 6] (by kernel_rfl) (by kernel_rfl) (fun _ _ _ _ _ h => h) HY.out (fun _ => HYS.out) ?r ?_
      case r =>
        refine RG.RunsIf.weak (v := ?_) (by rfl) (by rfl) (fun Z hT => ?_) ?_
        rotate_left
        · go_simp
          rfl
        simp only [Act.put, List.setIfInBounds_toArray, List.set_cons_zero, List.set_cons_succ, List.getElem_toArray, List.getElem_cons_zero, List.getElem_cons_succ]
        refine RG.RunsIf.weak (v := ?_) (by rfl) (by rfl) (fun Z hT => ?_) ?_
        rotate_left
        · go_simp
          rfl
        simp only [Act.put, List.setIfInBounds_toArray, List.set_cons_zero, List.set_cons_succ, List.getElem_toArray, List.getElem_cons_zero, List.getElem_cons_succ]
        refine RG.RunsIf.weak (v := ?_) (by rfl) (by rfl) (fun Z hT => ?_) ?_
        rotate_left
        · go_simp
          rfl
        simp only [Act.put, List.setIfInBounds_toArray, List.set_cons_zero, List.set_cons_succ, List.getElem_toArray, List.getElem_cons_zero, List.getElem_cons_succ]
        refine RG.RunsIf.strong (v := .int .u32 y) (by rfl) (by kernel_rfl) (by rfl) (fun Z hT hS => ?_) ?_
        · have c := HCY.out Z hS
          go_simp
        simp only [Act.put, List.setIfInBounds_toArray, List.set_cons_zero, List.set_cons_succ, List.getElem_toArray, List.getElem_cons_zero, List.getElem_cons_succ]
        refine RG.RunsIf.weak (v := ?_) (by rfl) (by rfl) (fun Z hT => ?_) ?_
        rotate_left
        · go_simp
          rfl
        simp only [Act.put, List.setIfInBounds_toArray, List.set_cons_zero, List.set_cons_succ, List.getElem_toArray, List.getElem_cons_zero, List.getElem_cons_succ]
        refine RG.RunsIf.weak (v := ?_) (by rfl) (by rfl) (fun Z hT => ?_) ?_
        rotate_left
        · go_simp
          rfl
        simp only [Act.put, List.setIfInBounds_toArray, List.set_cons_zero, List.set_cons_succ, List.getElem_toArray, List.getElem_cons_zero, List.getElem_cons_succ]
        refine RG.RunsIf.weak (v := ?_) (by rfl) (by rfl) (fun Z hT => ?_) ?_
        rotate_left
        · go_simp
          rfl
        simp only [Act.put, List.setIfInBounds_toArray, List.set_cons_zero, List.set_cons_succ, List.getElem_toArray, List.getElem_cons_zero, List.getElem_cons_succ]
        exact RG.RunsIf.nil
      refine RG.wpL_step (i := 7) (by kernel_rfl) (by rfl) (by rfl) (fun KX hK => ?_)
      have HK := TW.hide hK
      clear hK
      go_simp
      refine (HC.out Y HY.out.2).mono ?_
      rintro e W1 ⟨rfl, qq, rfl⟩
      have H2 : Hid ((Y.drewN qq).heap[B]? = some (.cells (K .u32 (List.replicate 8 0)) 24 (0, 0)) ∧ Below B w (Y.drewN qq)) := ⟨HY.out.1, below_drewN HY.out.2 qq⟩
      have H2S : Hid ((Y.drewN qq).heap[B + 1]? = some (.cells (K .u32 us) 24 (0, 0))) := HYS.out
      refine HK.out _ _ H2.out (fun _ => H2S.out) ?_
      clear HK KX HY HYS
      generalize Y.drewN qq = Y2 at *
      refine RG.wpL_take (fuel := 1) (a' := ?A2) [8, 9] (by kernel_rfl) (by kernel_rfl) (fun _ _ _ _ _ h => h) H2.out (fun _ => H2S.out) ?r2 ?_
      case r2 =>
        refine RG.RunsIf.weak (v := ?_) (by rfl) (by rfl) (fun Z hT => ?_) ?_
        rotate_left
        · go_simp
          rfl
        simp only [Act.put, List.setIfInBounds_toArray, List.set_cons_zero, List.set_cons_succ, List.getElem_toArray, List.getElem_cons_zero, List.getElem_cons_succ]
        refine RG.RunsIf.weak (v := ?_) (by rfl) (by rfl) (fun Z hT => ?_) ?_
        rotate_left
        · go_simp
          rfl
        simp only [Act.put, List.setIfInBounds_toArray, List.set_cons_zero, List.set_cons_succ, List.getElem_toArray, List.getElem_cons_zero, List.getElem_cons_succ]
        exact RG.RunsIf.nil
      have hc := HCY.out Y2 H2S.out
      have hf := blk_frozen H2S.out (i := k)
      refine RG.wpL_late (i := 10) (by kernel_rfl) (by rfl) (by rfl) (by kernel_rfl) (fun KX hK => ?_)
      have HK := TW.hide hK
      clear hK
      go_simp
      refine HK.out _ _ ⟨blk_other H2.out.1 (by omega), H2.out.2.setCell (by simp) _⟩ ?_
      clear HK KX
      refine RG.wpL_done (by kernel_rfl) ?_ _
      refine NoPanic.normal ?_
      go_wp2
      go_roundw
      case rel =>
        refine ⟨k + 1, by omega, by go_num, blk_other H2.out.1 (by omega), ?_, H2.out.2.setCell (by simp) _⟩
        rw [← HS.out]; exact blk_setK H2S.out
      case measure => simp [intOf]; omega
    · obtain rfl : k = 8 := by omega
      rw [part2_full _ _ 8 HL.out ivL_len8] at n1
      have hi23 := info8 (startL zs) HL.out
      have HO := TW.hide (size8 (List.replicate 8 0) (startL zs) rfl HL.out)
      have HI2 := TW.hide hi23
      have HN := TW.hide n1
      have G0 := TW.hide n0
      have GB := TW.hide hb
      clear n0 n1 hb hi23
      go_wp2_with (first | (refine wpList_load_row (by rfl) 24 _ (by rfl) (B + 1) (by rfl) 24 (K .u32 (startL zs)) (0, 0) _ HN.out Tryd.underlying24 rfl HI2.out ?_) | (refine wpList_store_row (by rfl) 24 _ _ (by rfl) (B) (K .u32 (startL zs)) (by rfl) (by rfl) 24 _ G0.out HI2.out HO.out (K_one _ _) ?_))
      refine bodyPost_ret (v := .tuple #[.agg (K .u32 (startL zs)), .int .i64 0]) (results_row_tmp (P := Tryd.prog) Tryd.results12 _ _ B 24 _ (0, 0) _ _ (by rfl) (by rfl) (setRow_heap _ _ _ _ _ _ G0.out) Tryd.underlying24 rfl HI2.out) rfl ?_
      exact ⟨rfl, below_setRow GB.out (Nat.le_refl _)⟩
set_option maxRecDepth 100000 in
theorem rstartNo (a : Option Addr) (cap n : Nat) (w : World) (hn : n ≠ 32) :
    Calls Tryd.prog 12 #[.slice a n cap] w fun e w' => e = .returned (.tuple #[.agg (K .u32 (List.replicate 8 0)), .int .i64 (justE n 32)]) ∧ Below w.heap.size w w' := by
  have hb := (((Below.refl w.heap.size w).alloc (Nat.le_refl _) (.cells (K .u32 (List.replicate 8 0)) 24)).alloc (by simp; try omega) (.cells (K .u32 (List.replicate 8 0)) 24))
  have n0 := (blk_alloc (o' := .cells (K .u32 (List.replicate 8 0)) 24) (heap_new w (.cells (K .u32 (List.replicate 8 0)) 24)))
  have n1 := (heap_new (w.alloc (.cells (K .u32 (List.replicate 8 0)) 24)) (.cells (K .u32 (List.replicate 8 0)) 24))
  rw [show (w.alloc (.cells (K .u32 (List.replicate 8 0)) 24)).heap.size = w.heap.size + 1 by simp] at n1
  by_cases hlt : n < 32
  · rw [show justE n 32 = 3 by unfold justE; rw [if_pos hlt]]
    have h1 : (n : Int) < 32 := by omega
    clear hn hlt
    go_enter Tryd.func12, Tryd.ntmps12
    refine wp_seq_k fun K hK => ?_
    have HK := TW.hide hK
    clear hK
    go_wp2
    refine HK.out _ _ ?_
    clear HK K
    refine wp_seq_k fun K hK => ?_
    have HK := TW.hide hK
    clear hK
    go_wp2
    refine HK.out _ _ ?_
    clear HK K
    change Code.wp _ _ _ _ ((w.alloc (.cells (K .u32 (List.replicate 8 0)) 24)).alloc (.cells (K .u32 (List.replicate 8 0)) 24))
    generalize hWW : (w.alloc (.cells (K .u32 (List.replicate 8 0)) 24)).alloc (.cells (K .u32 (List.replicate 8 0)) 24) = W at hb n0 n1 ⊢
    have hW : W.heap.size = w.heap.size + 1 + 1 := by rw [← hWW]; simp
    clear hWW
    generalize hB : w.heap.size = B at *
    have iu := info8 (List.replicate 8 0) rfl
    have N0 := TW.hide n0
    have N1 := TW.hide n1
    have NB := TW.hide hb
    have IU := TW.hide iu
    clear n0 n1 hb iu
    clear hW
    go_wp2_with (first | (refine wpList_load_row (by rfl) 24 _ (by rfl) (B + 1) (by rfl) 24 (K .u32 (List.replicate 8 0)) (0, 0) _ N1.out Tryd.underlying24 rfl IU.out ?_) | (refine wpList_store_row (by rfl) 24 _ _ (by rfl) (B) (K .u32 (List.replicate 8 0)) (by rfl) (by rfl) 24 _ N0.out IU.out rfl (K_one _ _) ?_))
    refine bodyPost_ret (v := .tuple #[.agg (K .u32 (List.replicate 8 0)), .int .i64 3]) (results_row_tmp (P := Tryd.prog) Tryd.results12 _ _ B 24 _ (0, 0) _ _ (by rfl) (by rfl) (setRow_heap _ _ _ _ _ _ N0.out) Tryd.underlying24 rfl IU.out) rfl ?_
    exact ⟨rfl, below_setRow NB.out (Nat.le_refl _)⟩
  · rw [show justE n 32 = 2 by unfold justE; rw [if_neg hlt, if_pos (by omega)]]
    have h1 : ¬ (n : Int) < 32 := by omega
    have h2 : (32 : Int) < n := by omega
    clear hn hlt
    go_enter Tryd.func12, Tryd.ntmps12
    refine wp_seq_k fun K hK => ?_
    have HK := TW.hide hK
    clear hK
    go_wp2
    refine HK.out _ _ ?_
    clear HK K
    refine wp_seq_k fun K hK => ?_
    have HK := TW.hide hK
    clear hK
    go_wp2
    refine HK.out _ _ ?_
    clear HK K
    change Code.wp _ _ _ _ ((w.alloc (.cells (K .u32 (List.replicate 8 0)) 24)).alloc (.cells (K .u32 (List.replicate 8 0)) 24))
    generalize hWW : (w.alloc (.cells (K .u32 (List.replicate 8 0)) 24)).alloc (.cells (K .u32 (List.replicate 8 0)) 24) = W at hb n0 n1 ⊢
    have hW : W.heap.size = w.heap.size + 1 + 1 := by rw [← hWW]; simp
    clear hWW
    generalize hB : w.heap.size = B at *
    have iu := info8 (List.replicate 8 0) rfl
    have N0 := TW.hide n0
    have N1 := TW.hide n1
    have NB := TW.hide hb
    have IU := TW.hide iu
    clear n0 n1 hb iu
    clear hW
    go_wp2_with (first | (refine wpList_load_row (by rfl) 24 _ (by rfl) (B + 1) (by rfl) 24 (K .u32 (List.replicate 8 0)) (0, 0) _ N1.out Tryd.underlying24 rfl IU.out ?_) | (refine wpList_store_row (by rfl) 24 _ _ (by rfl) (B) (K .u32 (List.replicate 8 0)) (by rfl) (by rfl) 24 _ N0.out IU.out rfl (K_one _ _) ?_))
    refine bodyPost_ret (v := .tuple #[.agg (K .u32 (List.replicate 8 0)), .int .i64 2]) (results_row_tmp (P := Tryd.prog) Tryd.results12 _ _ B 24 _ (0, 0) _ _ (by rfl) (by rfl) (setRow_heap _ _ _ _ _ _ N0.out) Tryd.underlying24 rfl IU.out) rfl ?_
    exact ⟨rfl, below_setRow NB.out (Nat.le_refl _)⟩
end MX
end Go.Proofs.YtecepllidmkmhaaDoor

/-
  Cr1, Cr2, Cr3 in one.
-/
import Derived.Test.YtdjanbojhblijaaGreatCpBg
import Derived.Test.YtdjanbojhblijaaGreatRc7g
import Derived.Sort.Grow
namespace Go.Proofs.YtdjanbojhblijaaGreat
open List renaming setIfInBounds_toArray → lpA, set_cons_zero → lpZ, set_cons_succ → lpS, getElem_toArray → lgT, getElem_cons_zero → lgZ, getElem_cons_succ → lgS
open Go.RowKit
set_option linter.unusedVariables false
set_option linter.unusedSimpArgs false
namespace LW
open Mc
set_option maxRecDepth 100000 in
set_option maxHeartbeats 4000000 in
theorem pclosR (x1 x2 y1 y2 : Int) (w : World) : Calls Tryz.prog 21 #[.agg #[.int .i64 x1, .int .i64 x2], .agg #[.int .i64 y1, .int .i64 y2]] w fun e w' => e = .returned (.int .i64 (cf2 (x1, x2) (y1, y2))) ∧ ∃ q os', w' = Go.Sort.grow (w.drewN q) os' := by
 obtain ⟨POST, hP⟩ : ∃ Q : Ending → World → Prop, Q = fun e w' => e = .returned (.int .i64 (cf2 (x1, x2) (y1, y2))) ∧ ∃ q os', w' = Go.Sort.grow (w.drewN q) os' := ⟨_, rfl⟩
 have HPo : Hid (∀ Z, GrT w (.cells #[.int .i64 x1, .int .i64 x2] 33) (.cells #[.int .i64 y1, .int .i64 y2] 33) Z → POST (.returned (.int .i64 (if cmpI x2 y2 = 0 then cmpI x1 y1 else cmpI x2 y2))) Z) := fun Z h => by
  rw [hP]
  obtain ⟨q, os, rfl⟩ := h
  refine ⟨?_, q, _, rfl⟩
  have : (if cmpI x2 y2 = 0 then cmpI x1 y1 else cmpI x2 y2) = cf2 (x1, x2) (y1, y2) := by
   unfold cmpI cf2
   dsimp only
   (repeat' split) <;> omega
  rw [this]
 rw [← hP]
 clear hP
 have HC1 := TW.hide (fun W => pcompare x2 y2 W)
 have HC2 := TW.hide (fun W => pcompare x1 y1 W)
 generalize cmpI x2 y2 = r1 at *
 generalize cmpI x1 y1 = r2 at *
 have HO := TW.hide (fun b W c0 c1 => por r1 r2 b W c0 c1)
 go_enter Tryz.func21, Tryz.ntmps21
 go_wp2
 refine wp_region_noPanic ?_
 refine RG.wp_region_L (fun Z => True) (fun Z => GrT w (.cells #[.int .i64 x1, .int .i64 x2] 33) (.cells #[.int .i64 y1, .int .i64 y2] 33) Z) [] (by kernel_rfl) ?_
 refine RG.wpL_any fun Y hY => ?_
 have HT : Hid (GrT w (.cells #[.int .i64 x1, .int .i64 x2] 33) (.cells #[.int .i64 y1, .int .i64 y2] 33) Y) := by rw [hY]; exact GrT.start w _ _ 1
 clear hY
 refine RG.wpL_take (fuel := 5) (a' := ?Aa) [0, 1, 2, 3, 5, 6, 7, 8] (by kernel_rfl) (by kernel_rfl) (fun _ _ _ _ _ h => h) HT.out (fun _ => trivial) ?ra ?_
 case ra =>
  refine RG.RunsIf.weak (v := ?_) (by rfl) (by rfl) (fun Z hT => ?_) ?_
  rotate_left
  ·go_simp
   rfl
  simp only [Act.put, lpA, lpZ, lpS, lgT, lgZ, lgS]
  refine RG.RunsIf.weak (v := .int .i64 x2) (by rfl) (by rfl) (fun Z hT => ?_) ?_
  ·have h0 := blk_cell (GrT.one hT) (i := 1) rfl
   go_simp
  simp only [Act.put, lpA, lpZ, lpS, lgT, lgZ, lgS]
  refine RG.RunsIf.weak (v := ?_) (by rfl) (by rfl) (fun Z hT => ?_) ?_
  rotate_left
  ·go_simp
   rfl
  simp only [Act.put, lpA, lpZ, lpS, lgT, lgZ, lgS]
  refine RG.RunsIf.weak (v := .int .i64 y2) (by rfl) (by rfl) (fun Z hT => ?_) ?_
  ·have h0 := blk_cell (GrT.two hT) (i := 1) rfl
   go_simp
  simp only [Act.put, lpA, lpZ, lpS, lgT, lgZ, lgS]
  refine RG.RunsIf.weak (v := ?_) (by rfl) (by rfl) (fun Z hT => ?_) ?_
  rotate_left
  ·go_simp
   rfl
  simp only [Act.put, lpA, lpZ, lpS, lgT, lgZ, lgS]
  refine RG.RunsIf.weak (v := .int .i64 x1) (by rfl) (by rfl) (fun Z hT => ?_) ?_
  ·have h0 := blk_cell (GrT.one hT) (i := 0) rfl
   go_simp
  simp only [Act.put, lpA, lpZ, lpS, lgT, lgZ, lgS]
  refine RG.RunsIf.weak (v := ?_) (by rfl) (by rfl) (fun Z hT => ?_) ?_
  rotate_left
  ·go_simp
   rfl
  simp only [Act.put, lpA, lpZ, lpS, lgT, lgZ, lgS]
  refine RG.RunsIf.weak (v := .int .i64 y1) (by rfl) (by rfl) (fun Z hT => ?_) ?_
  ·have h0 := blk_cell (GrT.two hT) (i := 0) rfl
   go_simp
  simp only [Act.put, lpA, lpZ, lpS, lgT, lgZ, lgS]
  exact RG.RunsIf.nil
 refine RG.wpL_step (i := 4) (by kernel_rfl) (by rfl) (by rfl) (fun KX hK => ?_)
 have HK := TW.hide hK
 clear hK
 go_simp
 refine (HC1.out _).mono ?_
 rintro e1 w1 ⟨rfl, rfl⟩
 refine HK.out _ _ HT.out (fun _ => trivial) ?_
 clear HK KX
 try simp only [Act.put, lpA, lpZ, lpS, lgT, lgZ, lgS]
 refine RG.wpL_step (i := 9) (by kernel_rfl) (by rfl) (by rfl) (fun KX hK => ?_)
 have HK := TW.hide hK
 clear hK
 go_simp
 refine (HC2.out _).mono ?_
 rintro e2 w2 ⟨rfl, rfl⟩
 refine HK.out _ _ HT.out (fun _ => trivial) ?_
 clear HK KX
 try simp only [Act.put, lpA, lpZ, lpS, lgT, lgZ, lgS]
 have HT2 := TW.hide (HT.out.alloc (.cells #[.int .i64 r1, .int .i64 r2] 3))
 have hn := heap_alloc_new w2 (.cells #[.int .i64 r1, .int .i64 r2] 3)
 have HO2 := TW.hide (HO.out w2.heap.size (w2.alloc (.cells #[.int .i64 r1, .int .i64 r2] 3)) (blk_cell hn (i := 0) rfl) (blk_cell hn (i := 1) rfl))
 have HR := TW.hide (HPo.out _ HT2.out)
 clear hn HO HPo HC1 HC2
 refine RG.wpL_step (i := 10) (by kernel_rfl) (by rfl) (by rfl) (fun KX hK => ?_)
 have HK := TW.hide hK
 clear hK
 go_simp
 refine HK.out _ _ HT2.out (fun _ => trivial) ?_
 clear HK KX
 try simp only [Act.put, lpA, lpZ, lpS, lgT, lgZ, lgS]
 refine RG.wpL_step (i := 11) (by kernel_rfl) (by rfl) (by rfl) (fun KX hK => ?_)
 have HK := TW.hide hK
 clear hK
 generalize (if r1 = 0 then r2 else r1) = rr at *
 go_simp
 refine HO2.out.mono ?_
 rintro e3 w3 ⟨rfl, rfl⟩
 refine HK.out _ _ HT2.out (fun _ => trivial) ?_
 clear HK KX
 try simp only [Act.put, lpA, lpZ, lpS, lgT, lgZ, lgS]
 refine RG.wpL_take (fuel := 0) (a' := ?Ac) [12] (by kernel_rfl) (by kernel_rfl) (fun _ _ _ _ _ h => h) HT2.out (fun _ => trivial) ?rc ?_
 case rc =>
  refine RG.RunsIf.weak (v := ?_) (by rfl) (by rfl) (fun Z hT => ?_) ?_
  rotate_left
  ·go_simp
   rfl
  simp only [Act.put, lpA, lpZ, lpS, lgT, lgZ, lgS]
  exact RG.RunsIf.nil
 refine RG.wpL_done (by kernel_rfl) ?_ _
 refine NoPanic.normal ?_
 go_wp2
 first | exact HR.out | exact ⟨rfl, HR.out⟩
end LW
end Go.Proofs.YtdjanbojhblijaaGreat
namespace Go.Proofs.YtdjanbojhblijaaGreat
open Go Go.RowKit Go.Shelf
set_option linter.unusedVariables false
set_option linter.unusedSimpArgs false
namespace LW
open Mc
/-- A row of cap edges, the first N of which are r. -/
def CJ (W : World) (g cap N : Nat) (r : Nat → Eg2) : Prop := ∃ f, W.rowIs g 33 (cap * 2) f ∧ ∀ j, j < N → f (j * 2) = .int .i64 (r j).1 ∧ f (j * 2 + 1) = .int .i64 (r j).2
theorem CJ.of {W : World} {B : Nat} {v : Value} {d : List Eg2} (h : W.ownsRow B 33 2 v d.length (edC d)) (h0 : 0 < d.length) : ∃ g cap, v = .slice (some ⟨g, 0, none⟩) d.length cap ∧ B ≤ g ∧ d.length ≤ cap ∧ cap ≤ maxLen ∧ CJ W g cap d.length (fun j => d.getD j (0, 0)) := by
 rcases h.2 with ⟨_, h1⟩ | ⟨g, cap, cur, e, hB, hh, hn, hm, hs, ht⟩
 ·omega
 ·refine ⟨g, cap, e, hB, hn, hm, fun j => cur[j]?.getD (.bool false), ⟨cur, hh, hs, fun i hi => by simp [Array.getElem?_eq_getElem (show i < cur.size by omega)]⟩, fun j hj => ?_⟩
  obtain ⟨a1, a2⟩ := edC_at d j hj
  have key : ∀ i, i < d.length * 2 → cur[i]? = (edC d)[i]? := fun i hi => by
   rw [← ht, List.getElem?_take, if_pos hi, Array.getElem?_toList]
  dsimp only
  rw [key _ (by omega), key _ (by omega), a1, a2]
  exact ⟨rfl, rfl⟩
theorem CJ.low {W : World} {g cap N : Nat} {r : Nat → Eg2} (h : CJ W g cap N r) : g < W.heap.size := by
 obtain ⟨f, h1, _⟩ := h
 exact h1.lt
theorem CJ.get {W : World} {g cap N : Nat} {r : Nat → Eg2} (h : CJ W g cap N r) (hN : N ≤ cap) (j : Nat) (hj : j < N) : W.cell? ⟨g, j * 2, none⟩ = some (.int .i64 (r j).1) ∧ W.cell? ⟨g, j * 2 + 1, none⟩ = some (.int .i64 (r j).2) := by
 obtain ⟨f, h1, h2⟩ := h
 obtain ⟨a, b⟩ := h2 j hj
 exact ⟨by rw [h1.cell (by omega), a], by rw [h1.cell (by omega), b]⟩
theorem CJ.frozen {W : World} {g cap N : Nat} {r : Nat → Eg2} (h : CJ W g cap N r) (i : Nat) : W.frozen? ⟨g, i, none⟩ = false := by
 obtain ⟨f, h1, h2⟩ := h
 exact h1.frozen i
theorem CJ.own {W : World} {g cap : Nat} {d : List Eg2} (h : CJ W g cap d.length (fun j => d.getD j (0, 0))) (hN : d.length ≤ cap) (hm : cap ≤ maxLen) {B : Nat} (hB : B ≤ g) : W.ownsRow B 33 2 (.slice (some ⟨g, 0, none⟩) d.length cap) d.length (edC d) := by
 obtain ⟨f, ⟨cur, hh, hs, hc⟩, h2⟩ := h
 refine ⟨edC_len d, .inr ⟨g, cap, cur, rfl, hB, hh, hN, hm, hs, ?_⟩⟩
 apply List.ext_getElem?
 intro i
 rw [List.getElem?_take]
 by_cases hi : i < d.length * 2
 ·rw [if_pos hi, Array.getElem?_toList, hc i (by omega), edC_get d i hi]
  obtain ⟨a, b⟩ := h2 (i / 2) (by omega)
  by_cases e : i % 2 = 0
  ·rw [if_pos e, ← a]
   congr 2
   omega
  ·rw [if_neg e, ← b]
   congr 2
   omega
 ·rw [if_neg hi, List.getElem?_eq_none (by rw [edC_len]; omega)]
theorem CJ.holds {W : World} {g cap : Nat} {d : List Eg2} (h : CJ W g cap d.length (fun j => d.getD j (0, 0))) (hN : d.length ≤ cap) : Go.Sort.HoldsK enE 2 W g 0 d.toArray := by
 intro t ht
 rw [Go.Sort.size_flatK] at ht
 have ht' : t < d.length * 2 := by simpa using ht
 refine ⟨?_, h.frozen _⟩
 rw [Nat.zero_add]
 obtain ⟨j, hj⟩ : ∃ j, t = j * 2 ∨ t = j * 2 + 1 := ⟨t / 2, by omega⟩
 have hjd : j < d.length := by omega
 obtain ⟨a, b⟩ := h.get hN j hjd
 obtain ⟨p, q⟩ := flat_at d.toArray j (by simpa using hjd)
 rw [arr_get d j hjd] at p q
 rcases hj with rfl | rfl
 ·rw [a]
  show _ = some ((Go.Sort.flatK enE 2 d.toArray)[j * 2]!)
  rw [p]
 ·rw [b]
  show _ = some ((Go.Sort.flatK enE 2 d.toArray)[j * 2 + 1]!)
  rw [q]
theorem CJ.sorted {W : World} {g cap N : Nat} {r : Nat → Eg2} (h : CJ W g cap N r) (hN : N ≤ cap) (n : Nat) (d : Array Eg2) (hd : d.size = N) (os : Array Obj) : CJ (sortWorldK enE 2 W g 0 n d os) g cap N (fun j => d[j]!) := by
 obtain ⟨f, ⟨c, hb, hs, hc⟩, h2⟩ := h
 have hlt : g < W.heap.size := by
  obtain ⟨hlt, _⟩ := Array.getElem?_eq_some_iff.1 hb
  exact hlt
 have hh : (sortWorldK enE 2 W g 0 n d os).heap[g]? = some (.cells (Go.Sort.putCells id 0 (Go.Sort.flatK enE 2 d) c) 33 (0, 0)) := by
  unfold sortWorldK
  rw [Go.Sort.heap_grow_old _ _ (by show g < (W.heap.modify g _).size; rw [Array.size_modify]; exact hlt)]
  show (W.heap.modify g _)[g]? = _
  rw [Array.getElem?_modify, if_pos rfl, hb]
  rfl
 refine ⟨fun i => if i < N * 2 then (Go.Sort.flatK enE 2 d)[i]! else f i, ⟨_, hh, by unfold Go.Sort.putCells; rw [Array.size_mapIdx]; exact hs, fun i hi => ?_⟩, fun j hj => ?_⟩
 ·unfold Go.Sort.putCells
  rw [Array.getElem?_mapIdx, hc i hi, Option.map_some, Go.Sort.size_flatK, hd, Nat.zero_add]
  congr 1
  show _ = if i < N * 2 then _ else _
  by_cases e : i < N * 2
  ·rw [if_pos ⟨Nat.zero_le _, e⟩, if_pos e]; rfl
  ·rw [if_neg (fun hh => e hh.2), if_neg e]
 ·obtain ⟨p, q⟩ := flat_at d j (by omega)
  dsimp only
  rw [if_pos (by omega), if_pos (by omega)]
  exact ⟨p, q⟩
set_option maxHeartbeats 1000000 in
theorem psortR (B g cap : Nat) (d : List Eg2) (w : World) (hc : CJ w g cap d.length (fun j => d.getD j (0, 0))) (hN : d.length ≤ cap) (hl : d.length ≤ 4000000000) (hB : B ≤ g) :
  Calls Tryz.prog 20 #[.slice (some ⟨g, 0, none⟩) d.length cap, .func (.func 21) #[] #[]] w fun e w' => e = .returned (.tuple #[]) ∧ ∃ d' : List Eg2, d'.length = d.length ∧ (∀ x, x ∈ d' ↔ x ∈ d) ∧ (∀ i j, i < j → j < d'.length → ¬ lt2 (d'.getD j (0, 0)) (d'.getD i (0, 0))) ∧ CJ w' g cap d'.length (fun j => d'.getD j (0, 0)) ∧ Below B w w' := by
 have eg : ∀ args w, (callFunc 21 args).run Tryz.prog w = .ok (.enter 21 args) w := enters_of Tryz.func21 (by kernel_rfl) rfl
 have hsz : d.toArray.size = d.length := by simp
 have hcon := AnyQ.slices_SortFunc layR 2 Tryz.isAgg33 Tryz.sizeOf33 enE (fun _ => rfl) (fun x v hv => by simp [enE] at hv; rcases hv with rfl | rfl <;> rfl) cf2 swo2 21 #[] g 0 cap d.toArray w eg (fun _ _ _ _ x y => pclosR x.1 x.2 y.1 y.2 _) (hc.holds hN) hc.low (by rw [hsz]; omega)
 rw [hsz] at hcon
 refine Calls.mono (show Calls Tryz.prog 20 _ _ _ from hcon) ?_
 rintro e w' ⟨rfl, D, n, os, hp, hs, rfl⟩
 have hDs : D.size = d.length := by rw [hp.1]; exact hsz
 have hDl : D.toList.length = d.length := by rw [Array.length_toList]; exact hDs
 have hget : ∀ j, j < d.length → D.toList.getD j (0, 0) = D[j]! := fun j hj => by
  have := arr_get D.toList j (by omega)
  rw [Array.toArray_toList] at this
  exact this.symm
 refine ⟨rfl, D.toList, hDl, fun x => ?_, fun i j hij hj => ?_, ?_, below_sorted hB hc.low n D os⟩
 ·have h3 := hp.2.2.mem_iff (a := x)
  rw [Array.extract_eq_self_of_le (by omega), Array.extract_eq_self_of_le (by omega)] at h3
  exact h3
 ·have h4 := hs i j (Nat.zero_le _) hij (by omega)
  rw [Bool.eq_false_iff, ne_eq, lt_cf2] at h4
  rw [hget j (by omega), hget i (by omega)]
  exact h4
 ·rw [hDl]
  have h5 := hc.sorted hN n D hDs os
  obtain ⟨f, h6, h7⟩ := h5
  refine ⟨f, h6, fun j hj => ?_⟩
  dsimp only
  rw [hget j hj]
  exact h7 j hj
end LW
end Go.Proofs.YtdjanbojhblijaaGreat
namespace Go.Proofs.YtdjanbojhblijaaGreat
open Go.RowKit
set_option linter.unusedVariables false
set_option linter.unusedSimpArgs false
namespace LW
open Go.Shelf
open Mc
theorem psortRace (B : Nat) (a : Option Addr) (c : Nat) (es : List (Int × Int)) (w : World) (h : w.ownsRow B 33 2 (.slice a es.length c) es.length (edC es)) (hl : es.length ≤ 4000000000) :
  Calls Tryz.prog 20 #[.slice a es.length c, .func (.func 21) #[] #[]] w fun e w' => e = .returned (.tuple #[]) ∧ ∃ es' : List (Int × Int), es'.length = es.length ∧ (∀ x, x ∈ es' ↔ x ∈ es) ∧ w'.ownsRow B 33 2 (.slice a es'.length c) es'.length (edC es') ∧ Below B w w' := by
 by_cases h0 : es.length = 0
 ·have e0 : es = [] := List.eq_nil_of_length_eq_zero h0
  subst e0
  refine Calls.mono (show Calls Tryz.prog 20 _ _ _ from AnyF.slices_SortFunc_none layR a c _ w) ?_
  rintro e w' ⟨rfl, rfl⟩
  exact ⟨rfl, [], rfl, fun x => Iff.rfl, h, Below.refl _ _⟩
 ·obtain ⟨g, cap, e, hB, hN, hm, hc⟩ := CJ.of h (by omega)
  injection e with e1 _ e3
  subst e1 e3
  refine Calls.mono (psortR B g c es w hc hN hl hB) ?_
  rintro e w' ⟨rfl, d', hd, hmem, _, hc2, hb⟩
  have ho := hc2.own (by omega) hm hB
  exact ⟨rfl, d', hd, hmem, ho, hb⟩
end LW
end Go.Proofs.YtdjanbojhblijaaGreat

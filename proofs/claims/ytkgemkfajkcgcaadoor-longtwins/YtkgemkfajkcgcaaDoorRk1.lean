/-
  Xor of the document.
-/
import Derived.Test.YtkgemkfajkcgcaaDoorBk3
import Derived.Test.YtkgemkfajkcgcaaDoorPair
import Derived.Maps.AppendAt
namespace Go.Proofs.YtkgemkfajkcgcaaDoor
open Go.RowKit
set_option linter.unusedVariables false
set_option linter.unusedSimpArgs false
set_option maxRecDepth 100000
namespace LW
open Turn
open Words
attribute [local go_sem ↓] Go.wp_at_zero Go.wp_at_succ
theorem wp_append_bytes {w : World} {o : Oper} {a : Act} {K : Act → World → Prop} {Q : Exit → Act → World → Prop} (s x : Operand)
    (ho : o.op = .call { callee := .builtin .append, args := #[s, x], argTypes := #[31, 31] }) (base : Nat) (v : Value) (n : Nat) (ys : List Int) (hs : a.eval s = v) (hown : w.ownsRow base 5 1 v n (vs ys)) (ad : Addr) (c len : Nat) (zs : List Int) (hlen : zs.length = len) (hx : a.eval x = .slice (some ad) len c)
    (hr : Row w (some ad) zs) (hb : n + len ≤ 140737488355328) (hbase : base ≤ w.heap.size)
    (h : ∀ v' w', w'.ownsRow base 5 1 v' (n + len) (vs (ys ++ zs)) → w.grownBy w' v.ownBlock → (v'.ownBlock = v.ownBlock ∨ v'.ownBlock = some w.heap.size) → K (a.put o.dst v') w') : o.wp Tryd.prog a w K Q := by
  obtain ⟨i, hi, hz0, hz1, hz2⟩ := info_parts info5
  subst hlen
  have h63 : n + zs.length ≤ maxLen := by unfold maxLen; omega
  obtain ⟨v', w', hr, h2, h3, _, h5⟩ := run_append_own_at (P := Tryd.prog) w base 31 o.type 5 i (.int .u8 0) 1 1 Tryd.underlying31 hi hz0 hz1 hz2 rfl (by decide) v n (vs ys) hown ad zs.length c (vs zs) (by rw [vs_length, Nat.mul_one]) (row_cells hr (Below.refl _ _)) (oneCell_vs zs) h63 (by omega) hbase
  unfold Oper.wp execOp
  simp only [ho, resolve, invoke, builtin, Sem.run_bind, Sem.run_pure, Result.andThen_ok, List.map_toArray, List.map_cons, List.map_nil, hs, hx, hr]
  refine h v' w' ?_ h3 h5
  rw [vs_append]; exact h2
set_option maxHeartbeats 4000000 in
theorem rxor (ax : Option Addr) (cx : Nat) (x : List Int) (ay : Option Addr) (cy : Nat) (y : List Int) (w : World) (hx : Byt x) (rx : Row w ax x) (hy : Byt y) (ry : Row w ay y) :
    Calls Tryd.prog 12 #[.slice ax x.length cx, .slice ay y.length cy] w (AnU w (decide (x.length = 1024) && decide (y.length = 1024)) (xbL x y)) := by
  have HQ : Hid (∀ W, Below w.heap.size w W → AnU w false (xbL x y) (.returned (.tuple #[.slice none 0 0, .int .i64 1])) W) := fun W hW => ⟨_, rfl, World.ownsRow_nil _ _ _ _, hW⟩
  by_cases lx : x.length = 1024
  · by_cases ly : y.length = 1024
    · have hok : (decide (x.length = 1024) && decide (y.length = 1024)) = true := by simp [lx, ly]
      rw [hok, lx, ly]
      clear hok HQ
      rcases rx with h0 | ⟨bx_, ox, rfl, hcx⟩
      · rw [h0] at lx; cases lx
      rcases ry with h0 | ⟨by_, oy, rfl, hcy⟩
      · rw [h0] at ly; cases ly
      have HCx : Hid (∀ X, Below w.heap.size w X → ∀ i, i < 1024 → X.cell? ⟨bx_, ox + i, none⟩ = some (.int .u8 (x.getD i 0))) := fun X hX i hi => by
        have h := hcx i (by omega)
        rw [hX.cell (lt_of_cell h)]; exact h
      have HCy : Hid (∀ X, Below w.heap.size w X → ∀ i, i < 1024 → X.cell? ⟨by_, oy + i, none⟩ = some (.int .u8 (y.getD i 0))) := fun X hX i hi => by
        have h := hcy i (by omega)
        rw [hX.cell (lt_of_cell h)]; exact h
      clear hcx hcy
      go_enter Tryd.func12, Tryd.ntmps12
      go_wp2
      go_loopw [6, 7] (fun b i wr => ∃ k : Nat, k ≤ 1024 ∧ i = .int .i64 k ∧ Hid (wr.ownsRow w.heap.size 5 1 b k (vs ((xbL x y).take k))) ∧ Hid (Below w.heap.size w wr)) (fun b i _ => 1024 - (intOf i).toNat)
      case atStart => exact ⟨0, Nat.zero_le _, rfl, World.ownsRow_nil _ _ _ _, Below.refl _ _⟩
      case round =>
        obtain ⟨k, hk, rfl, HO, NB⟩ := hrel
        by_cases hlt : k < 1024
        · have q1 : (k : Int) < 1024 := by omega
          have q0 : (0 : Int) ≤ (k : Int) := by omega
          have hxi := hx.get k
          have hyi := hy.get k
          have hbd := bx_bd _ _ hxi hyi
          have hgx : (xbL x y).getD k 0 = bx (x.getD k 0) (y.getD k 0) := by unfold xbL; rw [mkL_getD _ hlt]
          have htk : (xbL x y).take (k + 1) = (xbL x y).take k ++ [bx (x.getD k 0) (y.getD k 0)] := by rw [take_snoc _ _ (by rw [xbL_length]; exact hlt), hgx]
          have htl : ((xbL x y).take k).length = k := by rw [List.length_take, xbL_length]; omega
          have hcx := fun X hX => HCx.out X hX k hlt
          have hcy := fun X hX => HCy.out X hX k hlt
          generalize hxy : bx (x.getD k 0) (y.getD k 0) = z at *
          unfold bx at hxy
          generalize x.getD k 0 = xk at *
          generalize y.getD k 0 = yk at *
          generalize hll : (xbL x y).take k = ll at *
          have HCX := TW.hide hcx
          have HCY := TW.hide hcy
          have HTK := TW.hide htk
          have HTL := TW.hide htl
          have HLT : Hid (k < 1024) := hlt
          clear hxi hyi hgx htk htl hcx hcy hll hlt hk
          refine wp_seq_k fun Kc hKc => ?_
          have HKc := TW.hide hKc
          clear hKc
          go_wp2
          refine HKc.out _ _ ?_
          clear HKc Kc
          refine wp_seq_k fun Kj hKj => ?_
          have HKj := TW.hide hKj
          clear hKj
          refine wp_block ?_
          refine wp_region_noPanic ?_
          refine RG.wp_region_L (fun Z => True) (fun Z => Below w.heap.size w Z) [] (by kernel_rfl) ?_
          refine RG.wpL_any fun Y hY => ?_
          have HT : Hid (Below w.heap.size w Y) := by rw [hY]; exact below_drewN NB.out 1
          have HOY : Hid (Y.ownsRow w.heap.size 5 1 u6 k (vs ll)) := by rw [hY]; exact HO.out
          clear hY HO NB
          refine RG.wpL_take (fuel := 3) (a' := ?Ax) [0, 1, 2, 3, 4, 5, 6, 7, 8, 9] (by kernel_rfl) (by kernel_rfl) (fun _ _ _ _ _ h => h) HT.out (fun _ => trivial) ?rx ?_
          case rx =>
            refine RG.RunsIf.weak (v := ?_) (by rfl) (by rfl) (fun Z hT => ?_) ?_
            rotate_left
            · go_simp
              rfl
            simp only [Act.put, List.setIfInBounds_toArray, List.set_cons_zero, List.set_cons_succ, List.getElem_toArray, List.getElem_cons_zero, List.getElem_cons_succ]
            refine RG.RunsIf.weak (v := ?_) (by rfl) (by rfl) (fun Z hT => ?_) ?_
            rotate_left
            · go_simp
              rfl
            simp only [Act.put, List.setIfInBounds_toArray, List.set_cons_zero, List.set_cons_succ, List.getElem_toArray, List.getElem_cons_zero, List.getElem_cons_succ]
            refine RG.RunsIf.weak (v := ?_) (by rfl) (by rfl) (fun Z hT => ?_) ?_
            rotate_left
            · go_simp
              rfl
            simp only [Act.put, List.setIfInBounds_toArray, List.set_cons_zero, List.set_cons_succ, List.getElem_toArray, List.getElem_cons_zero, List.getElem_cons_succ]
            refine RG.RunsIf.weak (v := ?_) (by rfl) (by rfl) (fun Z hT => ?_) ?_
            rotate_left
            · go_simp
              rfl
            simp only [Act.put, List.setIfInBounds_toArray, List.set_cons_zero, List.set_cons_succ, List.getElem_toArray, List.getElem_cons_zero, List.getElem_cons_succ]
            refine RG.RunsIf.weak (v := ?_) (by rfl) (by rfl) (fun Z hT => ?_) ?_
            rotate_left
            · have z0 := HCX.out Z hT
              go_simp
              rfl
            simp only [Act.put, List.setIfInBounds_toArray, List.set_cons_zero, List.set_cons_succ, List.getElem_toArray, List.getElem_cons_zero, List.getElem_cons_succ]
            refine RG.RunsIf.weak (v := ?_) (by rfl) (by rfl) (fun Z hT => ?_) ?_
            rotate_left
            · go_simp
              rfl
            simp only [Act.put, List.setIfInBounds_toArray, List.set_cons_zero, List.set_cons_succ, List.getElem_toArray, List.getElem_cons_zero, List.getElem_cons_succ]
            refine RG.RunsIf.weak (v := ?_) (by rfl) (by rfl) (fun Z hT => ?_) ?_
            rotate_left
            · go_simp
              rfl
            simp only [Act.put, List.setIfInBounds_toArray, List.set_cons_zero, List.set_cons_succ, List.getElem_toArray, List.getElem_cons_zero, List.getElem_cons_succ]
            refine RG.RunsIf.weak (v := ?_) (by rfl) (by rfl) (fun Z hT => ?_) ?_
            rotate_left
            · go_simp
              rfl
            simp only [Act.put, List.setIfInBounds_toArray, List.set_cons_zero, List.set_cons_succ, List.getElem_toArray, List.getElem_cons_zero, List.getElem_cons_succ]
            refine RG.RunsIf.weak (v := ?_) (by rfl) (by rfl) (fun Z hT => ?_) ?_
            rotate_left
            · have z1 := HCY.out Z hT
              go_simp
              rfl
            simp only [Act.put, List.setIfInBounds_toArray, List.set_cons_zero, List.set_cons_succ, List.getElem_toArray, List.getElem_cons_zero, List.getElem_cons_succ]
            refine RG.RunsIf.weak (v := ?_) (by rfl) (by rfl) (fun Z hT => ?_) ?_
            rotate_left
            · go_simp
              rfl
            simp only [Act.put, List.setIfInBounds_toArray, List.set_cons_zero, List.set_cons_succ, List.getElem_toArray, List.getElem_cons_zero, List.getElem_cons_succ]
            exact RG.RunsIf.nil
          refine RG.wpL_step (i := 10) (by kernel_rfl) (by rfl) (by rfl) (fun KX hK => ?_)
          have HK := TW.hide hK
          clear hK
          go_simp
          have HTA : Hid (Below w.heap.size w (Y.alloc (.cells #[.int .u8 z] 5))) := HT.out.alloc HT.out.size _
          have HOA : Hid ((Y.alloc (.cells #[.int .u8 z] 5)).ownsRow w.heap.size 5 1 u6 k (vs ll)) := HOY.out.alloc _
          have HRA : Hid (Row (Y.alloc (.cells #[.int .u8 z] 5)) (some ⟨Y.heap.size, 0, none⟩) [z]) := .inr ⟨_, 0, rfl, fun i hi => by
            obtain rfl : i = 0 := by simp at hi; omega
            exact blk_cell (heap_new Y (.cells #[.int .u8 z] 5)) rfl⟩
          refine HK.out _ _ HTA.out (fun _ => trivial) ?_
          clear HK KX HT HOY
          generalize Y.alloc (.cells #[.int .u8 z] 5) = X at *
          generalize Y.heap.size = gy at *
          try simp only [Act.put, List.setIfInBounds_toArray, List.set_cons_zero, List.set_cons_succ, List.getElem_toArray, List.getElem_cons_zero, List.getElem_cons_succ]
          refine RG.wpL_step (i := 11) (by kernel_rfl) (by rfl) (by rfl) (fun KX hK => ?_)
          have HK := TW.hide hK
          clear hK
          refine wp_append_bytes _ _ (by rfl) w.heap.size u6 k ll (by rfl) HOA.out ⟨gy, 0, none⟩ 1 1 [z] rfl (by rfl) HRA.out (by have := HLT.out; omega) HTA.out.size ?_
          intro v' w5 hown5 hgr5 _
          have HO5 : Hid (w5.ownsRow w.heap.size 5 1 v' (k + 1) (vs ((xbL x y).take (k + 1)))) := by show World.ownsRow _ _ _ _ _ _ _; rw [HTK.out]; exact hown5
          have HT5 : Hid (Below w.heap.size w w5) := HTA.out.grown hgr5 HTA.out.size (own_block HOA.out)
          refine HK.out _ _ HT5.out (fun _ => trivial) ?_
          clear HK KX hown5 hgr5 HTA HOA HRA
          try simp only [Act.put, List.setIfInBounds_toArray, List.set_cons_zero, List.set_cons_succ, List.getElem_toArray, List.getElem_cons_zero, List.getElem_cons_succ]
          refine RG.wpL_step (i := 12) (by kernel_rfl) (by rfl) (by rfl) (fun KX hK => ?_)
          have HK := TW.hide hK
          clear hK
          go_simp
          refine HK.out _ _ HT5.out (fun _ => trivial) ?_
          clear HK KX
          refine RG.wpL_done (by kernel_rfl) ?_ _
          refine NoPanic.normal ?_
          refine HKj.out _ _ ?_
          clear HKj
          go_wp2
          go_roundw
          case rel => exact ⟨k + 1, HLT.out, by go_num, HO5, HT5⟩
          case measure => simp [intOf]; have := HLT.out; omega
        · obtain rfl : k = 1024 := by omega
          have HO9 : Hid (wr.ownsRow w.heap.size 5 1 u6 1024 (vs (xbL x y))) := by
            have h := HO.out
            rw [List.take_of_length_le (by rw [xbL_length]; omega)] at h
            exact h
          have HQ : AnU w true (xbL x y) (.returned (.tuple #[u6, .int .i64 0])) wr := ⟨u6, rfl, by rw [if_pos rfl, xbL_length]; exact HO9.out, NB.out⟩
          clear HO
          go_wp2
          exact bodyPost_ret (v := .tuple #[u6, .int .i64 0]) (by simp [results, Tryd.results12, go_sem]) rfl HQ
    · have hok : (decide (x.length = 1024) && decide (y.length = 1024)) = false := by simp [ly]
      have k1 : ((x.length : Int) != 1024) = false := by simp; omega
      have k2 : ((y.length : Int) != 1024) = true := by simp; omega
      rw [hok]
      clear lx ly hok
      go_enter Tryd.func12, Tryd.ntmps12
      go_wp2
      exact bodyPost_ret (v := .tuple #[.slice none 0 0, .int .i64 1]) (by simp [results, Tryd.results12, go_sem]) rfl (HQ.out _ (Below.refl _ _))
  · have hok : (decide (x.length = 1024) && decide (y.length = 1024)) = false := by simp [lx]
    have k1 : ((x.length : Int) != 1024) = true := by simp; omega
    rw [hok]
    clear lx hok
    go_enter Tryd.func12, Tryd.ntmps12
    go_wp2
    exact bodyPost_ret (v := .tuple #[.slice none 0 0, .int .i64 1]) (by simp [results, Tryd.results12, go_sem]) rfl (HQ.out _ (Below.refl _ _))
end LW
end Go.Proofs.YtkgemkfajkcgcaaDoor

/-
  What the calls States (the program's and the document's) give: the eleven states, one behind the other in a row of the call's own.
-/
import Derived.Test.YtecepllidmkmhabDoorEnds
import Derived.Test.YtecepllidmkmhabDoorRounds
import Derived.Test.YtecepllidmkmhabDoorStructs
import Derived.Great.BuildSlice
import Derived.Maps.AppendAt
namespace Go.Proofs.YtecepllidmkmhabDoor
open Go.RowKit
set_option linter.unusedVariables false
set_option linter.unusedSimpArgs false
namespace MX
open Turn
attribute [local go_sem ↓] Go.wp_at_zero Go.wp_at_succ
/-- The cells of a row of words. -/
def X (l : List Int) : List Value := l.map (Value.int .u32)
theorem X_append (a b : List Int) : X (a ++ b) = X a ++ X b := by simp [X]
theorem X_length (a : List Int) : (X a).length = a.length := by simp [X]
theorem X_one (l : List Int) : ∀ u ∈ X l, u.oneCell' = true := fun u hu => by
  simp [X] at hu
  obtain ⟨a, _, rfl⟩ := hu
  rfl
/-- The states one behind the other. -/
def statesL (V ms : List Int) (k : Nat) : List Int := (List.range k).flatMap (roundsL V ms)
theorem statesL_succ (V ms : List Int) (k : Nat) : statesL V ms (k + 1) = statesL V ms k ++ roundsL V ms k := by
  unfold statesL
  rw [List.range_succ, List.flatMap_append]
  simp
theorem statesL_one (V ms : List Int) : statesL V ms 1 = V := by
  simp [statesL, roundsL]
theorem statesL_length (V ms : List Int) (hV : V.length = 16) (k : Nat) : (statesL V ms k).length = k * 16 := by
  induction k with
  | zero => rfl
  | succ k ih => rw [statesL_succ, List.length_append, ih, roundsL_length, hV]; omega
theorem statesL_mid (V ms : List Int) (hV : V.length = 16) (n j : Nat) (h : j < n) : ((statesL V ms n).drop (j * 16)).take 16 = roundsL V ms j := by
  induction n with
  | zero => omega
  | succ n ih =>
    rw [statesL_succ]
    have hl := statesL_length V ms hV n
    have hr : (roundsL V ms n).length = 16 := by rw [roundsL_length, hV]
    rcases Nat.lt_or_ge j n with hj | hj
    · rw [List.drop_append_of_le_length (by omega), List.take_append_of_le_length (by rw [List.length_drop]; omega)]
      exact ih hj
    · obtain rfl : j = n := by omega
      rw [List.drop_append, List.drop_of_length_le (by omega), hl, Nat.sub_self, List.nil_append, List.drop_zero, List.take_of_length_le (by omega)]
theorem wpList_buildOne {P : Program} {ops : Array Oper} {rest : List Oper} {o : Oper} {a : Act} {w : World} {Q : Exit → Act → World → Prop} (hg : o.guard = none) (t e : TypeId) (x : Operand) (ho : o.op = .buildSlice t 1 #[(0, x)])
    (cs : Array Value) (s : Nat) (hx : a.eval x = .agg cs) (hcs : cs.size = s) (hs : 0 < s) (hsm : s ≤ 16777216) (hu : P.underlying t = some (.slice e)) (hie : (P.info? e).map (·.size) = some s) (hz : ((P.info? e).bind (·.zero)).isSome = true)
    (h : wpList P ops Q rest (a.put o.dst (.slice (some ⟨w.heap.size, 0, none⟩) 1 1)) (w.alloc (.cells cs e))) : wpList P ops Q (o :: rest) a w := by
  cases hq : P.info? e with
  | none => simp [hq] at hie
  | some ie =>
    simp only [hq, Option.map_some, Option.some.injEq, Option.bind_some] at hie hz
    obtain ⟨z, hzz⟩ := Option.isSome_iff_exists.1 hz
    refine wpList_buildSlice hg t e 1 _ ho cs ie z hu hq hzz (by rw [hie]; omega) (by rw [hie]; omega) ?_ h
    have h1 : ((#[(0, x)] : Array (Nat × Operand)).map fun (i, x) => (i, a.eval x)).toList = (([Value.agg cs]).zipIdx 0).map fun x => (x.2, x.1) := by simp [hx]
    rw [h1, hie, Great.fill_whole hs [Value.agg cs] _ (by intro v hv; simp at hv; subst hv; exact hcs) (by simp)]
    simp [Value.cells]
theorem wpList_buildTo {P : Program} {ops : Array Oper} {rest : List Oper} {o : Oper} {a : Act} {w : World} {Q : Exit → Act → World → Prop} (hg : o.guard = none) (t : TypeId) (parts : Array (Nat × Operand)) (ho : o.op = .build t parts) (v : Value)
    (hrun : (execOp a.eval o).run P w = .ok (.value v) w) (h : wpList P ops Q rest (a.put o.dst v) w) : wpList P ops Q (o :: rest) a w := Great.wpList_runTo hg _ rfl v w hrun h
/-- The address of an element of a slice. -/
theorem exec_indexAt {P : Program} {o : Oper} {a : Act} {w : World} (t : TypeId) (x ix : Operand) (ho : o.op = .indexAddr t x ix) (g len cap k s : Nat) (e : TypeId) (hx : a.eval x = .slice (some ⟨g, 0, none⟩) len cap) (hi : a.eval ix = .int .i64 (k : Int)) (hk : k < len)
    (hu : P.underlying t = some (.slice e)) (hs : (P.info? e).map (·.size) = some s) : (execOp a.eval o).run P w = .ok (.value (.pointer (some ⟨g, k * s, none⟩))) w := by
  cases hq : P.info? e with
  | none => simp [hq] at hs
  | some ie =>
    have he : ie.size = s := by simpa [hq] using hs
    have h1 : (Instr.indexAt t (.slice (some ⟨g, 0, none⟩) len cap) (.int .i64 (k : Int))).run P w = .ok (.pointer (some ⟨g, k * s, none⟩)) w := by
      have h2 : ((k : Int) < (len : Int)) := by omega
      simp [Instr.indexAt, run_underlying hu, asIntOf, sizeOf, typeInfo, hq, he, h2, Addr.add_mid]
      intro h3; omega
    unfold execOp
    simp only [ho, hx, hi, Sem.run_bind, h1, Result.andThen_ok, Sem.run_pure]
theorem own_below16 {w w' : World} {B n s : Nat} {t : TypeId} {v : Value} {xs : List Value} (h : w.ownsRow B t s v n xs) (hb : Below w.heap.size w w') : w'.ownsRow B t s v n xs := by
  rcases h.2 with ⟨rfl, h0⟩ | ⟨g, cap, cur, rfl, hg, hh, hn, hm, hc, ht⟩
  · exact ⟨h.1, .inl ⟨rfl, h0⟩⟩
  · exact ⟨h.1, .inr ⟨g, cap, cur, rfl, hg, blk_keep hh hb, hn, hm, hc, ht⟩⟩
theorem own_other {w : World} {B n s p : Nat} {t : TypeId} {v : Value} {xs : List Value} {cs : Array Value} (h : w.ownsRow B t s v n xs) (hp : p < B) : (w.setRow p cs).ownsRow B t s v n xs := by
  rcases h.2 with ⟨rfl, h0⟩ | ⟨g, cap, cur, rfl, hg, hh, hn, hm, hc, ht⟩
  · exact ⟨h.1, .inl ⟨rfl, h0⟩⟩
  · exact ⟨h.1, .inr ⟨g, cap, cur, rfl, hg, by rw [setRow_other _ _ _ _ (by omega)]; exact hh, hn, hm, hc, ht⟩⟩
theorem own_base {w : World} {B B' n s : Nat} {t : TypeId} {v : Value} {xs : List Value} (h : w.ownsRow B t s v n xs) (hb : B' ≤ B) : w.ownsRow B' t s v n xs := by
  rcases h.2 with ⟨rfl, h0⟩ | ⟨g, cap, cur, rfl, hg, hh, hn, hm, hc, ht⟩
  · exact ⟨h.1, .inl ⟨rfl, h0⟩⟩
  · exact ⟨h.1, .inr ⟨g, cap, cur, rfl, by omega, hh, hn, hm, hc, ht⟩⟩
theorem own_blockG {w : World} {B n s : Nat} {t : TypeId} {v : Value} {xs : List Value} (h : w.ownsRow B t s v n xs) : ∀ k, v.ownBlock = some k → B ≤ k := by
  intro k hk
  rcases h.2 with ⟨rfl, _⟩ | ⟨g, cap, cur, rfl, hg, _⟩
  · simp [Value.ownBlock] at hk
  · simp [Value.ownBlock] at hk; omega
theorem grown_keep {w w' : World} {row : Option Nat} {b : Nat} {o : Obj} (h : w.heap[b]? = some o) (hg : w.grownBy w' row) (hne : row ≠ some b) : w'.heap[b]? = some o := by
  rw [hg.block b (blk_lt h) (Ne.symm hne)]; exact h
theorem K_new (w : World) (l : List Int) (t : TypeId) : ∀ (j : Nat) (u : Value), (X l)[j]? = some u → (w.alloc (.cells (K .u32 l) t)).cell? ((⟨w.heap.size, 0, none⟩ : Addr).add j) = some u := fun j u hj => by
  rw [Addr.add_mid, Nat.zero_add]
  exact blk_cell (heap_new w (.cells (K .u32 l) t)) (by simpa [K, X] using hj)
/-- One state more is laid behind the others. -/
theorem own_more {w : World} {B k : Nat} {v : Value} {V ms us : List Int} {t : TypeId} (e : us = roundsL V ms k) (h : w.ownsRow B t 16 v (k + 1) (X (statesL V ms k) ++ X us)) : w.ownsRow B t 16 v (k + 1) (X (statesL V ms (k + 1))) := by
  rw [statesL_succ, X_append, ← e]; exact h
theorem own_state {w : World} {B : Nat} {v : Value} {V ms : List Int} {t : TypeId} (h : w.ownsRow B t 16 v 11 (X (statesL V ms 11))) (hV : V.length = 16) :
    ∃ g cap, v = .slice (some ⟨g, 0, none⟩) 11 cap ∧ B ≤ g ∧ g < w.heap.size ∧ ∀ j, j < 11 → w.rangeAt g (j * 16) (X (roundsL V ms j)) := by
  rcases h.2 with ⟨_, h0⟩ | ⟨g, cap, cur, rfl, hg, hh, hn, hm, hc, ht⟩
  · omega
  · refine ⟨g, cap, rfl, hg, blk_lt hh, fun j hj i u hu => ?_⟩
    have hr : (roundsL V ms j).length = 16 := by rw [roundsL_length, hV]
    have hi : i < 16 := by have := (List.getElem?_eq_some_iff.1 hu).1; rw [X_length, hr] at this; exact this
    refine blk_cell hh ?_
    have h1 : (cur.toList.take (11 * 16))[j * 16 + i]? = some u := by
      rw [ht]
      rw [← statesL_mid V ms hV 11 j hj] at hu
      simp only [X, List.getElem?_map, List.getElem?_take, hi, if_true, List.getElem?_drop] at hu
      simp only [X, List.getElem?_map]
      exact hu
    rw [List.getElem?_take, if_pos (by omega)] at h1
    simpa using h1
theorem range_below {w w' : World} {g o : Nat} {cs : List Value} (h : w.rangeAt g o cs) (hg : g < w.heap.size) (hb : Below w.heap.size w w') : w'.rangeAt g o cs := fun j v hj => by
  rw [hb.cell hg]; exact h j v hj
theorem own_there {w : World} {B g cap : Nat} {xs : List Value} {t : TypeId} (h : w.ownsRow B t 16 (.slice (some ⟨g, 0, none⟩) 11 cap) 11 xs) : w.there g 0 176 := fun j hj => by
  rcases h.2 with ⟨h0, _⟩ | ⟨g', cap', cur, he, hg, hh, hn, hm, hc, ht⟩
  · cases h0
  · simp only [Value.slice.injEq, Option.some.injEq, Addr.mk.injEq, and_true, true_and] at he
    obtain ⟨rfl, rfl⟩ := he
    rw [Nat.zero_add]
    exact ⟨by simp [World.cell?, hh, Array.getElem?_eq_getElem (show j < cur.size by omega)], blk_frozen hh⟩
theorem there_sub {w : World} {g n o m : Nat} (h : w.there g 0 n) (hm : o + m ≤ n) : w.there g o m := fun j hj => by
  have := h (o + j) (by omega)
  rwa [Nat.zero_add] at this
theorem there_below {w w' : World} {g o n : Nat} (h : w.there g o n) (hg : g < w.heap.size) (hb : Below w.heap.size w w') : w'.there g o n := fun j hj => by
  have := h j hj
  rw [hb.cell hg, show w'.frozen? ⟨g, o + j, none⟩ = w.frozen? ⟨g, o + j, none⟩ by simp only [World.frozen?, hb.block g hg]]
  exact this
theorem below_setCells {B : Nat} {w : World} {g : Nat} (hg : B ≤ g) : ∀ (vs : List Value) (o : Nat) {w' : World}, Below B w w' → Below B w (w'.setCells g o vs)
  | [], _, _, h => h
  | v :: r, o, w', h => by
    rw [World.setCells]
    exact below_setCells hg r (o + 1) (h.setCell (p := ⟨g, o, none⟩) hg v)
theorem size_setCells (g : Nat) : ∀ (vs : List Value) (o : Nat) (w : World), (w.setCells g o vs).heap.size = w.heap.size
  | [], _, _ => rfl
  | v :: r, o, w => by
    rw [World.setCells, size_setCells g r (o + 1)]; simp
theorem heap_setCells_other {b g : Nat} (hne : b ≠ g) : ∀ (vs : List Value) (o : Nat) (w : World), (w.setCells g o vs).heap[b]? = w.heap[b]?
  | [], _, _ => rfl
  | v :: r, o, w => by
    rw [World.setCells, heap_setCells_other hne r (o + 1), heap_setCell_other _ _ _ _ hne]
theorem infoS : (Tryd.prog.info? 34).map (fun i => (i.zero, i.size, i.bytes)) = some (some (.agg (K .u32 (List.replicate 16 0))), 16, 64) := by kernel_rfl
theorem zeroS : ((Tryd.prog.info? 34).bind (·.zero)).isSome = true := by kernel_rfl
theorem sizeS : (Tryd.prog.info? 34).map (·.size) = some 16 := by kernel_rfl
set_option maxRecDepth 100000 in
set_option maxHeartbeats 4000000 in
theorem states (hs ms : List Int) (n : Int) (la no : Bool) (w : World) (ti : Tab w 0 .u32 ivL) (to : Tab w 1 .u8 ordL) (hl : hs.length = 8) (hm : ms.length = 16) (hw : Ws hs) (hM : Ws ms) (wn : 0 ≤ n) (wn' : n < 18446744073709551616) :
    Calls Tryd.prog 17 #[.agg (K .u32 hs), .agg (K .u32 ms), .int .u64 n, .bool la, .bool no] w fun e w' => ∃ v, e = .returned v ∧ w'.ownsRow w.heap.size 34 16 v 11 (X (statesL (beginL hs n la no) ms 11)) ∧ Below w.heap.size w w' := by
  obtain ⟨i0, hi, hz0, hz1, hz2⟩ := info_parts infoS
  have hb := (((Below.refl w.heap.size w).alloc (Nat.le_refl _) (.cells (K .u32 hs) 23)).alloc (by simp; try omega) (.cells (K .u32 ms) 34))
  have n0 := (blk_alloc (o' := .cells (K .u32 ms) 34) (heap_new w (.cells (K .u32 hs) 23)))
  have n1 := (heap_new (w.alloc (.cells (K .u32 hs) 23)) (.cells (K .u32 ms) 34))
  rw [show (w.alloc (.cells (K .u32 hs) 23)).heap.size = w.heap.size + 1 by simp] at n1
  have i8 := info8 hs hl
  have iv := info16 (beginL hs n la no) (beginL_length hs n la no hl)
  have im := info16 ms hm
  have ov := size16 (List.replicate 16 0) (beginL hs n la no) rfl (beginL_length hs n la no hl)
  have HL := TW.hide hl
  have HM := TW.hide hm
  have HW := TW.hide hw
  have HMW := TW.hide hM
  have I8 := TW.hide i8
  have IV := TW.hide iv
  have IM := TW.hide im
  have OV := TW.hide ov
  have TI := TW.hide ti
  have TO := TW.hide to
  clear hl hm hw hM i8 iv im ov ti to
  go_enter Tryd.func17, Tryd.ntmps17
  refine wp_seq_k fun K hK => ?_
  have HK := TW.hide hK
  clear hK
  go_wp2
  refine HK.out _ _ ?_
  clear HK K
  change Code.wp _ _ _ _ ((w.alloc (.cells (K .u32 hs) 23)).alloc (.cells (K .u32 ms) 34))
  generalize hWW : (w.alloc (.cells (K .u32 hs) 23)).alloc (.cells (K .u32 ms) 34) = W at hb n0 n1 ⊢
  have hW : W.heap.size = w.heap.size + 1 + 1 := by rw [← hWW]; simp
  clear hWW
  generalize hB : w.heap.size = B at *
  have N0 := TW.hide n0
  have N1 := TW.hide n1
  have NB := TW.hide hb
  clear n0 n1 hb
  clear hW
  refine wp_seq_k fun KK hK => ?_
  have HK := TW.hide hK
  clear hK
  go_wp2_with (first | (refine wpList_load_row (by rfl) 23 _ (by rfl) (B) (by rfl) 23 (K .u32 hs) (0, 0) _ N0.out Tryd.underlying23 rfl I8.out ?_))
  refine (begin_ hs n la no _ (TI.out.below (hB ▸ NB.out)) HL.out HW.out wn wn').mono ?_
  rintro e w1 ⟨rfl, hb1⟩
  have N0' := TW.hide (blk_keep N0.out hb1)
  have N1' := TW.hide (blk_keep N1.out hb1)
  have NB' : Hid (Below B w w1) := below_row NB.out hb1 (le_of_below NB.out (by omega))
  clear hb1
  clear N0 N1 NB
  have N0 := N0'
  have N1 := N1'
  have NB := NB'
  clear N0' N1' NB'
  have hl_g_N0 := blk_lt N0.out
  have hl_g_N1 := blk_lt N1.out
  go_wp2_with (first | (refine wpList_store_row (by rfl) 34 _ _ (by rfl) w1.heap.size (K .u32 (beginL hs n la no)) (by rfl) (by rfl) 34 _ (heap_new w1 _) IV.out OV.out (K_one _ _) ?_))
  have n1 := setRow_heap _ _ _ (K .u32 (beginL hs n la no)) _ _ (heap_new w1 (.cells #[.int .u32 0, .int .u32 0, .int .u32 0, .int .u32 0, .int .u32 0, .int .u32 0, .int .u32 0, .int .u32 0, .int .u32 0, .int .u32 0, .int .u32 0, .int .u32 0, .int .u32 0, .int .u32 0, .int .u32 0, .int .u32 0] 34))
  have bx1 := below_setRow (cs := (K .u32 (beginL hs n la no))) ((Below.refl w1.heap.size w1).alloc (Nat.le_refl _) (.cells #[.int .u32 0, .int .u32 0, .int .u32 0, .int .u32 0, .int .u32 0, .int .u32 0, .int .u32 0, .int .u32 0, .int .u32 0, .int .u32 0, .int .u32 0, .int .u32 0, .int .u32 0, .int .u32 0, .int .u32 0, .int .u32 0] 34)) (g := w1.heap.size) (Nat.le_refl _)
  generalize (w1.alloc (.cells #[.int .u32 0, .int .u32 0, .int .u32 0, .int .u32 0, .int .u32 0, .int .u32 0, .int .u32 0, .int .u32 0, .int .u32 0, .int .u32 0, .int .u32 0, .int .u32 0, .int .u32 0, .int .u32 0, .int .u32 0, .int .u32 0] 34)).setRow w1.heap.size (K .u32 (beginL hs n la no)) = X1 at n1 bx1 ⊢
  have N0' := TW.hide (blk_keep N0.out bx1)
  have N1' := TW.hide (blk_keep N1.out bx1)
  have NB' : Hid (Below B w X1) := below_row NB.out bx1 (le_of_below NB.out (by omega))
  have R1 := TW.hide n1
  clear n1 bx1
  clear N0 N1 NB
  have N0 := N0'
  have N1 := N1'
  have NB := NB'
  clear N0' N1' NB'
  generalize w1.heap.size = g at *
  refine HK.out _ _ ?_
  clear HK KK
  have HVL := TW.hide (beginL_length hs n la no HL.out)
  have HVW := TW.hide (beginL_Ws la no HW.out wn wn')
  have HS1 : Hid (statesL (beginL hs n la no) ms 1 = (beginL hs n la no)) := statesL_one _ _
  have hg1 : g + 1 ≤ X1.heap.size := blk_lt R1.out
  have hgb : B + 1 < g := hl_g_N1
  refine wp_seq_k fun KK hK => ?_
  have HK := TW.hide hK
  clear hK
  go_wp2_with (at_make; refine wpList_make_own _ rfl _ _ 44 rfl (g + 1) 34 i0 (.agg (K .u32 (List.replicate 16 0))) 16 Tryd.underlying44 hi hz0 hz1 _ _ 11 11 rfl rfl rfl (by rw [hz2]; omega) (by unfold maxLen; omega) (by omega) ?_; intro w1 hown hgrow)
  have M1 := TW.hide (grown_keep N1.out hgrow (by intro h; cases h))
  have MR := TW.hide (grown_keep R1.out hgrow (by intro h; cases h))
  have MB : Hid (Below B w w1) := NB.out.grown hgrow (by omega) (by intro k h; cases h)
  have MO := TW.hide hown
  have hs1 : g + 1 ≤ w1.heap.size := Nat.le_trans hg1 hgrow.size
  clear hown hgrow N0 N1 NB R1 hg1
  refine HK.out _ _ ?_
  clear HK KK
  generalize Value.slice (some ⟨X1.heap.size, 0, none⟩) 0 11 = v0 at *
  refine wp_seq_k fun KK hK => ?_
  have HK := TW.hide hK
  clear hK
  have hvl : (K .u32 (beginL hs n la no)).size = 16 := by rw [K_size]; exact HVL.out
  have HVS := TW.hide hvl
  clear hvl
  generalize (beginL hs n la no) = V at *
  go_wp2_with (first | (refine wpList_load_row (by rfl) 34 _ (by rfl) (g) (by rfl) 34 (K .u32 V) (0, 0) _ MR.out Tryd.underlying34 rfl IV.out ?_) | (refine wpList_buildOne (by rfl) 44 34 _ (by rfl) (K .u32 V) 16 (by rfl) HVS.out (by decide) (by decide) Tryd.underlying44 sizeS zeroS ?_) | (at_builtin; refine wpList_append_own _ rfl _ _ 44 rfl (g + 1) 34 i0 (.agg (K .u32 (List.replicate 16 0))) 16 64 Tryd.underlying44 hi hz0 hz1 hz2 rfl (by decide) _ 0 _ rfl (own_below16 MO.out ((Below.refl _ _).alloc (Nat.le_refl _) _)) ⟨_, 0, none⟩ 1 1 (X V) rfl ?c0 ?c1 ?c2 ?c3 ?c4 ?c5 ?_))
  case c0 => rw [X_length, HVL.out]
  case c1 => exact K_new _ _ _
  case c2 => exact X_one _
  case c3 => unfold maxLen; omega
  case c4 => omega
  case c5 => simp; omega
  intro v' w2 hown' hgrow' _
  have MO2 : Hid (w2.ownsRow (g + 1) 34 16 v' 1 (X (statesL V ms 1))) := by
    show w2.ownsRow _ _ _ _ _ _
    rw [HS1.out]; exact hown'
  have hne := own_blockG MO.out
  have N1 := TW.hide (grown_keep (blk_alloc M1.out) hgrow' (fun h => by have := hne _ h; have := blk_lt M1.out; omega))
  have R1 := TW.hide (grown_keep (blk_alloc MR.out) hgrow' (fun h => by have := hne _ h; omega))
  have NB : Hid (Below B w w2) := (MB.out.alloc (by have := MB.out.size; omega) _).grown hgrow' (by simp; omega) (fun k hk => by have := hne k hk; omega)
  have hs2 : g + 1 ≤ w2.heap.size := blk_lt R1.out
  clear hown' hgrow' MO M1 MR MB hne hs1
  go_wp2
  refine HK.out _ _ ?_
  clear HK KK
  clear IV OV HVS HS1
  go_wp2
  go_loopw [12, 24] (fun l i wr => ∃ k : Nat, k ≤ 10 ∧ i = .int .i64 k ∧ wr.heap[B + 1]? = some (.cells (K .u32 ms) 34 (0, 0)) ∧ wr.heap[g]? = some (.cells (K .u32 (roundsL V ms k)) 34 (0, 0)) ∧ wr.ownsRow (g + 1) 34 16 l (k + 1) (X (statesL V ms (k + 1))) ∧ Below B w wr) (fun _ i _ => 10 - (intOf i).toNat)
  case atStart => exact ⟨0, Nat.zero_le _, rfl, N1.out, R1.out, MO2.out, NB.out⟩
  case round =>
    obtain ⟨k, hk, rfl, n1, nv, no', hb⟩ := hrel
    clear N1 R1 NB MO2 hs2
    have hul : (roundsL V ms k).length = 16 := by rw [roundsL_length]; exact HVL.out
    have huw : Ws (roundsL V ms k) := roundsL_Ws ms k HVW.out
    by_cases hlt : k < 10
    · have hst : forthL (roundsL V ms k) ms k = roundsL V ms (k + 1) := rfl
      generalize roundsL V ms k = us at *
      have HLU := TW.hide hul
      have HUW := TW.hide huw
      have hcall := forth us ms k wr HLU.out HM.out HUW.out HMW.out hlt (TO.out.below (hB ▸ hb))
      have hl2 : (forthL us ms k).length = 16 := by rw [forthL_length]; exact hul
      generalize forthL us ms k = us2 at *
      have HC := TW.hide hcall
      have HST := TW.hide hst
      have HL2 := TW.hide hl2
      have IU := TW.hide (info16 us hul)
      have IU2 := TW.hide (info16 us2 hl2)
      have OU := TW.hide (size16 us us2 hul hl2)
      have hk2 : (K .u32 us2).size = 16 := by rw [K_size]; exact hl2
      have HK2 := TW.hide hk2
      have G1 := TW.hide n1
      have GV := TW.hide nv
      have GO := TW.hide no'
      have GB := TW.hide hb
      clear n1 nv no' hb
      clear hcall hst hul huw hl2 hk2
      have k1 : (k : Int) < 10 := by omega
      go_wp2_with (first | (refine wpList_load_row (by rfl) 34 _ (by rfl) (g) (by rfl) 34 (K .u32 us) (0, 0) _ GV.out Tryd.underlying34 rfl IU.out ?_) | (refine wpList_load_row (by rfl) 34 _ (by rfl) (B + 1) (by rfl) 34 (K .u32 ms) (0, 0) _ G1.out Tryd.underlying34 rfl IM.out ?_))
      refine HC.out.mono ?_
      rintro e w2 ⟨rfl, hb2⟩
      have M1 := TW.hide (blk_keep G1.out hb2)
      have MV := TW.hide (blk_keep GV.out hb2)
      have MO := TW.hide (own_below16 GO.out hb2)
      have MB : Hid (Below B w w2) := below_row GB.out hb2 (by have := blk_lt G1.out; omega)
      clear hb2 G1 GV GO GB HC
      have hy1 : Hid ((w2.setRow g (K .u32 us2)).heap[B + 1]? = some (.cells (K .u32 ms) 34 (0, 0))) := by
        show _ = _
        rw [setRow_other _ _ _ _ (by omega)]; exact M1.out
      have hyv : Hid ((w2.setRow g (K .u32 us2)).heap[g]? = some (.cells (K .u32 us2) 34 (0, 0))) := setRow_heap _ _ _ _ _ _ MV.out
      have hyo := TW.hide (own_other (cs := K .u32 us2) MO.out (Nat.lt_succ_self g))
      have hyb : Hid (Below B w (w2.setRow g (K .u32 us2))) := below_setRow MB.out (by omega)
      clear M1 MO MB
      have hgy : g < (w2.setRow g (K .u32 us2)).heap.size := blk_lt hyv.out
      have hgy2 : g < w2.heap.size := blk_lt MV.out
      go_wp2_with (first | (refine wpList_store_row (by rfl) 34 _ _ (by rfl) (g) (K .u32 us2) (by rfl) (by rfl) 34 _ MV.out IU2.out OU.out (K_one _ _) ?_) | (refine wpList_load_row (by rfl) 34 _ (by rfl) (g) (by rfl) 34 (K .u32 us2) (0, 0) _ hyv.out Tryd.underlying34 rfl IU2.out ?_) | (refine wpList_buildOne (by rfl) 44 34 _ (by rfl) (K .u32 us2) 16 (by rfl) HK2.out (by decide) (by decide) Tryd.underlying44 sizeS zeroS ?_) | (at_builtin; refine wpList_append_own _ rfl _ _ 44 rfl (g + 1) 34 i0 (.agg (K .u32 (List.replicate 16 0))) 16 64 Tryd.underlying44 hi hz0 hz1 hz2 rfl (by decide) _ (k + 1) _ rfl (own_below16 hyo.out ((Below.refl _ _).alloc (Nat.le_refl _) _)) ⟨_, 0, none⟩ 1 1 (X us2) rfl ?c0 ?c1 ?c2 ?c3 ?c4 ?c5 ?_))
      case c0 => rw [X_length, HL2.out]
      case c1 => exact K_new _ _ _
      case c2 => exact X_one _
      case c3 => unfold maxLen; omega
      case c4 => omega
      case c5 => simp; omega
      intro v2 w3 hown' hgrow' _
      have hne := own_blockG hyo.out
      have Z1 := TW.hide (grown_keep (blk_alloc hy1.out) hgrow' (fun h => by have := hne _ h; omega))
      have ZV := TW.hide (grown_keep (blk_alloc hyv.out) hgrow' (fun h => by have := hne _ h; omega))
      have ZO := TW.hide (own_more HST.out hown')
      have ZB : Hid (Below B w w3) := (hyb.out.alloc (by have := hyb.out.size; omega) _).grown hgrow' (by simp; omega) (fun k hk => by have := hne k hk; omega)
      clear hown' hgrow' hne hy1 hyv hyo hyb MV
      go_wp2
      go_roundw
      case rel =>
        refine ⟨k + 1, by omega, by go_num, Z1.out, ?_, ZO.out, ZB.out⟩
        rw [← HST.out]; exact ZV.out
      case measure => simp [intOf]; omega
    · obtain rfl : k = 10 := by omega
      have GO := TW.hide no'
      have GB := TW.hide hb
      clear n1 nv no' hb
      go_wp2
      go_ret
      exact ⟨_, rfl, own_base GO.out (by omega), GB.out⟩
end MX
end Go.Proofs.YtecepllidmkmhabDoor

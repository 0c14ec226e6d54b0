/-
 The races of a band.
-/
import Derived.Test.YtdjanbojhblijaaGreatRc5g
import Derived.Test.YtdjanbojhblijaaGreatRc7g
import Derived.Test.YtdjanbojhblijaaGreatCk7g
import Derived.Test.YtdjanbojhblijaaGreatPairg
namespace Go.Proofs.YtdjanbojhblijaaGreat
open List renaming setIfInBounds_toArray → lpA, set_cons_zero → lpZ, set_cons_succ → lpS, getElem_toArray → lgT, getElem_cons_zero → lgZ, getElem_cons_succ → lgS
open Go.RowKit
set_option linter.unusedVariables false
set_option linter.unusedSimpArgs false
namespace RG
section
variable {P : Program} {ops : Array Oper} {Q : Exit → Act → World → Prop} {md : Region.Mode} {S T : World → Prop} {late : List Nat}
theorem wpL_tri {i j k : Nat} {o p q : Oper} {fuel : Nat} {listed : Array Bool} {a : Act} {w : World} (hr : Region.ready md ops listed = [i, j, k]) (ho : ops[i]? = some o) (hp : ops[j]? = some p) (hq : ops[k]? = some q) (hg : o.guard = none) (hg' : p.guard = none) (hg2 : q.guard = none)
  (h1 : ∀ K : Act → World → Prop, (∀ a' w', T w' → (noLate late (listed.setIfInBounds i true) = true → S w') → wpL P md ops Q S T late fuel (listed.setIfInBounds i true) a' w' → K a' w') → o.wp P a w K Q)
  (h2 : ∀ K : Act → World → Prop, (∀ a' w', T w' → (noLate late (listed.setIfInBounds j true) = true → S w') → wpL P md ops Q S T late fuel (listed.setIfInBounds j true) a' w' → K a' w') → p.wp P a w K Q)
  (h3 : ∀ K : Act → World → Prop, (∀ a' w', T w' → (noLate late (listed.setIfInBounds k true) = true → S w') → wpL P md ops Q S T late fuel (listed.setIfInBounds k true) a' w' → K a' w') → q.wp P a w K Q) : wpL P md ops Q S T late (fuel + 1) listed a w := by
 refine ⟨fun h0 => (by rw [hr] at h0; cases h0), ?_⟩
 rw [hr]
 intro m hm
 simp only [List.mem_cons, List.not_mem_nil, or_false] at hm
 rcases hm with rfl | rfl | rfl
 ·unfold wpOp
  simp only [ho, Region.wanted, hg, if_true]
  exact .inl (h1 _ fun _ _ hT hS hW => ⟨⟨hT, hS⟩, hW⟩)
 ·unfold wpOp
  simp only [hp, Region.wanted, hg', if_true]
  exact .inl (h2 _ fun _ _ hT hS hW => ⟨⟨hT, hS⟩, hW⟩)
 ·unfold wpOp
  simp only [hq, Region.wanted, hg2, if_true]
  exact .inl (h3 _ fun _ _ hT hS hW => ⟨⟨hT, hS⟩, hW⟩)
end
end RG
namespace LW
open Mc
set_option maxRecDepth 100000 in
set_option maxHeartbeats 40000000 in
theorem pracesWith (s : Syst) (pa : Option Addr) (pc : Nat) (ra : Option Addr) (rc : Nat) (la : Option Addr) (lc : Nat) (l : List Ev) (C M f most : Nat) (ea : Option Addr) (ec : Nat) (ed : List Eg2) (w : World) (hC : s.cells = (C : Int)) (hC6 : C ≤ 1000000) (hM6 : M ≤ 1000000) (hf6 : f ≤ 1000000) (hmo : most ≤ 1000000) (hl : EvI w la lc l) (ho : Ok s) (hg : Tr.Gd s l l.length) (hL : l.length ≤ 40000) (he : EgR w ea ec ed) (hO : Ord ed) (hE : ∀ x, x ∈ ed ↔ x ∈ Tr.edF s l l.length) :
  Calls Tryz.prog 19 #[.agg #[.slice pa s.progs.length pc, .slice ra s.rooms.length rc, .int .i64 s.groups, .int .i64 s.locks, .int .i64 s.cells, .slice la l.length lc, .int .i64 (Tr.rnC l : Int)], .slice ea ed.length ec, .agg #[.int .i64 (f : Int), .int .i64 (M : Int)], .int .i64 (most : Int)] w (fun e w' => ∃ v es, e = .returned v ∧ w'.ownsRow w.heap.size 33 2 v es.length (edC es) ∧ es.length ≤ most ∧ (∀ x ∈ es, RcP s l x) ∧ Below w.heap.size w w') := by
 obtain ⟨POST, hP⟩ : ∃ P : Ending → World → Prop, P = fun e w' => ∃ v es, e = .returned v ∧ w'.ownsRow w.heap.size 33 2 v es.length (edC es) ∧ es.length ≤ most ∧ (∀ x ∈ es, RcP s l x) ∧ Below w.heap.size w w' := ⟨_, rfl⟩
 have HPo : Hid (∀ v es w', w'.ownsRow w.heap.size 33 2 v es.length (edC es) → es.length ≤ most → (∀ x ∈ es, RcP s l x) → Below w.heap.size w w' → POST (.returned v) w') := fun v es w' q1 q0 q2 q3 => by rw [hP]; exact ⟨v, es, rfl, q1, q0, q2, q3⟩
 have HCl0 : ∀ W, Below w.heap.size w W → Calls Tryz.prog 31 #[.agg #[.slice pa s.progs.length pc, .slice ra s.rooms.length rc, .int .i64 s.groups, .int .i64 s.locks, .int .i64 s.cells, .slice la l.length lc, .int .i64 (Tr.rnC l : Int)], .slice ea ed.length ec, .agg #[.int .i64 (f : Int), .int .i64 (M : Int)]] W (CkQ W s l f M) := fun W hW => pclocks s pa pc ra rc la lc l f M ea ec ed W (hl.below hW) ho hg hL (by omega) hf6 (he.below hW) hO hE
 have HNw0 : ∀ W, Calls Tryz.prog 41 #[.agg #[.slice pa s.progs.length pc, .slice ra s.rooms.length rc, .int .i64 s.groups, .int .i64 s.locks, .int .i64 s.cells, .slice la l.length lc, .int .i64 (Tr.rnC l : Int)], .agg #[.int .i64 (f : Int), .int .i64 (M : Int)]] W (fun e w' => ∃ (top : Value) (mid : Nat → Value), e = .returned (.agg #[.int .i64 (f : Int), .int .i64 (M : Int), top]) ∧ AN w' W.heap.size C M C top mid ∧ Below W.heap.size W w') := fun W => pnewAcc s pa pc ra rc la lc l C M (f : Int) W hC hC6 hM6
 rw [← hP, hC]
 rw [hC] at HCl0 HNw0
 clear hP
 have HCl := TW.hide HCl0
 have HNw := TW.hide HNw0
 clear HCl0 HNw0
 have HEv := TW.hide hl
 have HOk := TW.hide ho
 have HGd := TW.hide hg
 have HLn := TW.hide hL
 have HCs := TW.hide hC
 have NB : Hid (Below w.heap.size w ((w.alloc (.cells #[.slice pa s.progs.length pc, .slice ra s.rooms.length rc, .int .i64 s.groups, .int .i64 s.locks, .int .i64 (C : Int), .slice la l.length lc, .int .i64 (Tr.rnC l : Int)] 43)).alloc (.cells #[.int .i64 (f : Int), .int .i64 (M : Int)] 63))) := ((Below.refl _ _).alloc (Nat.le_refl _) _).alloc (by simp) _
 have N1 : Hid (((w.alloc (.cells #[.slice pa s.progs.length pc, .slice ra s.rooms.length rc, .int .i64 s.groups, .int .i64 s.locks, .int .i64 (C : Int), .slice la l.length lc, .int .i64 (Tr.rnC l : Int)] 43)).alloc (.cells #[.int .i64 (f : Int), .int .i64 (M : Int)] 63)).heap[w.heap.size]? = some (.cells #[.slice pa s.progs.length pc, .slice ra s.rooms.length rc, .int .i64 s.groups, .int .i64 s.locks, .int .i64 (C : Int), .slice la l.length lc, .int .i64 (Tr.rnC l : Int)] 43 (0, 0))) := blk_alloc (heap_alloc_new w _)
 have N2 : Hid (((w.alloc (.cells #[.slice pa s.progs.length pc, .slice ra s.rooms.length rc, .int .i64 s.groups, .int .i64 s.locks, .int .i64 (C : Int), .slice la l.length lc, .int .i64 (Tr.rnC l : Int)] 43)).alloc (.cells #[.int .i64 (f : Int), .int .i64 (M : Int)] 63)).heap[w.heap.size + 1]? = some (.cells #[.int .i64 (f : Int), .int .i64 (M : Int)] 63 (0, 0))) := by
  have h1 := heap_alloc_new (w.alloc (.cells #[.slice pa s.progs.length pc, .slice ra s.rooms.length rc, .int .i64 s.groups, .int .i64 s.locks, .int .i64 (C : Int), .slice la l.length lc, .int .i64 (Tr.rnC l : Int)] 43)) (.cells #[.int .i64 (f : Int), .int .i64 (M : Int)] 63)
  have h2 : (w.alloc (.cells #[.slice pa s.progs.length pc, .slice ra s.rooms.length rc, .int .i64 s.groups, .int .i64 s.locks, .int .i64 (C : Int), .slice la l.length lc, .int .i64 (Tr.rnC l : Int)] 43)).heap.size = w.heap.size + 1 := by simp
  rw [h2] at h1
  exact h1
 obtain ⟨ir, hir, hzr0, hzr1, hzr2⟩ := info_parts' rcinfo
 clear hl ho hg hL he hO hE hC
 go_enter Tryz.func19, Tryz.ntmps19
 refine wp_seq_k fun Ka hKa => ?_
 have HKa := TW.hide hKa
 clear hKa
 go_wp2
 refine HKa.out _ _ ?_
 clear HKa
 refine wp_seq_k fun Kb hKb => ?_
 have HKb := TW.hide hKb
 clear hKb
 go_wp2
 refine HKb.out _ _ ?_
 clear HKb
 generalize World.alloc _ _ = X0 at *
 obtain ⟨g2, hg2⟩ : ∃ g, w.heap.size + 1 = g := ⟨_, rfl⟩
 rw [hg2] at N2 ⊢
 have HG2 := TW.hide hg2
 clear hg2
 obtain ⟨z0, z1, z2, z3, z4, z5, z6⟩ := cellsY7 N1.out
 obtain ⟨b0, b1⟩ := cellsR2 N2.out
 refine wp_seq_k fun Kc hKc => ?_
 have HKc := TW.hide hKc
 clear hKc
 go_wp2_with fail
 refine (HCl.out X0 NB.out).mono ?_
 rintro e1 X ⟨oc, G, ag, hs, v, rfl, hoc, hcm, hb⟩
 have N11 := TW.hide (blk_keep N1.out hb)
 have N21 := TW.hide (blk_keep N2.out hb)
 have NB1 : Hid (Below w.heap.size w X) := NB.out.trans (hb.mono NB.out.size)
 have HCm := TW.hide hcm
 clear z0 z1 z2 z3 z4 z5 z6 b0 b1 N1 N2 NB hb hcm HCl
 have N1 := N11
 have N2 := N21
 have NB := NB1
 clear N11 N21 NB1
 obtain ⟨cv, hcv⟩ : ∃ cv, v Oc.li = cv := ⟨_, rfl⟩
 rw [hcv]
 go_wp2
 refine HKc.out _ _ ?_
 clear HKc
 have HX : Hid (Below X.heap.size X X) := Below.refl _ _
 refine wp_seq_k fun K3 hK3 => ?_
 have HR : Hid (∀ (Ba g6 g7 : Nat) (ta tb : Value) (ma mb : Nat → Value) (W : World) {u15 u16 u17 u18 u19 u20 u21 u22 u23 u24 : Value}, AM W Ba C M (fun s => if s = true then tb else ta) (fun s => if s = true then mb else ma) (fun _ _ _ => .slice none 0 0) (fun _ _ _ => .slice none 0 0) (fun _ _ _ => []) → W.heap[g6]? = some (.cells #[.int .i64 (f : Int), .int .i64 (M : Int), ta] 89 (0, 0)) → W.heap[g7]? = some (.cells #[.int .i64 (f : Int), .int .i64 (M : Int), tb] 89 (0, 0)) → X.heap.size ≤ g6 → X.heap.size ≤ g7 → X.heap.size ≤ Ba → g6 ≠ g7 → Below X.heap.size X W → K3 { tmps := #[.agg #[.slice pa s.progs.length pc, .slice ra s.rooms.length rc, .int .i64 s.groups, .int .i64 s.locks, .int .i64 (C : Int), .slice la l.length lc, .int .i64 (Tr.rnC l : Int)], .slice ea ed.length ec, .agg #[.int .i64 (f : Int), .int .i64 (M : Int)], .int .i64 (most : Int), .pointer (some ⟨w.heap.size, 0, none⟩), undef, .pointer (some ⟨g2, 0, none⟩), undef, .slice none 0 0, .slice none 0 0, cv, .pointer (some ⟨g6, 0, none⟩), .pointer (some ⟨g7, 0, none⟩), undef, undef, u15, u16, u17, u18, u19, u20, u21, u22, u23, u24, undef, undef, undef, undef, undef, undef, undef, undef, undef, undef, undef, undef, undef, undef, undef, undef, undef, undef, undef, undef, undef, undef, undef, undef, undef, undef, undef, undef, undef, undef, undef, undef, undef, undef, undef, undef, undef, undef, undef, undef, undef, undef, undef, undef, undef, undef, undef, undef, undef, undef, undef, undef, undef], defers := [] } W) := by as_aux_lemma =>
  refine TW.hide ?_
  intro Ba g6 g7 ta tb ma mb W u15 u16 u17 u18 u19 u20 u21 u22 u23 u24 ham h6 h7 hg6 hg7 hBa hne hb
  have HB0 := TW.hide hb
  obtain ⟨ca, cc, ecv, hrr⟩ := HCm.out.lis
  rw [hcv] at ecv
  subst ecv
  have HRr : Hid (RR X ca ((List.range l.length).map (fun j => if j < l.length then clL s l f M j else []))) := hrr
  have HBa : Hid (X.heap.size ≤ Ba) := hBa
  have HG6 : Hid (X.heap.size ≤ g6) := hg6
  have HG7 : Hid (X.heap.size ≤ g7) := hg7
  have N60 := TW.hide h6
  have N70 := TW.hide h7
  have HM0 : Hid (AM W Ba C M (fun s => if s = true then tb else ta) (fun s => if s = true then mb else ma) (fun _ _ _ => .slice none 0 0) (fun _ _ _ => .slice none 0 0) (anM l f M 0)) := by
   show AM _ _ _ _ _ _ _ _ _
   rw [anM_zero]
   exact ham
  have HO0 : Hid (W.ownsRow X.heap.size 33 2 (.slice none 0 0) ([] : List (Int × Int)).length (edC [])) := ⟨rfl, .inl ⟨rfl, rfl⟩⟩
  obtain ⟨z0, z1, z2, z3, z4, z5, z6⟩ := cellsY7 (blk_keep N1.out hb)
  clear ham h6 h7 hg6 hg7 hBa hb hrr
  refine hK3 _ _ ?_
  clear hK3
  refine wp_seq_k fun K4 hK4 => ?_
  have HK4 := TW.hide hK4
  clear hK4
  go_wp2
  clear z0 z1 z2 z3 z4 z5 z6
  go_loopw [9, 28] (fun lv iv wr => ∃ (k : Nat) (va : Option Addr) (vc : Nat) (es : List (Int × Int)) (inn : Bool → Nat → Nat → Value), k ≤ l.length ∧ iv = .int .i64 (k : Int) ∧ lv = .slice va es.length vc ∧ Hid (AM wr Ba C M (fun s => if s = true then tb else ta) (fun s => if s = true then mb else ma) inn inn (anM l f M k)) ∧ Hid (wr.ownsRow X.heap.size 33 2 (.slice va es.length vc) es.length (edC es)) ∧ Hid (∀ x ∈ es, RcP s l x) ∧ Hid (es.length ≤ 40000 * k) ∧ Hid (wr.heap[g6]? = some (.cells #[.int .i64 (f : Int), .int .i64 (M : Int), ta] 89 (0, 0))) ∧ Hid (wr.heap[g7]? = some (.cells #[.int .i64 (f : Int), .int .i64 (M : Int), tb] 89 (0, 0))) ∧ Hid (Below X.heap.size X wr)) (fun lv iv wr => l.length - (intOf iv).toNat)
  case atStart => exact ⟨0, none, 0, [], _, Nat.zero_le _, rfl, rfl, HM0, HO0, TW.hide (fun x hx => by cases hx), TW.hide (Nat.zero_le _), N60, N70, HB0⟩
  case round =>
   clear HM0 HO0 N60 N70 HB0
   obtain ⟨k, va, vc, es, inn, hk, rfl, rfl, HM, HO, HRc, HLe, N6, N7, HB⟩ := hrel
   obtain ⟨wo, rfl⟩ : ∃ x, x = wr := ⟨_, rfl⟩
   by_cases hlt : k < l.length
   ·have hk1 : (k : Int) < (l.length : Int) := by omega
    have hk0 : (0 : Int) ≤ (k : Int) := by omega
    have hk40 : k ≤ 40000 := by have := HLn.out; omega
    have hes9 : es.length ≤ 1600000000 := by have := HLe.out; have := HLn.out; omega
    obtain ⟨b, off, who, op, a, va2, sh, hla, hev, _, _, _, _, x0, x1, x2, x3, x4⟩ := (HEv.out.below (NB.out.trans (HB.out.mono NB.out.size))).get k hlt
    subst hla
    have hfit := HGd.out k hlt
    have hev' : Tr.ev l k = ⟨who, op, a, va2, sh⟩ := hev
    have hev9 : l.getD k Tr.e0 = ⟨who, op, a, va2, sh⟩ := hev
    rw [hev9] at hfit
    clear hev9
    have HEk := TW.hide hev'
    have HLT := TW.hide hlt
    have hAl : Below wo.heap.size wo ((wo.alloc (.cells #[.int .i64 0, .int .i64 0, .int .i64 0, .int .i64 0, .bool false] 35)).setRow wo.heap.size #[.int .i64 who, .int .i64 op, .int .i64 a, .int .i64 va2, .bool sh]) := below_setRow ((Below.refl _ _).alloc (Nat.le_refl _) _) (Nat.le_refl _)
    have HM4 : Hid (AM ((wo.alloc (.cells #[.int .i64 0, .int .i64 0, .int .i64 0, .int .i64 0, .bool false] 35)).setRow wo.heap.size #[.int .i64 who, .int .i64 op, .int .i64 a, .int .i64 va2, .bool sh]) Ba C M (fun s => if s = true then tb else ta) (fun s => if s = true then mb else ma) inn inn (anM l f M k)) := HM.out.below hAl
    have HO4 : Hid (((wo.alloc (.cells #[.int .i64 0, .int .i64 0, .int .i64 0, .int .i64 0, .bool false] 35)).setRow wo.heap.size #[.int .i64 who, .int .i64 op, .int .i64 a, .int .i64 va2, .bool sh]).ownsRow X.heap.size 33 2 (.slice va es.length vc) es.length (edC es)) := own_belowI HO.out hAl
    have N64 := TW.hide (blk_keep N6.out hAl)
    have N74 := TW.hide (blk_keep N7.out hAl)
    have HB4 : Hid (Below X.heap.size X ((wo.alloc (.cells #[.int .i64 0, .int .i64 0, .int .i64 0, .int .i64 0, .bool false] 35)).setRow wo.heap.size #[.int .i64 who, .int .i64 op, .int .i64 a, .int .i64 va2, .bool sh])) := HB.out.trans (hAl.mono HB.out.size)
    have NE : Hid (((wo.alloc (.cells #[.int .i64 0, .int .i64 0, .int .i64 0, .int .i64 0, .bool false] 35)).setRow wo.heap.size #[.int .i64 who, .int .i64 op, .int .i64 a, .int .i64 va2, .bool sh]).heap[wo.heap.size]? = some (.cells #[.int .i64 who, .int .i64 op, .int .i64 a, .int .i64 va2, .bool sh] 35 (0, 0))) := setRow_heap _ _ _ _ _ _ (heap_alloc_new wo _)
    have HGe : Hid (X.heap.size ≤ wo.heap.size) := HB.out.size
    clear hlt hk hev hAl HM HO N6 N7 HB
    refine wp_seq_k fun Kd hKd => ?_
    have HKd := TW.hide hKd
    clear hKd
    go_wp2
    refine HKd.out _ _ ?_
    clear HKd
    refine wp_seq_k fun Ke hKe => ?_
    have HKe := TW.hide hKe
    clear hKe
    go_wp2
    refine HKe.out _ _ ?_
    clear HKe
    refine wp_seq_k fun Kf hKf => ?_
    have HKf := TW.hide hKf
    clear hKf
    refine wp_block ?_
    refine wp_seq_k fun Kg hKg => ?_
    have HKg := TW.hide hKg
    clear hKg
    go_wp2_with (first | (refine wpList_store_row (by rfl) 35 _ _ (by rfl) wo.heap.size #[.int .i64 who, .int .i64 op, .int .i64 a, .int .i64 va2, .bool sh] (by rfl) (by rfl) 35 _ (heap_alloc_new wo _) (by kernel_rfl) (by rfl) (by simp [Value.oneCell']) ?_; generalize World.setRow _ _ _ = We at *; generalize wo.heap.size = ge at *) | fail)
    refine HKg.out _ _ ?_
    clear HKg x0 x1 x2 x3 x4
    have HM := HM4
    have HO := HO4
    have N6 := N64
    have N7 := N74
    have HB := HB4
    clear HM4 HO4 N64 N74 HB4
    by_cases hmx : most ≤ es.length
    ·have qm : (most : Int) ≤ (es.length : Int) := by omega
     go_wp2
     obtain ⟨mn, hmn⟩ : ∃ mn, min most es.length = mn := ⟨_, rfl⟩
     have qmn : min (most : Int) (es.length : Int) = (mn : Int) := by omega
     have hmn1 : mn ≤ es.length := by omega
     have hml : (es.take mn).length = mn := by rw [List.length_take]; exact Nat.min_eq_left hmn1
     have HRp := TW.hide (HPo.out (.slice va mn vc) (es.take mn) We (by
      rw [hml, ← edC_take]
      exact own_baseL (own_pre HO.out hmn1) NB.out.size) (by rw [hml]; omega) (fun x hx => HRc.out x (List.mem_of_mem_take hx)) (NB.out.trans (HB.out.mono NB.out.size)))
     have hvc : es.length ≤ vc := by
      rcases HO.out.2 with ⟨e, h0⟩ | ⟨g, c2, cur, e, _, _, h3, _⟩
      ·omega
      ·injection e with _ _ e3
       omega
     have qn0 : (0 : Int) ≤ (mn : Int) := by omega
     have qn1 : (mn : Int) ≤ (vc : Int) := by omega
     clear hml hmn hmn1
     rcases va with _ | va
     ·have h0 : es.length = 0 ∧ vc = 0 := by
       rcases HO.out.2 with ⟨e, h0⟩ | ⟨g, c2, cur, e, _⟩
       ·injection e with _ _ e3
        exact ⟨h0, e3⟩
       ·cases e
      obtain ⟨h01, rfl⟩ := h0
      obtain rfl : mn = 0 := by omega
      obtain rfl : es = [] := List.eq_nil_of_length_eq_zero h01
      have qm0 : min (most : Int) 0 = 0 := by omega
      clear qmn
      clear HM HO HRc HLe N6 N7 HB
      refine HK4.out _ _ ?_
      clear HK4
      go_wp2
      first | exact HRp.out | exact ⟨rfl, HRp.out⟩
     ·clear HM HO HRc HLe N6 N7 HB
      refine HK4.out _ _ ?_
      clear HK4
      go_wp2
      first | exact HRp.out | exact ⟨rfl, HRp.out⟩
    ·have qm : ¬ (most : Int) ≤ (es.length : Int) := by omega
     refine wp_seq_k fun Kh hKh => ?_
     have HKh := TW.hide hKh
     clear hKh
     go_wp2
     refine HKh.out _ _ ?_
     clear HKh
     have hcell : op = 12 ∨ op = 13 → 0 ≤ a ∧ a < (C : Int) := fun hop => by
      have := hfit.a s.cells (by unfold Tr.mnC; dsimp only; rw [if_neg (by omega), if_neg (by omega), if_neg (by omega), if_pos (by omega)])
      have h2 := HCs.out
      dsimp only at this
      omega
     obtain ⟨wn, hwn, hw5, _⟩ := who_base9 HGd.out HLT.out
     rw [HEk.out] at hwn
     have hwn : who = (wn : Int) := hwn
     subst hwn
     have HRrW : Hid (RR We ca ((List.range l.length).map (fun j => if j < l.length then clL s l f M j else []))) := HRr.out.below HB.out
     have HRow : Hid (∀ i, i < l.length → ((List.range l.length).map (fun j => if j < l.length then clL s l f M j else [])).getD i [] = clL s l f M i) := fun i hi => by
      rw [List.getD_eq_getElem?_getD, List.getElem?_map, List.getElem?_range hi]
      show (if i < l.length then clL s l f M i else []) = _
      rw [if_pos hi]
     obtain ⟨rows, hrows⟩ : ∃ rows, (List.range l.length).map (fun j => if j < l.length then clL s l f M j else []) = rows := ⟨_, rfl⟩
     have HRwl : Hid (rows.length = l.length) := by show _ = _; rw [← hrows]; simp
     rw [hrows] at HRrW HRow
     have HUs : Hid (∀ (sb : Bool) (c : Nat), c < C → a = (c : Int) → (op = 13 ∨ (op = 12 ∧ sb = true)) → Calls Tryz.prog 42 #[.agg #[.int .i64 (f : Int), .int .i64 (M : Int), if sb = true then tb else ta], .slice ca l.length cc, .int .i64 (k : Int), .int .i64 (c : Int)] We (fun e w' => ∃ a2 c2 es2, e = .returned (.slice a2 es2.length c2) ∧ w'.ownsRow We.heap.size 33 2 (.slice a2 es2.length c2) es2.length (edC es2) ∧ es2.length ≤ 40000 ∧ (∀ x ∈ es2, RcP s l x) ∧ Below We.heap.size We w')) := fun sb c hcC hac hop => by
      refine (punseen Ba C M l.length f k c _ _ inn (anM l f M k) sb ca cc rows We HM.out hcC HRrW.out HRwl.out (fun i hi => by rw [HRow.out i hi, clL_len]) (fun p hp x hx => by
       unfold anM at hx
       rw [if_pos hp] at hx
       obtain ⟨i, rfl, hik, _⟩ := (anL_mem l f sb c p k x).1 hx
       have := HLT.out
       omega) HLT.out HLn.out hM6 hC6 (Nat.le_trans (anM_tot l f M k sb c) hk40)).mono ?_
      rintro e w' ⟨v, es2, rfl, ho, hl2, hx, hb⟩
      obtain ⟨a2, c2, e2⟩ := own_openE ho
      subst e2
      exact ⟨a2, c2, es2, rfl, ho, hl2, fun x hx2 => usP_race s l f M k c sb x HLT.out (by rw [HEk.out]; exact hac) (by rw [HEk.out]; exact hop) rows HRow.out (hx x hx2).1 (hx x hx2).2, hb⟩
     have HAd : Hid (∀ (sb : Bool) (c : Nat) (inn : Bool → Nat → Nat → Value) (cs : Bool → Nat → Nat → List Int) (W : World), c < C → AM W Ba C M (fun s => if s = true then tb else ta) (fun s => if s = true then mb else ma) inn inn cs → Ba ≤ W.heap.size → (∀ p, (cs sb c p).length ≤ 40000) → Calls Tryz.prog 43 #[.agg #[.int .i64 (f : Int), .int .i64 (M : Int), if sb = true then tb else ta], .int .i64 (k : Int), .agg #[.int .i64 (wn : Int), .int .i64 op, .int .i64 (c : Int), .int .i64 va2, .bool sh]] W (fun e w' => ∃ inn', e = .returned (.tuple #[]) ∧ AM w' Ba C M (fun s => if s = true then tb else ta) (fun s => if s = true then mb else ma) inn' inn' (csA cs sb c (f : Int) M (wn : Int) (k : Int)) ∧ Below Ba W w' ∧ ∀ (q : Nat) (cs' : Array Value) (t : TypeId) (fr : Nat × Nat), W.heap[q]? = some (.cells cs' t fr) → 3 ≠ t → 23 ≠ t → w'.heap[q]? = some (.cells cs' t fr))) := fun sb c inn cs W hcC hm hB hl => paddA Ba C M f _ _ inn cs sb c k (wn : Int) op va2 sh W hm hcC hB hl (by omega) (by omega) hf6 hM6 hC6 hk40
     clear hrows hfit
     obtain ⟨y0, y1, y2, y3, y4⟩ := cellsY5 NE.out
     obtain ⟨d0, d1, d2⟩ := cellsR3 N6.out
     obtain ⟨f0, f1, f2⟩ := cellsR3 N7.out
     by_cases h12 : op = 12
     ·subst h12
      obtain ⟨c, rfl⟩ : ∃ c : Nat, a = (c : Int) := ⟨a.toNat, by have := hcell (.inl rfl); omega⟩
      have hcC : c < C := by have := hcell (.inl rfl); omega
      have HUs2 := TW.hide (HUs.out true c hcC rfl (.inr ⟨rfl, rfl⟩))
      refine wp_seq_k fun Ki hKi => ?_
      have HKi := TW.hide hKi
      clear hKi
      go_wp2
      refine HKi.out _ _ ?_
      clear HKi
      refine wp_block ?_
      refine wp_seq_k fun Kj hKj => ?_
      have HKj := TW.hide hKj
      clear hKj
      go_wp2
      refine HKj.out _ _ ?_
      clear HKj
      go_wp2_with fail
      refine HUs2.out.mono ?_
      rintro e1 W1 ⟨a2, c2, es2, rfl, ho2, hl2, hr2, hb2⟩
      have hes9' : es.length + es2.length ≤ 1700000000 := by omega
      have HO1 := TW.hide (own_belowI HO.out hb2)
      have HO2 := TW.hide ho2
      have HSz : Hid (X.heap.size ≤ W1.heap.size) := (HB.out.trans (hb2.mono HB.out.size)).size
      have HF5 : Hid (∀ (v5 : Value) (w5 : World), w5.ownsRow X.heap.size 33 2 v5 (es.length + es2.length) (edC es ++ edC es2) → W1.grownBy w5 (Value.slice va es.length vc).ownBlock → ∃ a5 c5 es3, v5 = .slice a5 es3.length c5 ∧ w5.ownsRow X.heap.size 33 2 (.slice a5 es3.length c5) es3.length (edC es3) ∧ AM w5 Ba C M (fun s => if s = true then tb else ta) (fun s => if s = true then mb else ma) inn inn (anM l f M k) ∧ (∀ x ∈ es3, RcP s l x) ∧ es3.length ≤ 40000 * (k + 1) ∧ w5.heap[g6]? = some (.cells #[.int .i64 (f : Int), .int .i64 (M : Int), ta] 89 (0, 0)) ∧ w5.heap[g7]? = some (.cells #[.int .i64 (f : Int), .int .i64 (M : Int), tb] 89 (0, 0)) ∧ w5.heap[ge]? = some (.cells #[.int .i64 (wn : Int), .int .i64 12, .int .i64 (c : Int), .int .i64 va2, .bool sh] 35 (0, 0)) ∧ Below X.heap.size X w5) := fun v5 w5 h1 h2 => by
       obtain ⟨a5, c5, e5⟩ := own_openE h1
       have hl3 : es.length + es2.length = (es ++ es2).length := by rw [List.length_append]
       rw [← edC_app, hl3] at h1
       rw [hl3] at e5
       have hbx : Below X.heap.size X W1 := HB.out.trans (hb2.mono HB.out.size)
       refine ⟨a5, c5, es ++ es2, e5, by rw [← e5]; exact h1, (HM.out.below hb2).grownR HO1.out h2, fun x hx => ?_, by rw [← hl3]; have := HLe.out; omega, own_keepR (blk_keep N6.out hb2) HO1.out (by decide) h2, own_keepR (blk_keep N7.out hb2) HO1.out (by decide) h2, own_keepR (blk_keep NE.out hb2) HO1.out (by decide) h2, hbx.grown h2 hbx.size (fun q hq => own_blkI HO1.out q hq)⟩
       rcases List.mem_append.1 hx with h | h
       ·exact HRc.out x h
       ·exact hr2 x h
      clear ho2 hr2 hb2 HM HO HRc HLe N6 N7 NE HB HUs HUs2 y0 y1 y2 y3 y4 d0 d1 d2 f0 f1 f2
      go_wp2_with (at_builtin; refine wpList_plain rfl (fun Kp hKp => ?_); refine wp_append_rows _ _ 28 (by rfl) X.heap.size _ 33 ir (.agg #[.int .i64 0, .int .i64 0]) 2 16 Tryz.underlying28 hir hzr0 hzr1 hzr2 rfl (by decide) _ _ _ _ _ _ (by rfl) HO1.out (by rfl) HO2.out (edC_one _) (by unfold maxLen; omega) (by omega) HSz.out ?_; (intro v5 w5 h51 h52); obtain ⟨a5, c5, es3, rfl, q1, q2, q3, q4, q5, q6, q7, q8⟩ := HF5.out v5 w5 h51 h52; have HO5 := TW.hide q1; have HM5 := TW.hide q2; have HRc5 := TW.hide q3; have HLe5 := TW.hide q4; have N65 := TW.hide q5; have N75 := TW.hide q6; have NE5 := TW.hide q7; have HB5 := TW.hide q8; clear h51 h52 q1 q2 q3 q4 q5 q6 q7 q8 HF5 HO1 HO2 HSz; refine hKp _ _ ?_; clear hKp; obtain ⟨d0, d1, d2⟩ := cellsR3 N65.out; obtain ⟨f0, f1, f2⟩ := cellsR3 N75.out; obtain ⟨y0, y1, y2, y3, y4⟩ := cellsY5 NE5.out)
      go_wp2_with fail
      have hsz5 : Ba ≤ w5.heap.size := by
       obtain ⟨b9, _, e9, hb9, _⟩ := HM5.out.topAt false c hcC
       exact Nat.le_of_lt (Nat.lt_of_le_of_lt hb9 (own_lt (HM5.out.fam.own (false, none)) b9 (by show Value.ownBlock (if false = true then tb else ta) = _; rw [show (if false = true then tb else ta) = _ from e9]; rfl)))
      refine (HAd.out false c inn (anM l f M k) w5 hcC HM5.out hsz5 (fun p => Nat.le_trans (anM_len l f M false c p k) hk40)).mono ?_
      rintro e2p W2p ⟨innp, rfl, am2, hb3, oth⟩
      have HMp := TW.hide am2
      have HOp := TW.hide (own_raceK HO5.out oth)
      have N6p := TW.hide (oth _ _ _ _ N65.out (by decide) (by decide))
      have N7p := TW.hide (oth _ _ _ _ N75.out (by decide) (by decide))
      have HBp : Hid (Below X.heap.size X W2p) := HB5.out.trans (hb3.mono HBa.out)
      clear am2 hb3 oth HM5 HO5 N65 N75 NE5 HB5 hsz5 HAd d0 d1 d2 f0 f1 f2 y0 y1 y2 y3 y4
      have HM9 : Hid (AM W2p Ba C M (fun s => if s = true then tb else ta) (fun s => if s = true then mb else ma) innp innp (anM l f M (k + 1))) := by
       show AM _ _ _ _ _ _ _ _ _
       rw [anM_read l f M k c (by rw [HEk.out]) (by rw [HEk.out]), HEk.out]
       exact HMp.out
      clear HMp
      go_wp2
      refine HKf.out _ _ ?_
      go_wp2
      go_roundw
      case rel => exact ⟨k + 1, a5, c5, es3, innp, HLT.out, by go_num, rfl, HM9, HOp, HRc5, HLe5, N6p, N7p, HBp⟩
      case measure => simp [intOf]; have := HLT.out; omega
     ·by_cases h13 : op = 13
      ·subst h13
       obtain ⟨c, rfl⟩ : ∃ c : Nat, a = (c : Int) := ⟨a.toNat, by have := hcell (.inr rfl); omega⟩
       have hcC : c < C := by have := hcell (.inr rfl); omega
       have HUs2 := TW.hide (HUs.out false c hcC rfl (.inl rfl))
       refine wp_seq_k fun Ki hKi => ?_
       have HKi := TW.hide hKi
       clear hKi
       go_wp2
       refine HKi.out _ _ ?_
       clear HKi
       refine wp_block ?_
       refine wp_seq_k fun Kj hKj => ?_
       have HKj := TW.hide hKj
       clear hKj
       go_wp2
       refine HKj.out _ _ ?_
       clear HKj
       go_wp2_with fail
       refine HUs2.out.mono ?_
       rintro e1 W1 ⟨a2, c2, es2, rfl, ho2, hl2, hr2, hb2⟩
       have hes9' : es.length + es2.length ≤ 1700000000 := by omega
       have HO1 := TW.hide (own_belowI HO.out hb2)
       have HO2 := TW.hide ho2
       have HSz : Hid (X.heap.size ≤ W1.heap.size) := (HB.out.trans (hb2.mono HB.out.size)).size
       have HF5 : Hid (∀ (v5 : Value) (w5 : World), w5.ownsRow X.heap.size 33 2 v5 (es.length + es2.length) (edC es ++ edC es2) → W1.grownBy w5 (Value.slice va es.length vc).ownBlock → ∃ a5 c5 es3, v5 = .slice a5 es3.length c5 ∧ w5.ownsRow X.heap.size 33 2 (.slice a5 es3.length c5) es3.length (edC es3) ∧ AM w5 Ba C M (fun s => if s = true then tb else ta) (fun s => if s = true then mb else ma) inn inn (anM l f M k) ∧ (∀ x ∈ es3, RcP s l x) ∧ es3.length ≤ 40000 * (k + 1) ∧ w5.heap[g6]? = some (.cells #[.int .i64 (f : Int), .int .i64 (M : Int), ta] 89 (0, 0)) ∧ w5.heap[g7]? = some (.cells #[.int .i64 (f : Int), .int .i64 (M : Int), tb] 89 (0, 0)) ∧ w5.heap[ge]? = some (.cells #[.int .i64 (wn : Int), .int .i64 13, .int .i64 (c : Int), .int .i64 va2, .bool sh] 35 (0, 0)) ∧ Below X.heap.size X w5) := fun v5 w5 h1 h2 => by
        obtain ⟨a5, c5, e5⟩ := own_openE h1
        have hl3 : es.length + es2.length = (es ++ es2).length := by rw [List.length_append]
        rw [← edC_app, hl3] at h1
        rw [hl3] at e5
        have hbx : Below X.heap.size X W1 := HB.out.trans (hb2.mono HB.out.size)
        refine ⟨a5, c5, es ++ es2, e5, by rw [← e5]; exact h1, (HM.out.below hb2).grownR HO1.out h2, fun x hx => ?_, by rw [← hl3]; have := HLe.out; omega, own_keepR (blk_keep N6.out hb2) HO1.out (by decide) h2, own_keepR (blk_keep N7.out hb2) HO1.out (by decide) h2, own_keepR (blk_keep NE.out hb2) HO1.out (by decide) h2, hbx.grown h2 hbx.size (fun q hq => own_blkI HO1.out q hq)⟩
        rcases List.mem_append.1 hx with h | h
        ·exact HRc.out x h
        ·exact hr2 x h
       clear ho2 hr2 hb2 HM HO HRc HLe N6 N7 NE HB HUs HUs2 y0 y1 y2 y3 y4 d0 d1 d2 f0 f1 f2
       go_wp2_with (at_builtin; refine wpList_plain rfl (fun Kp hKp => ?_); refine wp_append_rows _ _ 28 (by rfl) X.heap.size _ 33 ir (.agg #[.int .i64 0, .int .i64 0]) 2 16 Tryz.underlying28 hir hzr0 hzr1 hzr2 rfl (by decide) _ _ _ _ _ _ (by rfl) HO1.out (by rfl) HO2.out (edC_one _) (by unfold maxLen; omega) (by omega) HSz.out ?_; (intro v5 w5 h51 h52); obtain ⟨a5, c5, es3, rfl, q1, q2, q3, q4, q5, q6, q7, q8⟩ := HF5.out v5 w5 h51 h52; have HO5 := TW.hide q1; have HM5 := TW.hide q2; have HRc5 := TW.hide q3; have HLe5 := TW.hide q4; have N65 := TW.hide q5; have N75 := TW.hide q6; have NE5 := TW.hide q7; have HB5 := TW.hide q8; clear h51 h52 q1 q2 q3 q4 q5 q6 q7 q8 HF5 HO1 HO2 HSz; refine hKp _ _ ?_; clear hKp; obtain ⟨d0, d1, d2⟩ := cellsR3 N65.out; obtain ⟨f0, f1, f2⟩ := cellsR3 N75.out; obtain ⟨y0, y1, y2, y3, y4⟩ := cellsY5 NE5.out)
       go_wp2_with fail
       have hsz5 : Ba ≤ w5.heap.size := by
        obtain ⟨b9, _, e9, hb9, _⟩ := HM5.out.topAt false c hcC
        exact Nat.le_of_lt (Nat.lt_of_le_of_lt hb9 (own_lt (HM5.out.fam.own (false, none)) b9 (by show Value.ownBlock (if false = true then tb else ta) = _; rw [show (if false = true then tb else ta) = _ from e9]; rfl)))
       refine (HAd.out false c inn (anM l f M k) w5 hcC HM5.out hsz5 (fun p => Nat.le_trans (anM_len l f M false c p k) hk40)).mono ?_
       rintro e2p W2p ⟨innp, rfl, am2, hb3, oth⟩
       have HMp := TW.hide am2
       have HOp := TW.hide (own_raceK HO5.out oth)
       have N6p := TW.hide (oth _ _ _ _ N65.out (by decide) (by decide))
       have N7p := TW.hide (oth _ _ _ _ N75.out (by decide) (by decide))
       have HBp : Hid (Below X.heap.size X W2p) := HB5.out.trans (hb3.mono HBa.out)
       have NEp := TW.hide (oth _ _ _ _ NE5.out (by decide) (by decide))
       clear am2 hb3 oth HM5 HO5 N65 N75 NE5 HB5 hsz5 d0 d1 d2 f0 f1 f2 y0 y1 y2 y3 y4
       obtain ⟨d0, d1, d2⟩ := cellsR3 N6p.out
       obtain ⟨f0, f1, f2⟩ := cellsR3 N7p.out
       obtain ⟨y0, y1, y2, y3, y4⟩ := cellsY5 NEp.out
       go_wp2_with fail
       have hsz5 : Ba ≤ W2p.heap.size := by
        obtain ⟨b9, _, e9, hb9, _⟩ := HMp.out.topAt false c hcC
        exact Nat.le_of_lt (Nat.lt_of_le_of_lt hb9 (own_lt (HMp.out.fam.own (false, none)) b9 (by show Value.ownBlock (if false = true then tb else ta) = _; rw [show (if false = true then tb else ta) = _ from e9]; rfl)))
       refine (HAd.out true c innp (csA (anM l f M k) false c (f : Int) M (wn : Int) (k : Int)) W2p hcC HMp.out hsz5 (fun p => by rw [csA_at, if_neg (fun h => by cases h.1)]; exact Nat.le_trans (anM_len l f M true c p k) hk40)).mono ?_
       rintro e2q W2q ⟨innq, rfl, am2, hb3, oth⟩
       have HMq := TW.hide am2
       have HOq := TW.hide (own_raceK HOp.out oth)
       have N6q := TW.hide (oth _ _ _ _ N6p.out (by decide) (by decide))
       have N7q := TW.hide (oth _ _ _ _ N7p.out (by decide) (by decide))
       have HBq : Hid (Below X.heap.size X W2q) := HBp.out.trans (hb3.mono HBa.out)
       clear am2 hb3 oth HMp HOp N6p N7p NEp HBp hsz5 HAd d0 d1 d2 f0 f1 f2 y0 y1 y2 y3 y4
       have HM9 : Hid (AM W2q Ba C M (fun s => if s = true then tb else ta) (fun s => if s = true then mb else ma) innq innq (anM l f M (k + 1))) := by
        show AM _ _ _ _ _ _ _ _ _
        rw [anM_write l f M k c (by rw [HEk.out]) (by rw [HEk.out]), HEk.out]
        exact HMq.out
       clear HMq
       go_wp2
       refine HKf.out _ _ ?_
       go_wp2
       go_roundw
       case rel => exact ⟨k + 1, a5, c5, es3, innq, HLT.out, by go_num, rfl, HM9, HOq, HRc5, HLe5, N6q, N7q, HBq⟩
       case measure => simp [intOf]; have := HLT.out; omega
      ·have HM9 : Hid (AM We Ba C M (fun s => if s = true then tb else ta) (fun s => if s = true then mb else ma) inn inn (anM l f M (k + 1))) := by
        show AM _ _ _ _ _ _ _ _ _
        rw [anM_skip l f M k (by rw [HEk.out]; exact h12) (by rw [HEk.out]; exact h13)]
        exact HM.out
       have k12 : (op == 12) = false := by simp [h12]
       have k13 : (op == 13) = false := by simp [h13]
       have HLe9 : Hid (es.length ≤ 40000 * (k + 1)) := by show _ ≤ _; have := HLe.out; omega
       clear h12 h13 HUs HAd
       go_wp2
       refine HKf.out _ _ ?_
       go_wp2
       go_roundw
       case rel => exact ⟨k + 1, va, vc, es, inn, HLT.out, by go_num, rfl, HM9, HO, HRc, HLe9, N6, N7, HB⟩
       case measure => simp [intOf]; have := HLT.out; omega
   ·obtain rfl : k = l.length := by omega
    have qk : ¬ (l.length : Int) < (l.length : Int) := by omega
    clear hlt hk
    go_wp2
    obtain ⟨mn, hmn⟩ : ∃ mn, min most es.length = mn := ⟨_, rfl⟩
    have qmn : min (most : Int) (es.length : Int) = (mn : Int) := by omega
    have hmn1 : mn ≤ es.length := by omega
    have hml : (es.take mn).length = mn := by rw [List.length_take]; exact Nat.min_eq_left hmn1
    have HRp := TW.hide (HPo.out (.slice va mn vc) (es.take mn) wo (by
     rw [hml, ← edC_take]
     exact own_baseL (own_pre HO.out hmn1) NB.out.size) (by rw [hml]; omega) (fun x hx => HRc.out x (List.mem_of_mem_take hx)) (NB.out.trans (HB.out.mono NB.out.size)))
    have hvc : es.length ≤ vc := by
     rcases HO.out.2 with ⟨e, h0⟩ | ⟨g, c2, cur, e, _, _, h3, _⟩
     ·omega
     ·injection e with _ _ e3
      omega
    have qn0 : (0 : Int) ≤ (mn : Int) := by omega
    have qn1 : (mn : Int) ≤ (vc : Int) := by omega
    clear hml hmn hmn1
    rcases va with _ | va
    ·have h0 : es.length = 0 ∧ vc = 0 := by
      rcases HO.out.2 with ⟨e, h0⟩ | ⟨g, c2, cur, e, _⟩
      ·injection e with _ _ e3
       exact ⟨h0, e3⟩
      ·cases e
     obtain ⟨h01, rfl⟩ := h0
     obtain rfl : mn = 0 := by omega
     obtain rfl : es = [] := List.eq_nil_of_length_eq_zero h01
     have qm0 : min (most : Int) 0 = 0 := by omega
     clear qmn
     clear HM HO HRc HLe N6 N7 HB
     refine HK4.out _ _ ?_
     clear HK4
     go_wp2
     first | exact HRp.out | exact ⟨rfl, HRp.out⟩
    ·clear HM HO HRc HLe N6 N7 HB
     refine HK4.out _ _ ?_
     clear HK4
     go_wp2
     first | exact HRp.out | exact ⟨rfl, HRp.out⟩
 clear hK3
 refine wp_region_noPanic ?_
 refine RG.wp_region_L (fun Z => True) (fun Z => Below X.heap.size X Z) [] (by kernel_rfl) ?_
 refine RG.wpL_any fun Ya hY => ?_
 have HTa : Hid (Below X.heap.size X Ya) := by rw [hY]; exact below_drewN HX.out 1
 clear hY
 refine RG.wpL_take (fuel := 6) (a' := ?Aa) [0, 1, 3, 4] (by kernel_rfl) (by kernel_rfl) (fun _ _ _ _ _ h => h) HTa.out (fun _ => trivial) ?ra ?_
 case ra =>
  refine RG.RunsIf.weak (v := .agg #[.slice pa s.progs.length pc, .slice ra s.rooms.length rc, .int .i64 s.groups, .int .i64 s.locks, .int .i64 (C : Int), .slice la l.length lc, .int .i64 (Tr.rnC l : Int)]) (by rfl) (by rfl) (fun Z hT => ?_) ?_
  ·obtain ⟨z0, z1, z2, z3, z4, z5, z6⟩ := cellsY7 (blk_keep N1.out hT); obtain ⟨b0, b1⟩ := cellsR2 (blk_keep N2.out hT)
   go_simp
  simp only [Act.put, lpA, lpZ, lpS, lgT, lgZ, lgS]
  refine RG.RunsIf.weak (v := .agg #[.int .i64 (f : Int), .int .i64 (M : Int)]) (by rfl) (by rfl) (fun Z hT => ?_) ?_
  ·obtain ⟨z0, z1, z2, z3, z4, z5, z6⟩ := cellsY7 (blk_keep N1.out hT); obtain ⟨b0, b1⟩ := cellsR2 (blk_keep N2.out hT)
   go_simp
  simp only [Act.put, lpA, lpZ, lpS, lgT, lgZ, lgS]
  refine RG.RunsIf.weak (v := .agg #[.slice pa s.progs.length pc, .slice ra s.rooms.length rc, .int .i64 s.groups, .int .i64 s.locks, .int .i64 (C : Int), .slice la l.length lc, .int .i64 (Tr.rnC l : Int)]) (by rfl) (by rfl) (fun Z hT => ?_) ?_
  ·obtain ⟨z0, z1, z2, z3, z4, z5, z6⟩ := cellsY7 (blk_keep N1.out hT); obtain ⟨b0, b1⟩ := cellsR2 (blk_keep N2.out hT)
   go_simp
  simp only [Act.put, lpA, lpZ, lpS, lgT, lgZ, lgS]
  refine RG.RunsIf.weak (v := .agg #[.int .i64 (f : Int), .int .i64 (M : Int)]) (by rfl) (by rfl) (fun Z hT => ?_) ?_
  ·obtain ⟨z0, z1, z2, z3, z4, z5, z6⟩ := cellsY7 (blk_keep N1.out hT); obtain ⟨b0, b1⟩ := cellsR2 (blk_keep N2.out hT)
   go_simp
  simp only [Act.put, lpA, lpZ, lpS, lgT, lgZ, lgS]
  exact RG.RunsIf.nil
 have HT := HTa
 clear HTa
 refine RG.wpL_tri (i := 2) (j := 6) (k := 7) (by kernel_rfl) (by rfl) (by rfl) (by rfl) (by rfl) (by rfl) (by rfl) (fun KX hK => ?_) (fun KX hK => ?_) (fun KX hK => ?_)
 ·have HK := TW.hide hK
  clear hK
  go_simp
  refine (HNw.out Ya).mono ?_
  rintro e_V0 V0 ⟨ta, ma, rfl, han, hb⟩
  obtain ⟨tap, tac, et⟩ := own_openE (han.fam.own none)
  have et : ta = .slice tap C tac := et
  subst et
  have HT1 : Hid (Below X.heap.size X V0) := HT.out.trans (hb.mono HT.out.size)
  obtain ⟨Ba, hBa⟩ : ∃ b, Ya.heap.size = b := ⟨_, rfl⟩
  have HBaX : Hid (X.heap.size ≤ Ba) := by show _ ≤ _; rw [← hBa]; exact HT.out.size
  have HSa : Hid (Ba ≤ V0.heap.size) := by show _ ≤ _; rw [← hBa]; exact hb.size
  rw [hBa] at han
  have HAa := TW.hide han
  clear han
  refine HK.out _ _ HT1.out (fun _ => trivial) ?_
  clear HK KX hb hBa HT
  have HT := HT1
  clear HT1
  try simp only [Act.put, lpA, lpZ, lpS, lgT, lgZ, lgS]
  refine RG.wpL_tri (i := 5) (j := 6) (k := 7) (by kernel_rfl) (by rfl) (by rfl) (by rfl) (by rfl) (by rfl) (by rfl) (fun KX hK => ?_) (fun KX hK => ?_) (fun KX hK => ?_)
  ·have HK := TW.hide hK
   clear hK
   go_simp
   refine (HNw.out V0).mono ?_
   rintro e_V1 V1 ⟨tb, mb, rfl, han, hb⟩
   obtain ⟨tbp, tbc, et⟩ := own_openE (han.fam.own none)
   have et : tb = .slice tbp C tbc := et
   subst et
   have HT1 : Hid (Below X.heap.size X V1) := HT.out.trans (hb.mono HT.out.size)
   obtain ⟨Bb, hBb⟩ : ∃ b, V0.heap.size = b := ⟨_, rfl⟩
   have HLa : Hid (∀ i b, (fN C M C (.slice tap C tac) ma i).val.ownBlock = some b → b < Bb) := fun i b h => by rw [← hBb]; exact own_lt (HAa.out.fam.own i) b h
   have HBab : Hid (Ba ≤ Bb) := by show _ ≤ _; rw [← hBb]; exact HSa.out
   have HAa1 := TW.hide (HAa.out.below hb)
   have HSb : Hid (Bb ≤ V1.heap.size) := by show _ ≤ _; rw [← hBb]; exact hb.size
   rw [hBb] at han
   have HAb := TW.hide han
   clear han
   refine HK.out _ _ HT1.out (fun _ => trivial) ?_
   clear HK KX hb hBb HT
   clear HAa
   have HAa := HAa1
   clear HAa1
   have HT := HT1
   clear HT1
   try simp only [Act.put, lpA, lpZ, lpS, lgT, lgZ, lgS]
   refine RG.wpL_pair (i := 6) (j := 7) (by kernel_rfl) (by rfl) (by rfl) (by rfl) (by rfl) (fun KX hK => ?_) (fun KX hK => ?_)
   ·have HK := TW.hide hK
    clear hK
    go_simp
    have N6 := TW.hide (heap_alloc_new V1 (.cells #[.int .i64 0, .int .i64 0, .slice none 0 0] 89))
    have HT1 : Hid (Below X.heap.size X (V1.alloc (.cells #[.int .i64 0, .int .i64 0, .slice none 0 0] 89))) := HT.out.alloc HT.out.size _
    have hb : Below V1.heap.size V1 (V1.alloc (.cells #[.int .i64 0, .int .i64 0, .slice none 0 0] 89)) := (Below.refl _ _).alloc (Nat.le_refl _) _
    have HG6 : Hid (X.heap.size ≤ V1.heap.size) := HT.out.size
    have HAa1 := TW.hide (HAa.out.below hb)
    have HAb1 := TW.hide (HAb.out.below hb)
    refine HK.out _ _ HT1.out (fun _ => trivial) ?_
    clear HK KX hb HT
    clear HAa
    have HAa := HAa1
    clear HAa1
    clear HAb
    have HAb := HAb1
    clear HAb1
    have HT := HT1
    clear HT1
    generalize (V1.alloc (.cells #[.int .i64 0, .int .i64 0, .slice none 0 0] 89)) = V2 at *
    generalize V1.heap.size = g6 at *
    try simp only [Act.put, lpA, lpZ, lpS, lgT, lgZ, lgS]
    refine RG.wpL_step (i := 7) (by kernel_rfl) (by rfl) (by rfl) (fun KX hK => ?_)
    have HK := TW.hide hK
    clear hK
    go_simp
    have N7 := TW.hide (heap_alloc_new V2 (.cells #[.int .i64 0, .int .i64 0, .slice none 0 0] 89))
    have HT1 : Hid (Below X.heap.size X (V2.alloc (.cells #[.int .i64 0, .int .i64 0, .slice none 0 0] 89))) := HT.out.alloc HT.out.size _
    have hb : Below V2.heap.size V2 (V2.alloc (.cells #[.int .i64 0, .int .i64 0, .slice none 0 0] 89)) := (Below.refl _ _).alloc (Nat.le_refl _) _
    have HG7 : Hid (X.heap.size ≤ V2.heap.size) := HT.out.size
    have HNe : Hid (g6 ≠ V2.heap.size) := by show _ ≠ _; have := blk_lt N6.out; omega
    have N61 := TW.hide (blk_keep N6.out hb)
    have HAa1 := TW.hide (HAa.out.below hb)
    have HAb1 := TW.hide (HAb.out.below hb)
    refine HK.out _ _ HT1.out (fun _ => trivial) ?_
    clear HK KX hb HT
    clear N6
    have N6 := N61
    clear N61
    clear HAa
    have HAa := HAa1
    clear HAa1
    clear HAb
    have HAb := HAb1
    clear HAb1
    have HT := HT1
    clear HT1
    generalize (V2.alloc (.cells #[.int .i64 0, .int .i64 0, .slice none 0 0] 89)) = V3 at *
    generalize V2.heap.size = g7 at *
    try simp only [Act.put, lpA, lpZ, lpS, lgT, lgZ, lgS]
    have T5 : Hid (Below X.heap.size X (V3.setRow g6 #[.int .i64 (f : Int), .int .i64 (M : Int), .slice tap C tac])) := below_setRow HT.out HG6.out
    have T6 : Hid (Below X.heap.size X ((V3.setRow g6 #[.int .i64 (f : Int), .int .i64 (M : Int), .slice tap C tac]).setRow g7 #[.int .i64 (f : Int), .int .i64 (M : Int), .slice tbp C tbc])) := below_setRow T5.out HG7.out
    have N71 : Hid ((V3.setRow g6 #[.int .i64 (f : Int), .int .i64 (M : Int), .slice tap C tac]).heap[g7]? = some (.cells #[.int .i64 0, .int .i64 0, .slice none 0 0] 89 (0, 0))) := by show _ = _; rw [setRow_other _ _ _ _ (fun e => HNe.out e.symm)]; exact N7.out
    have N61 := setRow_heap _ _ _ #[.int .i64 (f : Int), .int .i64 (M : Int), .slice tap C tac] _ _ N6.out
    have N62 : ((V3.setRow g6 #[.int .i64 (f : Int), .int .i64 (M : Int), .slice tap C tac]).setRow g7 #[.int .i64 (f : Int), .int .i64 (M : Int), .slice tbp C tbc]).heap[g6]? = some (.cells #[.int .i64 (f : Int), .int .i64 (M : Int), .slice tap C tac] 89 (0, 0)) := by rw [setRow_other _ _ _ _ HNe.out]; exact N61
    have N72 := setRow_heap _ _ _ #[.int .i64 (f : Int), .int .i64 (M : Int), .slice tbp C tbc] _ _ N71.out
    have hj : AM ((V3.setRow g6 #[.int .i64 (f : Int), .int .i64 (M : Int), .slice tap C tac]).setRow g7 #[.int .i64 (f : Int), .int .i64 (M : Int), .slice tbp C tbc]) Ba C M _ _ _ _ _ := AN.join ((HAa.out.setB N6.out).setB N71.out) ((HAb.out.setB N6.out).setB N71.out) HBab.out HLa.out
    have HJ := TW.hide hj
    have N62 := TW.hide N62
    have N72 := TW.hide N72
    clear hj N61
    refine RG.wpL_step (i := 8) (by kernel_rfl) (by rfl) (by rfl) (fun KX hK => ?_)
    have HK := TW.hide hK
    clear hK
    refine wp_store_row 89 _ _ (by rfl) g6 #[.int .i64 (f : Int), .int .i64 (M : Int), .slice tap C tac] (by rfl) (by rfl) 89 _ N6.out (by kernel_rfl) (by rfl) (by simp [Value.oneCell']) ?_
    simp only [Act.put, lpA, lpZ, lpS, lgT, lgZ, lgS]
    refine HK.out _ _ T5.out (fun _ => trivial) ?_
    clear HK KX
    refine RG.wpL_step (i := 9) (by kernel_rfl) (by rfl) (by rfl) (fun KX hK => ?_)
    have HK := TW.hide hK
    clear hK
    refine wp_store_row 89 _ _ (by rfl) g7 #[.int .i64 (f : Int), .int .i64 (M : Int), .slice tbp C tbc] (by rfl) (by rfl) 89 _ N71.out (by kernel_rfl) (by rfl) (by simp [Value.oneCell']) ?_
    simp only [Act.put, lpA, lpZ, lpS, lgT, lgZ, lgS]
    refine HK.out _ _ T6.out (fun _ => trivial) ?_
    clear HK KX
    refine RG.wpL_done (by kernel_rfl) ?_ _
    refine NoPanic.normal ?_
    exact HR.out Ba g6 g7 _ _ ma mb _ HJ.out N62.out N72.out HG6.out HG7.out HBaX.out HNe.out T6.out
   ·have HK := TW.hide hK
    clear hK
    go_simp
    have N7 := TW.hide (heap_alloc_new V1 (.cells #[.int .i64 0, .int .i64 0, .slice none 0 0] 89))
    have HT1 : Hid (Below X.heap.size X (V1.alloc (.cells #[.int .i64 0, .int .i64 0, .slice none 0 0] 89))) := HT.out.alloc HT.out.size _
    have hb : Below V1.heap.size V1 (V1.alloc (.cells #[.int .i64 0, .int .i64 0, .slice none 0 0] 89)) := (Below.refl _ _).alloc (Nat.le_refl _) _
    have HG7 : Hid (X.heap.size ≤ V1.heap.size) := HT.out.size
    have HAa1 := TW.hide (HAa.out.below hb)
    have HAb1 := TW.hide (HAb.out.below hb)
    refine HK.out _ _ HT1.out (fun _ => trivial) ?_
    clear HK KX hb HT
    clear HAa
    have HAa := HAa1
    clear HAa1
    clear HAb
    have HAb := HAb1
    clear HAb1
    have HT := HT1
    clear HT1
    generalize (V1.alloc (.cells #[.int .i64 0, .int .i64 0, .slice none 0 0] 89)) = V4 at *
    generalize V1.heap.size = g7 at *
    try simp only [Act.put, lpA, lpZ, lpS, lgT, lgZ, lgS]
    refine RG.wpL_step (i := 6) (by kernel_rfl) (by rfl) (by rfl) (fun KX hK => ?_)
    have HK := TW.hide hK
    clear hK
    go_simp
    have N6 := TW.hide (heap_alloc_new V4 (.cells #[.int .i64 0, .int .i64 0, .slice none 0 0] 89))
    have HT1 : Hid (Below X.heap.size X (V4.alloc (.cells #[.int .i64 0, .int .i64 0, .slice none 0 0] 89))) := HT.out.alloc HT.out.size _
    have hb : Below V4.heap.size V4 (V4.alloc (.cells #[.int .i64 0, .int .i64 0, .slice none 0 0] 89)) := (Below.refl _ _).alloc (Nat.le_refl _) _
    have HG6 : Hid (X.heap.size ≤ V4.heap.size) := HT.out.size
    have HNe : Hid (V4.heap.size ≠ g7) := by show _ ≠ _; have := blk_lt N7.out; omega
    have N71 := TW.hide (blk_keep N7.out hb)
    have HAa1 := TW.hide (HAa.out.below hb)
    have HAb1 := TW.hide (HAb.out.below hb)
    refine HK.out _ _ HT1.out (fun _ => trivial) ?_
    clear HK KX hb HT
    clear N7
    have N7 := N71
    clear N71
    clear HAa
    have HAa := HAa1
    clear HAa1
    clear HAb
    have HAb := HAb1
    clear HAb1
    have HT := HT1
    clear HT1
    generalize (V4.alloc (.cells #[.int .i64 0, .int .i64 0, .slice none 0 0] 89)) = V5 at *
    generalize V4.heap.size = g6 at *
    try simp only [Act.put, lpA, lpZ, lpS, lgT, lgZ, lgS]
    have T5 : Hid (Below X.heap.size X (V5.setRow g6 #[.int .i64 (f : Int), .int .i64 (M : Int), .slice tap C tac])) := below_setRow HT.out HG6.out
    have T6 : Hid (Below X.heap.size X ((V5.setRow g6 #[.int .i64 (f : Int), .int .i64 (M : Int), .slice tap C tac]).setRow g7 #[.int .i64 (f : Int), .int .i64 (M : Int), .slice tbp C tbc])) := below_setRow T5.out HG7.out
    have N71 : Hid ((V5.setRow g6 #[.int .i64 (f : Int), .int .i64 (M : Int), .slice tap C tac]).heap[g7]? = some (.cells #[.int .i64 0, .int .i64 0, .slice none 0 0] 89 (0, 0))) := by show _ = _; rw [setRow_other _ _ _ _ (fun e => HNe.out e.symm)]; exact N7.out
    have N61 := setRow_heap _ _ _ #[.int .i64 (f : Int), .int .i64 (M : Int), .slice tap C tac] _ _ N6.out
    have N62 : ((V5.setRow g6 #[.int .i64 (f : Int), .int .i64 (M : Int), .slice tap C tac]).setRow g7 #[.int .i64 (f : Int), .int .i64 (M : Int), .slice tbp C tbc]).heap[g6]? = some (.cells #[.int .i64 (f : Int), .int .i64 (M : Int), .slice tap C tac] 89 (0, 0)) := by rw [setRow_other _ _ _ _ HNe.out]; exact N61
    have N72 := setRow_heap _ _ _ #[.int .i64 (f : Int), .int .i64 (M : Int), .slice tbp C tbc] _ _ N71.out
    have hj : AM ((V5.setRow g6 #[.int .i64 (f : Int), .int .i64 (M : Int), .slice tap C tac]).setRow g7 #[.int .i64 (f : Int), .int .i64 (M : Int), .slice tbp C tbc]) Ba C M _ _ _ _ _ := AN.join ((HAa.out.setB N6.out).setB N71.out) ((HAb.out.setB N6.out).setB N71.out) HBab.out HLa.out
    have HJ := TW.hide hj
    have N62 := TW.hide N62
    have N72 := TW.hide N72
    clear hj N61
    refine RG.wpL_step (i := 8) (by kernel_rfl) (by rfl) (by rfl) (fun KX hK => ?_)
    have HK := TW.hide hK
    clear hK
    refine wp_store_row 89 _ _ (by rfl) g6 #[.int .i64 (f : Int), .int .i64 (M : Int), .slice tap C tac] (by rfl) (by rfl) 89 _ N6.out (by kernel_rfl) (by rfl) (by simp [Value.oneCell']) ?_
    simp only [Act.put, lpA, lpZ, lpS, lgT, lgZ, lgS]
    refine HK.out _ _ T5.out (fun _ => trivial) ?_
    clear HK KX
    refine RG.wpL_step (i := 9) (by kernel_rfl) (by rfl) (by rfl) (fun KX hK => ?_)
    have HK := TW.hide hK
    clear hK
    refine wp_store_row 89 _ _ (by rfl) g7 #[.int .i64 (f : Int), .int .i64 (M : Int), .slice tbp C tbc] (by rfl) (by rfl) 89 _ N71.out (by kernel_rfl) (by rfl) (by simp [Value.oneCell']) ?_
    simp only [Act.put, lpA, lpZ, lpS, lgT, lgZ, lgS]
    refine HK.out _ _ T6.out (fun _ => trivial) ?_
    clear HK KX
    refine RG.wpL_done (by kernel_rfl) ?_ _
    refine NoPanic.normal ?_
    exact HR.out Ba g6 g7 _ _ ma mb _ HJ.out N62.out N72.out HG6.out HG7.out HBaX.out HNe.out T6.out
  ·have HK := TW.hide hK
   clear hK
   go_simp
   have N6 := TW.hide (heap_alloc_new V0 (.cells #[.int .i64 0, .int .i64 0, .slice none 0 0] 89))
   have HT1 : Hid (Below X.heap.size X (V0.alloc (.cells #[.int .i64 0, .int .i64 0, .slice none 0 0] 89))) := HT.out.alloc HT.out.size _
   have hb : Below V0.heap.size V0 (V0.alloc (.cells #[.int .i64 0, .int .i64 0, .slice none 0 0] 89)) := (Below.refl _ _).alloc (Nat.le_refl _) _
   have HG6 : Hid (X.heap.size ≤ V0.heap.size) := HT.out.size
   have HAa1 := TW.hide (HAa.out.below hb)
   have HSa1 : Hid (Ba ≤ (V0.alloc (.cells #[.int .i64 0, .int .i64 0, .slice none 0 0] 89)).heap.size) := Nat.le_trans HSa.out hb.size
   refine HK.out _ _ HT1.out (fun _ => trivial) ?_
   clear HK KX hb HT
   clear HAa
   have HAa := HAa1
   clear HAa1
   clear HSa
   have HSa := HSa1
   clear HSa1
   have HT := HT1
   clear HT1
   generalize (V0.alloc (.cells #[.int .i64 0, .int .i64 0, .slice none 0 0] 89)) = V6 at *
   generalize V0.heap.size = g6 at *
   try simp only [Act.put, lpA, lpZ, lpS, lgT, lgZ, lgS]
   refine RG.wpL_pair (i := 5) (j := 7) (by kernel_rfl) (by rfl) (by rfl) (by rfl) (by rfl) (fun KX hK => ?_) (fun KX hK => ?_)
   ·have HK := TW.hide hK
    clear hK
    go_simp
    refine (HNw.out V6).mono ?_
    rintro e_V7 V7 ⟨tb, mb, rfl, han, hb⟩
    obtain ⟨tbp, tbc, et⟩ := own_openE (han.fam.own none)
    have et : tb = .slice tbp C tbc := et
    subst et
    have HT1 : Hid (Below X.heap.size X V7) := HT.out.trans (hb.mono HT.out.size)
    obtain ⟨Bb, hBb⟩ : ∃ b, V6.heap.size = b := ⟨_, rfl⟩
    have HLa : Hid (∀ i b, (fN C M C (.slice tap C tac) ma i).val.ownBlock = some b → b < Bb) := fun i b h => by rw [← hBb]; exact own_lt (HAa.out.fam.own i) b h
    have HBab : Hid (Ba ≤ Bb) := by show _ ≤ _; rw [← hBb]; exact HSa.out
    have HAa1 := TW.hide (HAa.out.below hb)
    have N61 := TW.hide (blk_keep N6.out hb)
    have HSb : Hid (Bb ≤ V7.heap.size) := by show _ ≤ _; rw [← hBb]; exact hb.size
    rw [hBb] at han
    have HAb := TW.hide han
    clear han
    refine HK.out _ _ HT1.out (fun _ => trivial) ?_
    clear HK KX hb hBb HT
    clear HAa
    have HAa := HAa1
    clear HAa1
    clear N6
    have N6 := N61
    clear N61
    have HT := HT1
    clear HT1
    try simp only [Act.put, lpA, lpZ, lpS, lgT, lgZ, lgS]
    refine RG.wpL_step (i := 7) (by kernel_rfl) (by rfl) (by rfl) (fun KX hK => ?_)
    have HK := TW.hide hK
    clear hK
    go_simp
    have N7 := TW.hide (heap_alloc_new V7 (.cells #[.int .i64 0, .int .i64 0, .slice none 0 0] 89))
    have HT1 : Hid (Below X.heap.size X (V7.alloc (.cells #[.int .i64 0, .int .i64 0, .slice none 0 0] 89))) := HT.out.alloc HT.out.size _
    have hb : Below V7.heap.size V7 (V7.alloc (.cells #[.int .i64 0, .int .i64 0, .slice none 0 0] 89)) := (Below.refl _ _).alloc (Nat.le_refl _) _
    have HG7 : Hid (X.heap.size ≤ V7.heap.size) := HT.out.size
    have HNe : Hid (g6 ≠ V7.heap.size) := by show _ ≠ _; have := blk_lt N6.out; omega
    have N61 := TW.hide (blk_keep N6.out hb)
    have HAa1 := TW.hide (HAa.out.below hb)
    have HAb1 := TW.hide (HAb.out.below hb)
    refine HK.out _ _ HT1.out (fun _ => trivial) ?_
    clear HK KX hb HT
    clear N6
    have N6 := N61
    clear N61
    clear HAa
    have HAa := HAa1
    clear HAa1
    clear HAb
    have HAb := HAb1
    clear HAb1
    have HT := HT1
    clear HT1
    generalize (V7.alloc (.cells #[.int .i64 0, .int .i64 0, .slice none 0 0] 89)) = V8 at *
    generalize V7.heap.size = g7 at *
    try simp only [Act.put, lpA, lpZ, lpS, lgT, lgZ, lgS]
    have T5 : Hid (Below X.heap.size X (V8.setRow g6 #[.int .i64 (f : Int), .int .i64 (M : Int), .slice tap C tac])) := below_setRow HT.out HG6.out
    have T6 : Hid (Below X.heap.size X ((V8.setRow g6 #[.int .i64 (f : Int), .int .i64 (M : Int), .slice tap C tac]).setRow g7 #[.int .i64 (f : Int), .int .i64 (M : Int), .slice tbp C tbc])) := below_setRow T5.out HG7.out
    have N71 : Hid ((V8.setRow g6 #[.int .i64 (f : Int), .int .i64 (M : Int), .slice tap C tac]).heap[g7]? = some (.cells #[.int .i64 0, .int .i64 0, .slice none 0 0] 89 (0, 0))) := by show _ = _; rw [setRow_other _ _ _ _ (fun e => HNe.out e.symm)]; exact N7.out
    have N61 := setRow_heap _ _ _ #[.int .i64 (f : Int), .int .i64 (M : Int), .slice tap C tac] _ _ N6.out
    have N62 : ((V8.setRow g6 #[.int .i64 (f : Int), .int .i64 (M : Int), .slice tap C tac]).setRow g7 #[.int .i64 (f : Int), .int .i64 (M : Int), .slice tbp C tbc]).heap[g6]? = some (.cells #[.int .i64 (f : Int), .int .i64 (M : Int), .slice tap C tac] 89 (0, 0)) := by rw [setRow_other _ _ _ _ HNe.out]; exact N61
    have N72 := setRow_heap _ _ _ #[.int .i64 (f : Int), .int .i64 (M : Int), .slice tbp C tbc] _ _ N71.out
    have hj : AM ((V8.setRow g6 #[.int .i64 (f : Int), .int .i64 (M : Int), .slice tap C tac]).setRow g7 #[.int .i64 (f : Int), .int .i64 (M : Int), .slice tbp C tbc]) Ba C M _ _ _ _ _ := AN.join ((HAa.out.setB N6.out).setB N71.out) ((HAb.out.setB N6.out).setB N71.out) HBab.out HLa.out
    have HJ := TW.hide hj
    have N62 := TW.hide N62
    have N72 := TW.hide N72
    clear hj N61
    refine RG.wpL_step (i := 8) (by kernel_rfl) (by rfl) (by rfl) (fun KX hK => ?_)
    have HK := TW.hide hK
    clear hK
    refine wp_store_row 89 _ _ (by rfl) g6 #[.int .i64 (f : Int), .int .i64 (M : Int), .slice tap C tac] (by rfl) (by rfl) 89 _ N6.out (by kernel_rfl) (by rfl) (by simp [Value.oneCell']) ?_
    simp only [Act.put, lpA, lpZ, lpS, lgT, lgZ, lgS]
    refine HK.out _ _ T5.out (fun _ => trivial) ?_
    clear HK KX
    refine RG.wpL_step (i := 9) (by kernel_rfl) (by rfl) (by rfl) (fun KX hK => ?_)
    have HK := TW.hide hK
    clear hK
    refine wp_store_row 89 _ _ (by rfl) g7 #[.int .i64 (f : Int), .int .i64 (M : Int), .slice tbp C tbc] (by rfl) (by rfl) 89 _ N71.out (by kernel_rfl) (by rfl) (by simp [Value.oneCell']) ?_
    simp only [Act.put, lpA, lpZ, lpS, lgT, lgZ, lgS]
    refine HK.out _ _ T6.out (fun _ => trivial) ?_
    clear HK KX
    refine RG.wpL_done (by kernel_rfl) ?_ _
    refine NoPanic.normal ?_
    exact HR.out Ba g6 g7 _ _ ma mb _ HJ.out N62.out N72.out HG6.out HG7.out HBaX.out HNe.out T6.out
   ·have HK := TW.hide hK
    clear hK
    go_simp
    have N7 := TW.hide (heap_alloc_new V6 (.cells #[.int .i64 0, .int .i64 0, .slice none 0 0] 89))
    have HT1 : Hid (Below X.heap.size X (V6.alloc (.cells #[.int .i64 0, .int .i64 0, .slice none 0 0] 89))) := HT.out.alloc HT.out.size _
    have hb : Below V6.heap.size V6 (V6.alloc (.cells #[.int .i64 0, .int .i64 0, .slice none 0 0] 89)) := (Below.refl _ _).alloc (Nat.le_refl _) _
    have HG7 : Hid (X.heap.size ≤ V6.heap.size) := HT.out.size
    have HNe : Hid (g6 ≠ V6.heap.size) := by show _ ≠ _; have := blk_lt N6.out; omega
    have N61 := TW.hide (blk_keep N6.out hb)
    have HAa1 := TW.hide (HAa.out.below hb)
    have HSa1 : Hid (Ba ≤ (V6.alloc (.cells #[.int .i64 0, .int .i64 0, .slice none 0 0] 89)).heap.size) := Nat.le_trans HSa.out hb.size
    refine HK.out _ _ HT1.out (fun _ => trivial) ?_
    clear HK KX hb HT
    clear N6
    have N6 := N61
    clear N61
    clear HAa
    have HAa := HAa1
    clear HAa1
    clear HSa
    have HSa := HSa1
    clear HSa1
    have HT := HT1
    clear HT1
    generalize (V6.alloc (.cells #[.int .i64 0, .int .i64 0, .slice none 0 0] 89)) = V9 at *
    generalize V6.heap.size = g7 at *
    try simp only [Act.put, lpA, lpZ, lpS, lgT, lgZ, lgS]
    refine RG.wpL_step (i := 5) (by kernel_rfl) (by rfl) (by rfl) (fun KX hK => ?_)
    have HK := TW.hide hK
    clear hK
    go_simp
    refine (HNw.out V9).mono ?_
    rintro e_V10 V10 ⟨tb, mb, rfl, han, hb⟩
    obtain ⟨tbp, tbc, et⟩ := own_openE (han.fam.own none)
    have et : tb = .slice tbp C tbc := et
    subst et
    have HT1 : Hid (Below X.heap.size X V10) := HT.out.trans (hb.mono HT.out.size)
    obtain ⟨Bb, hBb⟩ : ∃ b, V9.heap.size = b := ⟨_, rfl⟩
    have HLa : Hid (∀ i b, (fN C M C (.slice tap C tac) ma i).val.ownBlock = some b → b < Bb) := fun i b h => by rw [← hBb]; exact own_lt (HAa.out.fam.own i) b h
    have HBab : Hid (Ba ≤ Bb) := by show _ ≤ _; rw [← hBb]; exact HSa.out
    have HAa1 := TW.hide (HAa.out.below hb)
    have N61 := TW.hide (blk_keep N6.out hb)
    have N71 := TW.hide (blk_keep N7.out hb)
    have HSb : Hid (Bb ≤ V10.heap.size) := by show _ ≤ _; rw [← hBb]; exact hb.size
    rw [hBb] at han
    have HAb := TW.hide han
    clear han
    refine HK.out _ _ HT1.out (fun _ => trivial) ?_
    clear HK KX hb hBb HT
    clear HAa
    have HAa := HAa1
    clear HAa1
    clear N6
    have N6 := N61
    clear N61
    clear N7
    have N7 := N71
    clear N71
    have HT := HT1
    clear HT1
    try simp only [Act.put, lpA, lpZ, lpS, lgT, lgZ, lgS]
    have T5 : Hid (Below X.heap.size X (V10.setRow g6 #[.int .i64 (f : Int), .int .i64 (M : Int), .slice tap C tac])) := below_setRow HT.out HG6.out
    have T6 : Hid (Below X.heap.size X ((V10.setRow g6 #[.int .i64 (f : Int), .int .i64 (M : Int), .slice tap C tac]).setRow g7 #[.int .i64 (f : Int), .int .i64 (M : Int), .slice tbp C tbc])) := below_setRow T5.out HG7.out
    have N71 : Hid ((V10.setRow g6 #[.int .i64 (f : Int), .int .i64 (M : Int), .slice tap C tac]).heap[g7]? = some (.cells #[.int .i64 0, .int .i64 0, .slice none 0 0] 89 (0, 0))) := by show _ = _; rw [setRow_other _ _ _ _ (fun e => HNe.out e.symm)]; exact N7.out
    have N61 := setRow_heap _ _ _ #[.int .i64 (f : Int), .int .i64 (M : Int), .slice tap C tac] _ _ N6.out
    have N62 : ((V10.setRow g6 #[.int .i64 (f : Int), .int .i64 (M : Int), .slice tap C tac]).setRow g7 #[.int .i64 (f : Int), .int .i64 (M : Int), .slice tbp C tbc]).heap[g6]? = some (.cells #[.int .i64 (f : Int), .int .i64 (M : Int), .slice tap C tac] 89 (0, 0)) := by rw [setRow_other _ _ _ _ HNe.out]; exact N61
    have N72 := setRow_heap _ _ _ #[.int .i64 (f : Int), .int .i64 (M : Int), .slice tbp C tbc] _ _ N71.out
    have hj : AM ((V10.setRow g6 #[.int .i64 (f : Int), .int .i64 (M : Int), .slice tap C tac]).setRow g7 #[.int .i64 (f : Int), .int .i64 (M : Int), .slice tbp C tbc]) Ba C M _ _ _ _ _ := AN.join ((HAa.out.setB N6.out).setB N71.out) ((HAb.out.setB N6.out).setB N71.out) HBab.out HLa.out
    have HJ := TW.hide hj
    have N62 := TW.hide N62
    have N72 := TW.hide N72
    clear hj N61
    refine RG.wpL_step (i := 8) (by kernel_rfl) (by rfl) (by rfl) (fun KX hK => ?_)
    have HK := TW.hide hK
    clear hK
    refine wp_store_row 89 _ _ (by rfl) g6 #[.int .i64 (f : Int), .int .i64 (M : Int), .slice tap C tac] (by rfl) (by rfl) 89 _ N6.out (by kernel_rfl) (by rfl) (by simp [Value.oneCell']) ?_
    simp only [Act.put, lpA, lpZ, lpS, lgT, lgZ, lgS]
    refine HK.out _ _ T5.out (fun _ => trivial) ?_
    clear HK KX
    refine RG.wpL_step (i := 9) (by kernel_rfl) (by rfl) (by rfl) (fun KX hK => ?_)
    have HK := TW.hide hK
    clear hK
    refine wp_store_row 89 _ _ (by rfl) g7 #[.int .i64 (f : Int), .int .i64 (M : Int), .slice tbp C tbc] (by rfl) (by rfl) 89 _ N71.out (by kernel_rfl) (by rfl) (by simp [Value.oneCell']) ?_
    simp only [Act.put, lpA, lpZ, lpS, lgT, lgZ, lgS]
    refine HK.out _ _ T6.out (fun _ => trivial) ?_
    clear HK KX
    refine RG.wpL_done (by kernel_rfl) ?_ _
    refine NoPanic.normal ?_
    exact HR.out Ba g6 g7 _ _ ma mb _ HJ.out N62.out N72.out HG6.out HG7.out HBaX.out HNe.out T6.out
  ·have HK := TW.hide hK
   clear hK
   go_simp
   have N7 := TW.hide (heap_alloc_new V0 (.cells #[.int .i64 0, .int .i64 0, .slice none 0 0] 89))
   have HT1 : Hid (Below X.heap.size X (V0.alloc (.cells #[.int .i64 0, .int .i64 0, .slice none 0 0] 89))) := HT.out.alloc HT.out.size _
   have hb : Below V0.heap.size V0 (V0.alloc (.cells #[.int .i64 0, .int .i64 0, .slice none 0 0] 89)) := (Below.refl _ _).alloc (Nat.le_refl _) _
   have HG7 : Hid (X.heap.size ≤ V0.heap.size) := HT.out.size
   have HAa1 := TW.hide (HAa.out.below hb)
   have HSa1 : Hid (Ba ≤ (V0.alloc (.cells #[.int .i64 0, .int .i64 0, .slice none 0 0] 89)).heap.size) := Nat.le_trans HSa.out hb.size
   refine HK.out _ _ HT1.out (fun _ => trivial) ?_
   clear HK KX hb HT
   clear HAa
   have HAa := HAa1
   clear HAa1
   clear HSa
   have HSa := HSa1
   clear HSa1
   have HT := HT1
   clear HT1
   generalize (V0.alloc (.cells #[.int .i64 0, .int .i64 0, .slice none 0 0] 89)) = V11 at *
   generalize V0.heap.size = g7 at *
   try simp only [Act.put, lpA, lpZ, lpS, lgT, lgZ, lgS]
   refine RG.wpL_pair (i := 5) (j := 6) (by kernel_rfl) (by rfl) (by rfl) (by rfl) (by rfl) (fun KX hK => ?_) (fun KX hK => ?_)
   ·have HK := TW.hide hK
    clear hK
    go_simp
    refine (HNw.out V11).mono ?_
    rintro e_V12 V12 ⟨tb, mb, rfl, han, hb⟩
    obtain ⟨tbp, tbc, et⟩ := own_openE (han.fam.own none)
    have et : tb = .slice tbp C tbc := et
    subst et
    have HT1 : Hid (Below X.heap.size X V12) := HT.out.trans (hb.mono HT.out.size)
    obtain ⟨Bb, hBb⟩ : ∃ b, V11.heap.size = b := ⟨_, rfl⟩
    have HLa : Hid (∀ i b, (fN C M C (.slice tap C tac) ma i).val.ownBlock = some b → b < Bb) := fun i b h => by rw [← hBb]; exact own_lt (HAa.out.fam.own i) b h
    have HBab : Hid (Ba ≤ Bb) := by show _ ≤ _; rw [← hBb]; exact HSa.out
    have HAa1 := TW.hide (HAa.out.below hb)
    have N71 := TW.hide (blk_keep N7.out hb)
    have HSb : Hid (Bb ≤ V12.heap.size) := by show _ ≤ _; rw [← hBb]; exact hb.size
    rw [hBb] at han
    have HAb := TW.hide han
    clear han
    refine HK.out _ _ HT1.out (fun _ => trivial) ?_
    clear HK KX hb hBb HT
    clear HAa
    have HAa := HAa1
    clear HAa1
    clear N7
    have N7 := N71
    clear N71
    have HT := HT1
    clear HT1
    try simp only [Act.put, lpA, lpZ, lpS, lgT, lgZ, lgS]
    refine RG.wpL_step (i := 6) (by kernel_rfl) (by rfl) (by rfl) (fun KX hK => ?_)
    have HK := TW.hide hK
    clear hK
    go_simp
    have N6 := TW.hide (heap_alloc_new V12 (.cells #[.int .i64 0, .int .i64 0, .slice none 0 0] 89))
    have HT1 : Hid (Below X.heap.size X (V12.alloc (.cells #[.int .i64 0, .int .i64 0, .slice none 0 0] 89))) := HT.out.alloc HT.out.size _
    have hb : Below V12.heap.size V12 (V12.alloc (.cells #[.int .i64 0, .int .i64 0, .slice none 0 0] 89)) := (Below.refl _ _).alloc (Nat.le_refl _) _
    have HG6 : Hid (X.heap.size ≤ V12.heap.size) := HT.out.size
    have HNe : Hid (V12.heap.size ≠ g7) := by show _ ≠ _; have := blk_lt N7.out; omega
    have N71 := TW.hide (blk_keep N7.out hb)
    have HAa1 := TW.hide (HAa.out.below hb)
    have HAb1 := TW.hide (HAb.out.below hb)
    refine HK.out _ _ HT1.out (fun _ => trivial) ?_
    clear HK KX hb HT
    clear N7
    have N7 := N71
    clear N71
    clear HAa
    have HAa := HAa1
    clear HAa1
    clear HAb
    have HAb := HAb1
    clear HAb1
    have HT := HT1
    clear HT1
    generalize (V12.alloc (.cells #[.int .i64 0, .int .i64 0, .slice none 0 0] 89)) = V13 at *
    generalize V12.heap.size = g6 at *
    try simp only [Act.put, lpA, lpZ, lpS, lgT, lgZ, lgS]
    have T5 : Hid (Below X.heap.size X (V13.setRow g6 #[.int .i64 (f : Int), .int .i64 (M : Int), .slice tap C tac])) := below_setRow HT.out HG6.out
    have T6 : Hid (Below X.heap.size X ((V13.setRow g6 #[.int .i64 (f : Int), .int .i64 (M : Int), .slice tap C tac]).setRow g7 #[.int .i64 (f : Int), .int .i64 (M : Int), .slice tbp C tbc])) := below_setRow T5.out HG7.out
    have N71 : Hid ((V13.setRow g6 #[.int .i64 (f : Int), .int .i64 (M : Int), .slice tap C tac]).heap[g7]? = some (.cells #[.int .i64 0, .int .i64 0, .slice none 0 0] 89 (0, 0))) := by show _ = _; rw [setRow_other _ _ _ _ (fun e => HNe.out e.symm)]; exact N7.out
    have N61 := setRow_heap _ _ _ #[.int .i64 (f : Int), .int .i64 (M : Int), .slice tap C tac] _ _ N6.out
    have N62 : ((V13.setRow g6 #[.int .i64 (f : Int), .int .i64 (M : Int), .slice tap C tac]).setRow g7 #[.int .i64 (f : Int), .int .i64 (M : Int), .slice tbp C tbc]).heap[g6]? = some (.cells #[.int .i64 (f : Int), .int .i64 (M : Int), .slice tap C tac] 89 (0, 0)) := by rw [setRow_other _ _ _ _ HNe.out]; exact N61
    have N72 := setRow_heap _ _ _ #[.int .i64 (f : Int), .int .i64 (M : Int), .slice tbp C tbc] _ _ N71.out
    have hj : AM ((V13.setRow g6 #[.int .i64 (f : Int), .int .i64 (M : Int), .slice tap C tac]).setRow g7 #[.int .i64 (f : Int), .int .i64 (M : Int), .slice tbp C tbc]) Ba C M _ _ _ _ _ := AN.join ((HAa.out.setB N6.out).setB N71.out) ((HAb.out.setB N6.out).setB N71.out) HBab.out HLa.out
    have HJ := TW.hide hj
    have N62 := TW.hide N62
    have N72 := TW.hide N72
    clear hj N61
    refine RG.wpL_step (i := 8) (by kernel_rfl) (by rfl) (by rfl) (fun KX hK => ?_)
    have HK := TW.hide hK
    clear hK
    refine wp_store_row 89 _ _ (by rfl) g6 #[.int .i64 (f : Int), .int .i64 (M : Int), .slice tap C tac] (by rfl) (by rfl) 89 _ N6.out (by kernel_rfl) (by rfl) (by simp [Value.oneCell']) ?_
    simp only [Act.put, lpA, lpZ, lpS, lgT, lgZ, lgS]
    refine HK.out _ _ T5.out (fun _ => trivial) ?_
    clear HK KX
    refine RG.wpL_step (i := 9) (by kernel_rfl) (by rfl) (by rfl) (fun KX hK => ?_)
    have HK := TW.hide hK
    clear hK
    refine wp_store_row 89 _ _ (by rfl) g7 #[.int .i64 (f : Int), .int .i64 (M : Int), .slice tbp C tbc] (by rfl) (by rfl) 89 _ N71.out (by kernel_rfl) (by rfl) (by simp [Value.oneCell']) ?_
    simp only [Act.put, lpA, lpZ, lpS, lgT, lgZ, lgS]
    refine HK.out _ _ T6.out (fun _ => trivial) ?_
    clear HK KX
    refine RG.wpL_done (by kernel_rfl) ?_ _
    refine NoPanic.normal ?_
    exact HR.out Ba g6 g7 _ _ ma mb _ HJ.out N62.out N72.out HG6.out HG7.out HBaX.out HNe.out T6.out
   ·have HK := TW.hide hK
    clear hK
    go_simp
    have N6 := TW.hide (heap_alloc_new V11 (.cells #[.int .i64 0, .int .i64 0, .slice none 0 0] 89))
    have HT1 : Hid (Below X.heap.size X (V11.alloc (.cells #[.int .i64 0, .int .i64 0, .slice none 0 0] 89))) := HT.out.alloc HT.out.size _
    have hb : Below V11.heap.size V11 (V11.alloc (.cells #[.int .i64 0, .int .i64 0, .slice none 0 0] 89)) := (Below.refl _ _).alloc (Nat.le_refl _) _
    have HG6 : Hid (X.heap.size ≤ V11.heap.size) := HT.out.size
    have HNe : Hid (V11.heap.size ≠ g7) := by show _ ≠ _; have := blk_lt N7.out; omega
    have N71 := TW.hide (blk_keep N7.out hb)
    have HAa1 := TW.hide (HAa.out.below hb)
    have HSa1 : Hid (Ba ≤ (V11.alloc (.cells #[.int .i64 0, .int .i64 0, .slice none 0 0] 89)).heap.size) := Nat.le_trans HSa.out hb.size
    refine HK.out _ _ HT1.out (fun _ => trivial) ?_
    clear HK KX hb HT
    clear N7
    have N7 := N71
    clear N71
    clear HAa
    have HAa := HAa1
    clear HAa1
    clear HSa
    have HSa := HSa1
    clear HSa1
    have HT := HT1
    clear HT1
    generalize (V11.alloc (.cells #[.int .i64 0, .int .i64 0, .slice none 0 0] 89)) = V14 at *
    generalize V11.heap.size = g6 at *
    try simp only [Act.put, lpA, lpZ, lpS, lgT, lgZ, lgS]
    refine RG.wpL_step (i := 5) (by kernel_rfl) (by rfl) (by rfl) (fun KX hK => ?_)
    have HK := TW.hide hK
    clear hK
    go_simp
    refine (HNw.out V14).mono ?_
    rintro e_V15 V15 ⟨tb, mb, rfl, han, hb⟩
    obtain ⟨tbp, tbc, et⟩ := own_openE (han.fam.own none)
    have et : tb = .slice tbp C tbc := et
    subst et
    have HT1 : Hid (Below X.heap.size X V15) := HT.out.trans (hb.mono HT.out.size)
    obtain ⟨Bb, hBb⟩ : ∃ b, V14.heap.size = b := ⟨_, rfl⟩
    have HLa : Hid (∀ i b, (fN C M C (.slice tap C tac) ma i).val.ownBlock = some b → b < Bb) := fun i b h => by rw [← hBb]; exact own_lt (HAa.out.fam.own i) b h
    have HBab : Hid (Ba ≤ Bb) := by show _ ≤ _; rw [← hBb]; exact HSa.out
    have HAa1 := TW.hide (HAa.out.below hb)
    have N61 := TW.hide (blk_keep N6.out hb)
    have N71 := TW.hide (blk_keep N7.out hb)
    have HSb : Hid (Bb ≤ V15.heap.size) := by show _ ≤ _; rw [← hBb]; exact hb.size
    rw [hBb] at han
    have HAb := TW.hide han
    clear han
    refine HK.out _ _ HT1.out (fun _ => trivial) ?_
    clear HK KX hb hBb HT
    clear HAa
    have HAa := HAa1
    clear HAa1
    clear N6
    have N6 := N61
    clear N61
    clear N7
    have N7 := N71
    clear N71
    have HT := HT1
    clear HT1
    try simp only [Act.put, lpA, lpZ, lpS, lgT, lgZ, lgS]
    have T5 : Hid (Below X.heap.size X (V15.setRow g6 #[.int .i64 (f : Int), .int .i64 (M : Int), .slice tap C tac])) := below_setRow HT.out HG6.out
    have T6 : Hid (Below X.heap.size X ((V15.setRow g6 #[.int .i64 (f : Int), .int .i64 (M : Int), .slice tap C tac]).setRow g7 #[.int .i64 (f : Int), .int .i64 (M : Int), .slice tbp C tbc])) := below_setRow T5.out HG7.out
    have N71 : Hid ((V15.setRow g6 #[.int .i64 (f : Int), .int .i64 (M : Int), .slice tap C tac]).heap[g7]? = some (.cells #[.int .i64 0, .int .i64 0, .slice none 0 0] 89 (0, 0))) := by show _ = _; rw [setRow_other _ _ _ _ (fun e => HNe.out e.symm)]; exact N7.out
    have N61 := setRow_heap _ _ _ #[.int .i64 (f : Int), .int .i64 (M : Int), .slice tap C tac] _ _ N6.out
    have N62 : ((V15.setRow g6 #[.int .i64 (f : Int), .int .i64 (M : Int), .slice tap C tac]).setRow g7 #[.int .i64 (f : Int), .int .i64 (M : Int), .slice tbp C tbc]).heap[g6]? = some (.cells #[.int .i64 (f : Int), .int .i64 (M : Int), .slice tap C tac] 89 (0, 0)) := by rw [setRow_other _ _ _ _ HNe.out]; exact N61
    have N72 := setRow_heap _ _ _ #[.int .i64 (f : Int), .int .i64 (M : Int), .slice tbp C tbc] _ _ N71.out
    have hj : AM ((V15.setRow g6 #[.int .i64 (f : Int), .int .i64 (M : Int), .slice tap C tac]).setRow g7 #[.int .i64 (f : Int), .int .i64 (M : Int), .slice tbp C tbc]) Ba C M _ _ _ _ _ := AN.join ((HAa.out.setB N6.out).setB N71.out) ((HAb.out.setB N6.out).setB N71.out) HBab.out HLa.out
    have HJ := TW.hide hj
    have N62 := TW.hide N62
    have N72 := TW.hide N72
    clear hj N61
    refine RG.wpL_step (i := 8) (by kernel_rfl) (by rfl) (by rfl) (fun KX hK => ?_)
    have HK := TW.hide hK
    clear hK
    refine wp_store_row 89 _ _ (by rfl) g6 #[.int .i64 (f : Int), .int .i64 (M : Int), .slice tap C tac] (by rfl) (by rfl) 89 _ N6.out (by kernel_rfl) (by rfl) (by simp [Value.oneCell']) ?_
    simp only [Act.put, lpA, lpZ, lpS, lgT, lgZ, lgS]
    refine HK.out _ _ T5.out (fun _ => trivial) ?_
    clear HK KX
    refine RG.wpL_step (i := 9) (by kernel_rfl) (by rfl) (by rfl) (fun KX hK => ?_)
    have HK := TW.hide hK
    clear hK
    refine wp_store_row 89 _ _ (by rfl) g7 #[.int .i64 (f : Int), .int .i64 (M : Int), .slice tbp C tbc] (by rfl) (by rfl) 89 _ N71.out (by kernel_rfl) (by rfl) (by simp [Value.oneCell']) ?_
    simp only [Act.put, lpA, lpZ, lpS, lgT, lgZ, lgS]
    refine HK.out _ _ T6.out (fun _ => trivial) ?_
    clear HK KX
    refine RG.wpL_done (by kernel_rfl) ?_ _
    refine NoPanic.normal ?_
    exact HR.out Ba g6 g7 _ _ ma mb _ HJ.out N62.out N72.out HG6.out HG7.out HBaX.out HNe.out T6.out
 ·have HK := TW.hide hK
  clear hK
  go_simp
  have N6 := TW.hide (heap_alloc_new Ya (.cells #[.int .i64 0, .int .i64 0, .slice none 0 0] 89))
  have HT1 : Hid (Below X.heap.size X (Ya.alloc (.cells #[.int .i64 0, .int .i64 0, .slice none 0 0] 89))) := HT.out.alloc HT.out.size _
  have hb : Below Ya.heap.size Ya (Ya.alloc (.cells #[.int .i64 0, .int .i64 0, .slice none 0 0] 89)) := (Below.refl _ _).alloc (Nat.le_refl _) _
  have HG6 : Hid (X.heap.size ≤ Ya.heap.size) := HT.out.size
  refine HK.out _ _ HT1.out (fun _ => trivial) ?_
  clear HK KX hb HT
  have HT := HT1
  clear HT1
  generalize (Ya.alloc (.cells #[.int .i64 0, .int .i64 0, .slice none 0 0] 89)) = V16 at *
  generalize Ya.heap.size = g6 at *
  try simp only [Act.put, lpA, lpZ, lpS, lgT, lgZ, lgS]
  refine RG.wpL_pair (i := 2) (j := 7) (by kernel_rfl) (by rfl) (by rfl) (by rfl) (by rfl) (fun KX hK => ?_) (fun KX hK => ?_)
  ·have HK := TW.hide hK
   clear hK
   go_simp
   refine (HNw.out V16).mono ?_
   rintro e_V17 V17 ⟨ta, ma, rfl, han, hb⟩
   obtain ⟨tap, tac, et⟩ := own_openE (han.fam.own none)
   have et : ta = .slice tap C tac := et
   subst et
   have HT1 : Hid (Below X.heap.size X V17) := HT.out.trans (hb.mono HT.out.size)
   obtain ⟨Ba, hBa⟩ : ∃ b, V16.heap.size = b := ⟨_, rfl⟩
   have HBaX : Hid (X.heap.size ≤ Ba) := by show _ ≤ _; rw [← hBa]; exact HT.out.size
   have N61 := TW.hide (blk_keep N6.out hb)
   have HSa : Hid (Ba ≤ V17.heap.size) := by show _ ≤ _; rw [← hBa]; exact hb.size
   rw [hBa] at han
   have HAa := TW.hide han
   clear han
   refine HK.out _ _ HT1.out (fun _ => trivial) ?_
   clear HK KX hb hBa HT
   clear N6
   have N6 := N61
   clear N61
   have HT := HT1
   clear HT1
   try simp only [Act.put, lpA, lpZ, lpS, lgT, lgZ, lgS]
   refine RG.wpL_pair (i := 5) (j := 7) (by kernel_rfl) (by rfl) (by rfl) (by rfl) (by rfl) (fun KX hK => ?_) (fun KX hK => ?_)
   ·have HK := TW.hide hK
    clear hK
    go_simp
    refine (HNw.out V17).mono ?_
    rintro e_V18 V18 ⟨tb, mb, rfl, han, hb⟩
    obtain ⟨tbp, tbc, et⟩ := own_openE (han.fam.own none)
    have et : tb = .slice tbp C tbc := et
    subst et
    have HT1 : Hid (Below X.heap.size X V18) := HT.out.trans (hb.mono HT.out.size)
    obtain ⟨Bb, hBb⟩ : ∃ b, V17.heap.size = b := ⟨_, rfl⟩
    have HLa : Hid (∀ i b, (fN C M C (.slice tap C tac) ma i).val.ownBlock = some b → b < Bb) := fun i b h => by rw [← hBb]; exact own_lt (HAa.out.fam.own i) b h
    have HBab : Hid (Ba ≤ Bb) := by show _ ≤ _; rw [← hBb]; exact HSa.out
    have HAa1 := TW.hide (HAa.out.below hb)
    have N61 := TW.hide (blk_keep N6.out hb)
    have HSb : Hid (Bb ≤ V18.heap.size) := by show _ ≤ _; rw [← hBb]; exact hb.size
    rw [hBb] at han
    have HAb := TW.hide han
    clear han
    refine HK.out _ _ HT1.out (fun _ => trivial) ?_
    clear HK KX hb hBb HT
    clear HAa
    have HAa := HAa1
    clear HAa1
    clear N6
    have N6 := N61
    clear N61
    have HT := HT1
    clear HT1
    try simp only [Act.put, lpA, lpZ, lpS, lgT, lgZ, lgS]
    refine RG.wpL_step (i := 7) (by kernel_rfl) (by rfl) (by rfl) (fun KX hK => ?_)
    have HK := TW.hide hK
    clear hK
    go_simp
    have N7 := TW.hide (heap_alloc_new V18 (.cells #[.int .i64 0, .int .i64 0, .slice none 0 0] 89))
    have HT1 : Hid (Below X.heap.size X (V18.alloc (.cells #[.int .i64 0, .int .i64 0, .slice none 0 0] 89))) := HT.out.alloc HT.out.size _
    have hb : Below V18.heap.size V18 (V18.alloc (.cells #[.int .i64 0, .int .i64 0, .slice none 0 0] 89)) := (Below.refl _ _).alloc (Nat.le_refl _) _
    have HG7 : Hid (X.heap.size ≤ V18.heap.size) := HT.out.size
    have HNe : Hid (g6 ≠ V18.heap.size) := by show _ ≠ _; have := blk_lt N6.out; omega
    have N61 := TW.hide (blk_keep N6.out hb)
    have HAa1 := TW.hide (HAa.out.below hb)
    have HAb1 := TW.hide (HAb.out.below hb)
    refine HK.out _ _ HT1.out (fun _ => trivial) ?_
    clear HK KX hb HT
    clear N6
    have N6 := N61
    clear N61
    clear HAa
    have HAa := HAa1
    clear HAa1
    clear HAb
    have HAb := HAb1
    clear HAb1
    have HT := HT1
    clear HT1
    generalize (V18.alloc (.cells #[.int .i64 0, .int .i64 0, .slice none 0 0] 89)) = V19 at *
    generalize V18.heap.size = g7 at *
    try simp only [Act.put, lpA, lpZ, lpS, lgT, lgZ, lgS]
    have T5 : Hid (Below X.heap.size X (V19.setRow g6 #[.int .i64 (f : Int), .int .i64 (M : Int), .slice tap C tac])) := below_setRow HT.out HG6.out
    have T6 : Hid (Below X.heap.size X ((V19.setRow g6 #[.int .i64 (f : Int), .int .i64 (M : Int), .slice tap C tac]).setRow g7 #[.int .i64 (f : Int), .int .i64 (M : Int), .slice tbp C tbc])) := below_setRow T5.out HG7.out
    have N71 : Hid ((V19.setRow g6 #[.int .i64 (f : Int), .int .i64 (M : Int), .slice tap C tac]).heap[g7]? = some (.cells #[.int .i64 0, .int .i64 0, .slice none 0 0] 89 (0, 0))) := by show _ = _; rw [setRow_other _ _ _ _ (fun e => HNe.out e.symm)]; exact N7.out
    have N61 := setRow_heap _ _ _ #[.int .i64 (f : Int), .int .i64 (M : Int), .slice tap C tac] _ _ N6.out
    have N62 : ((V19.setRow g6 #[.int .i64 (f : Int), .int .i64 (M : Int), .slice tap C tac]).setRow g7 #[.int .i64 (f : Int), .int .i64 (M : Int), .slice tbp C tbc]).heap[g6]? = some (.cells #[.int .i64 (f : Int), .int .i64 (M : Int), .slice tap C tac] 89 (0, 0)) := by rw [setRow_other _ _ _ _ HNe.out]; exact N61
    have N72 := setRow_heap _ _ _ #[.int .i64 (f : Int), .int .i64 (M : Int), .slice tbp C tbc] _ _ N71.out
    have hj : AM ((V19.setRow g6 #[.int .i64 (f : Int), .int .i64 (M : Int), .slice tap C tac]).setRow g7 #[.int .i64 (f : Int), .int .i64 (M : Int), .slice tbp C tbc]) Ba C M _ _ _ _ _ := AN.join ((HAa.out.setB N6.out).setB N71.out) ((HAb.out.setB N6.out).setB N71.out) HBab.out HLa.out
    have HJ := TW.hide hj
    have N62 := TW.hide N62
    have N72 := TW.hide N72
    clear hj N61
    refine RG.wpL_step (i := 8) (by kernel_rfl) (by rfl) (by rfl) (fun KX hK => ?_)
    have HK := TW.hide hK
    clear hK
    refine wp_store_row 89 _ _ (by rfl) g6 #[.int .i64 (f : Int), .int .i64 (M : Int), .slice tap C tac] (by rfl) (by rfl) 89 _ N6.out (by kernel_rfl) (by rfl) (by simp [Value.oneCell']) ?_
    simp only [Act.put, lpA, lpZ, lpS, lgT, lgZ, lgS]
    refine HK.out _ _ T5.out (fun _ => trivial) ?_
    clear HK KX
    refine RG.wpL_step (i := 9) (by kernel_rfl) (by rfl) (by rfl) (fun KX hK => ?_)
    have HK := TW.hide hK
    clear hK
    refine wp_store_row 89 _ _ (by rfl) g7 #[.int .i64 (f : Int), .int .i64 (M : Int), .slice tbp C tbc] (by rfl) (by rfl) 89 _ N71.out (by kernel_rfl) (by rfl) (by simp [Value.oneCell']) ?_
    simp only [Act.put, lpA, lpZ, lpS, lgT, lgZ, lgS]
    refine HK.out _ _ T6.out (fun _ => trivial) ?_
    clear HK KX
    refine RG.wpL_done (by kernel_rfl) ?_ _
    refine NoPanic.normal ?_
    exact HR.out Ba g6 g7 _ _ ma mb _ HJ.out N62.out N72.out HG6.out HG7.out HBaX.out HNe.out T6.out
   ·have HK := TW.hide hK
    clear hK
    go_simp
    have N7 := TW.hide (heap_alloc_new V17 (.cells #[.int .i64 0, .int .i64 0, .slice none 0 0] 89))
    have HT1 : Hid (Below X.heap.size X (V17.alloc (.cells #[.int .i64 0, .int .i64 0, .slice none 0 0] 89))) := HT.out.alloc HT.out.size _
    have hb : Below V17.heap.size V17 (V17.alloc (.cells #[.int .i64 0, .int .i64 0, .slice none 0 0] 89)) := (Below.refl _ _).alloc (Nat.le_refl _) _
    have HG7 : Hid (X.heap.size ≤ V17.heap.size) := HT.out.size
    have HNe : Hid (g6 ≠ V17.heap.size) := by show _ ≠ _; have := blk_lt N6.out; omega
    have N61 := TW.hide (blk_keep N6.out hb)
    have HAa1 := TW.hide (HAa.out.below hb)
    have HSa1 : Hid (Ba ≤ (V17.alloc (.cells #[.int .i64 0, .int .i64 0, .slice none 0 0] 89)).heap.size) := Nat.le_trans HSa.out hb.size
    refine HK.out _ _ HT1.out (fun _ => trivial) ?_
    clear HK KX hb HT
    clear N6
    have N6 := N61
    clear N61
    clear HAa
    have HAa := HAa1
    clear HAa1
    clear HSa
    have HSa := HSa1
    clear HSa1
    have HT := HT1
    clear HT1
    generalize (V17.alloc (.cells #[.int .i64 0, .int .i64 0, .slice none 0 0] 89)) = V20 at *
    generalize V17.heap.size = g7 at *
    try simp only [Act.put, lpA, lpZ, lpS, lgT, lgZ, lgS]
    refine RG.wpL_step (i := 5) (by kernel_rfl) (by rfl) (by rfl) (fun KX hK => ?_)
    have HK := TW.hide hK
    clear hK
    go_simp
    refine (HNw.out V20).mono ?_
    rintro e_V21 V21 ⟨tb, mb, rfl, han, hb⟩
    obtain ⟨tbp, tbc, et⟩ := own_openE (han.fam.own none)
    have et : tb = .slice tbp C tbc := et
    subst et
    have HT1 : Hid (Below X.heap.size X V21) := HT.out.trans (hb.mono HT.out.size)
    obtain ⟨Bb, hBb⟩ : ∃ b, V20.heap.size = b := ⟨_, rfl⟩
    have HLa : Hid (∀ i b, (fN C M C (.slice tap C tac) ma i).val.ownBlock = some b → b < Bb) := fun i b h => by rw [← hBb]; exact own_lt (HAa.out.fam.own i) b h
    have HBab : Hid (Ba ≤ Bb) := by show _ ≤ _; rw [← hBb]; exact HSa.out
    have HAa1 := TW.hide (HAa.out.below hb)
    have N61 := TW.hide (blk_keep N6.out hb)
    have N71 := TW.hide (blk_keep N7.out hb)
    have HSb : Hid (Bb ≤ V21.heap.size) := by show _ ≤ _; rw [← hBb]; exact hb.size
    rw [hBb] at han
    have HAb := TW.hide han
    clear han
    refine HK.out _ _ HT1.out (fun _ => trivial) ?_
    clear HK KX hb hBb HT
    clear HAa
    have HAa := HAa1
    clear HAa1
    clear N6
    have N6 := N61
    clear N61
    clear N7
    have N7 := N71
    clear N71
    have HT := HT1
    clear HT1
    try simp only [Act.put, lpA, lpZ, lpS, lgT, lgZ, lgS]
    have T5 : Hid (Below X.heap.size X (V21.setRow g6 #[.int .i64 (f : Int), .int .i64 (M : Int), .slice tap C tac])) := below_setRow HT.out HG6.out
    have T6 : Hid (Below X.heap.size X ((V21.setRow g6 #[.int .i64 (f : Int), .int .i64 (M : Int), .slice tap C tac]).setRow g7 #[.int .i64 (f : Int), .int .i64 (M : Int), .slice tbp C tbc])) := below_setRow T5.out HG7.out
    have N71 : Hid ((V21.setRow g6 #[.int .i64 (f : Int), .int .i64 (M : Int), .slice tap C tac]).heap[g7]? = some (.cells #[.int .i64 0, .int .i64 0, .slice none 0 0] 89 (0, 0))) := by show _ = _; rw [setRow_other _ _ _ _ (fun e => HNe.out e.symm)]; exact N7.out
    have N61 := setRow_heap _ _ _ #[.int .i64 (f : Int), .int .i64 (M : Int), .slice tap C tac] _ _ N6.out
    have N62 : ((V21.setRow g6 #[.int .i64 (f : Int), .int .i64 (M : Int), .slice tap C tac]).setRow g7 #[.int .i64 (f : Int), .int .i64 (M : Int), .slice tbp C tbc]).heap[g6]? = some (.cells #[.int .i64 (f : Int), .int .i64 (M : Int), .slice tap C tac] 89 (0, 0)) := by rw [setRow_other _ _ _ _ HNe.out]; exact N61
    have N72 := setRow_heap _ _ _ #[.int .i64 (f : Int), .int .i64 (M : Int), .slice tbp C tbc] _ _ N71.out
    have hj : AM ((V21.setRow g6 #[.int .i64 (f : Int), .int .i64 (M : Int), .slice tap C tac]).setRow g7 #[.int .i64 (f : Int), .int .i64 (M : Int), .slice tbp C tbc]) Ba C M _ _ _ _ _ := AN.join ((HAa.out.setB N6.out).setB N71.out) ((HAb.out.setB N6.out).setB N71.out) HBab.out HLa.out
    have HJ := TW.hide hj
    have N62 := TW.hide N62
    have N72 := TW.hide N72
    clear hj N61
    refine RG.wpL_step (i := 8) (by kernel_rfl) (by rfl) (by rfl) (fun KX hK => ?_)
    have HK := TW.hide hK
    clear hK
    refine wp_store_row 89 _ _ (by rfl) g6 #[.int .i64 (f : Int), .int .i64 (M : Int), .slice tap C tac] (by rfl) (by rfl) 89 _ N6.out (by kernel_rfl) (by rfl) (by simp [Value.oneCell']) ?_
    simp only [Act.put, lpA, lpZ, lpS, lgT, lgZ, lgS]
    refine HK.out _ _ T5.out (fun _ => trivial) ?_
    clear HK KX
    refine RG.wpL_step (i := 9) (by kernel_rfl) (by rfl) (by rfl) (fun KX hK => ?_)
    have HK := TW.hide hK
    clear hK
    refine wp_store_row 89 _ _ (by rfl) g7 #[.int .i64 (f : Int), .int .i64 (M : Int), .slice tbp C tbc] (by rfl) (by rfl) 89 _ N71.out (by kernel_rfl) (by rfl) (by simp [Value.oneCell']) ?_
    simp only [Act.put, lpA, lpZ, lpS, lgT, lgZ, lgS]
    refine HK.out _ _ T6.out (fun _ => trivial) ?_
    clear HK KX
    refine RG.wpL_done (by kernel_rfl) ?_ _
    refine NoPanic.normal ?_
    exact HR.out Ba g6 g7 _ _ ma mb _ HJ.out N62.out N72.out HG6.out HG7.out HBaX.out HNe.out T6.out
  ·have HK := TW.hide hK
   clear hK
   go_simp
   have N7 := TW.hide (heap_alloc_new V16 (.cells #[.int .i64 0, .int .i64 0, .slice none 0 0] 89))
   have HT1 : Hid (Below X.heap.size X (V16.alloc (.cells #[.int .i64 0, .int .i64 0, .slice none 0 0] 89))) := HT.out.alloc HT.out.size _
   have hb : Below V16.heap.size V16 (V16.alloc (.cells #[.int .i64 0, .int .i64 0, .slice none 0 0] 89)) := (Below.refl _ _).alloc (Nat.le_refl _) _
   have HG7 : Hid (X.heap.size ≤ V16.heap.size) := HT.out.size
   have HNe : Hid (g6 ≠ V16.heap.size) := by show _ ≠ _; have := blk_lt N6.out; omega
   have N61 := TW.hide (blk_keep N6.out hb)
   refine HK.out _ _ HT1.out (fun _ => trivial) ?_
   clear HK KX hb HT
   clear N6
   have N6 := N61
   clear N61
   have HT := HT1
   clear HT1
   generalize (V16.alloc (.cells #[.int .i64 0, .int .i64 0, .slice none 0 0] 89)) = V22 at *
   generalize V16.heap.size = g7 at *
   try simp only [Act.put, lpA, lpZ, lpS, lgT, lgZ, lgS]
   refine RG.wpL_step (i := 2) (by kernel_rfl) (by rfl) (by rfl) (fun KX hK => ?_)
   have HK := TW.hide hK
   clear hK
   go_simp
   refine (HNw.out V22).mono ?_
   rintro e_V23 V23 ⟨ta, ma, rfl, han, hb⟩
   obtain ⟨tap, tac, et⟩ := own_openE (han.fam.own none)
   have et : ta = .slice tap C tac := et
   subst et
   have HT1 : Hid (Below X.heap.size X V23) := HT.out.trans (hb.mono HT.out.size)
   obtain ⟨Ba, hBa⟩ : ∃ b, V22.heap.size = b := ⟨_, rfl⟩
   have HBaX : Hid (X.heap.size ≤ Ba) := by show _ ≤ _; rw [← hBa]; exact HT.out.size
   have N61 := TW.hide (blk_keep N6.out hb)
   have N71 := TW.hide (blk_keep N7.out hb)
   have HSa : Hid (Ba ≤ V23.heap.size) := by show _ ≤ _; rw [← hBa]; exact hb.size
   rw [hBa] at han
   have HAa := TW.hide han
   clear han
   refine HK.out _ _ HT1.out (fun _ => trivial) ?_
   clear HK KX hb hBa HT
   clear N6
   have N6 := N61
   clear N61
   clear N7
   have N7 := N71
   clear N71
   have HT := HT1
   clear HT1
   try simp only [Act.put, lpA, lpZ, lpS, lgT, lgZ, lgS]
   refine RG.wpL_step (i := 5) (by kernel_rfl) (by rfl) (by rfl) (fun KX hK => ?_)
   have HK := TW.hide hK
   clear hK
   go_simp
   refine (HNw.out V23).mono ?_
   rintro e_V24 V24 ⟨tb, mb, rfl, han, hb⟩
   obtain ⟨tbp, tbc, et⟩ := own_openE (han.fam.own none)
   have et : tb = .slice tbp C tbc := et
   subst et
   have HT1 : Hid (Below X.heap.size X V24) := HT.out.trans (hb.mono HT.out.size)
   obtain ⟨Bb, hBb⟩ : ∃ b, V23.heap.size = b := ⟨_, rfl⟩
   have HLa : Hid (∀ i b, (fN C M C (.slice tap C tac) ma i).val.ownBlock = some b → b < Bb) := fun i b h => by rw [← hBb]; exact own_lt (HAa.out.fam.own i) b h
   have HBab : Hid (Ba ≤ Bb) := by show _ ≤ _; rw [← hBb]; exact HSa.out
   have HAa1 := TW.hide (HAa.out.below hb)
   have N61 := TW.hide (blk_keep N6.out hb)
   have N71 := TW.hide (blk_keep N7.out hb)
   have HSb : Hid (Bb ≤ V24.heap.size) := by show _ ≤ _; rw [← hBb]; exact hb.size
   rw [hBb] at han
   have HAb := TW.hide han
   clear han
   refine HK.out _ _ HT1.out (fun _ => trivial) ?_
   clear HK KX hb hBb HT
   clear HAa
   have HAa := HAa1
   clear HAa1
   clear N6
   have N6 := N61
   clear N61
   clear N7
   have N7 := N71
   clear N71
   have HT := HT1
   clear HT1
   try simp only [Act.put, lpA, lpZ, lpS, lgT, lgZ, lgS]
   have T5 : Hid (Below X.heap.size X (V24.setRow g6 #[.int .i64 (f : Int), .int .i64 (M : Int), .slice tap C tac])) := below_setRow HT.out HG6.out
   have T6 : Hid (Below X.heap.size X ((V24.setRow g6 #[.int .i64 (f : Int), .int .i64 (M : Int), .slice tap C tac]).setRow g7 #[.int .i64 (f : Int), .int .i64 (M : Int), .slice tbp C tbc])) := below_setRow T5.out HG7.out
   have N71 : Hid ((V24.setRow g6 #[.int .i64 (f : Int), .int .i64 (M : Int), .slice tap C tac]).heap[g7]? = some (.cells #[.int .i64 0, .int .i64 0, .slice none 0 0] 89 (0, 0))) := by show _ = _; rw [setRow_other _ _ _ _ (fun e => HNe.out e.symm)]; exact N7.out
   have N61 := setRow_heap _ _ _ #[.int .i64 (f : Int), .int .i64 (M : Int), .slice tap C tac] _ _ N6.out
   have N62 : ((V24.setRow g6 #[.int .i64 (f : Int), .int .i64 (M : Int), .slice tap C tac]).setRow g7 #[.int .i64 (f : Int), .int .i64 (M : Int), .slice tbp C tbc]).heap[g6]? = some (.cells #[.int .i64 (f : Int), .int .i64 (M : Int), .slice tap C tac] 89 (0, 0)) := by rw [setRow_other _ _ _ _ HNe.out]; exact N61
   have N72 := setRow_heap _ _ _ #[.int .i64 (f : Int), .int .i64 (M : Int), .slice tbp C tbc] _ _ N71.out
   have hj : AM ((V24.setRow g6 #[.int .i64 (f : Int), .int .i64 (M : Int), .slice tap C tac]).setRow g7 #[.int .i64 (f : Int), .int .i64 (M : Int), .slice tbp C tbc]) Ba C M _ _ _ _ _ := AN.join ((HAa.out.setB N6.out).setB N71.out) ((HAb.out.setB N6.out).setB N71.out) HBab.out HLa.out
   have HJ := TW.hide hj
   have N62 := TW.hide N62
   have N72 := TW.hide N72
   clear hj N61
   refine RG.wpL_step (i := 8) (by kernel_rfl) (by rfl) (by rfl) (fun KX hK => ?_)
   have HK := TW.hide hK
   clear hK
   refine wp_store_row 89 _ _ (by rfl) g6 #[.int .i64 (f : Int), .int .i64 (M : Int), .slice tap C tac] (by rfl) (by rfl) 89 _ N6.out (by kernel_rfl) (by rfl) (by simp [Value.oneCell']) ?_
   simp only [Act.put, lpA, lpZ, lpS, lgT, lgZ, lgS]
   refine HK.out _ _ T5.out (fun _ => trivial) ?_
   clear HK KX
   refine RG.wpL_step (i := 9) (by kernel_rfl) (by rfl) (by rfl) (fun KX hK => ?_)
   have HK := TW.hide hK
   clear hK
   refine wp_store_row 89 _ _ (by rfl) g7 #[.int .i64 (f : Int), .int .i64 (M : Int), .slice tbp C tbc] (by rfl) (by rfl) 89 _ N71.out (by kernel_rfl) (by rfl) (by simp [Value.oneCell']) ?_
   simp only [Act.put, lpA, lpZ, lpS, lgT, lgZ, lgS]
   refine HK.out _ _ T6.out (fun _ => trivial) ?_
   clear HK KX
   refine RG.wpL_done (by kernel_rfl) ?_ _
   refine NoPanic.normal ?_
   exact HR.out Ba g6 g7 _ _ ma mb _ HJ.out N62.out N72.out HG6.out HG7.out HBaX.out HNe.out T6.out
 ·have HK := TW.hide hK
  clear hK
  go_simp
  have N7 := TW.hide (heap_alloc_new Ya (.cells #[.int .i64 0, .int .i64 0, .slice none 0 0] 89))
  have HT1 : Hid (Below X.heap.size X (Ya.alloc (.cells #[.int .i64 0, .int .i64 0, .slice none 0 0] 89))) := HT.out.alloc HT.out.size _
  have hb : Below Ya.heap.size Ya (Ya.alloc (.cells #[.int .i64 0, .int .i64 0, .slice none 0 0] 89)) := (Below.refl _ _).alloc (Nat.le_refl _) _
  have HG7 : Hid (X.heap.size ≤ Ya.heap.size) := HT.out.size
  refine HK.out _ _ HT1.out (fun _ => trivial) ?_
  clear HK KX hb HT
  have HT := HT1
  clear HT1
  generalize (Ya.alloc (.cells #[.int .i64 0, .int .i64 0, .slice none 0 0] 89)) = V25 at *
  generalize Ya.heap.size = g7 at *
  try simp only [Act.put, lpA, lpZ, lpS, lgT, lgZ, lgS]
  refine RG.wpL_pair (i := 2) (j := 6) (by kernel_rfl) (by rfl) (by rfl) (by rfl) (by rfl) (fun KX hK => ?_) (fun KX hK => ?_)
  ·have HK := TW.hide hK
   clear hK
   go_simp
   refine (HNw.out V25).mono ?_
   rintro e_V26 V26 ⟨ta, ma, rfl, han, hb⟩
   obtain ⟨tap, tac, et⟩ := own_openE (han.fam.own none)
   have et : ta = .slice tap C tac := et
   subst et
   have HT1 : Hid (Below X.heap.size X V26) := HT.out.trans (hb.mono HT.out.size)
   obtain ⟨Ba, hBa⟩ : ∃ b, V25.heap.size = b := ⟨_, rfl⟩
   have HBaX : Hid (X.heap.size ≤ Ba) := by show _ ≤ _; rw [← hBa]; exact HT.out.size
   have N71 := TW.hide (blk_keep N7.out hb)
   have HSa : Hid (Ba ≤ V26.heap.size) := by show _ ≤ _; rw [← hBa]; exact hb.size
   rw [hBa] at han
   have HAa := TW.hide han
   clear han
   refine HK.out _ _ HT1.out (fun _ => trivial) ?_
   clear HK KX hb hBa HT
   clear N7
   have N7 := N71
   clear N71
   have HT := HT1
   clear HT1
   try simp only [Act.put, lpA, lpZ, lpS, lgT, lgZ, lgS]
   refine RG.wpL_pair (i := 5) (j := 6) (by kernel_rfl) (by rfl) (by rfl) (by rfl) (by rfl) (fun KX hK => ?_) (fun KX hK => ?_)
   ·have HK := TW.hide hK
    clear hK
    go_simp
    refine (HNw.out V26).mono ?_
    rintro e_V27 V27 ⟨tb, mb, rfl, han, hb⟩
    obtain ⟨tbp, tbc, et⟩ := own_openE (han.fam.own none)
    have et : tb = .slice tbp C tbc := et
    subst et
    have HT1 : Hid (Below X.heap.size X V27) := HT.out.trans (hb.mono HT.out.size)
    obtain ⟨Bb, hBb⟩ : ∃ b, V26.heap.size = b := ⟨_, rfl⟩
    have HLa : Hid (∀ i b, (fN C M C (.slice tap C tac) ma i).val.ownBlock = some b → b < Bb) := fun i b h => by rw [← hBb]; exact own_lt (HAa.out.fam.own i) b h
    have HBab : Hid (Ba ≤ Bb) := by show _ ≤ _; rw [← hBb]; exact HSa.out
    have HAa1 := TW.hide (HAa.out.below hb)
    have N71 := TW.hide (blk_keep N7.out hb)
    have HSb : Hid (Bb ≤ V27.heap.size) := by show _ ≤ _; rw [← hBb]; exact hb.size
    rw [hBb] at han
    have HAb := TW.hide han
    clear han
    refine HK.out _ _ HT1.out (fun _ => trivial) ?_
    clear HK KX hb hBb HT
    clear HAa
    have HAa := HAa1
    clear HAa1
    clear N7
    have N7 := N71
    clear N71
    have HT := HT1
    clear HT1
    try simp only [Act.put, lpA, lpZ, lpS, lgT, lgZ, lgS]
    refine RG.wpL_step (i := 6) (by kernel_rfl) (by rfl) (by rfl) (fun KX hK => ?_)
    have HK := TW.hide hK
    clear hK
    go_simp
    have N6 := TW.hide (heap_alloc_new V27 (.cells #[.int .i64 0, .int .i64 0, .slice none 0 0] 89))
    have HT1 : Hid (Below X.heap.size X (V27.alloc (.cells #[.int .i64 0, .int .i64 0, .slice none 0 0] 89))) := HT.out.alloc HT.out.size _
    have hb : Below V27.heap.size V27 (V27.alloc (.cells #[.int .i64 0, .int .i64 0, .slice none 0 0] 89)) := (Below.refl _ _).alloc (Nat.le_refl _) _
    have HG6 : Hid (X.heap.size ≤ V27.heap.size) := HT.out.size
    have HNe : Hid (V27.heap.size ≠ g7) := by show _ ≠ _; have := blk_lt N7.out; omega
    have N71 := TW.hide (blk_keep N7.out hb)
    have HAa1 := TW.hide (HAa.out.below hb)
    have HAb1 := TW.hide (HAb.out.below hb)
    refine HK.out _ _ HT1.out (fun _ => trivial) ?_
    clear HK KX hb HT
    clear N7
    have N7 := N71
    clear N71
    clear HAa
    have HAa := HAa1
    clear HAa1
    clear HAb
    have HAb := HAb1
    clear HAb1
    have HT := HT1
    clear HT1
    generalize (V27.alloc (.cells #[.int .i64 0, .int .i64 0, .slice none 0 0] 89)) = V28 at *
    generalize V27.heap.size = g6 at *
    try simp only [Act.put, lpA, lpZ, lpS, lgT, lgZ, lgS]
    have T5 : Hid (Below X.heap.size X (V28.setRow g6 #[.int .i64 (f : Int), .int .i64 (M : Int), .slice tap C tac])) := below_setRow HT.out HG6.out
    have T6 : Hid (Below X.heap.size X ((V28.setRow g6 #[.int .i64 (f : Int), .int .i64 (M : Int), .slice tap C tac]).setRow g7 #[.int .i64 (f : Int), .int .i64 (M : Int), .slice tbp C tbc])) := below_setRow T5.out HG7.out
    have N71 : Hid ((V28.setRow g6 #[.int .i64 (f : Int), .int .i64 (M : Int), .slice tap C tac]).heap[g7]? = some (.cells #[.int .i64 0, .int .i64 0, .slice none 0 0] 89 (0, 0))) := by show _ = _; rw [setRow_other _ _ _ _ (fun e => HNe.out e.symm)]; exact N7.out
    have N61 := setRow_heap _ _ _ #[.int .i64 (f : Int), .int .i64 (M : Int), .slice tap C tac] _ _ N6.out
    have N62 : ((V28.setRow g6 #[.int .i64 (f : Int), .int .i64 (M : Int), .slice tap C tac]).setRow g7 #[.int .i64 (f : Int), .int .i64 (M : Int), .slice tbp C tbc]).heap[g6]? = some (.cells #[.int .i64 (f : Int), .int .i64 (M : Int), .slice tap C tac] 89 (0, 0)) := by rw [setRow_other _ _ _ _ HNe.out]; exact N61
    have N72 := setRow_heap _ _ _ #[.int .i64 (f : Int), .int .i64 (M : Int), .slice tbp C tbc] _ _ N71.out
    have hj : AM ((V28.setRow g6 #[.int .i64 (f : Int), .int .i64 (M : Int), .slice tap C tac]).setRow g7 #[.int .i64 (f : Int), .int .i64 (M : Int), .slice tbp C tbc]) Ba C M _ _ _ _ _ := AN.join ((HAa.out.setB N6.out).setB N71.out) ((HAb.out.setB N6.out).setB N71.out) HBab.out HLa.out
    have HJ := TW.hide hj
    have N62 := TW.hide N62
    have N72 := TW.hide N72
    clear hj N61
    refine RG.wpL_step (i := 8) (by kernel_rfl) (by rfl) (by rfl) (fun KX hK => ?_)
    have HK := TW.hide hK
    clear hK
    refine wp_store_row 89 _ _ (by rfl) g6 #[.int .i64 (f : Int), .int .i64 (M : Int), .slice tap C tac] (by rfl) (by rfl) 89 _ N6.out (by kernel_rfl) (by rfl) (by simp [Value.oneCell']) ?_
    simp only [Act.put, lpA, lpZ, lpS, lgT, lgZ, lgS]
    refine HK.out _ _ T5.out (fun _ => trivial) ?_
    clear HK KX
    refine RG.wpL_step (i := 9) (by kernel_rfl) (by rfl) (by rfl) (fun KX hK => ?_)
    have HK := TW.hide hK
    clear hK
    refine wp_store_row 89 _ _ (by rfl) g7 #[.int .i64 (f : Int), .int .i64 (M : Int), .slice tbp C tbc] (by rfl) (by rfl) 89 _ N71.out (by kernel_rfl) (by rfl) (by simp [Value.oneCell']) ?_
    simp only [Act.put, lpA, lpZ, lpS, lgT, lgZ, lgS]
    refine HK.out _ _ T6.out (fun _ => trivial) ?_
    clear HK KX
    refine RG.wpL_done (by kernel_rfl) ?_ _
    refine NoPanic.normal ?_
    exact HR.out Ba g6 g7 _ _ ma mb _ HJ.out N62.out N72.out HG6.out HG7.out HBaX.out HNe.out T6.out
   ·have HK := TW.hide hK
    clear hK
    go_simp
    have N6 := TW.hide (heap_alloc_new V26 (.cells #[.int .i64 0, .int .i64 0, .slice none 0 0] 89))
    have HT1 : Hid (Below X.heap.size X (V26.alloc (.cells #[.int .i64 0, .int .i64 0, .slice none 0 0] 89))) := HT.out.alloc HT.out.size _
    have hb : Below V26.heap.size V26 (V26.alloc (.cells #[.int .i64 0, .int .i64 0, .slice none 0 0] 89)) := (Below.refl _ _).alloc (Nat.le_refl _) _
    have HG6 : Hid (X.heap.size ≤ V26.heap.size) := HT.out.size
    have HNe : Hid (V26.heap.size ≠ g7) := by show _ ≠ _; have := blk_lt N7.out; omega
    have N71 := TW.hide (blk_keep N7.out hb)
    have HAa1 := TW.hide (HAa.out.below hb)
    have HSa1 : Hid (Ba ≤ (V26.alloc (.cells #[.int .i64 0, .int .i64 0, .slice none 0 0] 89)).heap.size) := Nat.le_trans HSa.out hb.size
    refine HK.out _ _ HT1.out (fun _ => trivial) ?_
    clear HK KX hb HT
    clear N7
    have N7 := N71
    clear N71
    clear HAa
    have HAa := HAa1
    clear HAa1
    clear HSa
    have HSa := HSa1
    clear HSa1
    have HT := HT1
    clear HT1
    generalize (V26.alloc (.cells #[.int .i64 0, .int .i64 0, .slice none 0 0] 89)) = V29 at *
    generalize V26.heap.size = g6 at *
    try simp only [Act.put, lpA, lpZ, lpS, lgT, lgZ, lgS]
    refine RG.wpL_step (i := 5) (by kernel_rfl) (by rfl) (by rfl) (fun KX hK => ?_)
    have HK := TW.hide hK
    clear hK
    go_simp
    refine (HNw.out V29).mono ?_
    rintro e_V30 V30 ⟨tb, mb, rfl, han, hb⟩
    obtain ⟨tbp, tbc, et⟩ := own_openE (han.fam.own none)
    have et : tb = .slice tbp C tbc := et
    subst et
    have HT1 : Hid (Below X.heap.size X V30) := HT.out.trans (hb.mono HT.out.size)
    obtain ⟨Bb, hBb⟩ : ∃ b, V29.heap.size = b := ⟨_, rfl⟩
    have HLa : Hid (∀ i b, (fN C M C (.slice tap C tac) ma i).val.ownBlock = some b → b < Bb) := fun i b h => by rw [← hBb]; exact own_lt (HAa.out.fam.own i) b h
    have HBab : Hid (Ba ≤ Bb) := by show _ ≤ _; rw [← hBb]; exact HSa.out
    have HAa1 := TW.hide (HAa.out.below hb)
    have N61 := TW.hide (blk_keep N6.out hb)
    have N71 := TW.hide (blk_keep N7.out hb)
    have HSb : Hid (Bb ≤ V30.heap.size) := by show _ ≤ _; rw [← hBb]; exact hb.size
    rw [hBb] at han
    have HAb := TW.hide han
    clear han
    refine HK.out _ _ HT1.out (fun _ => trivial) ?_
    clear HK KX hb hBb HT
    clear HAa
    have HAa := HAa1
    clear HAa1
    clear N6
    have N6 := N61
    clear N61
    clear N7
    have N7 := N71
    clear N71
    have HT := HT1
    clear HT1
    try simp only [Act.put, lpA, lpZ, lpS, lgT, lgZ, lgS]
    have T5 : Hid (Below X.heap.size X (V30.setRow g6 #[.int .i64 (f : Int), .int .i64 (M : Int), .slice tap C tac])) := below_setRow HT.out HG6.out
    have T6 : Hid (Below X.heap.size X ((V30.setRow g6 #[.int .i64 (f : Int), .int .i64 (M : Int), .slice tap C tac]).setRow g7 #[.int .i64 (f : Int), .int .i64 (M : Int), .slice tbp C tbc])) := below_setRow T5.out HG7.out
    have N71 : Hid ((V30.setRow g6 #[.int .i64 (f : Int), .int .i64 (M : Int), .slice tap C tac]).heap[g7]? = some (.cells #[.int .i64 0, .int .i64 0, .slice none 0 0] 89 (0, 0))) := by show _ = _; rw [setRow_other _ _ _ _ (fun e => HNe.out e.symm)]; exact N7.out
    have N61 := setRow_heap _ _ _ #[.int .i64 (f : Int), .int .i64 (M : Int), .slice tap C tac] _ _ N6.out
    have N62 : ((V30.setRow g6 #[.int .i64 (f : Int), .int .i64 (M : Int), .slice tap C tac]).setRow g7 #[.int .i64 (f : Int), .int .i64 (M : Int), .slice tbp C tbc]).heap[g6]? = some (.cells #[.int .i64 (f : Int), .int .i64 (M : Int), .slice tap C tac] 89 (0, 0)) := by rw [setRow_other _ _ _ _ HNe.out]; exact N61
    have N72 := setRow_heap _ _ _ #[.int .i64 (f : Int), .int .i64 (M : Int), .slice tbp C tbc] _ _ N71.out
    have hj : AM ((V30.setRow g6 #[.int .i64 (f : Int), .int .i64 (M : Int), .slice tap C tac]).setRow g7 #[.int .i64 (f : Int), .int .i64 (M : Int), .slice tbp C tbc]) Ba C M _ _ _ _ _ := AN.join ((HAa.out.setB N6.out).setB N71.out) ((HAb.out.setB N6.out).setB N71.out) HBab.out HLa.out
    have HJ := TW.hide hj
    have N62 := TW.hide N62
    have N72 := TW.hide N72
    clear hj N61
    refine RG.wpL_step (i := 8) (by kernel_rfl) (by rfl) (by rfl) (fun KX hK => ?_)
    have HK := TW.hide hK
    clear hK
    refine wp_store_row 89 _ _ (by rfl) g6 #[.int .i64 (f : Int), .int .i64 (M : Int), .slice tap C tac] (by rfl) (by rfl) 89 _ N6.out (by kernel_rfl) (by rfl) (by simp [Value.oneCell']) ?_
    simp only [Act.put, lpA, lpZ, lpS, lgT, lgZ, lgS]
    refine HK.out _ _ T5.out (fun _ => trivial) ?_
    clear HK KX
    refine RG.wpL_step (i := 9) (by kernel_rfl) (by rfl) (by rfl) (fun KX hK => ?_)
    have HK := TW.hide hK
    clear hK
    refine wp_store_row 89 _ _ (by rfl) g7 #[.int .i64 (f : Int), .int .i64 (M : Int), .slice tbp C tbc] (by rfl) (by rfl) 89 _ N71.out (by kernel_rfl) (by rfl) (by simp [Value.oneCell']) ?_
    simp only [Act.put, lpA, lpZ, lpS, lgT, lgZ, lgS]
    refine HK.out _ _ T6.out (fun _ => trivial) ?_
    clear HK KX
    refine RG.wpL_done (by kernel_rfl) ?_ _
    refine NoPanic.normal ?_
    exact HR.out Ba g6 g7 _ _ ma mb _ HJ.out N62.out N72.out HG6.out HG7.out HBaX.out HNe.out T6.out
  ·have HK := TW.hide hK
   clear hK
   go_simp
   have N6 := TW.hide (heap_alloc_new V25 (.cells #[.int .i64 0, .int .i64 0, .slice none 0 0] 89))
   have HT1 : Hid (Below X.heap.size X (V25.alloc (.cells #[.int .i64 0, .int .i64 0, .slice none 0 0] 89))) := HT.out.alloc HT.out.size _
   have hb : Below V25.heap.size V25 (V25.alloc (.cells #[.int .i64 0, .int .i64 0, .slice none 0 0] 89)) := (Below.refl _ _).alloc (Nat.le_refl _) _
   have HG6 : Hid (X.heap.size ≤ V25.heap.size) := HT.out.size
   have HNe : Hid (V25.heap.size ≠ g7) := by show _ ≠ _; have := blk_lt N7.out; omega
   have N71 := TW.hide (blk_keep N7.out hb)
   refine HK.out _ _ HT1.out (fun _ => trivial) ?_
   clear HK KX hb HT
   clear N7
   have N7 := N71
   clear N71
   have HT := HT1
   clear HT1
   generalize (V25.alloc (.cells #[.int .i64 0, .int .i64 0, .slice none 0 0] 89)) = V31 at *
   generalize V25.heap.size = g6 at *
   try simp only [Act.put, lpA, lpZ, lpS, lgT, lgZ, lgS]
   refine RG.wpL_step (i := 2) (by kernel_rfl) (by rfl) (by rfl) (fun KX hK => ?_)
   have HK := TW.hide hK
   clear hK
   go_simp
   refine (HNw.out V31).mono ?_
   rintro e_V32 V32 ⟨ta, ma, rfl, han, hb⟩
   obtain ⟨tap, tac, et⟩ := own_openE (han.fam.own none)
   have et : ta = .slice tap C tac := et
   subst et
   have HT1 : Hid (Below X.heap.size X V32) := HT.out.trans (hb.mono HT.out.size)
   obtain ⟨Ba, hBa⟩ : ∃ b, V31.heap.size = b := ⟨_, rfl⟩
   have HBaX : Hid (X.heap.size ≤ Ba) := by show _ ≤ _; rw [← hBa]; exact HT.out.size
   have N61 := TW.hide (blk_keep N6.out hb)
   have N71 := TW.hide (blk_keep N7.out hb)
   have HSa : Hid (Ba ≤ V32.heap.size) := by show _ ≤ _; rw [← hBa]; exact hb.size
   rw [hBa] at han
   have HAa := TW.hide han
   clear han
   refine HK.out _ _ HT1.out (fun _ => trivial) ?_
   clear HK KX hb hBa HT
   clear N6
   have N6 := N61
   clear N61
   clear N7
   have N7 := N71
   clear N71
   have HT := HT1
   clear HT1
   try simp only [Act.put, lpA, lpZ, lpS, lgT, lgZ, lgS]
   refine RG.wpL_step (i := 5) (by kernel_rfl) (by rfl) (by rfl) (fun KX hK => ?_)
   have HK := TW.hide hK
   clear hK
   go_simp
   refine (HNw.out V32).mono ?_
   rintro e_V33 V33 ⟨tb, mb, rfl, han, hb⟩
   obtain ⟨tbp, tbc, et⟩ := own_openE (han.fam.own none)
   have et : tb = .slice tbp C tbc := et
   subst et
   have HT1 : Hid (Below X.heap.size X V33) := HT.out.trans (hb.mono HT.out.size)
   obtain ⟨Bb, hBb⟩ : ∃ b, V32.heap.size = b := ⟨_, rfl⟩
   have HLa : Hid (∀ i b, (fN C M C (.slice tap C tac) ma i).val.ownBlock = some b → b < Bb) := fun i b h => by rw [← hBb]; exact own_lt (HAa.out.fam.own i) b h
   have HBab : Hid (Ba ≤ Bb) := by show _ ≤ _; rw [← hBb]; exact HSa.out
   have HAa1 := TW.hide (HAa.out.below hb)
   have N61 := TW.hide (blk_keep N6.out hb)
   have N71 := TW.hide (blk_keep N7.out hb)
   have HSb : Hid (Bb ≤ V33.heap.size) := by show _ ≤ _; rw [← hBb]; exact hb.size
   rw [hBb] at han
   have HAb := TW.hide han
   clear han
   refine HK.out _ _ HT1.out (fun _ => trivial) ?_
   clear HK KX hb hBb HT
   clear HAa
   have HAa := HAa1
   clear HAa1
   clear N6
   have N6 := N61
   clear N61
   clear N7
   have N7 := N71
   clear N71
   have HT := HT1
   clear HT1
   try simp only [Act.put, lpA, lpZ, lpS, lgT, lgZ, lgS]
   have T5 : Hid (Below X.heap.size X (V33.setRow g6 #[.int .i64 (f : Int), .int .i64 (M : Int), .slice tap C tac])) := below_setRow HT.out HG6.out
   have T6 : Hid (Below X.heap.size X ((V33.setRow g6 #[.int .i64 (f : Int), .int .i64 (M : Int), .slice tap C tac]).setRow g7 #[.int .i64 (f : Int), .int .i64 (M : Int), .slice tbp C tbc])) := below_setRow T5.out HG7.out
   have N71 : Hid ((V33.setRow g6 #[.int .i64 (f : Int), .int .i64 (M : Int), .slice tap C tac]).heap[g7]? = some (.cells #[.int .i64 0, .int .i64 0, .slice none 0 0] 89 (0, 0))) := by show _ = _; rw [setRow_other _ _ _ _ (fun e => HNe.out e.symm)]; exact N7.out
   have N61 := setRow_heap _ _ _ #[.int .i64 (f : Int), .int .i64 (M : Int), .slice tap C tac] _ _ N6.out
   have N62 : ((V33.setRow g6 #[.int .i64 (f : Int), .int .i64 (M : Int), .slice tap C tac]).setRow g7 #[.int .i64 (f : Int), .int .i64 (M : Int), .slice tbp C tbc]).heap[g6]? = some (.cells #[.int .i64 (f : Int), .int .i64 (M : Int), .slice tap C tac] 89 (0, 0)) := by rw [setRow_other _ _ _ _ HNe.out]; exact N61
   have N72 := setRow_heap _ _ _ #[.int .i64 (f : Int), .int .i64 (M : Int), .slice tbp C tbc] _ _ N71.out
   have hj : AM ((V33.setRow g6 #[.int .i64 (f : Int), .int .i64 (M : Int), .slice tap C tac]).setRow g7 #[.int .i64 (f : Int), .int .i64 (M : Int), .slice tbp C tbc]) Ba C M _ _ _ _ _ := AN.join ((HAa.out.setB N6.out).setB N71.out) ((HAb.out.setB N6.out).setB N71.out) HBab.out HLa.out
   have HJ := TW.hide hj
   have N62 := TW.hide N62
   have N72 := TW.hide N72
   clear hj N61
   refine RG.wpL_step (i := 8) (by kernel_rfl) (by rfl) (by rfl) (fun KX hK => ?_)
   have HK := TW.hide hK
   clear hK
   refine wp_store_row 89 _ _ (by rfl) g6 #[.int .i64 (f : Int), .int .i64 (M : Int), .slice tap C tac] (by rfl) (by rfl) 89 _ N6.out (by kernel_rfl) (by rfl) (by simp [Value.oneCell']) ?_
   simp only [Act.put, lpA, lpZ, lpS, lgT, lgZ, lgS]
   refine HK.out _ _ T5.out (fun _ => trivial) ?_
   clear HK KX
   refine RG.wpL_step (i := 9) (by kernel_rfl) (by rfl) (by rfl) (fun KX hK => ?_)
   have HK := TW.hide hK
   clear hK
   refine wp_store_row 89 _ _ (by rfl) g7 #[.int .i64 (f : Int), .int .i64 (M : Int), .slice tbp C tbc] (by rfl) (by rfl) 89 _ N71.out (by kernel_rfl) (by rfl) (by simp [Value.oneCell']) ?_
   simp only [Act.put, lpA, lpZ, lpS, lgT, lgZ, lgS]
   refine HK.out _ _ T6.out (fun _ => trivial) ?_
   clear HK KX
   refine RG.wpL_done (by kernel_rfl) ?_ _
   refine NoPanic.normal ?_
   exact HR.out Ba g6 g7 _ _ ma mb _ HJ.out N62.out N72.out HG6.out HG7.out HBaX.out HNe.out T6.out
end LW
end Go.Proofs.YtdjanbojhblijaaGreat

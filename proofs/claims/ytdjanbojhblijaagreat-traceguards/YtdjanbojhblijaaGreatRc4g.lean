/-
 The accesses that are not before an event.
-/
import Derived.Test.YtdjanbojhblijaaGreatRc3g
import Derived.Test.YtdjanbojhblijaaGreatWzg
import Derived.Test.YtdjanbojhblijaaGreatCk7g
namespace Go.Proofs.YtdjanbojhblijaaGreat
open List renaming setIfInBounds_toArray → lpA, set_cons_zero → lpZ, set_cons_succ → lpS, getElem_toArray → lgT, getElem_cons_zero → lgZ, getElem_cons_succ → lgS
open Go.RowKit
set_option linter.unusedVariables false
set_option linter.unusedSimpArgs false
namespace LW
open Mc
theorem rcinfo : (Tryz.prog.info? 33).map (fun i => (i.zero, i.size, i.bytes)) = some (some (.agg #[.int .i64 0, .int .i64 0]), 2, 16) := by kernel_rfl
/-- How many there are in the rows ahead of p. -/
def totN (g : Nat → List Int) : Nat → Nat
 | 0 => 0
 | p + 1 => totN g p + (g p).length
theorem totN_mono (g : Nat → List Int) {p q : Nat} (h : p ≤ q) : totN g p ≤ totN g q := by
 induction h with
 | refl => exact Nat.le_refl _
 | step _ ih => exact Nat.le_trans ih (Nat.le_add_right _ _)
/-- What is told of an access: some runner's, and not seen by the event. -/
def UsP (g : Nat → List Int) (rows : List (List Int)) (at_ M : Nat) (x : Int) : Prop := ∃ p, p < M ∧ x ∈ g p ∧ (rows.getD at_ []).getD p 0 < (rows.getD x.toNat []).getD p 0
set_option maxRecDepth 100000 in
set_option maxHeartbeats 40000000 in
theorem punseen (B C M n f at_ c : Nat) (top : Bool → Value) (mid : Bool → Nat → Value) (inn : Bool → Nat → Nat → Value) (cs : Bool → Nat → Nat → List Int) (sb : Bool) (ca : Option Addr) (cc : Nat) (rows : List (List Int)) (w : World) (hm : AM w B C M top mid inn inn cs) (hc : c < C) (hr : RR w ca rows) (hn : rows.length = n) (hrl : ∀ i, i < n → (rows.getD i []).length = M) (hcs : ∀ p, p < M → ∀ x ∈ cs sb c p, 0 ≤ x ∧ x < (n : Int)) (hat : at_ < n) (hn4 : n ≤ 40000) (hM : M ≤ 1000000) (hC6 : C ≤ 1000000) (hT : totN (cs sb c) M ≤ 40000) :
  Calls Tryz.prog 42 #[.agg #[.int .i64 (f : Int), .int .i64 (M : Int), top sb], .slice ca n cc, .int .i64 (at_ : Int), .int .i64 (c : Int)] w (fun e w' => ∃ v es, e = .returned v ∧ w'.ownsRow w.heap.size 33 2 v es.length (edC es) ∧ es.length ≤ 40000 ∧ (∀ x ∈ es, x.2 = (at_ : Int) ∧ UsP (cs sb c) rows at_ M x.1) ∧ Below w.heap.size w w') := by
 obtain ⟨POST, hP⟩ : ∃ P : Ending → World → Prop, P = fun e w' => ∃ v es, e = .returned v ∧ w'.ownsRow w.heap.size 33 2 v es.length (edC es) ∧ es.length ≤ 40000 ∧ (∀ x ∈ es, x.2 = (at_ : Int) ∧ UsP (cs sb c) rows at_ M x.1) ∧ Below w.heap.size w w' := ⟨_, rfl⟩
 have HPo : Hid (∀ v es w', w'.ownsRow w.heap.size 33 2 v es.length (edC es) → es.length ≤ 40000 → (∀ x ∈ es, x.2 = (at_ : Int) ∧ UsP (cs sb c) rows at_ M x.1) → Below w.heap.size w w' → POST (.returned v) w') := fun v es w' q1 q2 q3 q4 => by rw [hP]; exact ⟨v, es, rfl, q1, q2, q3, q4⟩
 rw [← hP]
 clear hP
 obtain ⟨tb, tcap, et, htB, yt, _⟩ := hm.topAt sb c hc
 rw [et]
 obtain ⟨ma, mk, em⟩ := hm.midIs sb c hc
 rw [em] at yt
 have HEm := TW.hide em
 have HMw := TW.hide hm
 have HCc : Hid (c < C) := hc
 have HRr := TW.hide hr
 have HRn := TW.hide hn
 have HRl := TW.hide hrl
 have HCs := TW.hide hcs
 have HTt := TW.hide hT
 have qc0 : (0 : Int) ≤ (c : Int) := by omega
 have qc1 : (c : Int) < (C : Int) := by omega
 have qa0 : (0 : Int) ≤ (at_ : Int) := by omega
 have qa1 : (at_ : Int) < (n : Int) := by omega
 obtain ⟨i3, hi3, hz30, hz31, hz32⟩ := info_parts' intinfo
 obtain ⟨ir, hir, hzr0, hzr1, hzr2⟩ := info_parts' rcinfo
 clear em et hm hc hr hn hrl hcs hT
 have hA : Below w.heap.size w (w.alloc (.cells #[.int .i64 (f : Int), .int .i64 (M : Int), .slice (some ⟨tb, 0, none⟩) C tcap] 89)) := (Below.refl _ _).alloc (Nat.le_refl _) _
 have N1 : Hid ((w.alloc (.cells #[.int .i64 (f : Int), .int .i64 (M : Int), .slice (some ⟨tb, 0, none⟩) C tcap] 89)).heap[w.heap.size]? = some (.cells #[.int .i64 (f : Int), .int .i64 (M : Int), .slice (some ⟨tb, 0, none⟩) C tcap] 89 (0, 0))) := heap_alloc_new w _
 have NB := TW.hide hA
 clear hA
 go_enter Tryz.func42, Tryz.ntmps42
 refine wp_seq_k fun K hK => ?_
 have HK := TW.hide hK
 clear hK
 go_wp2
 refine HK.out _ _ ?_
 clear HK K
 generalize w.alloc _ = X at *
 obtain ⟨a0, a1, a2⟩ := cellsR3 N1.out
 have yt := keepC NB.out yt
 refine wp_seq_k fun Ka hKa => ?_
 have HKa := TW.hide hKa
 clear hKa
 go_wp2
 refine HKa.out _ _ ?_
 clear HKa
 refine wp_seq_k fun Kb hKb => ?_
 have HKb := TW.hide hKb
 clear hKb
 go_wp2
 have HO0 : Hid (X.ownsRow w.heap.size 3 1 (.slice none 0 0) 0 []) := ⟨rfl, .inl ⟨rfl, rfl⟩⟩
 have HB0 := NB
 clear a0 a1 a2 N1 NB
 go_loopw [9, 22] (fun lv iv wr => ∃ (p : Nat) (la : Option Addr) (lc : Nat) (L : List Int), p ≤ M ∧ iv = .int .i64 (p : Int) ∧ lv = .slice la L.length lc ∧ Hid (wr.ownsRow w.heap.size 3 1 (.slice la L.length lc) L.length (L.map (Value.int .i64))) ∧ Hid (∀ x ∈ L, UsP (cs sb c) rows at_ M x) ∧ Hid (L.length ≤ totN (cs sb c) p) ∧ Hid (Below w.heap.size w wr)) (fun lv iv wr => M - (intOf iv).toNat)
 case atStart => exact ⟨0, none, 0, [], Nat.zero_le _, rfl, rfl, HO0, TW.hide (fun x hx => by cases hx), Nat.zero_le _, HB0⟩
 case round =>
  clear HO0 HB0
  obtain ⟨p, la, lc, L, hp, rfl, rfl, HO, HL, HLt, HB⟩ := hrel
  obtain ⟨wo, rfl⟩ : ∃ x, x = wr := ⟨_, rfl⟩
  by_cases hlt : p < M
  ·have qp0 : (0 : Int) ≤ (p : Int) := by omega
   have qp1 : (p : Int) < (M : Int) := by omega
   have HPm : Hid (p < M) := hlt
   have HMr := TW.hide (HMw.out.below HB.out)
   obtain ⟨mb, mcap, em, _, y2, _⟩ := HMr.out.midAt sb c p HCc.out hlt
   rw [HEm.out] at em
   injection em with em1 _ em3
   subst em1 em3
   obtain ⟨xs, hxs⟩ : ∃ xs, cs sb c p = xs := ⟨_, rfl⟩
   have HXs := TW.hide hxs
   have hown : wo.ownsRow B 3 1 (inn sb c p) xs.length (xs.map (Value.int .i64)) := by rw [← hxs]; exact HMr.out.fam.own (sb, some (c, some p))
   have HOw : Hid (∃ ra rc, inn sb c p = .slice ra xs.length rc ∧ ((ra = none ∧ xs.length = 0 ∧ rc = 0) ∨ ∃ g, ra = some ⟨g, 0, none⟩ ∧ xs.length ≤ rc ∧ ∀ j, j < xs.length → wo.cell? ⟨g, j, none⟩ = some (.int .i64 (xs.getD j 0)))) := by
    rcases hown.2 with ⟨e, h0⟩ | ⟨g, cap, cur, e, _, hh, h1, _⟩
    ·exact ⟨none, 0, by rw [e, h0], .inl ⟨rfl, h0, rfl⟩⟩
    ·refine ⟨_, cap, e, .inr ⟨g, rfl, h1, fun j hj => ?_⟩⟩
     have hc := hown.cells (g := g) (by rw [e]; rfl) j (.int .i64 (xs.getD j 0)) (by rw [List.getElem?_map, List.getElem?_eq_getElem hj, List.getD_eq_getElem?_getD, List.getElem?_eq_getElem hj]; rfl)
     unfold Addr.add at hc
     split at hc
     ·rename_i h0; rw [h0] at hc ⊢; exact hc
     ·simpa using hc
   obtain ⟨ra, rc, er, hra⟩ := HOw.out
   rw [er] at y2
   obtain ⟨rl, hrl⟩ : ∃ rl, xs.length = rl := ⟨_, rfl⟩
   rw [hrl] at y2 hra
   have HRa := TW.hide hra
   have HRlx := TW.hide hrl
   have hrl4 : rl ≤ 40000 := by
    have h1 := totN_mono (cs sb c) (show p + 1 ≤ M from hlt)
    have h2 := HTt.out
    have h3 : totN (cs sb c) (p + 1) = totN (cs sb c) p + (cs sb c p).length := rfl
    rw [hxs] at h3
    omega
   have hLl : L.length ≤ 40000 := by
    have h1 := totN_mono (cs sb c) hp
    have h2 := HTt.out
    have h3 := HLt.out
    omega
   have hLr : L.length + rl ≤ 40000 := by
    have h1 := totN_mono (cs sb c) (show p + 1 ≤ M from hlt)
    have h2 := HTt.out
    have h3 : totN (cs sb c) (p + 1) = totN (cs sb c) p + (cs sb c p).length := rfl
    have h4 := HLt.out
    rw [hxs] at h3
    omega
   obtain ⟨b3, o3, eca, hrow⟩ : ∃ b3 o3, ca = some ⟨b3, o3, none⟩ ∧ ∀ i, i < rows.length → ∃ a k, wo.cell? ⟨b3, o3 + i, none⟩ = some (.slice a (rows.getD i []).length k) ∧ NR wo a (rows.getD i []) := by
    rcases HRr.out.below HB.out with h | ⟨b, off, e, h⟩
    ·rw [h] at HRn; have := HRn.out; simp at this; omega
    ·exact ⟨b, off, e, h⟩
   have HRow := TW.hide hrow
   subst eca
   clear hown hxs er hra hrl hlt hp HOw hrow
   refine wp_seq_k fun Kc hKc => ?_
   have HKc := TW.hide hKc
   clear hKc
   go_wp2
   refine HKc.out _ _ ?_
   clear HKc
   refine wp_seq_k fun Kd hKd => ?_
   have HKd := TW.hide hKd
   clear hKd
   go_wp2
   refine HKd.out _ _ ?_
   clear HKd
   refine wp_seq_k fun Ke hKe => ?_
   have HKe := TW.hide hKe
   clear hKe
   refine wp_block ?_
   refine wp_seq_k fun Kf hKf => ?_
   have HKf := TW.hide hKf
   clear hKf
   go_wp2
   refine HKf.out _ _ ?_
   clear HKf
   refine wp_seq_k fun Kg hKg => ?_
   have HKg := TW.hide hKg
   clear hKg
   go_wp2
   refine HKg.out _ _ ?_
   clear HKg
   refine wp_seq_k fun Kh hKh => ?_
   have HKh := TW.hide hKh
   clear hKh
   have HEx : Hid (∀ (i : Nat) (W' : World) {u23 u24 u25 u26 u27 u28 u29 u30 u31 u32 u33 u34 u35 u36 u37 u38 u39 u40 u41 u42 u43 u44 u45 u46 u47 u48 u49 u50 u51 u52 u53 u54 u55 u56 u57 u58 u59 u60 : Value}, i ≤ rl → (∀ q, i ≤ q → q < rl → (rows.getD at_ []).getD p 0 < (rows.getD (xs.getD q 0).toNat []).getD p 0) → Below wo.heap.size wo W' → Kh { tmps := #[.agg #[.int .i64 (f : Int), .int .i64 (M : Int), .slice (some ⟨tb, 0, none⟩) C tcap], .slice (some ⟨b3, o3, none⟩) n cc, .int .i64 (at_ : Int), .int .i64 (c : Int), .pointer (some ⟨w.heap.size, 0, none⟩), undef, undef, undef, .slice none 0 0, .slice la L.length lc, .int .i64 (p : Int), .slice ra rl rc, .int .i64 (i : Int), undef, undef, undef, .pointer (some ⟨w.heap.size, 2, none⟩), .slice (some ⟨tb, 0, none⟩) C tcap, .int .i64 (c : Int), .pointer (some ⟨tb, c, none⟩), .slice (some ⟨mb, 0, none⟩) M mk, .int .i64 (M : Int), .int .i64 (p : Int), u23, u24, u25, u26, u27, u28, u29, u30, u31, u32, u33, u34, u35, u36, u37, u38, u39, u40, u41, u42, u43, u44, u45, u46, u47, u48, u49, u50, u51, u52, u53, u54, u55, u56, u57, u58, u59, u60, undef, undef, undef, undef, undef, undef, undef, undef, undef, undef, undef, undef, undef, undef, undef, undef, undef, undef, undef], defers := [] } W') := by
    refine TW.hide ?_
    intro i W' u23 u24 u25 u26 u27 u28 u29 u30 u31 u32 u33 u34 u35 u36 u37 u38 u39 u40 u41 u42 u43 u44 u45 u46 u47 u48 u49 u50 u51 u52 u53 u54 u55 u56 u57 u58 u59 u60 hi hun hbw
    refine HKh.out _ _ ?_
    have HBw : Hid (Below w.heap.size w W') := HB.out.trans (hbw.mono HB.out.size)
    have HOa := TW.hide (own_belowI HO.out hbw)
    have HUn := TW.hide hun
    have qi0 : (0 : Int) ≤ (i : Int) := by omega
    have qi1 : (i : Int) ≤ (rl : Int) := by omega
    rcases HRa.out with ⟨rfl, h0, rfl⟩ | ⟨g, rfl, hrc, hcell⟩
    ·subst h0
     obtain rfl : i = 0 := by omega
     have HOl : Hid (W'.ownsRow w.heap.size 3 1 (.slice la L.length lc) L.length (L.map (Value.int .i64))) := HOa.out
     clear hbw hun HKh
     go_wp2_with (at_builtin; refine wpList_append_own_none rfl _ _ 23 rfl w.heap.size 3 i3 1 Tryz.underlying23 hi3 _ L.length (L.map (Value.int .i64)) rfl HOl.out rfl ?_)
     refine HKe.out _ _ ?_
     have HLt2 : Hid (L.length ≤ totN (cs sb c) (p + 1)) := Nat.le_trans HLt.out (totN_mono (cs sb c) (Nat.le_succ p))
     go_wp2
     go_roundw
     case rel => exact ⟨p + 1, la, lc, L, HPm.out, by go_num, rfl, HOl, HL, HLt2, HBw⟩
     case measure => simp [intOf]; have := HPm.out; omega
    ·have qi2 : (i : Int) ≤ (rc : Int) := by omega
     have HOl : Hid (W'.ownsRow w.heap.size 3 1 (.slice la L.length lc) L.length (L.map (Value.int .i64))) := HOa.out
     have hcw : ∀ j, j < rl → W'.cell? ⟨g, j, none⟩ = some (.int .i64 (xs.getD j 0)) := fun j hj => keepC hbw (hcell j hj)
     have HWs : Hid (w.heap.size ≤ W'.heap.size) := HBw.out.size
     have HF5 : Hid (∀ (v5 : Value) (w5 : World), w5.ownsRow w.heap.size 3 1 v5 (L.length + (rl - i)) (L.map (Value.int .i64) ++ (xs.drop i).map (Value.int .i64)) → W'.grownBy w5 (Value.slice la L.length lc).ownBlock → ∃ va vc, v5 = .slice va (L ++ xs.drop i).length vc ∧ w5.ownsRow w.heap.size 3 1 (.slice va (L ++ xs.drop i).length vc) (L ++ xs.drop i).length ((L ++ xs.drop i).map (Value.int .i64)) ∧ Below w.heap.size w w5) := fun v5 w5 h1 h2 => by
      have hlen : L.length + (rl - i) = (L ++ xs.drop i).length := by rw [List.length_append, List.length_drop, HRlx.out]
      rw [hlen, ← List.map_append] at h1
      obtain ⟨va, vc, e⟩ := own_openE h1
      refine ⟨va, vc, e, by rw [← e]; exact h1, HBw.out.grown h2 HBw.out.size (fun q hq => own_blkI HOl.out q hq)⟩
     have HLs : Hid (∀ x ∈ L ++ xs.drop i, UsP (cs sb c) rows at_ M x) := fun x hx => by
      rcases List.mem_append.1 hx with h | h
      ·exact HL.out x h
      ·obtain ⟨q, hq, e⟩ := List.getElem_of_mem h
       rw [List.getElem_drop] at e
       rw [List.length_drop, HRlx.out] at hq
       have h5 := HUn.out (i + q) (by omega) (by omega)
       have e2 : xs.getD (i + q) 0 = x := by
        rw [List.getD_eq_getElem?_getD, List.getElem?_eq_getElem (by rw [HRlx.out]; omega)]
        exact e
       rw [e2] at h5
       exact ⟨p, HPm.out, by rw [HXs.out]; exact List.mem_of_mem_drop h, h5⟩
     have HLt2 : Hid ((L ++ xs.drop i).length ≤ totN (cs sb c) (p + 1)) := by
      show _ ≤ _
      have h3 : totN (cs sb c) (p + 1) = totN (cs sb c) p + (cs sb c p).length := rfl
      rw [HXs.out, HRlx.out] at h3
      rw [List.length_append, List.length_drop, HRlx.out]
      have := HLt.out
      omega
     obtain ⟨L2, hL2⟩ : ∃ L2, L ++ xs.drop i = L2 := ⟨_, rfl⟩
     rw [hL2] at HF5 HLs HLt2
     clear hL2
     by_cases hci : rc = i
     ·subst hci
      obtain rfl : rl = rc := by omega
      have hdr : xs.drop rl = [] := List.drop_eq_nil_of_le (by rw [HRlx.out]; exact Nat.le_refl _)
      have HDr : Hid ((xs.drop rl).map (Value.int .i64) = []) := by show _ = _; rw [hdr]; rfl
      rw [Nat.sub_self, HDr.out] at HF5
      clear hbw hun HKh hdr
      go_wp2_with (at_builtin; refine wpList_append_own_at _ rfl _ _ 23 rfl w.heap.size 3 i3 _ 1 8 Tryz.underlying23 hi3 hz30 hz31 hz32 rfl (by decide) _ L.length (L.map (Value.int .i64)) rfl HOl.out _ 0 _ [] rfl rfl (fun j u h => by cases h) (fun u h => by cases h) (by unfold maxLen; omega) (by omega) HWs.out ?_; (intro v5 w5 h51 h52 _ _); obtain ⟨va, vc, rfl, h55, h56⟩ := HF5.out v5 w5 h51 h52; have HO5 := TW.hide h55; have HB5 := TW.hide h56; clear h51 h52 h55 h56 HF5)
      refine HKe.out _ _ ?_
      go_wp2
      go_roundw
      case rel => exact ⟨p + 1, va, vc, L2, HPm.out, by go_num, rfl, HO5, HLs, HLt2, HB5⟩
      case measure => simp [intOf]; have := HPm.out; omega
     ·have hci2 : ¬ (rc ≤ i) := by omega
      have hci3 : ¬ (rc - i = 0) := by omega
      have hci4 : ¬ ((rc : Int) - (i : Int) = 0) := by omega
      have HCl : Hid (∀ j u, ((xs.drop i).map (Value.int .i64))[j]? = some u → W'.cell? ((⟨g, i, none⟩ : Addr).add j) = some u) := fun j u hj => by
       rw [List.getElem?_map, List.getElem?_drop] at hj
       have hjl : i + j < xs.length := by
        rcases Nat.lt_or_ge (i + j) xs.length with h | h
        ·exact h
        ·rw [List.getElem?_eq_none h] at hj; cases hj
       rw [List.getElem?_eq_getElem hjl] at hj
       injection hj with hj
       have h5 := hcw (i + j) (by rw [← HRlx.out]; exact hjl)
       rw [List.getD_eq_getElem?_getD, List.getElem?_eq_getElem hjl] at h5
       rw [← hj]
       unfold Addr.add
       split
       ·rename_i h0; subst h0; exact h5
       ·exact h5
      have HDl : Hid (((xs.drop i).map (Value.int .i64)).length = (rl - i) * 1) := by
       show _ = _
       rw [List.length_map, List.length_drop, HRlx.out, Nat.mul_one]
      clear hbw hun HKh hcw
      go_wp2_with (at_builtin; refine wpList_append_own_at _ rfl _ _ 23 rfl w.heap.size 3 i3 _ 1 8 Tryz.underlying23 hi3 hz30 hz31 hz32 rfl (by decide) _ L.length (L.map (Value.int .i64)) rfl HOl.out _ (rl - i) _ ((xs.drop i).map (Value.int .i64)) rfl HDl.out HCl.out (by intro u hu; obtain ⟨z, _, rfl⟩ := List.mem_map.1 hu; rfl) (by unfold maxLen; omega) (by omega) HWs.out ?_; (intro v5 w5 h51 h52 _ _); obtain ⟨va, vc, rfl, h55, h56⟩ := HF5.out v5 w5 h51 h52; have HO5 := TW.hide h55; have HB5 := TW.hide h56; clear h51 h52 h55 h56 HF5)
      refine HKe.out _ _ ?_
      go_wp2
      go_roundw
      case rel => exact ⟨p + 1, va, vc, L2, HPm.out, by go_num, rfl, HO5, HLs, HLt2, HB5⟩
      case measure => simp [intOf]; have := HPm.out; omega
   clear HKh
   go_wp2
   go_loopw [12] (fun fv wq => ∃ i : Nat, i ≤ rl ∧ fv = .int .i64 (i : Int) ∧ Hid (∀ q, i ≤ q → q < rl → (rows.getD at_ []).getD p 0 < (rows.getD (xs.getD q 0).toNat []).getD p 0) ∧ Hid (Below wo.heap.size wo wq)) (fun fv wq => (intOf fv).toNat)
   case atStart => exact ⟨rl, Nat.le_refl _, rfl, TW.hide (fun q h1 h2 => by omega), TW.hide (Below.refl _ _)⟩
   case round =>
    obtain ⟨i, hi, rfl, HUn, HBq⟩ := hrel
    refine wp_seq_k fun K7 hK7 => ?_
    have HK7 := TW.hide hK7
    clear hK7
    refine wp_seq_k fun K8 hK8 => ?_
    have HK8 := TW.hide hK8
    clear hK8
    rcases i with _ | i
    ·have kpos : ¬ (0 : Int) < ((0 : Nat) : Int) := by omega
     have kwi : True := trivial
     have kwi2 : True := trivial
     refine wp_region_noPanic ?_
     refine RG.wp_region_L (fun Z => True) (fun Z => Below wr.heap.size wr Z) [] (by kernel_rfl) ?_
     refine RG.wpL_any fun Yq hYq => ?_
     have HTq : Hid (Below wr.heap.size wr Yq) := by rw [hYq]; exact below_drewN (Below.refl _ _) 1
     clear hYq
     refine RG.wpL_take (fuel := 0) (a' := ?Aqa) [0, 1, 2, 3, 4, 5, 6, 7, 8, 9, 10, 11, 12, 13, 14, 15, 16, 17, 18, 19, 20, 21, 22, 23] (by kernel_rfl) (by kernel_rfl) (fun _ _ _ _ _ h => h) HTq.out (fun _ => trivial) ?rqa ?_
     case rqa =>
      refine RG.RunsIf.weak (v := ?_) (by rfl) (by rfl) (fun Z hT => ?_) ?_
      rotate_left
      ·go_simp
       rfl
      simp only [Act.put, lpA, lpZ, lpS, lgT, lgZ, lgS]
      refine RG.RunsIf.weak (v := .bool false) (by rfl) (by rfl) (fun Z hT => ?_) ?_
      ·go_simp
       try simp [kpos, kwi, kwi2]
      simp only [Act.put, lpA, lpZ, lpS, lgT, lgZ, lgS]
      refine RG.RunsIf.weak (v := ?_) (by rfl) (by rfl) (fun Z hT => ?_) ?_
      rotate_left
      ·go_simp
       rfl
      simp only [Act.put, lpA, lpZ, lpS, lgT, lgZ, lgS]
      iterate 20
       refine RG.RunsIf.skip (by rfl) (by rfl) ?_
       simp only [Act.put, lpA, lpZ, lpS, lgT, lgZ, lgS]
      refine RG.RunsIf.weak (v := ?_) (by rfl) (by rfl) (fun Z hT => ?_) ?_
      rotate_left
      ·go_simp
       rfl
      simp only [Act.put, lpA, lpZ, lpS, lgT, lgZ, lgS]
      exact RG.RunsIf.nil
     refine RG.wpL_done (by kernel_rfl) ?_ _
     refine NoPanic.normal ?_
     refine HK8.out _ _ ?_
     have HBn : Hid (Below wo.heap.size wo Yq) := HBq.out.trans (HTq.out.mono HBq.out.size)
     clear HTq
     go_wp2
     exact HEx.out 0 Yq (Nat.zero_le _) HUn.out HBn.out
    ·have kpos : (0 : Int) < ((i + 1 : Nat) : Int) := by omega
     have kwi : IntKind.i64.wrap (((i + 1 : Nat) : Int) - 1) = (i : Int) := by rw [IntKind.wrap_i64]; omega
     have kwi2 : IntKind.i64.wrap (i : Int) = (i : Int) := by rw [IntKind.wrap_i64]; omega
     have q0 : (0 : Int) ≤ (i : Int) := by omega
     have q1 : (i : Int) < (rl : Int) := by omega
     have HIr : Hid (i < rl) := by show _ < _; omega
     rcases HRa.out with ⟨_, h0, _⟩ | ⟨g, rfl, hrc, hcell⟩
     ·omega
     have yx := keepC HBq.out (hcell i (by omega))
     have hmem : xs.getD i 0 ∈ xs := by
      rw [List.getD_eq_getElem?_getD, List.getElem?_eq_getElem (by rw [HRlx.out]; exact HIr.out)]
      exact List.getElem_mem _
     have hxb := HCs.out p HPm.out (xs.getD i 0) (by rw [HXs.out]; exact hmem)
     obtain ⟨xn, hxn⟩ : ∃ xn : Nat, xs.getD i 0 = (xn : Int) := ⟨(xs.getD i 0).toNat, by omega⟩
     rw [hxn] at yx hxb
     have qx0 : (0 : Int) ≤ (xn : Int) := by omega
     have qx1 : (xn : Int) < (n : Int) := by omega
     have hxn1 : xn < n := by omega
     obtain ⟨a1, k1, y1, hn1⟩ := HRow.out xn (by rw [HRn.out]; exact hxn1)
     obtain ⟨a3, k3, y3, hn3⟩ := HRow.out at_ (by rw [HRn.out]; exact hat)
     rw [HRl.out xn hxn1] at y1
     rw [HRl.out at_ hat] at y3
     have y1 := keepC HBq.out y1
     have y3 := keepC HBq.out y3
     rcases hn1 with h | ⟨b4, o4, rfl, hc1⟩
     ·have := HRl.out xn hxn1; rw [h] at this; simp at this; omega
     rcases hn3 with h | ⟨b5, o5, rfl, hc3⟩
     ·have := HRl.out at_ hat; rw [h] at this; simp at this; omega
     have y4 := keepC HBq.out (hc1 p (by rw [HRl.out xn hxn1]; exact HPm.out))
     have y5 := keepC HBq.out (hc3 p (by rw [HRl.out at_ hat]; exact HPm.out))
     obtain ⟨xv, hxv⟩ : ∃ xv, (rows.getD xn []).getD p 0 = xv := ⟨_, rfl⟩
     obtain ⟨yv, hyv⟩ : ∃ yv, (rows.getD at_ []).getD p 0 = yv := ⟨_, rfl⟩
     rw [hxv] at y4
     rw [hyv] at y5
     have HXv := TW.hide hxv
     have HYv := TW.hide hyv
     have HXn := TW.hide hxn
     have HSe : Hid (∀ W, Calls Tryz.prog 32 #[.int .i64 xv, .int .i64 yv] W fun e w' => e = .returned (.bool (decide (xv ≤ yv))) ∧ Below W.heap.size W w') := fun W => (pseen xv yv W).mono (by rintro e w' ⟨rfl, rfl⟩; exact ⟨rfl, Below.refl _ _⟩)
     clear hc1 hc3 hxv hyv hxn hmem hxb hxn1 hcell hi
     refine wp_region_noPanic ?_
     refine RG.wp_region_L (fun Z => True) (fun Z => Below wr.heap.size wr Z) [] (by kernel_rfl) ?_
     refine RG.wpL_any fun Yq hYq => ?_
     have HTq : Hid (Below wr.heap.size wr Yq) := by rw [hYq]; exact below_drewN (Below.refl _ _) 1
     clear hYq
     refine RG.wpL_take (fuel := 3) (a' := ?Aqc) [0, 1, 2, 3, 4, 5, 6, 7, 8, 9, 10, 11, 12, 13, 14, 15, 16, 17, 18, 19, 20] (by kernel_rfl) (by kernel_rfl) (fun _ _ _ _ _ h => h) HTq.out (fun _ => trivial) ?rqc ?_
     case rqc =>
      refine RG.RunsIf.weak (v := ?_) (by rfl) (by rfl) (fun Z hT => ?_) ?_
      rotate_left
      ·go_simp
       rfl
      simp only [Act.put, lpA, lpZ, lpS, lgT, lgZ, lgS]
      refine RG.RunsIf.weak (v := .bool true) (by rfl) (by rfl) (fun Z hT => ?_) ?_
      ·go_simp
       try simp [kpos, kwi, kwi2]
      simp only [Act.put, lpA, lpZ, lpS, lgT, lgZ, lgS]
      iterate 4
       refine RG.RunsIf.weak (v := ?_) (by rfl) (by rfl) (fun Z hT => ?_) ?_
       rotate_left
       ·go_simp
        rfl
       simp only [Act.put, lpA, lpZ, lpS, lgT, lgZ, lgS]
      refine RG.RunsIf.weak (v := .int .i64 (i : Int)) (by rfl) (by rfl) (fun Z hT => ?_) ?_
      ·go_simp
       try simp [kpos, kwi, kwi2]
      simp only [Act.put, lpA, lpZ, lpS, lgT, lgZ, lgS]
      refine RG.RunsIf.weak (v := ?_) (by rfl) (by rfl) (fun Z hT => ?_) ?_
      rotate_left
      ·go_simp
       rfl
      simp only [Act.put, lpA, lpZ, lpS, lgT, lgZ, lgS]
      refine RG.RunsIf.weak (v := .int .i64 (xn : Int)) (by rfl) (by rfl) (fun Z hT => ?_) ?_
      ·have yx := keepC hT yx; have y1 := keepC hT y1; have y3 := keepC hT y3; have y4 := keepC hT y4; have y5 := keepC hT y5
       go_simp
      simp only [Act.put, lpA, lpZ, lpS, lgT, lgZ, lgS]
      refine RG.RunsIf.weak (v := ?_) (by rfl) (by rfl) (fun Z hT => ?_) ?_
      rotate_left
      ·go_simp
       rfl
      simp only [Act.put, lpA, lpZ, lpS, lgT, lgZ, lgS]
      refine RG.RunsIf.weak (v := .slice (some ⟨b4, o4, none⟩) M k1) (by rfl) (by rfl) (fun Z hT => ?_) ?_
      ·have yx := keepC hT yx; have y1 := keepC hT y1; have y3 := keepC hT y3; have y4 := keepC hT y4; have y5 := keepC hT y5
       go_simp
      simp only [Act.put, lpA, lpZ, lpS, lgT, lgZ, lgS]
      iterate 2
       refine RG.RunsIf.weak (v := ?_) (by rfl) (by rfl) (fun Z hT => ?_) ?_
       rotate_left
       ·go_simp
        rfl
       simp only [Act.put, lpA, lpZ, lpS, lgT, lgZ, lgS]
      refine RG.RunsIf.weak (v := .int .i64 xv) (by rfl) (by rfl) (fun Z hT => ?_) ?_
      ·have yx := keepC hT yx; have y1 := keepC hT y1; have y3 := keepC hT y3; have y4 := keepC hT y4; have y5 := keepC hT y5
       go_simp
      simp only [Act.put, lpA, lpZ, lpS, lgT, lgZ, lgS]
      iterate 3
       refine RG.RunsIf.weak (v := ?_) (by rfl) (by rfl) (fun Z hT => ?_) ?_
       rotate_left
       ·go_simp
        rfl
       simp only [Act.put, lpA, lpZ, lpS, lgT, lgZ, lgS]
      refine RG.RunsIf.weak (v := .slice (some ⟨b5, o5, none⟩) M k3) (by rfl) (by rfl) (fun Z hT => ?_) ?_
      ·have yx := keepC hT yx; have y1 := keepC hT y1; have y3 := keepC hT y3; have y4 := keepC hT y4; have y5 := keepC hT y5
       go_simp
      simp only [Act.put, lpA, lpZ, lpS, lgT, lgZ, lgS]
      iterate 2
       refine RG.RunsIf.weak (v := ?_) (by rfl) (by rfl) (fun Z hT => ?_) ?_
       rotate_left
       ·go_simp
        rfl
       simp only [Act.put, lpA, lpZ, lpS, lgT, lgZ, lgS]
      refine RG.RunsIf.weak (v := .int .i64 yv) (by rfl) (by rfl) (fun Z hT => ?_) ?_
      ·have yx := keepC hT yx; have y1 := keepC hT y1; have y3 := keepC hT y3; have y4 := keepC hT y4; have y5 := keepC hT y5
       go_simp
      simp only [Act.put, lpA, lpZ, lpS, lgT, lgZ, lgS]
      exact RG.RunsIf.nil
     refine RG.wpL_stepw (i := 21) (by kernel_rfl) (by rfl) (by rfl) (fun KX hK => ?_)
     have HK := TW.hide hK
     clear hK
     go_simp
     refine (HSe.out Yq).mono ?_
     rintro e_Wq Wq ⟨rfl, hb⟩
     have HTr : Hid (Below wr.heap.size wr Wq) := HTq.out.trans (hb.mono HTq.out.size)
     refine HK.out _ _ HTr.out (fun _ => trivial) ?_
     clear HK KX hb
     try simp only [Act.put, lpA, lpZ, lpS, lgT, lgZ, lgS]
     refine RG.wpL_take (fuel := 0) (a' := ?Aqd) [22, 23] (by kernel_rfl) (by kernel_rfl) (fun _ _ _ _ _ h => h) HTr.out (fun _ => trivial) ?rqd ?_
     case rqd =>
      iterate 2
       refine RG.RunsIf.weak (v := ?_) (by rfl) (by rfl) (fun Z hT => ?_) ?_
       rotate_left
       ·go_simp
        rfl
       simp only [Act.put, lpA, lpZ, lpS, lgT, lgZ, lgS]
      exact RG.RunsIf.nil
     refine RG.wpL_done (by kernel_rfl) ?_ _
     refine NoPanic.normal ?_
     clear HTq
     have HTq := HTr
     clear HTr
     generalize Wq = Yq at *
     refine HK8.out _ _ ?_
     have HBn : Hid (Below wo.heap.size wo Yq) := HBq.out.trans (HTq.out.mono HBq.out.size)
     clear HTq
     by_cases hle : xv ≤ yv
     ·rw [decide_eq_true hle]
      go_wp2
      exact HEx.out (i + 1) Yq (by have := HIr.out; omega) HUn.out HBn.out
     ·rw [decide_eq_false hle]
      have HUn2 : Hid (∀ q, i ≤ q → q < rl → (rows.getD at_ []).getD p 0 < (rows.getD (xs.getD q 0).toNat []).getD p 0) := fun q h1 h2 => by
       rcases Nat.lt_or_ge i q with h3 | h3
       ·exact HUn.out q h3 h2
       ·obtain rfl : q = i := by omega
        rw [HXn.out, Int.toNat_natCast, HXv.out, HYv.out]
        omega
      have HBq2 := HBn
      go_wp2
      refine HK7.out _ _ ?_
      go_wp2
      go_roundw
      case rel => exact ⟨i, by have := HIr.out; omega, by go_num, HUn2, HBq2⟩
      case measure => simp [intOf]
  ·obtain rfl : M = p := by omega
   have qk : ¬ (M : Int) < (M : Int) := by omega
   have hLl : L.length ≤ 40000 := Nat.le_trans HLt.out HTt.out
   obtain ⟨ln, hln⟩ : ∃ ln, L.length = ln := ⟨_, rfl⟩
   have HLn := TW.hide hln
   rw [hln] at hLl
   obtain ⟨ss, hss⟩ : ∃ ss, L.mergeSort (fun (x y : Int) => decide (x ≤ y)) = ss := ⟨_, rfl⟩
   have HSl : Hid (ss.length = ln) := by show _ = _; rw [← hss, List.length_mergeSort]; exact hln
   have HSm : Hid (∀ x ∈ ss, UsP (cs sb c) rows at_ M x) := fun x hx => by
    rw [← hss] at hx
    exact HL.out x (List.mem_mergeSort.1 hx)
   have HSo : Hid (Calls Tryz.prog 59 #[.slice la ln lc] wo fun e w' => e = .returned (.tuple #[]) ∧ w'.ownsRow w.heap.size 3 1 (.slice la ln lc) ln (ss.map (Value.int .i64)) ∧ Below w.heap.size wo w') := by
    have h9 := wzSort w.heap.size (.slice la ln lc) L wo (by rw [hln, ← hln]; exact HO.out) (by omega)
    rw [hss, hln] at h9
    exact h9
   have HO9 := HO
   clear HO HL HLt hlt hss HEm HCs HRr HRl
   rw [hln]
   clear hln
   go_wp2
   refine HKb.out _ _ ?_
   clear HKb
   refine wp_seq_k fun Kc hKc => ?_
   have HKc := TW.hide hKc
   clear hKc
   go_wp2_with fail
   refine HSo.out.mono ?_
   rintro e10 W10 ⟨rfl, ho10, hb10⟩
   have HOz := TW.hide ho10
   have HBz : Hid (Below w.heap.size w W10) := HB.out.trans hb10
   clear ho10 hb10 HSo HB HO9
   go_wp2
   refine HKc.out _ _ ?_
   clear HKc
   refine wp_seq_k fun Kd hKd => ?_
   have HKd := TW.hide hKd
   clear hKd
   go_wp2_with (at_make; refine wpList_make_own _ rfl _ _ 28 rfl W10.heap.size 33 ir (.agg #[.int .i64 0, .int .i64 0]) 2 Tryz.underlying28 hir hzr0 hzr1 _ _ _ ln rfl rfl rfl (by rw [hzr2]; omega) (by unfold maxLen; omega) (Nat.le_refl _) ?_; (intro w2 hown hgrow); have HO2 := TW.hide hown; have HB2 : Hid (Below W10.heap.size W10 w2) := (Below.refl _ _).grown hgrow (Nat.le_refl _) (by intro k h; cases h); clear hown hgrow)
   refine HKd.out _ _ ?_
   clear HKd
   have HO3 : Hid (w2.ownsRow W10.heap.size 33 2 (.slice (some ⟨W10.heap.size, 0, none⟩) 0 ln) 0 (edC ((ss.take 0).map (fun x => (x, (at_ : Int)))))) := HO2.out
   clear HO2
   refine wp_seq_k fun Ke hKe => ?_
   have HKe := TW.hide hKe
   clear hKe
   go_wp2
   go_loopw [13, 68] (fun lv iv wr => ∃ (k : Nat) (va : Option Addr) (vc : Nat), k ≤ ln ∧ iv = .int .i64 (k : Int) ∧ lv = .slice va k vc ∧ Hid (wr.ownsRow W10.heap.size 33 2 (.slice va k vc) k (edC ((ss.take k).map (fun x => (x, (at_ : Int)))))) ∧ Hid (Below W10.heap.size W10 wr)) (fun lv iv wr => ln - (intOf iv).toNat)
   case atStart => exact ⟨0, _, _, Nat.zero_le _, rfl, rfl, HO3, HB2⟩
   case round =>
    clear HO3 HB2
    obtain ⟨k, va, vc, hk, rfl, rfl, HO, HB⟩ := hrel
    by_cases hlt : k < ln
    ·have qk0 : (0 : Int) ≤ (k : Int) := by omega
     have qk1 : (k : Int) < (ln : Int) := by omega
     have HKl : Hid (k < ln) := hlt
     obtain ⟨wc, rfl⟩ : ∃ x, x = wr := ⟨_, rfl⟩
     obtain ⟨x0, hx0⟩ : ∃ x0, ss.getD k 0 = x0 := ⟨_, rfl⟩
     have hla : ∃ g, la = some ⟨g, 0, none⟩ ∧ wc.cell? ⟨g, k, none⟩ = some (.int .i64 x0) := by
      rcases HOz.out.2 with ⟨e, h0⟩ | ⟨g, cap, cur, e, _⟩
      ·omega
      ·injection e with e1 _ _
       refine ⟨g, e1, keepC HB.out ?_⟩
       have hc := HOz.out.cells (g := g) (by rw [e1]; rfl) k (.int .i64 (ss.getD k 0)) (by rw [List.getElem?_map, List.getElem?_eq_getElem (by rw [HSl.out]; exact hlt), List.getD_eq_getElem?_getD, List.getElem?_eq_getElem (by rw [HSl.out]; exact hlt)]; rfl)
       rw [hx0] at hc
       unfold Addr.add at hc
       split at hc
       ·rename_i h0; subst h0; exact hc
       ·simpa using hc
     obtain ⟨g, rfl, ym⟩ := hla
     obtain ⟨es, hes⟩ : ∃ es, (ss.take k).map (fun x => (x, (at_ : Int))) = es := ⟨_, rfl⟩
     have HEs : Hid ((ss.take (k + 1)).map (fun x => (x, (at_ : Int))) = es ++ [(x0, (at_ : Int))]) := by
      show _ = _
      rw [← hes, take_one ss k (by rw [HSl.out]; exact hlt) 0, hx0, List.map_append]
      rfl
     rw [hes] at HO
     have hAl : Below wc.heap.size wc (wc.alloc (.cells #[.int .i64 x0, .int .i64 (at_ : Int)] 33)) := (Below.refl _ _).alloc (Nat.le_refl _) _
     have HOa : Hid ((wc.alloc (.cells #[.int .i64 x0, .int .i64 (at_ : Int)] 33)).ownsRow W10.heap.size 33 2 (.slice va k vc) k (edC es)) := own_belowI HO.out hAl
     have HBa : Hid (Below W10.heap.size W10 (wc.alloc (.cells #[.int .i64 x0, .int .i64 (at_ : Int)] 33))) := HB.out.trans (hAl.mono HB.out.size)
     have HSa : Hid (W10.heap.size ≤ (wc.alloc (.cells #[.int .i64 x0, .int .i64 (at_ : Int)] 33)).heap.size) := HBa.out.size
     have HF5 : Hid (∀ v5 w5, w5.ownsRow W10.heap.size 33 2 v5 (k + 1) (edC es ++ [.int .i64 x0, .int .i64 (at_ : Int)]) → (wc.alloc (.cells #[.int .i64 x0, .int .i64 (at_ : Int)] 33)).grownBy w5 (Value.slice va k vc).ownBlock → ∃ ua uc, v5 = .slice ua (k + 1) uc ∧ w5.ownsRow W10.heap.size 33 2 (.slice ua (k + 1) uc) (k + 1) (edC ((ss.take (k + 1)).map (fun x => (x, (at_ : Int))))) ∧ Below W10.heap.size W10 w5) := fun v5 w5 h1 h2 => by
      obtain ⟨ua, uc, e⟩ := own_openE h1
      refine ⟨ua, uc, e, ?_, HBa.out.grown h2 HBa.out.size (fun q hq => own_blkI HOa.out q hq)⟩
      rw [HEs.out, ← e]
      have e2 : edC (es ++ [(x0, (at_ : Int))]) = edC es ++ [.int .i64 x0, .int .i64 (at_ : Int)] := by unfold edC; rw [List.flatMap_append]; rfl
      rw [e2]
      exact h1
     clear hAl HBa HO HB hx0 hes hlt hk
     refine wp_seq_k fun Kf hKf => ?_
     have HKf := TW.hide hKf
     clear hKf
     go_wp2
     refine HKf.out _ _ ?_
     clear HKf
     refine wp_seq_k fun Kg hKg => ?_
     have HKg := TW.hide hKg
     clear hKg
     go_wp2
     refine HKg.out _ _ ?_
     clear HKg
     refine wp_seq_k fun Kh hKh => ?_
     have HKh := TW.hide hKh
     clear hKh
     refine wp_block ?_
     refine wp_seq_k fun Ki hKi => ?_
     have HKi := TW.hide hKi
     clear hKi
     go_wp2
     refine HKi.out _ _ ?_
     clear HKi
     go_wp2_with (at_builtin; refine wpList_append_own_at _ rfl _ _ 28 rfl W10.heap.size 33 ir _ 2 16 Tryz.underlying28 hir hzr0 hzr1 hzr2 rfl (by decide) _ k (edC es) rfl HOa.out ⟨wc.heap.size, 0, none⟩ 1 1 [.int .i64 x0, .int .i64 (at_ : Int)] rfl rfl (cells_two _ _ _ _) (by simp [Value.oneCell']) (by unfold maxLen; omega) (by omega) HSa.out ?_; (intro v5 w5 h51 h52 _ _); obtain ⟨ua, uc, rfl, h53, h54⟩ := HF5.out v5 w5 h51 h52; have HO5 := TW.hide h53; have HB5 := TW.hide h54; clear h51 h52 h53 h54 HF5)
     refine HKh.out _ _ ?_
     clear HOa HSa ym HEs
     go_wp2
     go_roundw
     case rel => exact ⟨k + 1, ua, uc, HKl.out, by go_num, rfl, HO5, HB5⟩
     case measure => simp [intOf]; have := HKl.out; omega
    ·obtain rfl : ln = k := by omega
     have qk : ¬ (ln : Int) < (ln : Int) := by omega
     have hes : (ss.take ln).map (fun x => (x, (at_ : Int))) = ss.map (fun x => (x, (at_ : Int))) := by rw [List.take_of_length_le (by rw [HSl.out]; exact Nat.le_refl _)]
     have hel : (ss.map (fun x => (x, (at_ : Int)))).length = ln := by rw [List.length_map, HSl.out]
     have HR := TW.hide (HPo.out (.slice va ln vc) (ss.map (fun x => (x, (at_ : Int)))) wr (by rw [hel, ← hes]; exact own_baseL HO.out HBz.out.size) (by rw [hel]; exact hLl) (fun x hx => by
      obtain ⟨y, hy, rfl⟩ := List.mem_map.1 hx
      exact ⟨rfl, HSm.out y hy⟩) (HBz.out.trans (HB.out.mono HBz.out.size)))
     clear hes hel HO HB hlt
     go_wp2
     refine HKe.out _ _ ?_
     clear HKe
     go_wp2
     first | exact HR.out | exact ⟨rfl, HR.out⟩
end LW
end Go.Proofs.YtdjanbojhblijaaGreat

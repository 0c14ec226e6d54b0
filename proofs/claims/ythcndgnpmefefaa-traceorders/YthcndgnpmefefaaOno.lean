/-
 What tells where edges lead to is made.
-/
import Derived.Test.YthcndgnpmefefaaWqAo
import Derived.Test.YthcndgnpmefefaaCkCo
import Derived.Test.YthcndgnpmefefaaJnAo
import Derived.Test.YthcndgnpmefefaaLkAo
set_option linter.unusedVariables false
set_option linter.unusedSimpArgs false
namespace Go.Proofs.Ythcndgnpmefefaa
open List renaming setIfInBounds_toArray → lpA,set_cons_zero → lpZ,set_cons_succ → lpS,getElem_toArray → lgT,getElem_cons_zero → lgZ,getElem_cons_succ → lgS
open Go.RowKit
namespace LW
open Mc
theorem OM.ends {W W5 Z : World} {B : Nat} {n : Bool → Nat} {hd : Bool → Value} {vs : Bool → Nat → Value} {cs : Bool → Nat → List Int} (h : OM W B n hd vs vs cs) (s : Bool) (j : Nat) (hj : j < n s) {b cap : Nat} (hb : hd s = .slice (some ⟨b,0,none⟩) (n s) cap) (x : Int) (hZ : Below W.heap.size W Z) (u : Value) (ho : W5.ownsRow B 3 1 u ((cs s j).length + 1) ((cs s j).map (Value.int .i64) ++ [.int .i64 x])) (hg : Z.grownBy W5 (vs s j).ownBlock) (hat : u.ownBlock = (vs s j).ownBlock ∨ u.ownBlock = some Z.heap.size) :
  (∃ ua uc,u = .slice ua ((cs s j).length + 1) uc) ∧ (∀ (p : Nat) (cs' : Array Value) (t : TypeId) (fr : Nat × Nat),Z.heap[p]? = some (.cells cs' t fr) → 3 ≠ t → 23 ≠ t → W5.heap[p]? = some (.cells cs' t fr) ∧ (W5.setCell ⟨b,j,none⟩ u).heap[p]? = some (.cells cs' t fr)) ∧ W5.frozen? ⟨b,j,none⟩ = false ∧ (∃ z,W5.cell? ⟨b,j,none⟩ = some z) ∧ OM (W5.setCell ⟨b,j,none⟩ u) B n hd (ups vs s j u) (ups vs s j u) (ups cs s j (cs s j ++ [x])) ∧ (∀ W0,Below B W0 Z → B ≤ Z.heap.size → Below B W0 (W5.setCell ⟨b,j,none⟩ u)):=by
 have hr : Z.ownsRow B 3 1 (vs s j) (cs s j).length ((cs s j).map (Value.int .i64)):=(h.below hZ).fam.own (s,some j)
 have h1:=(h.below hZ).appR s j [x] u ho hg hat
 obtain ⟨b',cap',e,hB,hc,hf⟩:=h1.hAt s j hj
 rw [hb] at e
 injection e with e1 _ _
 injection e1 with e1
 injection e1 with e1
 subst e1
 have hh : W5.ownsRow B 23 1 (hd s) (n s) (rwI (n s) (vs s)):=h1.fam.own (s,none)
 refine ⟨own_openE ho,fun p cs' t fr hp h2 h3 => ?_,hf,⟨_,hc⟩,h1.setH s j u hb,fun W0 h2 h3 => (h2.grown hg h3 (fun k hk => own_blkI hr k hk)).setCell (p:=⟨b,j,none⟩) hB u⟩
 have h4:=own_keepT hp hr h2 hg
 refine ⟨h4,?_⟩
 rw [Below.heap_setCell _ _ _ _ (fun e => own_neB hh h4 h3 (by rw [hb,e];rfl))]
 exact h4
theorem own_keepZ {Z W5 : World} {B n k : Nat} {t : TypeId} {v : Value} {xs : List Value} (h : Z.ownsRow B t k v n xs) (hk : ∀ (p : Nat) (cs' : Array Value) (fr : Nat × Nat),Z.heap[p]? = some (.cells cs' t fr) → W5.heap[p]? = some (.cells cs' t fr)) : W5.ownsRow B t k v n xs:=by
 refine ⟨h.1,?_⟩
 rcases h.2 with h2 | ⟨g,cap,cur,e,h3,h4,h5⟩
 ·exact .inl h2
 ·exact .inr ⟨g,cap,cur,e,h3,hk _ _ _ h4,h5⟩
theorem cells3O {w : World} {b : Nat} {t : TypeId} {v0 v1 v2 : Value} (h : w.heap[b]? = some (.cells #[v0,v1,v2] t (0,0))) : w.cell? ⟨b,0,none⟩ = some v0 ∧ w.cell? ⟨b,1,none⟩ = some v1 ∧ w.cell? ⟨b,2,none⟩ = some v2:=by
 simp [World.cell?,h]
theorem edF_two {s : Syst} {l : List Ev} (hg : Tr.Gd s l l.length) (ho : Ok s) {x : Eg2} (h : x ∈ Tr.edF s l l.length) : ∃ i j : Nat,x = ((i : Int),(j : Int)) ∧ i < j ∧ j < l.length:=by
 obtain ⟨i,j,rfl⟩:=edF_nat s l _ x h
 have hRm : ∀ c,0 ≤ s.rooms.getD c 0:=fun c => by
  by_cases h : c < s.rooms.length
  ·have:=(ho.rm c h).1;omega
  ·rw [List.getD_eq_getElem?_getD,List.getElem?_eq_none (by omega)];exact Int.le_refl _
 have h2:=(Tr.edF_mem hg (Nat.le_refl _) hRm i j).1 h
 exact ⟨i,j,rfl,Tr.EL.lt h2.2,h2.1⟩
set_option maxRecDepth 100000 in
set_option maxHeartbeats 40000000 in
theorem ponward (s : Syst) (pa : Option Addr) (pc : Nat) (ra : Option Addr) (rc : Nat) (la : Option Addr) (lc : Nat) (l : List Ev) (w : World) (hs : SyI w s pa ra) (hl : EvI w la lc l) (ho : Ok s) (hg : Tr.Gd s l l.length) (hL : l.length ≤ 40000) :
  Calls Try.prog 48 #[.agg #[.slice pa s.progs.length pc,.slice ra s.rooms.length rc,.int .i64 s.groups,.int .i64 s.locks,.int .i64 s.cells,.slice la l.length lc,.int .i64 (Tr.rnC l : Int)]] w (fun e w' => ∃ (ed : List Eg2) (B g : Nat) (h0 h1 : Value) (vs : Bool → Nat → Value),e = .returned (.pointer (some ⟨g,0,none⟩)) ∧ Ord ed ∧ (∀ x,x ∈ ed ↔ x ∈ Tr.edF s l l.length) ∧ w.heap.size ≤ B ∧ OM w' B (fun x : Bool => if x = true then s.groups.toNat else l.length) (fun x : Bool => if x = true then h1 else h0) vs vs (fun s j => if s = true then wtA l (j : Int) l.length else tosE ed j) ∧ w'.heap[g]? = some (.cells #[.slice la l.length lc,h0,h1] 119 (0,0)) ∧ w.heap.size ≤ g ∧ Below w.heap.size w w'):=by
 obtain ⟨POST,hP⟩ : ∃ Q : Ending → World → Prop,Q = fun e w' => ∃ (ed : List Eg2) (B g : Nat) (h0 h1 : Value) (vs : Bool → Nat → Value),e = .returned (.pointer (some ⟨g,0,none⟩)) ∧ Ord ed ∧ (∀ x,x ∈ ed ↔ x ∈ Tr.edF s l l.length) ∧ w.heap.size ≤ B ∧ OM w' B (fun x : Bool => if x = true then s.groups.toNat else l.length) (fun x : Bool => if x = true then h1 else h0) vs vs (fun s j => if s = true then wtA l (j : Int) l.length else tosE ed j) ∧ w'.heap[g]? = some (.cells #[.slice la l.length lc,h0,h1] 119 (0,0)) ∧ w.heap.size ≤ g ∧ Below w.heap.size w w':=⟨_,rfl⟩
 have HPo : Hid (∀ ed : List Eg2,Ord ed → (∀ x,x ∈ ed ↔ x ∈ Tr.edF s l l.length) → ∀ (B g : Nat) (h0 h1 : Value) (vs : Bool → Nat → Value) (W : World),w.heap.size ≤ B → OM W B (fun x : Bool => if x = true then s.groups.toNat else l.length) (fun x : Bool => if x = true then h1 else h0) vs vs (fun s j => if s = true then wtA l (j : Int) l.length else tosE ed j) → W.heap[g]? = some (.cells #[.slice la l.length lc,h0,h1] 119 (0,0)) → w.heap.size ≤ g → Below w.heap.size w W → POST (.returned (.pointer (some ⟨g,0,none⟩))) W):=fun ed h1 h2 B g u0 u1 vs W h3 h4 h5 h6 h7 => by rw [hP];exact ⟨ed,B,g,u0,u1,vs,rfl,h1,h2,h3,h4,h5,h6,h7⟩
 rw [← hP]
 clear hP
 have hg64:=ho.g1
 have hg9:=hg
 have HEw:=TW.hide hl
 obtain ⟨K,hK⟩ : ∃ K : Nat,s.groups = (K : Int):=⟨s.groups.toNat,by omega⟩
 obtain ⟨N,hN⟩ : ∃ N,l.length = N:=⟨_,rfl⟩
 have HLk : Hid (∀ W,Below w.heap.size w W → Calls Try.prog 24 #[.agg #[.slice pa s.progs.length pc,.slice ra s.rooms.length rc,.int .i64 s.groups,.int .i64 s.locks,.int .i64 s.cells,.slice la l.length lc,.int .i64 (Tr.rnC l : Int)]] W (LnQ W s l)):=fun W hW => plinks s pa pc ra rc la lc l W (hs.below hW) (hl.below hW) ho hg hL
 have HKt : Hid (s.groups.toNat = K):=by show _ = _;rw [hK];rfl
 rw [HKt.out,hN] at HPo
 rw [hN,hK] at HLk
 rw [hN] at hL
 rw [hK] at hg64
 rw [hN,hK]
 have hA : Below w.heap.size w (w.alloc (.cells #[.slice pa s.progs.length pc,.slice ra s.rooms.length rc,.int .i64 (K : Int),.int .i64 s.locks,.int .i64 s.cells,.slice la N lc,.int .i64 (Tr.rnC l : Int)] 57)):=(Below.refl _ _).alloc (Nat.le_refl _) _
 have N1 : Hid ((w.alloc (.cells #[.slice pa s.progs.length pc,.slice ra s.rooms.length rc,.int .i64 (K : Int),.int .i64 s.locks,.int .i64 s.cells,.slice la N lc,.int .i64 (Tr.rnC l : Int)] 57)).heap[w.heap.size]? = some (.cells #[.slice pa s.progs.length pc,.slice ra s.rooms.length rc,.int .i64 (K : Int),.int .i64 s.locks,.int .i64 s.cells,.slice la N lc,.int .i64 (Tr.rnC l : Int)] 57 (0,0))):=heap_alloc_new w _
 have NB:=TW.hide hA
 clear hA
 go_enter Try.func48,Try.ntmps48
 refine wp_seq_k fun K hK => ?_
 have HK:=TW.hide hK
 clear hK
 go_wp2
 refine HK.out _ _ ?_
 clear HK K
 generalize w.alloc _ = X at *
 obtain ⟨i4,hi4,hz40,hz41,hz42⟩:=info_parts' slcinfo6
 refine wp_seq_k fun K2 hK2 => ?_
 have HX:=NB.out.size
 have HR : Hid (∀ (g : Nat) (h0 h1 : Value) (W : World) {u4 u5 u6 u7 u8 u9 u10 u11 u12 u13 u14 u15 u16 u17 u18 u19 u20 u21 u22 u23 u24 u25 u26 u27 u28 u29 u30 u31 u32 u33 u34 u35 u36 u37 u38 u39 u40 u41 u42 u43 u44 u45 u46 u47 u48 u49 u50 u51 u52 u53 u54 u55 u56 u57 u58 u59 u60 u61 u62 u63 u64 u65 u66 u67 u68 u69 u70 u71 u72 u73 u74 u75 u76 u77 : Value},OM W X.heap.size (fun x : Bool => if x = true then K else N) (fun x : Bool => if x = true then h1 else h0) (fun _ _ => .slice none 0 0) (fun _ _ => .slice none 0 0) (fun _ _ => []) → W.heap[g]? = some (.cells #[.slice la N lc,h0,h1] 119 (0,0)) → X.heap.size ≤ g → Below X.heap.size X W → K2 { tmps:=#[.agg #[.slice pa s.progs.length pc,.slice ra s.rooms.length rc,.int .i64 (K : Int),.int .i64 s.locks,.int .i64 s.cells,.slice la N lc,.int .i64 (Tr.rnC l : Int)],.pointer (some ⟨w.heap.size,0,none⟩),.pointer none,.pointer (some ⟨g,0,none⟩),u4,u5,u6,u7,u8,u9,u10,u11,u12,u13,u14,u15,u16,u17,u18,u19,u20,u21,u22,u23,u24,u25,u26,u27,u28,u29,u30,u31,u32,u33,u34,u35,u36,u37,u38,u39,u40,u41,u42,u43,u44,u45,u46,u47,u48,u49,u50,u51,u52,u53,u54,u55,u56,u57,u58,u59,u60,u61,u62,u63,u64,u65,u66,u67,u68,u69,u70,u71,u72,u73,u74,u75,u76,u77],defers:=[] } W):=by
  refine TW.hide ?_
  intro g h0 h1 W u4 u5 u6 u7 u8 u9 u10 u11 u12 u13 u14 u15 u16 u17 u18 u19 u20 u21 u22 u23 u24 u25 u26 u27 u28 u29 u30 u31 u32 u33 u34 u35 u36 u37 u38 u39 u40 u41 u42 u43 u44 u45 u46 u47 u48 u49 u50 u51 u52 u53 u54 u55 u56 u57 u58 u59 u60 u61 u62 u63 u64 u65 u66 u67 u68 u69 u70 u71 u72 u73 u74 u75 u76 u77 hm hgb hgB hb
  have HGB:=TW.hide hgB
  clear hgB
  have HM:=TW.hide hm
  have NG:=TW.hide hgb
  have NB2 : Hid (Below w.heap.size w W):=NB.out.trans (hb.mono HX)
  have N2:=TW.hide (blk_keep N1.out hb)
  obtain ⟨z0,z1,z2,z3,z4,z5,z6⟩:=cellsY7 N2.out
  have NX:=TW.hide hb
  have HWs : Hid (X.heap.size ≤ W.heap.size):=hb.size
  clear hm hgb hb
  refine hK2 _ _ ?_
  clear hK2
  refine wp_seq_k fun K3 hK3 => ?_
  have HK3:=TW.hide hK3
  clear hK3
  refine wp_seq_k fun K4 hK4 => ?_
  have HK4:=TW.hide hK4
  clear hK4
  go_wp2_with fail
  refine (HLk.out W NB2.out).mono ?_
  rintro e1 W1 ⟨v1,ed,rfl,hv1,hor,hme,hb⟩
  obtain ⟨ea,ec,rfl,_⟩:=EgR.of hv1
  have HOr:=TW.hide hor
  have HMe : Hid (∀ x,x ∈ ed ↔ x ∈ Tr.edF s l N):=by
   show ∀ x,_
   rw [← hN]
   exact hme
  obtain ⟨E,hE⟩ : ∃ E,ed.length = E:=⟨_,rfl⟩
  have HEd:=TW.hide hE
  rw [hE] at hv1 ⊢
  have hE9 : E ≤ 9223372036854775807:=by
   rcases hv1.2 with ⟨_,h0⟩ | ⟨_,cap,_,_,_,_,h1,h2,_⟩
   ·omega
   ·unfold maxLen at h2;omega
  have HTw : Hid (∀ x,x ∈ ed → ∃ f t : Nat,x = ((f : Int),(t : Int)) ∧ f < t ∧ t < N):=fun x hx => by
   obtain ⟨f,t,h1,h2,h3⟩:=edF_two hg9 ho ((hme x).1 hx)
   exact ⟨f,t,h1,h2,by omega⟩
  have HL1 : Hid (W1.ownsRow X.heap.size 35 2 (.slice ea E ec) E (edC ed)):=own_baseL hv1 HWs.out
  have HM1 : Hid (OM W1 X.heap.size (fun x : Bool => if x = true then K else N) (fun x : Bool => if x = true then h1 else h0) (fun _ _ => .slice none 0 0) (fun _ _ => .slice none 0 0) (fun s j => if s = true then [] else tosE (ed.take 0) j)):=by
   have e : (fun (s : Bool) (j : Nat) => if s = true then [] else tosE (ed.take 0) j) = (fun _ _ => []):=by funext s j;cases s <;> rfl
   rw [e]
   exact HM.out.below hb
  have NG1:=TW.hide (blk_keep NG.out hb)
  have NX1 : Hid (Below X.heap.size X W1):=NX.out.trans (hb.mono NX.out.size)
  clear hv1 hor hme hb HM NG NX NB2 N2 z0 z1 z2 z3 z4 z5 z6 hE HLk HWs
  go_wp2
  refine HK4.out _ _ ?_
  clear HK4 K4
  go_wp2
  go_loopw [23] (fun iv wr => ∃ (i : Nat) (vs : Bool → Nat → Value),i ≤ E ∧ iv = .int .i64 (i : Int) ∧ Hid (OM wr X.heap.size (fun x : Bool => if x = true then K else N) (fun x : Bool => if x = true then h1 else h0) vs vs (fun s j => if s = true then [] else tosE (ed.take i) j)) ∧ Hid (wr.heap[g]? = some (.cells #[.slice la N lc,h0,h1] 119 (0,0))) ∧ Hid (wr.ownsRow X.heap.size 35 2 (.slice ea E ec) E (edC ed)) ∧ Hid (Below X.heap.size X wr)) (fun iv wr => E - (intOf iv).toNat)
  case atStart => exact ⟨0,_,Nat.zero_le _,rfl,HM1,NG1,HL1,NX1⟩
  case round =>
   clear HM1 NG1 HL1 NX1
   obtain ⟨i,vs,hi,rfl,HM,NG,HL,NX⟩:=hrel
   by_cases hlt : i < E
   ·have HIo : Hid (i < ed.length):=by show _ < _;rw [HEd.out];exact hlt
    have qi1 : (i : Int) < (E : Int):=by omega
    have qi0 : (0 : Int) ≤ (i : Int):=by omega
    have HIL:=TW.hide hlt
    have hi41 : i + 1 ≤ 9223372036854775807:=by omega
    obtain ⟨f,t,hx,hft,htN⟩:=HTw.out (ed.getD i (0,0)) (by rw [List.getD_eq_getElem?_getD,List.getElem?_eq_getElem HIo.out];exact List.getElem_mem _)
    have h9:=HL.out
    rw [← HEd.out] at h9
    obtain ⟨gb,gcap,eg,_,hgn,_,hgc⟩:=CI.of h9 (by have:=HIo.out;omega)
    rw [HEd.out] at eg
    injection eg with eg1 _ eg3
    subst eg1 eg3
    obtain ⟨x0,x1⟩:=hgc.get hgn i HIo.out
    rw [hx] at x0 x1
    dsimp only at x0 x1
    have HX_:=TW.hide hx
    have HF : Hid (f < N):=Nat.lt_trans hft htN
    clear h9 hx hgc hgn hft htN hlt hi
    obtain ⟨wc,rfl⟩ : ∃ x,x = wr:=⟨_,rfl⟩
    refine wp_seq_k fun K1 hK1 => ?_
    have HK1:=TW.hide hK1
    clear hK1
    go_wp2
    refine HK1.out _ _ ?_
    clear HK1
    refine wp_seq_k fun K1 hK1 => ?_
    have HK1:=TW.hide hK1
    clear hK1
    go_wp2
    refine HK1.out _ _ ?_
    clear HK1
    refine wp_seq_k fun Kb hKb => ?_
    have HKb:=TW.hide hKb
    clear hKb
    refine wp_block ?_
    refine wp_seq_k fun K1 hK1 => ?_
    have HK1:=TW.hide hK1
    clear hK1
    go_wp2
    have hA_ : Below wc.heap.size wc (wc.alloc (.cells #[.int .i64 (f : Int),.int .i64 (t : Int)] 35)):=(Below.refl _ _).alloc (Nat.le_refl _) _
    have NK:=TW.hide (heap_alloc_new wc (.cells #[.int .i64 (f : Int),.int .i64 (t : Int)] 35))
    have HM2:=TW.hide (HM.out.below hA_)
    have NG2:=TW.hide (blk_keep NG.out hA_)
    have HL2:=TW.hide (own_belowI HL.out hA_)
    have NX2 : Hid (Below X.heap.size X _):=NX.out.trans (hA_.mono NX.out.size)
    clear HM NG HL NX hA_ x0 x1
    generalize wc.alloc _ = wk at *
    generalize wc.heap.size = gk at *
    refine HK1.out _ _ ?_
    clear HK1 K1
    have HSo : Hid (X.heap.size ≤ wk.heap.size):=NX2.out.size
    obtain ⟨hb0,hcap,eh,_,yh,_⟩:=HM2.out.hAt false f HF.out
    simp only [Bool.false_eq_true,if_false] at eh
    subst eh
    obtain ⟨sa,sc,es,_⟩:=HM2.out.rIs false f
    have HR2 : Hid (wk.ownsRow X.heap.size 3 1 (vs false f) (tosE (ed.take i) f).length ((tosE (ed.take i) f).map (Value.int .i64))):=HM2.out.fam.own (false,some f)
    simp only [Bool.false_eq_true,if_false] at es
    have hsl : (tosE (ed.take i) f).length ≤ 40000:=by
     have h1:=pw_len _ 0 (N : Int) (tosE_ord (HOr.out.sublist (List.take_sublist i ed)) f) (fun x hx => by
      obtain ⟨f2,t2,h2,h3,h4⟩:=HTw.out _ (List.mem_of_mem_take ((tosE_mem _ f x).1 hx))
      injection h2 with h5 h6
      omega)
     omega
    have HEnd : Hid (∀ Z u W5,Below wk.heap.size wk Z → (Z.heap[g]? = some (.cells #[.slice la N lc,.slice (some ⟨hb0,0,none⟩) N hcap,h1] 119 (0,0)) ∧ Z.heap[gk]? = some (.cells #[.int .i64 (f : Int),.int .i64 (t : Int)] 35 (0,0))) → W5.ownsRow X.heap.size 3 1 u ((tosE (ed.take i) f).length + 1) ((tosE (ed.take i) f).map (Value.int .i64) ++ [.int .i64 (t : Int)]) → Z.grownBy W5 (vs false f).ownBlock → (u.ownBlock = (vs false f).ownBlock ∨ u.ownBlock = some Z.heap.size) → (∃ ua uc,u = .slice ua ((tosE (ed.take i) f).length + 1) uc) ∧ ((W5.heap[g]? = some (.cells #[.slice la N lc,.slice (some ⟨hb0,0,none⟩) N hcap,h1] 119 (0,0)) ∧ W5.heap[gk]? = some (.cells #[.int .i64 (f : Int),.int .i64 (t : Int)] 35 (0,0))) ∧ ((W5.setCell ⟨hb0,f,none⟩ u).heap[g]? = some (.cells #[.slice la N lc,.slice (some ⟨hb0,0,none⟩) N hcap,h1] 119 (0,0)) ∧ (W5.setCell ⟨hb0,f,none⟩ u).heap[gk]? = some (.cells #[.int .i64 (f : Int),.int .i64 (t : Int)] 35 (0,0)))) ∧ W5.frozen? ⟨hb0,f,none⟩ = false ∧ (∃ z,W5.cell? ⟨hb0,f,none⟩ = some z) ∧ ((∃ vs',OM (W5.setCell ⟨hb0,f,none⟩ u) X.heap.size (fun x : Bool => if x = true then K else N) (fun x : Bool => if x = true then h1 else .slice (some ⟨hb0,0,none⟩) N hcap) vs' vs' (fun s j => if s = true then [] else tosE (ed.take (i + 1)) j)) ∧ (W5.setCell ⟨hb0,f,none⟩ u).heap[g]? = some (.cells #[.slice la N lc,.slice (some ⟨hb0,0,none⟩) N hcap,h1] 119 (0,0)) ∧ (W5.setCell ⟨hb0,f,none⟩ u).ownsRow X.heap.size 35 2 (.slice (some ⟨gb,0,none⟩) E ec) E (edC ed) ∧ Below X.heap.size X (W5.setCell ⟨hb0,f,none⟩ u))):=fun Z u W5 hZ hT q1 q2 q3 => by
     obtain ⟨a1,a2,a3,a4,a5,a6⟩:=OM.ends (Z:=Z) (W5:=W5) HM2.out false f HF.out (b:=hb0) (cap:=hcap) rfl (t : Int) hZ u q1 q2 q3
     have b1:=a2 g _ _ _ hT.1 (by decide) (by decide)
     have b2:=a2 gk _ _ _ hT.2 (by decide) (by decide)
     have b3 : (W5.setCell ⟨hb0,f,none⟩ u).ownsRow X.heap.size 35 2 (.slice (some ⟨gb,0,none⟩) E ec) E (edC ed):=own_keepZ (own_belowI HL2.out hZ) (fun p cs' fr hp => (a2 p cs' _ fr hp (by decide) (by decide)).2)
     refine ⟨a1,⟨⟨b1.1,b2.1⟩,b1.2,b2.2⟩,a3,a4,⟨_,a5.cong (fun s j => ?_)⟩,b1.2,b3,a6 X (NX2.out.trans (hZ.mono NX2.out.size)) (Nat.le_trans HSo.out hZ.size)⟩
     have ht : ed.take (i + 1) = ed.take i ++ [((f : Int),(t : Int))]:=by rw [take_one9 ed i HIo.out ((0 : Int),(0 : Int)),HX_.out]
     rw [ht]
     cases s with
     | true => rw [ups_other _ _ _ _ _ _ (by intro h;cases h.1)];rfl
     | false =>
      by_cases ej : j = f
      ·subst ej
       rw [ups_same,tosE_snoc]
       simp
      ·rw [ups_other _ _ _ _ _ _ (fun h => ej h.2),tosE_snoc]
       simp
       omega
    rw [es] at yh HR2 HEnd
    clear es
    obtain ⟨sl,hsl_⟩ : ∃ sl,(tosE (ed.take i) f).length = sl:=⟨_,rfl⟩
    rw [hsl_] at yh HR2 HEnd hsl
    clear hsl_
    have hf0 : (0 : Int) ≤ (f : Int):=by omega
    have hf1 : (f : Int) < (N : Int):=by have:=HF.out;omega
    refine wp_region_noPanic ?_
    refine RG.wp_region_L (fun Z => Below wk.heap.size wk Z) (fun Z => Z.heap[g]? = some (.cells #[.slice la N lc,.slice (some ⟨hb0,0,none⟩) N hcap,h1] 119 (0,0)) ∧ Z.heap[gk]? = some (.cells #[.int .i64 (f : Int),.int .i64 (t : Int)] 35 (0,0))) [17,19] (by kernel_rfl) ?_
    refine RG.wpL_any fun Yz79 hY => ?_
    have HBz79 : Hid (Below wk.heap.size wk Yz79):=by rw [hY];exact below_drewN (Below.refl _ _) 1
    clear hY
    have HTY:=TW.hide (And.intro (blk_keep NG2.out HBz79.out) (blk_keep NK.out HBz79.out))
    refine RG.wpL_take (fuel:=4) (a':=?Az79) [0,1,2,3,4,5,6,7,8,9,10,11,12,13,14,15] (by kernel_rfl) (by kernel_rfl) (fun _ _ _ _ _ h => h) HTY.out (fun _ => HBz79.out) ?rz79 ?_
    case rz79 =>
     iterate 3
      refine RG.RunsIf.weak (v:=?_) (by rfl) (by rfl) (fun Z hT => ?_) ?_
      rotate_left
      ·go_simp
       rfl
      simp only [Act.put,lpA,lpZ,lpS,lgT,lgZ,lgS]
     refine RG.RunsIf.weak (v:=.slice (some ⟨hb0,0,none⟩) N hcap) (by rfl) (by rfl) (fun Z hT => ?_) ?_
     ·obtain ⟨a0,a1,a2⟩:=cells3O hT.1;obtain ⟨k0,k1⟩:=cellsY2 hT.2
      go_simp
     simp only [Act.put,lpA,lpZ,lpS,lgT,lgZ,lgS]
     refine RG.RunsIf.weak (v:=?_) (by rfl) (by rfl) (fun Z hT => ?_) ?_
     rotate_left
     ·go_simp
      rfl
     simp only [Act.put,lpA,lpZ,lpS,lgT,lgZ,lgS]
     refine RG.RunsIf.weak (v:=.int .i64 (f : Int)) (by rfl) (by rfl) (fun Z hT => ?_) ?_
     ·obtain ⟨a0,a1,a2⟩:=cells3O hT.1;obtain ⟨k0,k1⟩:=cellsY2 hT.2
      go_simp
     simp only [Act.put,lpA,lpZ,lpS,lgT,lgZ,lgS]
     iterate 3
      refine RG.RunsIf.weak (v:=?_) (by rfl) (by rfl) (fun Z hT => ?_) ?_
      rotate_left
      ·go_simp
       rfl
      simp only [Act.put,lpA,lpZ,lpS,lgT,lgZ,lgS]
     refine RG.RunsIf.weak (v:=.slice (some ⟨hb0,0,none⟩) N hcap) (by rfl) (by rfl) (fun Z hT => ?_) ?_
     ·obtain ⟨a0,a1,a2⟩:=cells3O hT.1;obtain ⟨k0,k1⟩:=cellsY2 hT.2
      go_simp
     simp only [Act.put,lpA,lpZ,lpS,lgT,lgZ,lgS]
     refine RG.RunsIf.weak (v:=?_) (by rfl) (by rfl) (fun Z hT => ?_) ?_
     rotate_left
     ·go_simp
      rfl
     simp only [Act.put,lpA,lpZ,lpS,lgT,lgZ,lgS]
     refine RG.RunsIf.weak (v:=.int .i64 (f : Int)) (by rfl) (by rfl) (fun Z hT => ?_) ?_
     ·obtain ⟨a0,a1,a2⟩:=cells3O hT.1;obtain ⟨k0,k1⟩:=cellsY2 hT.2
      go_simp
     simp only [Act.put,lpA,lpZ,lpS,lgT,lgZ,lgS]
     refine RG.RunsIf.weak (v:=?_) (by rfl) (by rfl) (fun Z hT => ?_) ?_
     rotate_left
     ·go_simp
      rfl
     simp only [Act.put,lpA,lpZ,lpS,lgT,lgZ,lgS]
     refine RG.RunsIf.strong (v:=.slice sa sl sc) (by rfl) (by kernel_rfl) (by rfl) (fun Z hT hS => ?_) ?_
     ·obtain ⟨a0,a1,a2⟩:=cells3O (blk_keep NG2.out hS);obtain ⟨k0,k1⟩:=cellsY2 (blk_keep NK.out hS);have y3:=keepC hS yh
      go_simp
     simp only [Act.put,lpA,lpZ,lpS,lgT,lgZ,lgS]
     refine RG.RunsIf.weak (v:=?_) (by rfl) (by rfl) (fun Z hT => ?_) ?_
     rotate_left
     ·go_simp
      rfl
     simp only [Act.put,lpA,lpZ,lpS,lgT,lgZ,lgS]
     refine RG.RunsIf.weak (v:=.int .i64 (t : Int)) (by rfl) (by rfl) (fun Z hT => ?_) ?_
     ·obtain ⟨a0,a1,a2⟩:=cells3O hT.1;obtain ⟨k0,k1⟩:=cellsY2 hT.2
      go_simp
     simp only [Act.put,lpA,lpZ,lpS,lgT,lgZ,lgS]
     exact RG.RunsIf.nil
    refine RG.wpL_step (i:=16) (by kernel_rfl) (by rfl) (by rfl) (fun KX hK => ?_)
    have HK:=TW.hide hK
    clear hK
    go_simp
    have hAb : Below wk.heap.size wk (Yz79.alloc (.cells #[.int .i64 (t : Int)] 3)):=HBz79.out.alloc HBz79.out.size _
    have HAb:=TW.hide hAb
    have HQc : Hid (∀ j u,([.int .i64 (t : Int)] : List Value)[j]? = some u → (Yz79.alloc (.cells #[.int .i64 (t : Int)] 3)).cell? ((⟨Yz79.heap.size,0,none⟩ : Addr).add j) = some u):=cell_one_new _ _ _
    have HTb:=TW.hide (And.intro (blk_keep NG2.out HAb.out) (blk_keep NK.out HAb.out))
    have HRw:=TW.hide (own_belowI HR2.out HAb.out)
    refine HK.out _ _ HTb.out (fun _ => HAb.out) ?_
    clear HK KX hAb HBz79 HTY
    generalize Yz79.alloc _ = Yb at *
    generalize Yz79.heap.size = gq at *
    try simp only [Act.put,lpA,lpZ,lpS,lgT,lgZ,lgS]
    refine RG.wpL_late (i:=17) (by kernel_rfl) (by rfl) (by rfl) (by kernel_rfl) (fun KX hK => ?_)
    have HK:=TW.hide hK
    clear hK
    obtain ⟨i3,hi3,hz30,hz31,hz32⟩:=info_parts' intinfo
    refine wp_append_at _ _ 23 (by rfl) X.heap.size 3 i3 _ 1 8 Try.underlying23 hi3 hz30 hz31 hz32 rfl (by decide) (.slice sa sl sc) sl ((tosE (ed.take i) f).map (Value.int .i64)) (by rfl) HRw.out ⟨gq,0,none⟩ 1 1 [.int .i64 (t : Int)] (by rfl) rfl HQc.out (by simp [Value.oneCell']) (by unfold maxLen;omega) (by omega) (Nat.le_trans HSo.out HAb.out.size) ?_
    intro uu W5 hown5 hgr5 hat5
    obtain ⟨⟨ua,uc,rfl⟩,hT5,fz,⟨zz,cz⟩,hkm⟩:=HEnd.out Yb uu W5 HAb.out HTb.out hown5 hgr5 hat5
    have HKM:=TW.hide hkm
    have HT5:=TW.hide hT5
    clear hown5 hgr5 hat5 hkm hT5 HQc HRw hi3 hz30 hz31 hz32 HTb HAb
    refine HK.out _ _ HT5.out.1 ?_
    clear HK KX
    try simp only [Act.put,lpA,lpZ,lpS,lgT,lgZ,lgS]
    refine RG.wpL_take (fuel:=1) (a':=?Bz79) [18] (by kernel_rfl) (by kernel_rfl) (fun _ _ _ _ _ h => h) HT5.out.1 (fun h => by cases (show false = true from h)) ?sz79 ?_
    case sz79 =>
     refine RG.RunsIf.weak (v:=?_) (by rfl) (by rfl) (fun Z hT => ?_) ?_
     rotate_left
     ·go_simp
      rfl
     simp only [Act.put,lpA,lpZ,lpS,lgT,lgZ,lgS]
     exact RG.RunsIf.nil
    refine RG.wpL_late (i:=19) (by kernel_rfl) (by rfl) (by rfl) (by kernel_rfl) (fun KX hK => ?_)
    have HK:=TW.hide hK
    clear hK
    go_simp
    refine HK.out _ _ HT5.out.2 ?_
    clear HK KX cz fz HT5
    refine RG.wpL_done (by kernel_rfl) ?_ _
    refine NoPanic.normal ?_
    obtain ⟨⟨vs',hm5⟩,hg5,hl5,hx5⟩:=HKM.out
    have HM5:=TW.hide hm5
    have NG5:=TW.hide hg5
    have HL5:=TW.hide hl5
    have NX5:=TW.hide hx5
    clear hm5 hg5 hl5 hx5 HKM
    generalize World.setCell _ _ _ = wz at *
    refine HKb.out _ _ ?_
    go_wp2
    go_roundw
    case rel => exact ⟨i + 1,vs',HIL.out,by go_num,HM5,NG5,HL5,NX5⟩
    case measure => simp [intOf];have:=HIL.out;omega
   ·obtain rfl : E = i:=by omega
    have qk : ¬ (E : Int) < (E : Int):=by omega
    have HM6 : Hid (OM wr X.heap.size (fun x : Bool => if x = true then K else N) (fun x : Bool => if x = true then h1 else h0) vs vs (fun s j => if s = true then wtA l (j : Int) 0 else tosE ed j)):=HM.out.cong (fun s j => by
     rw [← HEd.out,List.take_length]
     cases s <;> simp [wtA])
    have HQ:=TW.hide (HPo.out ed HOr.out HMe.out)
    clear HM HL hlt hi HTw HEd HOr HMe HPo
    go_wp2
    refine HK3.out _ _ ?_
    clear HK3
    have N3:=TW.hide (blk_keep N1.out NX.out)
    obtain ⟨z0,z1,z2,z3,z4,z5,z6⟩:=cellsY7 N3.out
    refine wp_seq_k fun K5 hK5 => ?_
    have HK5:=TW.hide hK5
    clear hK5
    go_wp2
    clear z0 z1 z2 z3 z4 z5 z6 N3
    go_loopw [50] (fun iv wr => ∃ (k : Nat) (vs : Bool → Nat → Value),k ≤ N ∧ iv = .int .i64 (k : Int) ∧ Hid (OM wr X.heap.size (fun x : Bool => if x = true then K else N) (fun x : Bool => if x = true then h1 else h0) vs vs (fun s j => if s = true then wtA l (j : Int) k else tosE ed j)) ∧ Hid (wr.heap[g]? = some (.cells #[.slice la N lc,h0,h1] 119 (0,0))) ∧ Hid (Below X.heap.size X wr)) (fun iv wr => N - (intOf iv).toNat)
    case atStart => exact ⟨0,_,Nat.zero_le _,rfl,HM6,NG,NX⟩
    case round =>
     clear HM6 NG NX
     obtain ⟨k,vs,hk,rfl,HM,NG,NX⟩:=hrel
     by_cases hlt : k < N
     ·have qk1 : (k : Int) < (N : Int):=by omega
      have qk0 : (0 : Int) ≤ (k : Int):=by omega
      have hk41 : k + 1 ≤ 40000:=by omega
      obtain ⟨b,off,who,op,a,va2,sh,hla,hev,_,_,_,_,x0,x1,x2,x3,x4⟩:=(HEw.out.below (NB.out.trans (NX.out.mono NB.out.size))).get k (by rw [hN];exact hlt)
      subst hla
      have hfit:=hg9 k (by rw [hN];exact hlt)
      have hev' : l.getD k Tr.e0 = ⟨who,op,a,va2,sh⟩:=hev
      rw [hev'] at hfit
      have HGa : Hid (op = 11 → 0 ≤ a ∧ a < (K : Int)):=fun hop => by
       have:=hfit.a s.groups (by unfold Tr.mnC;dsimp only;rw [if_neg (by omega),if_neg (by omega),if_pos (by omega)])
       rw [hK] at this
       dsimp only at this
       omega
      have HLT:=TW.hide hlt
      have HEV:=TW.hide hev
      have hAl : Below wr.heap.size wr ((wr.alloc (.cells #[.int .i64 0,.int .i64 0,.int .i64 0,.int .i64 0,.bool false] 65)).setRow wr.heap.size #[.int .i64 who,.int .i64 op,.int .i64 a,.int .i64 va2,.bool sh]):=below_setRow ((Below.refl _ _).alloc (Nat.le_refl _) _) (Nat.le_refl _)
      have HM4:=TW.hide (HM.out.below hAl)
      have NG4:=TW.hide (blk_keep NG.out hAl)
      have NX4 : Hid (Below X.heap.size X ((wr.alloc (.cells #[.int .i64 0,.int .i64 0,.int .i64 0,.int .i64 0,.bool false] 65)).setRow wr.heap.size #[.int .i64 who,.int .i64 op,.int .i64 a,.int .i64 va2,.bool sh])):=NX.out.trans (hAl.mono NX.out.size)
      have NE4 : Hid (((wr.alloc (.cells #[.int .i64 0,.int .i64 0,.int .i64 0,.int .i64 0,.bool false] 65)).setRow wr.heap.size #[.int .i64 who,.int .i64 op,.int .i64 a,.int .i64 va2,.bool sh]).heap[wr.heap.size]? = some (.cells #[.int .i64 who,.int .i64 op,.int .i64 a,.int .i64 va2,.bool sh] 65 (0,0))):=setRow_heap _ _ _ _ _ _ (heap_alloc_new wr _)
      clear hlt hfit hev hev' hAl HM NG NX hk
      obtain ⟨wa,rfl⟩ : ∃ x,x = wr:=⟨_,rfl⟩
      refine wp_seq_k fun K1 hK1 => ?_
      have HK1:=TW.hide hK1
      clear hK1
      go_wp2
      refine HK1.out _ _ ?_
      clear HK1
      refine wp_seq_k fun K1 hK1 => ?_
      have HK1:=TW.hide hK1
      clear hK1
      go_wp2
      refine HK1.out _ _ ?_
      clear HK1
      refine wp_seq_k fun Kb hKb => ?_
      have HKb:=TW.hide hKb
      clear hKb
      refine wp_block ?_
      refine wp_seq_k fun K1 hK1 => ?_
      have HK1:=TW.hide hK1
      clear hK1
      go_wp2_with (first | (refine wpList_store_row (by rfl) 65 _ _ (by rfl) wa.heap.size #[.int .i64 who,.int .i64 op,.int .i64 a,.int .i64 va2,.bool sh] (by rfl) (by rfl) 65 _ (heap_alloc_new wa _) (by kernel_rfl) (by rfl) (by simp [Value.oneCell']) ?_;generalize World.setRow _ _ _ = wk at *;generalize wa.heap.size = gk at *) | fail)
      refine HK1.out _ _ ?_
      clear HK1 x0 x1 x2 x3 x4
      obtain ⟨k0,k1,k2,k3,k4⟩:=cellsY5 NE4.out
      by_cases h11 : op = 11
      ·subst h11
       obtain ⟨A,rfl⟩ : ∃ A : Nat,a = (A : Int):=⟨a.toNat,by have:=HGa.out rfl;omega⟩
       have HA : Hid (A < K):=by show _ < _;have:=HGa.out rfl;omega
       obtain ⟨hb0,hcap,eh,_,yh,_⟩:=HM4.out.hAt true A HA.out
       simp only [if_true] at eh
       subst eh
       obtain ⟨sa,sc,es,_⟩:=HM4.out.rIs true A
       have HR2 : Hid (wk.ownsRow X.heap.size 3 1 (vs true A) (wtA l (A : Int) k).length ((wtA l (A : Int) k).map (Value.int .i64))):=HM4.out.fam.own (true,some A)
       simp only [if_true] at es
       have hsl : (wtA l (A : Int) k).length ≤ 40000:=by have:=wtA_len l (A : Int) k;omega
       have HSo : Hid (X.heap.size ≤ wk.heap.size):=NX4.out.size
       have HEnd : Hid (∀ Z u W5,Below wk.heap.size wk Z → (Z.heap[g]? = some (.cells #[.slice (some ⟨b,off,none⟩) N lc,h0,.slice (some ⟨hb0,0,none⟩) K hcap] 119 (0,0)) ∧ Z.heap[gk]? = some (.cells #[.int .i64 who,.int .i64 11,.int .i64 (A : Int),.int .i64 va2,.bool sh] 65 (0,0))) → W5.ownsRow X.heap.size 3 1 u ((wtA l (A : Int) k).length + 1) ((wtA l (A : Int) k).map (Value.int .i64) ++ [.int .i64 (k : Int)]) → Z.grownBy W5 (vs true A).ownBlock → (u.ownBlock = (vs true A).ownBlock ∨ u.ownBlock = some Z.heap.size) → (∃ ua uc,u = .slice ua ((wtA l (A : Int) k).length + 1) uc) ∧ ((W5.heap[g]? = some (.cells #[.slice (some ⟨b,off,none⟩) N lc,h0,.slice (some ⟨hb0,0,none⟩) K hcap] 119 (0,0)) ∧ W5.heap[gk]? = some (.cells #[.int .i64 who,.int .i64 11,.int .i64 (A : Int),.int .i64 va2,.bool sh] 65 (0,0))) ∧ ((W5.setCell ⟨hb0,A,none⟩ u).heap[g]? = some (.cells #[.slice (some ⟨b,off,none⟩) N lc,h0,.slice (some ⟨hb0,0,none⟩) K hcap] 119 (0,0)) ∧ (W5.setCell ⟨hb0,A,none⟩ u).heap[gk]? = some (.cells #[.int .i64 who,.int .i64 11,.int .i64 (A : Int),.int .i64 va2,.bool sh] 65 (0,0)))) ∧ W5.frozen? ⟨hb0,A,none⟩ = false ∧ (∃ z,W5.cell? ⟨hb0,A,none⟩ = some z) ∧ ((∃ vs',OM (W5.setCell ⟨hb0,A,none⟩ u) X.heap.size (fun x : Bool => if x = true then K else N) (fun x : Bool => if x = true then .slice (some ⟨hb0,0,none⟩) K hcap else h0) vs' vs' (fun s j => if s = true then wtA l (j : Int) (k + 1) else tosE ed j)) ∧ (W5.setCell ⟨hb0,A,none⟩ u).heap[g]? = some (.cells #[.slice (some ⟨b,off,none⟩) N lc,h0,.slice (some ⟨hb0,0,none⟩) K hcap] 119 (0,0)) ∧ Below X.heap.size X (W5.setCell ⟨hb0,A,none⟩ u))):=fun Z u W5 hZ hT q1 q2 q3 => by
        obtain ⟨a1,a2,a3,a4,a5,a6⟩:=OM.ends (Z:=Z) (W5:=W5) HM4.out true A HA.out (b:=hb0) (cap:=hcap) rfl (k : Int) hZ u q1 q2 q3
        have b1:=a2 g _ _ _ hT.1 (by decide) (by decide)
        have b2:=a2 gk _ _ _ hT.2 (by decide) (by decide)
        refine ⟨a1,⟨⟨b1.1,b2.1⟩,b1.2,b2.2⟩,a3,a4,⟨_,a5.cong (fun s j => ?_)⟩,b1.2,a6 X (NX4.out.trans (hZ.mono NX4.out.size)) (Nat.le_trans HSo.out hZ.size)⟩
        have hev : Tr.ev l k = ⟨who,11,(A : Int),va2,sh⟩:=HEV.out
        cases s with
        | false => rw [ups_other _ _ _ _ _ _ (by intro h;cases h.1)];rfl
        | true =>
         by_cases ej : j = A
         ·subst ej
          rw [ups_same]
          show wtA l _ _ = wtA l _ _ ++ _
          exact wtA_yes l _ k ⟨by rw [hev],by rw [hev]⟩
         ·rw [ups_other _ _ _ _ _ _ (fun h => ej h.2)]
          exact wtA_no l _ k (fun h => by rw [hev] at h;have:=h.2;dsimp only at this;omega)
       rw [es] at yh HR2 HEnd
       clear es
       obtain ⟨sl,hsl_⟩ : ∃ sl,(wtA l (A : Int) k).length = sl:=⟨_,rfl⟩
       rw [hsl_] at yh HR2 HEnd hsl
       clear hsl_
       have hf0 : (0 : Int) ≤ (A : Int):=by omega
       have hf1 : (A : Int) < (K : Int):=by have:=HA.out;omega
       refine wp_seq_k fun K1 hK1 => ?_
       have HK1:=TW.hide hK1
       clear hK1
       go_wp2
       refine HK1.out _ _ ?_
       clear HK1
       refine wp_cond_true (by rfl) ?_
       refine wp_region_noPanic ?_
       refine RG.wp_region_L (fun Z => Below wk.heap.size wk Z) (fun Z => Z.heap[g]? = some (.cells #[.slice (some ⟨b,off,none⟩) N lc,h0,.slice (some ⟨hb0,0,none⟩) K hcap] 119 (0,0)) ∧ Z.heap[gk]? = some (.cells #[.int .i64 who,.int .i64 11,.int .i64 (A : Int),.int .i64 va2,.bool sh] 65 (0,0))) [16,18] (by kernel_rfl) ?_
       refine RG.wpL_any fun Yz80 hY => ?_
       have HBz80 : Hid (Below wk.heap.size wk Yz80):=by rw [hY];exact below_drewN (Below.refl _ _) 1
       clear hY
       have HTY:=TW.hide (And.intro (blk_keep NG4.out HBz80.out) (blk_keep NE4.out HBz80.out))
       refine RG.wpL_take (fuel:=4) (a':=?Az80) [0,1,2,3,4,5,6,7,8,9,10,11,12,13,14] (by kernel_rfl) (by kernel_rfl) (fun _ _ _ _ _ h => h) HTY.out (fun _ => HBz80.out) ?rz80 ?_
       case rz80 =>
        iterate 3
         refine RG.RunsIf.weak (v:=?_) (by rfl) (by rfl) (fun Z hT => ?_) ?_
         rotate_left
         ·go_simp
          rfl
         simp only [Act.put,lpA,lpZ,lpS,lgT,lgZ,lgS]
        refine RG.RunsIf.weak (v:=.slice (some ⟨hb0,0,none⟩) K hcap) (by rfl) (by rfl) (fun Z hT => ?_) ?_
        ·obtain ⟨a0,a1,a2⟩:=cells3O hT.1;obtain ⟨k0,k1,k2,k3,k4⟩:=cellsY5 hT.2
         go_simp
        simp only [Act.put,lpA,lpZ,lpS,lgT,lgZ,lgS]
        refine RG.RunsIf.weak (v:=?_) (by rfl) (by rfl) (fun Z hT => ?_) ?_
        rotate_left
        ·go_simp
         rfl
        simp only [Act.put,lpA,lpZ,lpS,lgT,lgZ,lgS]
        refine RG.RunsIf.weak (v:=.int .i64 (A : Int)) (by rfl) (by rfl) (fun Z hT => ?_) ?_
        ·obtain ⟨a0,a1,a2⟩:=cells3O hT.1;obtain ⟨k0,k1,k2,k3,k4⟩:=cellsY5 hT.2
         go_simp
        simp only [Act.put,lpA,lpZ,lpS,lgT,lgZ,lgS]
        iterate 3
         refine RG.RunsIf.weak (v:=?_) (by rfl) (by rfl) (fun Z hT => ?_) ?_
         rotate_left
         ·go_simp
          rfl
         simp only [Act.put,lpA,lpZ,lpS,lgT,lgZ,lgS]
        refine RG.RunsIf.weak (v:=.slice (some ⟨hb0,0,none⟩) K hcap) (by rfl) (by rfl) (fun Z hT => ?_) ?_
        ·obtain ⟨a0,a1,a2⟩:=cells3O hT.1;obtain ⟨k0,k1,k2,k3,k4⟩:=cellsY5 hT.2
         go_simp
        simp only [Act.put,lpA,lpZ,lpS,lgT,lgZ,lgS]
        refine RG.RunsIf.weak (v:=?_) (by rfl) (by rfl) (fun Z hT => ?_) ?_
        rotate_left
        ·go_simp
         rfl
        simp only [Act.put,lpA,lpZ,lpS,lgT,lgZ,lgS]
        refine RG.RunsIf.weak (v:=.int .i64 (A : Int)) (by rfl) (by rfl) (fun Z hT => ?_) ?_
        ·obtain ⟨a0,a1,a2⟩:=cells3O hT.1;obtain ⟨k0,k1,k2,k3,k4⟩:=cellsY5 hT.2
         go_simp
        simp only [Act.put,lpA,lpZ,lpS,lgT,lgZ,lgS]
        refine RG.RunsIf.weak (v:=?_) (by rfl) (by rfl) (fun Z hT => ?_) ?_
        rotate_left
        ·go_simp
         rfl
        simp only [Act.put,lpA,lpZ,lpS,lgT,lgZ,lgS]
        refine RG.RunsIf.strong (v:=.slice sa sl sc) (by rfl) (by kernel_rfl) (by rfl) (fun Z hT hS => ?_) ?_
        ·obtain ⟨a0,a1,a2⟩:=cells3O (blk_keep NG4.out hS);obtain ⟨k0,k1,k2,k3,k4⟩:=cellsY5 (blk_keep NE4.out hS);have y3:=keepC hS yh
         go_simp
        simp only [Act.put,lpA,lpZ,lpS,lgT,lgZ,lgS]
        refine RG.RunsIf.weak (v:=?_) (by rfl) (by rfl) (fun Z hT => ?_) ?_
        rotate_left
        ·go_simp
         rfl
        simp only [Act.put,lpA,lpZ,lpS,lgT,lgZ,lgS]
        exact RG.RunsIf.nil
       refine RG.wpL_step (i:=15) (by kernel_rfl) (by rfl) (by rfl) (fun KX hK => ?_)
       have HK:=TW.hide hK
       clear hK
       go_simp
       have hAb : Below wk.heap.size wk (Yz80.alloc (.cells #[.int .i64 (k : Int)] 3)):=HBz80.out.alloc HBz80.out.size _
       have HAb:=TW.hide hAb
       have HQc : Hid (∀ j u,([.int .i64 (k : Int)] : List Value)[j]? = some u → (Yz80.alloc (.cells #[.int .i64 (k : Int)] 3)).cell? ((⟨Yz80.heap.size,0,none⟩ : Addr).add j) = some u):=cell_one_new _ _ _
       have HTb:=TW.hide (And.intro (blk_keep NG4.out HAb.out) (blk_keep NE4.out HAb.out))
       have HRw:=TW.hide (own_belowI HR2.out HAb.out)
       refine HK.out _ _ HTb.out (fun _ => HAb.out) ?_
       clear HK KX hAb HBz80 HTY
       generalize Yz80.alloc _ = Yb at *
       generalize Yz80.heap.size = gq at *
       try simp only [Act.put,lpA,lpZ,lpS,lgT,lgZ,lgS]
       refine RG.wpL_late (i:=16) (by kernel_rfl) (by rfl) (by rfl) (by kernel_rfl) (fun KX hK => ?_)
       have HK:=TW.hide hK
       clear hK
       obtain ⟨i3,hi3,hz30,hz31,hz32⟩:=info_parts' intinfo
       refine wp_append_at _ _ 23 (by rfl) X.heap.size 3 i3 _ 1 8 Try.underlying23 hi3 hz30 hz31 hz32 rfl (by decide) (.slice sa sl sc) sl ((wtA l (A : Int) k).map (Value.int .i64)) (by rfl) HRw.out ⟨gq,0,none⟩ 1 1 [.int .i64 (k : Int)] (by rfl) rfl HQc.out (by simp [Value.oneCell']) (by unfold maxLen;omega) (by omega) (Nat.le_trans HSo.out HAb.out.size) ?_
       intro uu W5 hown5 hgr5 hat5
       obtain ⟨⟨ua,uc,rfl⟩,hT5,fz,⟨zz,cz⟩,hkm⟩:=HEnd.out Yb uu W5 HAb.out HTb.out hown5 hgr5 hat5
       have HKM:=TW.hide hkm
       have HT5:=TW.hide hT5
       clear hown5 hgr5 hat5 hkm hT5 HQc HRw hi3 hz30 hz31 hz32 HTb HAb
       refine HK.out _ _ HT5.out.1 ?_
       clear HK KX
       try simp only [Act.put,lpA,lpZ,lpS,lgT,lgZ,lgS]
       refine RG.wpL_take (fuel:=1) (a':=?Bz80) [17] (by kernel_rfl) (by kernel_rfl) (fun _ _ _ _ _ h => h) HT5.out.1 (fun h => by cases (show false = true from h)) ?sz80 ?_
       case sz80 =>
        refine RG.RunsIf.weak (v:=?_) (by rfl) (by rfl) (fun Z hT => ?_) ?_
        rotate_left
        ·go_simp
         rfl
        simp only [Act.put,lpA,lpZ,lpS,lgT,lgZ,lgS]
        exact RG.RunsIf.nil
       refine RG.wpL_late (i:=18) (by kernel_rfl) (by rfl) (by rfl) (by kernel_rfl) (fun KX hK => ?_)
       have HK:=TW.hide hK
       clear hK
       go_simp
       refine HK.out _ _ HT5.out.2 ?_
       clear HK KX cz fz HT5
       refine RG.wpL_done (by kernel_rfl) ?_ _
       refine NoPanic.normal ?_
       obtain ⟨⟨vs',hm5⟩,hg5,hx5⟩:=HKM.out
       have HM5:=TW.hide hm5
       have NG5:=TW.hide hg5
       have NX5:=TW.hide hx5
       clear hm5 hg5 hx5 HKM
       generalize World.setCell _ _ _ = wz at *
       refine HKb.out _ _ ?_
       go_wp2
       go_roundw
       case rel => exact ⟨k + 1,vs',HLT.out,by go_num,HM5,NG5,NX5⟩
       case measure => simp [intOf];have:=HLT.out;omega
      ·have HM5 : Hid (OM wk X.heap.size (fun x : Bool => if x = true then K else N) (fun x : Bool => if x = true then h1 else h0) vs vs (fun s j => if s = true then wtA l (j : Int) (k + 1) else tosE ed j)):=HM4.out.cong (fun s j => by
        have hev : Tr.ev l k = ⟨who,op,a,va2,sh⟩:=HEV.out
        cases s with
        | false => rfl
        | true => exact wtA_no l _ k (fun h => by rw [hev] at h;exact h11 h.1))
       have k11 : (op == 11) = false:=by simp [h11]
       clear h11 HM4
       go_wp2
       refine HKb.out _ _ ?_
       go_wp2
       go_roundw
       case rel => exact ⟨k + 1,vs,HLT.out,by go_num,HM5,NG4,NX4⟩
       case measure => simp [intOf];have:=HLT.out;omega
     ·obtain rfl : N = k:=by omega
      have qk2 : ¬ (N : Int) < (N : Int):=by omega
      have HR9:=TW.hide (HQ.out X.heap.size g h0 h1 vs wr NB.out.size HM.out NG.out (Nat.le_trans NB.out.size HGB.out) (NB.out.trans (NX.out.mono NB.out.size)))
      clear HM hlt hk HQ
      go_wp2
      refine HK5.out _ _ ?_
      go_wp2
      first | exact HR9.out | exact ⟨rfl,HR9.out⟩
 clear hK2
 refine wp_region_noPanic ?_
 refine RG.wp_region_L (fun Z => True) (fun Z => Below X.heap.size X Z) [] (by kernel_rfl) ?_
 refine RG.wpL_any fun Y hY => ?_
 have HTa : Hid (Below X.heap.size X Y):=by rw [hY];exact below_drewN (Below.refl _ _) 1
 clear hY
 refine RG.wpL_take (fuel:=5) (a':=?Aa) [0,1,2,3,4,6,7,8] (by kernel_rfl) (by kernel_rfl) (fun _ _ _ _ _ h => h) HTa.out (fun _ => trivial) ?ra ?_
 case ra =>
  refine RG.RunsIf.weak (v:=?_) (by rfl) (by rfl) (fun Z hT => ?_) ?_
  rotate_left
  ·go_simp
   rfl
  simp only [Act.put,lpA,lpZ,lpS,lgT,lgZ,lgS]
  refine RG.RunsIf.weak (v:=.slice la N lc) (by rfl) (by rfl) (fun Z hT => ?_) ?_
  ·obtain ⟨z0,z1,z2,z3,z4,z5,z6⟩:=cellsY7 (blk_keep N1.out hT)
   go_simp
  simp only [Act.put,lpA,lpZ,lpS,lgT,lgZ,lgS]
  refine RG.RunsIf.weak (v:=?_) (by rfl) (by rfl) (fun Z hT => ?_) ?_
  rotate_left
  ·go_simp
   rfl
  simp only [Act.put,lpA,lpZ,lpS,lgT,lgZ,lgS]
  refine RG.RunsIf.weak (v:=.slice la N lc) (by rfl) (by rfl) (fun Z hT => ?_) ?_
  ·obtain ⟨z0,z1,z2,z3,z4,z5,z6⟩:=cellsY7 (blk_keep N1.out hT)
   go_simp
  simp only [Act.put,lpA,lpZ,lpS,lgT,lgZ,lgS]
  iterate 3
   refine RG.RunsIf.weak (v:=?_) (by rfl) (by rfl) (fun Z hT => ?_) ?_
   rotate_left
   ·go_simp
    rfl
   simp only [Act.put,lpA,lpZ,lpS,lgT,lgZ,lgS]
  refine RG.RunsIf.weak (v:=.int .i64 (K : Int)) (by rfl) (by rfl) (fun Z hT => ?_) ?_
  ·obtain ⟨z0,z1,z2,z3,z4,z5,z6⟩:=cellsY7 (blk_keep N1.out hT)
   go_simp
  simp only [Act.put,lpA,lpZ,lpS,lgT,lgZ,lgS]
  exact RG.RunsIf.nil
 refine RG.wpL_pair (i:=5) (j:=9) (by kernel_rfl) (by rfl) (by rfl) (by rfl) (by rfl) (fun KX hK => ?_) (fun KX hK => ?_)
 ·have HK:=TW.hide hK
  clear hK
  refine wp_make_full Y _ _ 38 (by rfl) Y.heap.size 23 i4 (.slice none 0 0) 1 Try.underlying38 hi4 hz40 hz41 .i64 .i64 (N : Int) (N : Int) N (by rfl) (by rfl) rfl rfl (by rw [hz42];omega) (by unfold maxLen;omega) (Nat.le_refl _) ?_
  intro Va hown hgrow
  rw [made_rep _ rfl] at hown
  have H0b : Hid (Below Y.heap.size Y Va):=(Below.refl _ _).grown hgrow (Nat.le_refl _) (by intro k h;cases h)
  have HTb : Hid (Below X.heap.size X Va):=HTa.out.trans (H0b.out.mono HTa.out.size)
  have H0:=TW.hide hown
  refine HK.out _ _ HTb.out (fun _ => trivial) ?_
  clear HK KX hown hgrow
  try simp only [Act.put,lpA,lpZ,lpS,lgT,lgZ,lgS]
  refine RG.wpL_step (i:=9) (by kernel_rfl) (by rfl) (by rfl) (fun KX hK => ?_)
  have HK:=TW.hide hK
  clear hK
  refine wp_make_full Va _ _ 38 (by rfl) Va.heap.size 23 i4 (.slice none 0 0) 1 Try.underlying38 hi4 hz40 hz41 .i64 .i64 (K : Int) (K : Int) K (by rfl) (by rfl) rfl rfl (by rw [hz42];omega) (by unfold maxLen;omega) (Nat.le_refl _) ?_
  intro Vb hown hgrow
  rw [made_rep _ rfl] at hown
  have H1b : Hid (Below Va.heap.size Va Vb):=(Below.refl _ _).grown hgrow (Nat.le_refl _) (by intro k h;cases h)
  have HTc : Hid (Below X.heap.size X Vb):=HTb.out.trans (H1b.out.mono HTb.out.size)
  have H1:=TW.hide hown
  refine HK.out _ _ HTc.out (fun _ => trivial) ?_
  clear HK KX hown hgrow
  try simp only [Act.put,lpA,lpZ,lpS,lgT,lgZ,lgS]
  have HMo : Hid (OM Vb X.heap.size (fun x : Bool => if x = true then K else N) (fun x : Bool => if x = true then .slice (some ⟨Va.heap.size,0,none⟩) K K else .slice (some ⟨Y.heap.size,0,none⟩) N N) (fun _ _ => .slice none 0 0) (fun _ _ => .slice none 0 0) (fun _ _ => [])):=by
   have h9:=OM.start HTa.out.size H0b.out H0.out H1b.out H1.out false
   have e1 : (fun x : Bool => if x = false then N else K) = (fun x : Bool => if x = true then K else N):=by funext x;cases x <;> rfl
   have e2 : (fun x : Bool => if x = false then (Value.slice (some ⟨Y.heap.size,0,none⟩) N N) else .slice (some ⟨Va.heap.size,0,none⟩) K K) = (fun x : Bool => if x = true then .slice (some ⟨Va.heap.size,0,none⟩) K K else .slice (some ⟨Y.heap.size,0,none⟩) N N):=by funext x;cases x <;> rfl
   rw [e1,e2] at h9
   exact h9
  clear H0 H1 H0b H1b
  refine RG.wpL_take (fuel:=2) (a':=?AfVbfalse) [10] (by kernel_rfl) (by kernel_rfl) (fun _ _ _ _ _ h => h) HTc.out (fun _ => trivial) ?rfVbfalse ?_
  case rfVbfalse =>
   refine RG.RunsIf.weak (v:=.agg #[.slice la N lc,.slice (some ⟨Y.heap.size,0,none⟩) N N,.slice (some ⟨Va.heap.size,0,none⟩) K K]) (by rfl) (by rfl) (fun Z hT => ?_) ?_
   ·go_simp
   simp only [Act.put,lpA,lpZ,lpS,lgT,lgZ,lgS]
   exact RG.RunsIf.nil
  refine RG.wpL_step (i:=11) (by kernel_rfl) (by rfl) (by rfl) (fun KX hK => ?_)
  have HK:=TW.hide hK
  clear hK
  go_simp
  have HBf : Hid (Below Vb.heap.size Vb (Vb.alloc (.cells #[.slice la N lc,.slice (some ⟨Y.heap.size,0,none⟩) N N,.slice (some ⟨Va.heap.size,0,none⟩) K K] 119))):=(Below.refl _ _).alloc (Nat.le_refl _) _
  have HTf : Hid (Below X.heap.size X (Vb.alloc (.cells #[.slice la N lc,.slice (some ⟨Y.heap.size,0,none⟩) N N,.slice (some ⟨Va.heap.size,0,none⟩) K K] 119))):=HTc.out.trans (HBf.out.mono HTc.out.size)
  refine HK.out _ _ HTf.out (fun _ => trivial) ?_
  clear HK KX
  try simp only [Act.put,lpA,lpZ,lpS,lgT,lgZ,lgS]
  refine RG.wpL_take (fuel:=0) (a':=?AgVbfalse) [12] (by kernel_rfl) (by kernel_rfl) (fun _ _ _ _ _ h => h) HTf.out (fun _ => trivial) ?rgVbfalse ?_
  case rgVbfalse =>
   refine RG.RunsIf.weak (v:=?_) (by rfl) (by rfl) (fun Z hT => ?_) ?_
   rotate_left
   ·go_simp
    rfl
   simp only [Act.put,lpA,lpZ,lpS,lgT,lgZ,lgS]
   exact RG.RunsIf.nil
  refine RG.wpL_done (by kernel_rfl) ?_ _
  refine NoPanic.normal ?_
  exact HR.out _ _ _ _ (HMo.out.below HBf.out) (heap_alloc_new _ _) HTc.out.size HTf.out
 ·have HK:=TW.hide hK
  clear hK
  refine wp_make_full Y _ _ 38 (by rfl) Y.heap.size 23 i4 (.slice none 0 0) 1 Try.underlying38 hi4 hz40 hz41 .i64 .i64 (K : Int) (K : Int) K (by rfl) (by rfl) rfl rfl (by rw [hz42];omega) (by unfold maxLen;omega) (Nat.le_refl _) ?_
  intro Va hown hgrow
  rw [made_rep _ rfl] at hown
  have H0b : Hid (Below Y.heap.size Y Va):=(Below.refl _ _).grown hgrow (Nat.le_refl _) (by intro k h;cases h)
  have HTb : Hid (Below X.heap.size X Va):=HTa.out.trans (H0b.out.mono HTa.out.size)
  have H0:=TW.hide hown
  refine HK.out _ _ HTb.out (fun _ => trivial) ?_
  clear HK KX hown hgrow
  try simp only [Act.put,lpA,lpZ,lpS,lgT,lgZ,lgS]
  refine RG.wpL_step (i:=5) (by kernel_rfl) (by rfl) (by rfl) (fun KX hK => ?_)
  have HK:=TW.hide hK
  clear hK
  refine wp_make_full Va _ _ 38 (by rfl) Va.heap.size 23 i4 (.slice none 0 0) 1 Try.underlying38 hi4 hz40 hz41 .i64 .i64 (N : Int) (N : Int) N (by rfl) (by rfl) rfl rfl (by rw [hz42];omega) (by unfold maxLen;omega) (Nat.le_refl _) ?_
  intro Vb hown hgrow
  rw [made_rep _ rfl] at hown
  have H1b : Hid (Below Va.heap.size Va Vb):=(Below.refl _ _).grown hgrow (Nat.le_refl _) (by intro k h;cases h)
  have HTc : Hid (Below X.heap.size X Vb):=HTb.out.trans (H1b.out.mono HTb.out.size)
  have H1:=TW.hide hown
  refine HK.out _ _ HTc.out (fun _ => trivial) ?_
  clear HK KX hown hgrow
  try simp only [Act.put,lpA,lpZ,lpS,lgT,lgZ,lgS]
  have HMo : Hid (OM Vb X.heap.size (fun x : Bool => if x = true then K else N) (fun x : Bool => if x = true then .slice (some ⟨Y.heap.size,0,none⟩) K K else .slice (some ⟨Va.heap.size,0,none⟩) N N) (fun _ _ => .slice none 0 0) (fun _ _ => .slice none 0 0) (fun _ _ => [])):=by
   have h9:=OM.start HTa.out.size H0b.out H0.out H1b.out H1.out true
   have e1 : (fun x : Bool => if x = true then K else N) = (fun x : Bool => if x = true then K else N):=by funext x;cases x <;> rfl
   have e2 : (fun x : Bool => if x = true then (Value.slice (some ⟨Y.heap.size,0,none⟩) K K) else .slice (some ⟨Va.heap.size,0,none⟩) N N) = (fun x : Bool => if x = true then .slice (some ⟨Y.heap.size,0,none⟩) K K else .slice (some ⟨Va.heap.size,0,none⟩) N N):=by funext x;cases x <;> rfl
   rw [e1,e2] at h9
   exact h9
  clear H0 H1 H0b H1b
  refine RG.wpL_take (fuel:=2) (a':=?AfVbtrue) [10] (by kernel_rfl) (by kernel_rfl) (fun _ _ _ _ _ h => h) HTc.out (fun _ => trivial) ?rfVbtrue ?_
  case rfVbtrue =>
   refine RG.RunsIf.weak (v:=.agg #[.slice la N lc,.slice (some ⟨Va.heap.size,0,none⟩) N N,.slice (some ⟨Y.heap.size,0,none⟩) K K]) (by rfl) (by rfl) (fun Z hT => ?_) ?_
   ·go_simp
   simp only [Act.put,lpA,lpZ,lpS,lgT,lgZ,lgS]
   exact RG.RunsIf.nil
  refine RG.wpL_step (i:=11) (by kernel_rfl) (by rfl) (by rfl) (fun KX hK => ?_)
  have HK:=TW.hide hK
  clear hK
  go_simp
  have HBf : Hid (Below Vb.heap.size Vb (Vb.alloc (.cells #[.slice la N lc,.slice (some ⟨Va.heap.size,0,none⟩) N N,.slice (some ⟨Y.heap.size,0,none⟩) K K] 119))):=(Below.refl _ _).alloc (Nat.le_refl _) _
  have HTf : Hid (Below X.heap.size X (Vb.alloc (.cells #[.slice la N lc,.slice (some ⟨Va.heap.size,0,none⟩) N N,.slice (some ⟨Y.heap.size,0,none⟩) K K] 119))):=HTc.out.trans (HBf.out.mono HTc.out.size)
  refine HK.out _ _ HTf.out (fun _ => trivial) ?_
  clear HK KX
  try simp only [Act.put,lpA,lpZ,lpS,lgT,lgZ,lgS]
  refine RG.wpL_take (fuel:=0) (a':=?AgVbtrue) [12] (by kernel_rfl) (by kernel_rfl) (fun _ _ _ _ _ h => h) HTf.out (fun _ => trivial) ?rgVbtrue ?_
  case rgVbtrue =>
   refine RG.RunsIf.weak (v:=?_) (by rfl) (by rfl) (fun Z hT => ?_) ?_
   rotate_left
   ·go_simp
    rfl
   simp only [Act.put,lpA,lpZ,lpS,lgT,lgZ,lgS]
   exact RG.RunsIf.nil
  refine RG.wpL_done (by kernel_rfl) ?_ _
  refine NoPanic.normal ?_
  exact HR.out _ _ _ _ (HMo.out.below HBf.out) (heap_alloc_new _ _) HTc.out.size HTf.out
end LW
end Go.Proofs.Ythcndgnpmefefaa

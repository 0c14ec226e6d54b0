/-
 The program's way.
-/
import Derived.Test.YthcndgnpmefefaaWbAo
set_option linter.unusedVariables false
set_option linter.unusedSimpArgs false
namespace Go.Proofs.Ythcndgnpmefefaa
open Go.RowKit
namespace LW
open Mc
def WyR (s : Syst) (l : List Ev) (i j : Nat) (r : List Int) : Prop:=(j ≤ i ∧ r = []) ∨ (i < j ∧ ∃ (ed : List Eg2) (R : Nat → List Int) (Q : List Eg2) (h : Nat),Ord ed ∧ (∀ x,x ∈ ed ↔ x ∈ Tr.edF s l l.length) ∧ Rch l ed i j R Q h ∧ ((h = Q.length ∧ r = []) ∨ (h < Q.length ∧ qT Q h = (j : Int) ∧ WP Q (i : Int) (j : Int) r)))
theorem cell_two_new (w : World) (x y : Value) (t : TypeId) : ∀ j u,[x,y][j]? = some u → (w.alloc (.cells #[x,y] t)).cell? ((⟨w.heap.size,0,none⟩ : Addr).add j) = some u:=by
 intro j u hj
 match j,hj with
 | 0,hj =>
  simp at hj
  subst hj
  simp [Addr.add]
 | 1,hj =>
  simp at hj
  subst hj
  simp [Addr.add]
theorem OQ.keptM {w w' : World} {base bm : Nat} {Q : List Eg2} {e : TypeId} {size : Nat} {v : Value} {n : Nat} {xs : List Value} (h : OQ w base e size v n xs) (hm : ME w bm Q) (hg : w.grownBy w' (some bm)) : OQ w' base e size v n xs:=by
 obtain ⟨g,o,cap,rfl,_,_,_,cur,hc⟩:=h.is
 refine h.keep (fun q hq => ?_)
 injection hq with hq
 subst hq
 refine hg.block _ (blk_lt hc) (fun e2 => ?_)
 injection e2 with e2
 exact hm.ne hc e2.symm
theorem blk_keptM {w w' : World} {bm b : Nat} {Q : List Eg2} {cs : Array Value} {t : TypeId} {fr : Nat × Nat} (hb : w.heap[b]? = some (.cells cs t fr)) (hm : ME w bm Q) (hg : w.grownBy w' (some bm)) : w'.heap[b]? = some (.cells cs t fr):=by
 rw [hg.block _ (blk_lt hb) (fun e2 => by
  injection e2 with e2
  exact hm.ne hb e2.symm)]
 exact hb
theorem addr0 (g m : Nat) : (⟨g,0,none⟩ : Addr).add m = ⟨g,m,none⟩:=by unfold Addr.add;split <;> simp_all
theorem OQ.kept {w w' : World} {base B : Nat} {e t : TypeId} {size sz : Nat} {v v2 : Value} {n n2 : Nat} {xs ys : List Value} (h : OQ w base e size v n xs) (ho : w.ownsRow B t sz v2 n2 ys) (ht : t ≠ e) (hg : w.grownBy w' v2.ownBlock) : OQ w' base e size v n xs:=by
 obtain ⟨g,o,cap,rfl,_,_,_,cur,hc⟩:=h.is
 refine h.keep (fun q hq => ?_)
 injection hq with hq
 subst hq
 exact hg.block _ (blk_lt hc) (fun e2 => own_neB ho hc ht e2.symm)
theorem tos_len {s : Syst} {l : List Ev} {ed : List Eg2} (hg : Tr.Gd s l l.length) (ho : Ok s) (hor : Ord ed) (hme : ∀ x,x ∈ ed ↔ x ∈ Tr.edF s l l.length) (hL : l.length ≤ 40000) (t : Nat) : (tosE ed t).length ≤ 40000:=by
 have hRm : ∀ c,0 ≤ s.rooms.getD c 0:=fun c => by
  by_cases h : c < s.rooms.length
  ·have:=(ho.rm c h).1;omega
  ·rw [List.getD_eq_getElem?_getD,List.getElem?_eq_none (by omega)];exact Int.le_refl _
 have h1:=nodup_len l.length (tosE ed t) ((tosE_ord hor t).imp (fun h => by omega)) (fun x hx => by
  have h2:=(hme _).1 ((tosE_mem ed t x).1 hx)
  obtain ⟨f,y,h3⟩:=edF_nat s l _ _ h2
  injection h3 with h4 h5
  subst h5
  have h6:=((Tr.edF_mem hg (Nat.le_refl _) hRm t y).1 h2).1
  omega)
 omega
set_option maxRecDepth 100000 in
set_option maxHeartbeats 40000000 in
theorem phway (s : Syst) (pa : Option Addr) (pc : Nat) (ra : Option Addr) (rc : Nat) (la : Option Addr) (lc : Nat) (l : List Ev) (i j : Nat) (w : World) (hl : EvI w la lc l) (ho : Ok s) (hg : Tr.Gd s l l.length) (hL : l.length ≤ 40000) (hi : i < l.length) (hj : j < l.length) (hon : ∀ W,Below w.heap.size w W → Calls Try.prog 48 #[.agg #[.slice pa s.progs.length pc,.slice ra s.rooms.length rc,.int .i64 s.groups,.int .i64 s.locks,.int .i64 s.cells,.slice la l.length lc,.int .i64 (Tr.rnC l : Int)]] W (fun e w' => ∃ (ed : List Eg2) (B g : Nat) (h0 h1 : Value) (vs : Bool → Nat → Value),e = .returned (.pointer (some ⟨g,0,none⟩)) ∧ Ord ed ∧ (∀ x,x ∈ ed ↔ x ∈ Tr.edF s l l.length) ∧ W.heap.size ≤ B ∧ OM w' B (fun x : Bool => if x = true then s.groups.toNat else l.length) (fun x : Bool => if x = true then h1 else h0) vs vs (fun s j => if s = true then wtA l (j : Int) l.length else tosE ed j) ∧ w'.heap[g]? = some (.cells #[.slice la l.length lc,h0,h1] 119 (0,0)) ∧ W.heap.size ≤ g ∧ Below W.heap.size W w')) :
  Calls Try.prog 29 #[.agg #[.slice pa s.progs.length pc,.slice ra s.rooms.length rc,.int .i64 s.groups,.int .i64 s.locks,.int .i64 s.cells,.slice la l.length lc,.int .i64 (Tr.rnC l : Int)],.int .i64 (i : Int),.int .i64 (j : Int)] w (fun e w' => ∃ v r,e = .returned v ∧ WyR s l i j r ∧ r.length ≤ 40000 ∧ w'.ownsRow w.heap.size 3 1 v r.length (r.map (Value.int .i64)) ∧ Below w.heap.size w w'):=by
 obtain ⟨POST,hP⟩ : ∃ P : Ending → World → Prop,P = fun e w' => ∃ v r,e = .returned v ∧ WyR s l i j r ∧ r.length ≤ 40000 ∧ w'.ownsRow w.heap.size 3 1 v r.length (r.map (Value.int .i64)) ∧ Below w.heap.size w w':=⟨_,rfl⟩
 have HPo : Hid (∀ v r w',WyR s l i j r → r.length ≤ 40000 → w'.ownsRow w.heap.size 3 1 v r.length (r.map (Value.int .i64)) → Below w.heap.size w w' → POST (.returned v) w'):=fun v r w' q1 q2 q3 q4 => by rw [hP];exact ⟨v,r,rfl,q1,q2,q3,q4⟩
 rw [← hP]
 clear hP
 obtain ⟨N,hN⟩ : ∃ N,l.length = N:=⟨_,rfl⟩
 have HN:=TW.hide hN
 have HEv:=TW.hide hl
 have HOk:=TW.hide ho
 have HGd:=TW.hide hg
 have HLn:=TW.hide hL
 have HIn:=TW.hide hi
 have HJn:=TW.hide hj
 have HOn:=TW.hide hon
 have hi6 : i64 (i : Int):=i64_nat (by omega)
 have HI6:=TW.hide hi6
 rw [hN] at HOn ⊢
 clear hl ho hg hon hN hi6
 have hji : i ≤ 40000 ∧ j ≤ 40000:=by omega
 clear hL hi hj
 have hA : Below w.heap.size w (w.alloc (.cells #[.slice pa s.progs.length pc,.slice ra s.rooms.length rc,.int .i64 s.groups,.int .i64 s.locks,.int .i64 s.cells,.slice la N lc,.int .i64 (Tr.rnC l : Int)] 57)):=(Below.refl _ _).alloc (Nat.le_refl _) _
 have N1 : Hid ((w.alloc (.cells #[.slice pa s.progs.length pc,.slice ra s.rooms.length rc,.int .i64 s.groups,.int .i64 s.locks,.int .i64 s.cells,.slice la N lc,.int .i64 (Tr.rnC l : Int)] 57)).heap[w.heap.size]? = some (.cells #[.slice pa s.progs.length pc,.slice ra s.rooms.length rc,.int .i64 s.groups,.int .i64 s.locks,.int .i64 s.cells,.slice la N lc,.int .i64 (Tr.rnC l : Int)] 57 (0,0))):=heap_alloc_new w _
 have NB:=TW.hide hA
 clear hA
 go_enter Try.func29,Try.ntmps29
 refine wp_seq_k fun K hK => ?_
 have HK:=TW.hide hK
 clear hK
 go_wp2
 refine HK.out _ _ ?_
 clear HK K
 generalize w.alloc _ = X at *
 by_cases hij : j ≤ i
 ·have qij : (i : Int) ≥ (j : Int):=by omega
  have HR9:=TW.hide (HPo.out (.slice none 0 0) [] X (.inl ⟨hij,rfl⟩) (by decide) (World.ownsRow_nil _ _ _ _) NB.out)
  clear hij HPo
  go_wp2
  first | exact HR9.out | exact ⟨rfl,HR9.out⟩
 ·have qij : ¬ (i : Int) ≥ (j : Int):=by omega
  have HIJ : Hid (i < j):=Nat.lt_of_not_le hij
  clear hij
  obtain ⟨z0,z1,z2,z3,z4,z5,z6⟩:=cellsY7 N1.out
  refine wp_seq_k fun K1 hK1 => ?_
  have HK1:=TW.hide hK1
  clear hK1
  go_wp2
  refine HK1.out _ _ ?_
  clear HK1 qij
  refine wp_seq_k fun K2 hK2 => ?_
  have HK2:=TW.hide hK2
  clear hK2
  go_wp2_with fail
  refine (HOn.out X NB.out).mono ?_
  rintro e1 W1 ⟨ed,B,g,h0,h1,vs,rfl,hor,hme,hB,hm,hbx,hgB,hb⟩
  have HBe : Hid (Below w.heap.size w W1):=NB.out.trans (hb.mono NB.out.size)
  have HNw : Hid (w.heap.size ≤ W1.heap.size):=HBe.out.size
  have HBB : Hid (w.heap.size ≤ B):=Nat.le_trans NB.out.size hB
  have HBW : Hid (B ≤ W1.heap.size):=by
   have hiN : i < N:=by rw [← HN.out];exact HIn.out
   obtain ⟨b9,c9,e9,hb9,_⟩:=hm.hAt false i hiN
   have h9 : b9 < W1.heap.size:=hm.fam.lt (false,none) b9 (by
    show Value.ownBlock _ = _
    rw [show (fO (fun x : Bool => if x = true then s.groups.toNat else N) (fun x : Bool => if x = true then h1 else h0) vs vs (fun (s : Bool) (j : Nat) => if s = true then wtA l (j : Int) N else tosE ed j) (false,none)).val = _ from e9]
    rfl)
   exact Nat.le_trans hb9 (Nat.le_of_lt h9)
  have HOr:=TW.hide hor
  have HMe : Hid (∀ x,x ∈ ed ↔ x ∈ Tr.edF s l l.length):=by
   show ∀ x,_
   rw [HN.out]
   exact hme
  obtain ⟨R0,hR0⟩ : ∃ R : Nat → List Int,R = fun a : Nat => wtA l (a : Int) N:=⟨_,rfl⟩
  have HK0 : Hid (OM W1 B (fun x : Bool => if x = true then s.groups.toNat else N) (fun x : Bool => if x = true then h1 else h0) vs vs (fun (s : Bool) (j : Nat) => if s = true then R0 j else tosE ed j)):=by
   rw [hR0]
   exact hm
  obtain ⟨K,hK⟩ : ∃ K,s.groups.toNat = K:=⟨_,rfl⟩
  have HKg:=TW.hide hK
  rw [hK] at HK0
  have NGb:=TW.hide hbx
  have HGB:=TW.hide hgB
  have HRc : Hid (Rch l ed i j R0 [((i : Int),(i : Int))] 0):=by
   show Rch _ _ _ _ _ _ _
   rw [hR0,← HN.out]
   exact Rch.start l ed i j
  clear hor hme hB hm hbx hgB hb hR0 hK N1 NB z0 z1 z2 z3 z4 z5 z6 HOn
  go_wp2
  refine HK2.out _ _ ?_
  clear HK2
  refine wp_seq_k fun K4 hK4 => ?_
  have HK4:=TW.hide hK4
  clear hK4
  go_wp2
  refine HK4.out _ _ ?_
  clear HK4
  have hb2 : Below W1.heap.size W1 (W1.alloc (.cells #[.int .i64 (i : Int),.int .i64 (i : Int)] 35)):=(Below.refl _ _).alloc (Nat.le_refl _) _
  have NS2:=TW.hide (heap_alloc_new W1 (.cells #[.int .i64 (i : Int),.int .i64 (i : Int)] 35))
  have NG2:=TW.hide (blk_keep NGb.out hb2)
  have HM2:=TW.hide (HK0.out.below hb2)
  have HB2 : Hid (Below w.heap.size w (W1.alloc (.cells #[.int .i64 (i : Int),.int .i64 (i : Int)] 35))):=HBe.out.trans (hb2.mono HNw.out)
  have HS2 : Hid (W1.heap.size < (W1.alloc (.cells #[.int .i64 (i : Int),.int .i64 (i : Int)] 35)).heap.size):=by show _ < _;simp
  clear hb2 NGb HK0 HBe
  have HEvB : Hid (∀ W,Below w.heap.size w W → EvI W la lc l):=fun W h => HEv.out.below h
  clear HEv
  generalize w.heap.size = gw at *
  generalize W1.heap.size = gs at *
  generalize W1.alloc _ = W2 at *
  have hbm2 : Below W2.heap.size W2 (W2.alloc (.map #[] 0)):=(Below.refl _ _).alloc (Nat.le_refl _) _
  obtain ⟨s0,s1⟩:=cellsQ2 (blk_keep NS2.out hbm2)
  clear hbm2
  have hmm:=@run_makeMap Try.prog
  refine wp_seq_k fun K5 hK5 => ?_
  have HK5:=TW.hide hK5
  clear hK5
  go_wp2_with (first | (refine wpList_first_ed _ rfl _ _ _ rfl W2.heap.size (ME.made W2) rfl (i : Int) (i : Int) rfl rfl HI6.out ?_;intro w3 hme3 hgr3) | fail)
  refine HK5.out _ _ ?_
  clear HK5
  clear hmm s0 s1
  have hb3 : Below W2.heap.size W2 w3:=((Below.refl W2.heap.size W2).alloc (Nat.le_refl _) (.map #[] 0)).grown hgr3 (by simp) (fun q hq => by injection hq with hq;omega)
  have NS3:=TW.hide (blk_keep NS2.out hb3)
  have NG3:=TW.hide (blk_keep NG2.out hb3)
  have HM3:=TW.hide (HM2.out.below hb3)
  have HE3:=TW.hide hme3
  have HS3 : Hid (gs < w3.heap.size):=Nat.lt_of_lt_of_le HS2.out hb3.size
  have hgw2 : gw ≤ W2.heap.size:=Nat.le_trans HNw.out (Nat.le_of_lt HS2.out)
  have HB3 : Hid (Below gw w w3):=HB2.out.trans (hb3.mono hgw2)
  have HBm : Hid (gs < W2.heap.size):=HS2.out
  clear hb3 hgr3 hme3 NS2 NG2 HM2 HS2 HB2 hgw2
  generalize W2.heap.size = bm at *
  obtain ⟨s0,s1⟩:=cellsQ2 NS3.out
  refine wp_seq_k fun K6 hK6 => ?_
  have HK6:=TW.hide hK6
  clear hK6
  go_wp2
  refine HK6.out _ _ ?_
  clear HK6 s0 s1
  have hb4 : Below w3.heap.size w3 (w3.alloc (.cells #[.int .i64 (i : Int),.int .i64 (i : Int)] 35)):=(Below.refl _ _).alloc (Nat.le_refl _) _
  have NS4:=TW.hide (blk_keep NS3.out hb4)
  have NG4:=TW.hide (blk_keep NG3.out hb4)
  have HM4:=TW.hide (HM3.out.below hb4)
  have HE4:=TW.hide (HE3.out.below hb4)
  have HB4 : Hid (Below gw w (w3.alloc (.cells #[.int .i64 (i : Int),.int .i64 (i : Int)] 35))):=HB3.out.trans (hb4.mono (Nat.le_trans HNw.out (Nat.le_of_lt HS3.out)))
  have HO4 : Hid (OQ (w3.alloc (.cells #[.int .i64 (i : Int),.int .i64 (i : Int)] 35)) (gs + 1) 35 2 (.slice (some ⟨w3.heap.size,0,none⟩) 1 1) 1 [.int .i64 (i : Int),.int .i64 (i : Int)]):=OQ.ofAlloc [.int .i64 (i : Int),.int .i64 (i : Int)] 1 HS3.out (by decide) rfl
  clear hb4 NS3 NG3 HM3 HE3 HB3 HS3
  generalize w3.heap.size = gq0 at *
  generalize w3.alloc _ = W4 at *
  refine wp_seq_k fun K7 hK7 => ?_
  have HK7:=TW.hide hK7
  clear hK7
  go_wp2
  go_loopg [10] (N + 1) (fun k qv wr => ∃ (R : Nat → List Int) (Q : List Eg2) (h : Nat) (vs : Bool → Nat → Value),Hid (h + k = N + 1) ∧ Hid (Rch l ed i j R Q h) ∧ Hid (OQ wr (gs + 1) 35 2 qv (Q.length - h) (edC (Q.drop h))) ∧ Hid (ME wr bm Q) ∧ Hid (OM wr B (fun x : Bool => if x = true then K else N) (fun x : Bool => if x = true then h1 else h0) vs vs (fun (s : Bool) (j : Nat) => if s = true then R j else tosE ed j)) ∧ Hid (wr.heap[g]? = some (.cells #[.slice la N lc,h0,h1] 119 (0,0))) ∧ Hid (wr.heap[gs]? = some (.cells #[.int .i64 (i : Int),.int .i64 (i : Int)] 35 (0,0))) ∧ Hid (Below gw w wr))
  case atStart => exact ⟨R0,[((i : Int),(i : Int))],0,vs,TW.hide (by omega),HRc,HO4,HE4,HM4,NG4,NS4,HB4⟩
  case round =>
   clear HRc HO4 HE4 HM4 NG4 NS4 HB4
   obtain ⟨R,Q,h,vs,HH,HRc,HO,HE,HM,NG,NS,HB⟩:=hrel
   rename_i J J2 hJ hJ2
   have HQI:=TW.hide (HRc.out.inv HGd.out HOk.out HMe.out HIn.out)
   have HQl : Hid (Q.length ≤ N):=by
    have:=HQI.out.len
    show _ ≤ _
    rw [← HN.out]
    exact this
   have hhl:=HQI.out.hl
   obtain ⟨L,hL⟩ : ∃ L,Q.length - h = L:=⟨_,rfl⟩
   rw [hL] at HO
   obtain ⟨gq,oq,cap,eq_,hgq,hLc,hcm,hcur⟩:=HO.out.is
   subst eq_
   by_cases h0 : L = 0
   ·subst h0
    have HR9:=TW.hide (HPo.out (.slice none 0 0) [] wr (.inr ⟨HIJ.out,ed,R,Q,h,HOr.out,HMe.out,HRc.out,.inl ⟨by omega,rfl⟩⟩) (by decide) (World.ownsRow_nil _ _ _ _) HB.out)
    clear HPo hL hhl hgq hLc hcm hcur
    go_wp2
    refine HK7.out _ _ ?_
    go_wp2
    first | exact HR9.out | exact ⟨rfl,HR9.out⟩
   ·obtain ⟨n,rfl⟩ : ∃ n,L = n + 1:=⟨L - 1,by omega⟩
    have hlt : h < Q.length:=by omega
    obtain ⟨t,ht,htl⟩:=HQI.out.lt _ (qT_mem Q h hlt)
    have HT : Hid (qT Q h = (t : Int)):=ht
    have HTl : Hid (t < l.length):=htl
    have qc : wr.cell? ⟨gq,oq + 1,none⟩ = some (.int .i64 (t : Int)):=by
     refine HO.out.cells 1 _ ?_
     have h9:=(edC_atQ (Q.drop h) 0 (by rw [List.length_drop];omega)).2
     rw [Nat.zero_mul,Nat.zero_add] at h9
     rw [h9,← ht]
     unfold qT
     rw [List.getD_eq_getElem?_getD,List.getElem?_drop,List.getD_eq_getElem?_getD,Nat.add_zero]
    have hxd : (edC (Q.drop h)).drop 2 = edC (Q.drop (h + 1)):=by
     rw [edC_drop,edC_drop,List.drop_drop,Nat.add_mul,Nat.one_mul]
    have HOt1 : Hid (cap = 1 → OQ wr (gs + 1) 35 2 (.slice (some ⟨gq,oq,none⟩) n (cap - 1)) n (edC (Q.drop (h + 1)))):=fun hc => by
     have h9:=HO.out.tail
     rw [hxd,if_pos hc] at h9
     exact h9
    have HOt2 : Hid (¬ cap = 1 → OQ wr (gs + 1) 35 2 (.slice (some ⟨gq,oq + 2,none⟩) n (cap - 1)) n (edC (Q.drop (h + 1)))):=fun hc => by
     have h9:=HO.out.tail
     rw [hxd,if_neg hc] at h9
     exact h9
    clear hxd
    have HLt : Hid (h < Q.length):=hlt
    have HL1 : Hid (Q.length - (h + 1) = n):=by show _ = _;omega
    have hc1 : 1 ≤ cap:=by omega
    have hn64 : n ≤ 40000:=by
     have h8:=HQl.out
     have h9:=HLn.out
     have h7:=HN.out
     omega
    clear hlt ht htl HO hL hhl h0 hcur
    refine wp_seq_k fun Ka hKa => ?_
    have HKa:=TW.hide hKa
    clear hKa
    go_wp2
    refine HKa.out _ _ ?_
    clear HKa
    refine wp_block ?_
    refine wp_seq_k fun Kb hKb => ?_
    have HKb:=TW.hide hKb
    clear hKb
    go_wp2
    refine HKb.out _ _ ?_
    clear HKb qc
    refine wp_seq_k fun Kc hKc => ?_
    have HKc:=TW.hide hKc
    clear hKc
    generalize hfr : Act.mk _ _ = fr
    have HC : Hid (∀ A : Option Addr,OQ wr (gs + 1) 35 2 (.slice A n (cap - 1)) n (edC (Q.drop (h + 1))) → Kc (((fr.put (some 37) (.slice (some ⟨gq,oq,none⟩) (n + 1) cap)).put (some 38) (.slice A n (cap - 1))).put (some 10) (.slice A n (cap - 1))) wr):=by
     intro A hA
     have HO:=TW.hide hA
     rw [← hfr]
     clear hA hfr fr HOt1 HOt2
     simp only [Act.put,List.setIfInBounds_toArray,List.set_cons_zero,List.set_cons_succ,List.getElem_toArray,List.getElem_cons_zero,List.getElem_cons_succ]
     refine HKc.out _ _ ?_
     clear HKc
     have HQb : Hid (QB Q (i : Int)):=HQI.out.qb HLn.out HIn.out
     have hgw : gw ≤ wr.heap.size:=Nat.le_trans HNw.out (Nat.le_of_lt (blk_lt NS.out))
     have HGw : Hid (gw ≤ wr.heap.size):=hgw
     clear hgw
     by_cases htj : t = j
     ·subst htj
      have HMk : Hid ((t : Int) ∈ kn Q):=by
       show _ ∈ _
       rw [← HT.out]
       exact qT_mem Q h HLt.out
      have HR9 : Hid (∀ v r W9,WP Q (i : Int) (t : Int) r → r.length ≤ 40000 → W9.ownsRow wr.heap.size 3 1 v r.length (r.map (Value.int .i64)) → Below wr.heap.size wr W9 → POST (.returned v) W9):=fun v r W9 q1 q2 q3 q4 => HPo.out v r W9 (.inr ⟨HIJ.out,ed,R,Q,h,HOr.out,HMe.out,HRc.out,.inr ⟨HLt.out,HT.out,q1⟩⟩) q2 (own_baseL q3 HGw.out) (HB.out.trans (q4.mono HGw.out))
      obtain ⟨s0,s1⟩:=cellsQ2 NS.out
      clear HPo
      go_wp2_with fail
      refine (pback bm Q (i : Int) (t : Int) wr HE.out HQb.out HMk.out).mono ?_
      rintro e9 W9 ⟨v9,r9,rfl,hw9,hl9,ho9,hb9⟩
      have HR8:=TW.hide (HR9.out v9 r9 W9 hw9 hl9 ho9 hb9)
      obtain ⟨u9a,u9c,e9⟩:=own_openE ho9
      subst e9
      clear HR9 hw9 hl9 ho9 hb9 s0 s1
      go_wp2
      first | exact HR8.out | exact ⟨rfl,HR8.out⟩
     ·have hne : ¬ (t : Int) = (j : Int):=by omega
      have HTj : Hid (qT Q h ≠ (j : Int)):=by
       show _ ≠ _
       rw [HT.out]
       exact hne
      clear htj
      have hte : (qT Q h).toNat = t:=by rw [HT.out];rfl
      have hroR:=HQI.out.rows HLn.out
      have htN : t < N:=by rw [← HN.out];exact HTl.out
      have hEw : EvI wr la lc l:=HEvB.out wr HB.out
      have hA : (Tr.ev l t).op = 10 → 0 ≤ (Tr.ev l t).a ∧ (Tr.ev l t).a < (K : Int):=fun h10 => by
       have hfit : Tr.FitE s (l.take t) (Tr.ev l t):=HGd.out t HTl.out
       have h9:=hfit.a s.groups (by unfold Tr.mnC;rw [if_neg (by rw [h10];decide),if_neg (by rw [h10];decide),if_pos (by rw [h10];decide)])
       have h8:=HKg.out
       omega
      have hlt2 : (tosE ed t).length ≤ 40000:=tos_len HGd.out HOk.out HOr.out HMe.out HLn.out t
      have hxl:=nxL_len (l:=l) (R:=R) hlt2 hroR.2
      have HXm : Hid (∀ x,x ∈ nxL l ed R t → i64 x):=fun x hx => by
       obtain ⟨y,e,hy,_⟩:=(nxL_mem HGd.out HOk.out HMe.out HQI.out.rw HTl.out).1 x hx
       rw [e]
       exact i64_nat (by have:=HLn.out;omega)
      have HRs : Hid (Rch l ed i j (nxR l R t) (nxQ (t : Int) Q (nxL l ed R t)) (h + 1)):=by
       have h9:=HRc.out.step HLt.out HTj.out
       rw [hte,HT.out] at h9
       exact h9
      have HNx:=TW.hide (pnext B g K N la lc l ed R h0 h1 vs t wr hEw HN.out NG.out HM.out htN hA hroR.1 hroR.2 hlt2 (Nat.le_trans HBW.out (Nat.le_of_lt (blk_lt NS.out))))
      clear hte hroR htN hEw hA hlt2
      generalize nxL l ed R t = xs at *
      have HXl : Hid (xs.length ≤ 80000):=hxl
      clear hxl
      generalize nxR l R t = R5 at *
      have HOh : Hid (wr.ownsRow B 23 1 h1 K (rwI K (vs true))):=HM.out.fam.own (true,none)
      refine wp_seq_k fun Kd hKd => ?_
      have HKd:=TW.hide hKd
      clear hKd
      go_wp2
      refine HKd.out _ _ ?_
      clear HKd
      go_wp2_with fail
      refine HNx.out.mono ?_
      rintro e5 W5 ⟨v5,vs5,rfl,hox,hom,hgr⟩
      have HB5 : Hid (Below gw w W5):=HB.out.grown hgr HGw.out (fun q hq => Nat.le_trans HBB.out (own_blkI HOh.out q hq))
      have NG5:=TW.hide (own_keepQ NG.out HOh.out (by decide) hgr)
      have NS5:=TW.hide (own_keepQ NS.out HOh.out (by decide) hgr)
      have HE5 : Hid (ME W5 bm Q):=HE.out.keep (hgr.block _ HE.out.lt (HE.out.neOwn HOh.out))
      have HO5:=TW.hide (HO.out.kept HOh.out (by decide) hgr)
      have HM5:=TW.hide hom
      obtain ⟨xn,hxn⟩ : ∃ xn,xs.length = xn:=⟨_,rfl⟩
      have HXn:=TW.hide hxn
      rw [hxn] at hox
      have HX5:=TW.hide hox
      have hxl : xn ≤ 80000:=by rw [← hxn];exact HXl.out
      obtain ⟨va,vc,e5⟩:=own_openE hox
      subst e5
      clear hox hom hgr hxn HNx HO HE HM NG NS HB HOh hne
      go_wp2
      go_loopw [10,50] (fun qv iv wk => ∃ m : Nat,m ≤ xn ∧ iv = .int .i64 (m : Int) ∧ Hid (OQ wk (gs + 1) 35 2 qv ((nxQ (t : Int) Q (xs.take m)).length - (h + 1)) (edC ((nxQ (t : Int) Q (xs.take m)).drop (h + 1)))) ∧ Hid (ME wk bm (nxQ (t : Int) Q (xs.take m))) ∧ Hid (OM wk B (fun x : Bool => if x = true then K else N) (fun x : Bool => if x = true then h1 else h0) vs5 vs5 (fun (s : Bool) (j : Nat) => if s = true then R5 j else tosE ed j)) ∧ Hid (wk.heap[g]? = some (.cells #[.slice la N lc,h0,h1] 119 (0,0))) ∧ Hid (wk.heap[gs]? = some (.cells #[.int .i64 (i : Int),.int .i64 (i : Int)] 35 (0,0))) ∧ Hid (Below gw w wk) ∧ Hid (wk.ownsRow B 3 1 (.slice va xn vc) xn (xs.map (Value.int .i64)))) (fun qv iv wk => xn - (intOf iv).toNat)
      case atStart => exact ⟨0,by omega,rfl,(by show OQ _ _ _ _ _ _ _;rw [show nxQ (t : Int) Q (xs.take 0) = Q from rfl,HL1.out];exact HO5.out),HE5,HM5,NG5,NS5,HB5,HX5⟩
      case round =>
       clear HO5 HE5 HM5 NG5 NS5 HB5 HX5
       obtain ⟨m,hm,rfl,HO,HE,HM,NG,NS,HB,HX⟩:=hrel
       obtain ⟨wk,rfl⟩ : ∃ x,x = wr:=⟨_,rfl⟩
       by_cases hlt : m < xn
       ·have q1 : (m : Int) < (xn : Int):=by omega
        have q0 : (0 : Int) ≤ (m : Int):=by omega
        have HLm : Hid (m < xn):=hlt
        have hmx : m < xs.length:=by rw [HXn.out];exact hlt
        obtain ⟨gv,cv,ev⟩ : ∃ gv cv,(Value.slice va xn vc) = .slice (some ⟨gv,0,none⟩) xn cv:=by
         rcases own_two HX.out with ⟨_,h9⟩ | ⟨g9,c9,e9,_⟩
         ·omega
         ·exact ⟨g9,c9,e9⟩
        injection ev with ev1 _ ev3
        subst ev1 ev3
        have cx : wk.cell? ⟨gv,m,none⟩ = some (.int .i64 (xs.getD m 0)):=by
         have h9:=HX.out.cells (g:=gv) rfl m (.int .i64 (xs.getD m 0)) (by rw [List.getElem?_map,List.getElem?_eq_getElem hmx,List.getD_eq_getElem?_getD,List.getElem?_eq_getElem hmx];rfl)
         rw [addr0] at h9
         exact h9
        have HNq:=TW.hide (nxQ_take (t : Int) Q xs m hmx)
        have HX6 : Hid (i64 (xs.getD m 0)):=HXm.out _ (by rw [List.getD_eq_getElem?_getD,List.getElem?_eq_getElem hmx];exact List.getElem_mem hmx)
        obtain ⟨hq1,hq2⟩:=nxQ_len (t : Int) Q (xs.take m)
        have htk : (xs.take m).length = m:=by rw [List.length_take];omega
        rw [htk] at hq1
        obtain ⟨Q2,hQ2⟩ : ∃ Q2,nxQ (t : Int) Q (xs.take m) = Q2:=⟨_,rfl⟩
        obtain ⟨x,hx⟩ : ∃ x,xs.getD m 0 = x:=⟨_,rfl⟩
        rw [hx] at cx HX6 HNq
        rw [hQ2] at HNq hq1 hq2 HO HE
        have hq3 : Q2.length ≤ 130000:=by
         have h8:=HQl.out
         have h9:=HLn.out
         have h7:=HN.out
         omega
        have HQ3 : Hid (h + 1 ≤ Q2.length):=by
         have h8:=HLt.out
         show _ ≤ _
         omega
        clear hx hQ2 htk hmx hlt hm hq1 hq2
        refine wp_seq_k fun Ke hKe => ?_
        have HKe:=TW.hide hKe
        clear hKe
        go_wp2
        refine HKe.out _ _ ?_
        clear HKe
        refine wp_seq_k fun Kf hKf => ?_
        have HKf:=TW.hide hKf
        clear hKf
        go_wp2
        refine HKf.out _ _ ?_
        clear HKf
        refine wp_seq_k fun Kg hKg => ?_
        have HKg:=TW.hide hKg
        clear hKg
        refine wp_block ?_
        refine wp_seq_k fun Kh hKh => ?_
        have HKh:=TW.hide hKh
        clear hKh
        go_wp2
        refine HKh.out _ _ ?_
        clear HKh cx
        refine wp_seq_k fun Ki hKi => ?_
        have HKi:=TW.hide hKi
        clear hKi
        go_wp2_with (first | (at_lookup;refine wpList_known_ed _ rfl _ _ rfl bm Q2 HE.out rfl x rfl HX6.out ?_;intro f0 t0) | fail)
        refine HKi.out _ _ ?_
        clear HKi
        have hb6 : Below wk.heap.size wk (wk.alloc (.cells #[.int .i64 f0,.int .i64 t0] 35)):=(Below.refl _ _).alloc (Nat.le_refl _) _
        have HO6:=TW.hide (HO.out.below hb6)
        have HE6:=TW.hide (HE.out.below hb6)
        have HM6:=TW.hide (HM.out.below hb6)
        have NG6:=TW.hide (blk_keep NG.out hb6)
        have NS6:=TW.hide (blk_keep NS.out hb6)
        have hgk : gw ≤ wk.heap.size:=Nat.le_trans HNw.out (Nat.le_of_lt (blk_lt NS.out))
        have HB6 : Hid (Below gw w (wk.alloc (.cells #[.int .i64 f0,.int .i64 t0] 35))):=HB.out.trans (hb6.mono hgk)
        have HX7:=TW.hide (own_belowI HX.out hb6)
        clear hb6 hgk HO HE HM NG NS HB HX
        generalize wk.heap.size = gk6 at *
        generalize wk.alloc _ = w6 at *
        have HKx:=TW.hide (fun (W : World) (Q3 : List Eg2) (qv : Value) (h1 : nxQ (t : Int) Q (xs.take (m + 1)) = Q3) (h2 : OQ W (gs + 1) 35 2 qv (Q3.length - (h + 1)) (edC (Q3.drop (h + 1)))) (h3 : ME W bm Q3) => (by rw [h1];exact ⟨h2,h3⟩ : OQ W (gs + 1) 35 2 qv ((nxQ (t : Int) Q (xs.take (m + 1))).length - (h + 1)) (edC ((nxQ (t : Int) Q (xs.take (m + 1))).drop (h + 1))) ∧ ME W bm (nxQ (t : Int) Q (xs.take (m + 1)))))
        by_cases hk : x ∈ kn Q2
        ·have kd : decide (x ∈ kn Q2) = true:=decide_eq_true hk
         have HE1 : Hid (nxQ (t : Int) Q (xs.take (m + 1)) = Q2):=by
          show _ = _
          rw [HNq.out]
          exact if_pos hk
         clear hk
         rw [kd]
         clear kd
         go_wp2
         refine HKg.out _ _ ?_
         clear HKg
         go_wp2
         go_roundw
         case rel => exact ⟨m + 1,HLm.out,by go_num,(HKx.out _ _ _ HE1.out HO6.out HE6.out).1,(HKx.out _ _ _ HE1.out HO6.out HE6.out).2,HM6,NG6,NS6,HB6,HX7⟩
         case measure => simp [intOf];have:=HLm.out;omega
        ·have kd : decide (x ∈ kn Q2) = false:=decide_eq_false hk
         have HNk : Hid (¬ x ∈ kn Q2):=hk
         have HE1 : Hid (nxQ (t : Int) Q (xs.take (m + 1)) = Q2 ++ [((t : Int),x)]):=by
          show _ = _
          rw [HNq.out]
          exact if_neg hk
         clear hk
         rw [kd]
         clear kd
         obtain ⟨gq2,oq2,cap2,eq2,hgq2,_,_,_⟩:=HO6.out.is
         subst eq2
         obtain ⟨L2,hL2⟩ : ∃ L2,Q2.length - (h + 1) = L2:=⟨_,rfl⟩
         have HL2:=TW.hide hL2
         rw [hL2] at HO6 ⊢
         have HGq : Hid (gs + 1 ≤ gq2):=hgq2
         have hl2 : L2 ≤ 130000:=by omega
         have hq4 : Q2.length ≤ 4000000000:=by omega
         clear hL2 hgq2 hq3
         refine wp_seq_k fun Kk hKk => ?_
         have HKk:=TW.hide hKk
         clear hKk
         go_wp2
         refine HKk.out _ _ ?_
         clear HKk
         refine wp_cond_true (by rfl) ?_
         refine wp_seq_k fun Kl hKl => ?_
         have HKl:=TW.hide hKl
         clear hKl
         go_wp2_with (first | (at_mapUpdate;refine wpList_reach_ed _ rfl _ _ _ rfl bm Q2 HE6.out hq4 rfl (t : Int) x rfl rfl HX6.out HNk.out ?_;intro w7 hme7 hgr7) | fail)
         refine HKl.out _ _ ?_
         clear HKl
         dsimp only [Act.put]
         have hgm : gw ≤ bm:=Nat.le_trans HNw.out (Nat.le_of_lt HBm.out)
         have hg6 : gw ≤ w6.heap.size:=Nat.le_trans HNw.out (Nat.le_of_lt (blk_lt NS6.out))
         have HO7 : Hid (OQ w7 (gs + 1) 35 2 (.slice (some ⟨gq2,oq2,none⟩) L2 cap2) L2 (edC (Q2.drop (h + 1)))):=HO6.out.keptM HE6.out hgr7
         have HM7:=TW.hide (HM6.out.grown hgr7 (HE6.out.notC _) (HE6.out.notC _))
         have NG7:=TW.hide (blk_keptM NG6.out HE6.out hgr7)
         have NS7:=TW.hide (blk_keptM NS6.out HE6.out hgr7)
         have HB7 : Hid (Below gw w w7):=HB6.out.grown hgr7 hg6 (fun q hq => by injection hq with hq;omega)
         have HX8:=TW.hide (own_grown HX7.out hgr7 (HE6.out.notC _))
         have hb8 : Below w7.heap.size w7 (w7.alloc (.cells #[.int .i64 (t : Int),.int .i64 x] 35)):=(Below.refl _ _).alloc (Nat.le_refl _) _
         have HO8:=TW.hide (HO7.out.below hb8)
         have HE8:=TW.hide (hme7.below hb8)
         have HE7:=TW.hide hme7
         have HM8:=TW.hide (HM7.out.below hb8)
         have NG8:=TW.hide (blk_keep NG7.out hb8)
         have NS8:=TW.hide (blk_keep NS7.out hb8)
         have hg7 : gw ≤ w7.heap.size:=Nat.le_trans HNw.out (Nat.le_of_lt (blk_lt NS7.out))
         have HB8 : Hid (Below gw w (w7.alloc (.cells #[.int .i64 (t : Int),.int .i64 x] 35))):=HB7.out.trans (hb8.mono hg7)
         have HX9:=TW.hide (own_belowI HX8.out hb8)
         have HQc : Hid (∀ j u,([.int .i64 (t : Int),.int .i64 x] : List Value)[j]? = some u → (w7.alloc (.cells #[.int .i64 (t : Int),.int .i64 x] 35)).cell? ((⟨w7.heap.size,0,none⟩ : Addr).add j) = some u):=cell_two_new _ _ _ _
         have HS8 : Hid (gs + 1 ≤ (w7.alloc (.cells #[.int .i64 (t : Int),.int .i64 x] 35)).heap.size):=blk_lt NS8.out
         have HQm : Hid (((t : Int),x) ∈ Q2 ++ [((t : Int),x)]):=List.mem_append_right _ List.mem_cons_self
         obtain ⟨ie,hie,hze0,hze1,hze2⟩:=info_parts' edinfo
         clear hgm hg6 hg7 hb8 hme7 hgr7 HO6 HM6 NG6 NS6 HB6 HX7 HE6 HO7 HM7 NG7 NS7 HB7 HX8
         go_wp2_with (first | (at_lookup;refine wpList_lookup_ed _ rfl _ _ rfl bm (Q2 ++ [((t : Int),x)]) HE7.out rfl (t : Int) x rfl HX6.out HQm.out ?_) | (at_builtin;refine wpList_append_q _ rfl _ _ 28 rfl (gs + 1) 35 ie (.agg #[.int .i64 0,.int .i64 0]) 2 16 Try.underlying28 hie hze0 hze1 hze2 rfl (by decide) _ L2 (edC (Q2.drop (h + 1))) rfl HO8.out ⟨w7.heap.size,0,none⟩ 1 1 [.int .i64 (t : Int),.int .i64 x] rfl rfl HQc.out (by simp [Value.oneCell']) (by unfold maxLen;omega) (by omega) HS8.out ?_;intro v9 w9 hoq9 hgr9 _) | fail)
         have hgr : World.grownBy (w7.alloc (.cells #[.int .i64 (t : Int),.int .i64 x] 35)) w9 (some gq2):=hgr9
         obtain ⟨_,_,_,eq8,_,_,_,cur8,hc8⟩:=HO8.out.is
         injection eq8 with eq81 _ _
         injection eq81 with eq81
         injection eq81 with eq81
         subst eq81
         have HE9 : Hid (ME w9 bm (Q2 ++ [((t : Int),x)])):=HE8.out.keep (hgr.block _ HE8.out.lt (fun e => by injection e with e;exact HE8.out.ne hc8 e))
         have hn1 : ∀ (ty : TypeId),ty ≠ 35 → ∀ c fr,(w7.alloc (.cells #[.int .i64 (t : Int),.int .i64 x] 35)).heap[gq2]? ≠ some (.cells c ty fr):=fun ty hty c fr e => by
          rw [hc8] at e
          injection e with e
          injection e with _ e _
          exact hty e.symm
         have HM9:=TW.hide (HM8.out.grown hgr (hn1 _ (by decide)) (hn1 _ (by decide)))
         have NG9 : Hid (w9.heap[g]? = some (.cells #[.slice la N lc,h0,h1] 119 (0,0))):=by
          show _ = _
          rw [hgr.block _ (blk_lt NG8.out) (fun e => by injection e with e;subst e;exact hn1 _ (by decide) _ _ NG8.out)]
          exact NG8.out
         have NS9 : Hid (w9.heap[gs]? = some (.cells #[.int .i64 (i : Int),.int .i64 (i : Int)] 35 (0,0))):=by
          show _ = _
          rw [hgr.block _ (blk_lt NS8.out) (fun e => by injection e with e;have:=HGq.out;omega)]
          exact NS8.out
         have hg8 : gw ≤ (w7.alloc (.cells #[.int .i64 (t : Int),.int .i64 x] 35)).heap.size:=Nat.le_trans HNw.out (Nat.le_of_lt (blk_lt NS8.out))
         have HB9 : Hid (Below gw w w9):=HB8.out.grown hgr hg8 (fun q hq => by injection hq with hq;have:=HGq.out;have:=HNw.out;omega)
         have HX10:=TW.hide (own_grown HX9.out hgr (hn1 _ (by decide)))
         have HO9 : Hid (OQ w9 (gs + 1) 35 2 v9 ((Q2 ++ [((t : Int),x)]).length - (h + 1)) (edC ((Q2 ++ [((t : Int),x)]).drop (h + 1)))):=by
          have e1 : (Q2 ++ [((t : Int),x)]).length - (h + 1) = L2 + 1:=by
           have h8:=HQ3.out
           have h9:=HL2.out
           rw [List.length_append]
           simp
           omega
          have e2 : edC ((Q2 ++ [((t : Int),x)]).drop (h + 1)) = edC (Q2.drop (h + 1)) ++ [.int .i64 (t : Int),.int .i64 x]:=by
           rw [List.drop_append_of_le_length HQ3.out,edC_app]
           rfl
          show OQ _ _ _ _ _ _ _
          rw [e1,e2]
          exact hoq9
         clear hgr hgr9 hoq9 hn1 hg8 hc8 HO8 HE8 HM8 NG8 NS8 HB8 HX9 HQc HS8 HE7 hie hze0 hze1 hze2
         refine HKg.out _ _ ?_
         clear HKg
         go_wp2
         go_roundw
         case rel => exact ⟨m + 1,HLm.out,by go_num,(HKx.out _ _ _ HE1.out HO9.out HE9.out).1,(HKx.out _ _ _ HE1.out HO9.out HE9.out).2,HM9,NG9,NS9,HB9,HX10⟩
         case measure => simp [intOf];have:=HLm.out;omega
       ·obtain rfl : m = xn:=by omega
        have q1 : ¬ (m : Int) < (m : Int):=by omega
        have etk : xs.take m = xs:=by rw [← HXn.out];exact List.take_length
        rw [etk] at HO HE
        have hgk : h + gk = N + 1:=HH.out
        have hql : h < Q.length:=HLt.out
        have hqn : Q.length ≤ N:=HQl.out
        have HH2 : Hid (h + 1 + (gk - 1) = N + 1):=by show _ = _;omega
        have HG2 : Hid (gk - 1 < gk):=by show _ < _;omega
        clear hlt hm etk hgk hql hqn HX
        go_wp2
        go_roundg (gk - 1)
        case measure => exact HG2.out
        case rel => exact ⟨R5,_,h + 1,vs5,HH2,HRs,HO,HE,HM,NG,NS,HB⟩
    clear HKc
    subst hfr
    go_wp2
    ·obtain rfl : cap = 1:=by assumption
     exact HC.out _ (HOt1.out rfl)
    ·exact HC.out _ (HOt2.out (by assumption))
end LW
end Go.Proofs.Ythcndgnpmefefaa

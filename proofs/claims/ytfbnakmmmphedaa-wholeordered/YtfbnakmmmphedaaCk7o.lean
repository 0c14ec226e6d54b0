/-
 The clocks of a trace, as the program makes them.
-/
import Derived.Test.YtfbnakmmmphedaaCkBo
set_option linter.unusedVariables false
set_option linter.unusedSimpArgs false
namespace Go.Proofs.Ytfbnakmmmphedaa
open List renaming getD_eq_getElem?_getD → gDQ
open Go.RowKit
namespace LW
open Mc
theorem cm_cong {o W : World} {G n : Nat} {cl cl' ag : Nat → List Int} {hs : List Value} {v : Oc → Value} (h : CM o W G n cl ag hs v) (e : ∀ j,cl' j = cl j) : CM o W G n cl' ag hs v:=by
 have : cl' = cl:=funext e
 rw [this]
 exact h
theorem wp_act7 {P : Program} {c : Code} {Q : Exit → Act → World → Prop} {a : Act} {w : World} (h : ∀ b : Act,b = a → Code.wp P c Q b w) : Code.wp P c Q a w:=h a rfl
theorem cls_zero (s : Syst) (l : List Ev) (f m : Nat) : cls s l f m 0 = fun _ => []:=by
 funext j
 unfold cls
 rw [if_neg (by omega)]
theorem ags_zero (s : Syst) (l : List Ev) (f m : Nat) : ags s l f m 0 = fun _ => []:=by
 funext g
 unfold ags adL hasA
 rw [if_neg (by simp)]
theorem rowsOf_len (s : Syst) (l : List Ev) (f m : Nat) (ed : List Eg2) (k i : Nat) : ((rowsOf s l f m ed k).getD i []).length ≤ m:=by
 rw [gDQ]
 rcases h : (rowsOf s l f m ed k)[i]? with _ | r
 ·simp
 ·have hm:=List.mem_of_getElem? h
  rw [rowsOf_eq] at hm;rcases List.mem_append.1 hm with h1 | h1
  ·obtain ⟨x,_,rfl⟩:=List.mem_map.1 h1
   simp [clL]
  ·split at h1
   ·obtain rfl:=List.mem_singleton.1 h1
    exact adL_len s l f m k _
   ·cases h1
set_option maxRecDepth 100000 in
set_option maxHeartbeats 40000000 in
theorem pclocks (s : Syst) (pa : Option Addr) (pc : Nat) (ra : Option Addr) (rc : Nat) (la : Option Addr) (lc : Nat) (l : List Ev) (f m : Nat) (ea : Option Addr) (ec : Nat) (ed : List Eg2) (w : World) (hl : EvI w la lc l) (ho : Ok s) (hg : Tr.Gd s l l.length) (hL : l.length ≤ 40000) (hm : m ≤ 1048576) (hf : f ≤ 1000000) (he : EgR w ea ec ed) (hO : Ord ed) (hE : ∀ x,x ∈ ed ↔ x ∈ Tr.edF s l l.length) :
  Calls Try.prog 33 #[.agg #[.slice pa s.progs.length pc,.slice ra s.rooms.length rc,.int .i64 s.groups,.int .i64 s.locks,.int .i64 s.cells,.slice la l.length lc,.int .i64 (Tr.rnC l : Int)],.slice ea ed.length ec,.agg #[.int .i64 (f : Int),.int .i64 (m : Int)]] w (CkQ w s l f m):=by
 obtain ⟨POST,hP⟩ : ∃ Q : Ending → World → Prop,Q = CkQ w s l f m:=⟨_,rfl⟩
 have HPo : Hid (∀ o W G ag hs v,w.heap.size ≤ o.heap.size → CM o W G l.length (cls s l f m l.length) ag hs v → Below w.heap.size w W → POST (.returned (v Oc.li)) W):=fun o W G ag hs v h1 h2 h3 => by
  rw [hP];exact ⟨o,G,ag,hs,v,rfl,h1,h2,h3⟩
 rw [← hP]
 clear hP
 have hNat : ∀ x,x ∈ ed → ∃ i j : Nat,x = ((i : Int),(j : Int)):=fun x hx => edF_nat s l _ x ((hE x).1 hx)
 have hRm : ∀ c,0 ≤ s.rooms.getD c 0:=fun c => by
  by_cases h : c < s.rooms.length
  ·have:=(ho.rm c h).1;omega
  ·rw [gDQ,List.getElem?_eq_none (by omega)];exact Int.le_refl _
 have hMem : ∀ i j : Nat,((i : Int),(j : Int)) ∈ ed ↔ (j < l.length ∧ Tr.EL s l i j):=fun i j => by rw [hE,Tr.edF_mem hg (Nat.le_refl _) hRm]
 have hTx : ∀ k x,x ∈ egT ed k → ∃ i : Nat,i < k ∧ x = ((i : Int),(k : Int)):=fun k x hx => by
  obtain ⟨h1,h2⟩:=List.mem_filter.1 hx
  obtain ⟨i,j,rfl⟩:=hNat x h1
  have h2:=of_decide_eq_true h2
  dsimp only at h2
  obtain rfl : j = k:=by omega
  exact ⟨i,((hMem i j).1 h1).2.lt,rfl⟩
 have HTl : Hid (∀ k,(egT ed k).length ≤ k):=fun k => egT_len hO k (fun x hx e => by
  obtain ⟨i,hi,rfl⟩:=hTx k x (List.mem_filter.2 ⟨hx,decide_eq_true e⟩)
  dsimp only
  omega)
 have HCu:=ζ (fun k => eg_cut hO k)
 have HCk0 : Hid (∀ k,k < l.length → ∀ p,p < m → jn (rowsOf s l f m ed k) p + (if (Tr.ev l k).who = ((f + p : Nat) : Int) then 1 else 0) = (Tr.ck s l ((f + p : Nat) : Int) k : Int)):=fun k hk p hp => clock_eq f m k p hp hk hMem hNat
 have HTx:=ζ hTx
 have HGd:=ζ hg
 have HOk:=ζ ho
 have HMm:=ζ hm
 have HFf:=ζ hf
 obtain ⟨G,hG⟩ : ∃ G : Nat,s.groups = (G : Int):=⟨s.groups.toNat,by have:=ho.g1;omega⟩
 have hG64 : G ≤ 64:=by have:=ho.g1;omega
 have hz0:=eg_zero hNat
 have hb0 : Below w.heap.size w ((w.alloc (.cells #[.slice pa s.progs.length pc,.slice ra s.rooms.length rc,.int .i64 s.groups,.int .i64 s.locks,.int .i64 s.cells,.slice la l.length lc,.int .i64 (Tr.rnC l : Int)] 57)).alloc (.cells #[.int .i64 (f : Int),.int .i64 (m : Int)] 94)):=((Below.refl _ _).alloc (Nat.le_refl _) _).alloc (by simp) _
 have HEv:=ζ (hl.below hb0)
 have HEg0 : Hid (EgR ((w.alloc (.cells #[.slice pa s.progs.length pc,.slice ra s.rooms.length rc,.int .i64 s.groups,.int .i64 s.locks,.int .i64 s.cells,.slice la l.length lc,.int .i64 (Tr.rnC l : Int)] 57)).alloc (.cells #[.int .i64 (f : Int),.int .i64 (m : Int)] 94)) ea ec (egF ed 0)):=by show EgR _ _ _ _;rw [hz0];exact he.below hb0
 have NB0:=ζ hb0
 have NS0 : Hid (((w.alloc (.cells #[.slice pa s.progs.length pc,.slice ra s.rooms.length rc,.int .i64 s.groups,.int .i64 s.locks,.int .i64 s.cells,.slice la l.length lc,.int .i64 (Tr.rnC l : Int)] 57)).alloc (.cells #[.int .i64 (f : Int),.int .i64 (m : Int)] 94)).heap[w.heap.size]? = some (.cells #[.slice pa s.progs.length pc,.slice ra s.rooms.length rc,.int .i64 s.groups,.int .i64 s.locks,.int .i64 s.cells,.slice la l.length lc,.int .i64 (Tr.rnC l : Int)] 57 (0,0))):=blk_alloc (heap_alloc_new w _)
 have NA0 : Hid (((w.alloc (.cells #[.slice pa s.progs.length pc,.slice ra s.rooms.length rc,.int .i64 s.groups,.int .i64 s.locks,.int .i64 s.cells,.slice la l.length lc,.int .i64 (Tr.rnC l : Int)] 57)).alloc (.cells #[.int .i64 (f : Int),.int .i64 (m : Int)] 94)).heap[w.heap.size + 1]? = some (.cells #[.int .i64 (f : Int),.int .i64 (m : Int)] 94 (0,0))):=by
  have h1:=heap_alloc_new (w.alloc (.cells #[.slice pa s.progs.length pc,.slice ra s.rooms.length rc,.int .i64 s.groups,.int .i64 s.locks,.int .i64 s.cells,.slice la l.length lc,.int .i64 (Tr.rnC l : Int)] 57)) (.cells #[.int .i64 (f : Int),.int .i64 (m : Int)] 94)
  have h2 : (w.alloc (.cells #[.slice pa s.progs.length pc,.slice ra s.rooms.length rc,.int .i64 s.groups,.int .i64 s.locks,.int .i64 s.cells,.slice la l.length lc,.int .i64 (Tr.rnC l : Int)] 57)).heap.size = w.heap.size + 1:=by simp
  rw [h2] at h1;exact h1
 have HGs:=ζ hG
 have HLn:=ζ hL
 obtain ⟨n0,hn0⟩ : ∃ n0,ed.length = n0:=⟨_,rfl⟩
 have HN0 : Hid (n0 = (egF ed 0).length):=by show _ = _;rw [hz0,hn0]
 rw [hn0]
 clear hb0 hn0 hl ho hg hm hf he hO hE hNat hRm hMem hTx hG hz0
 obtain ⟨i4,hi4,hz40,hz41,hz42⟩:=info_parts' slcinfo6
 go_enter Try.func33,Try.ntmps33
 refine wp_seq_k fun K hK => ?_
 have HK:=ζ hK
 clear hK
 go_wp2
 refine HK.out _ _ ?_
 clear HK
 generalize World.alloc _ _ = X at *
 have HXs : Hid (w.heap.size ≤ X.heap.size):=NB0.out.size
 generalize w.heap.size + 1 = gb at *
 obtain ⟨q0,q1,q2,q3,q4,q5,q6⟩:=cellsY7 NS0.out
 rw [HGs.out] at q2
 refine wp_seq_k fun K hK => ?_
 have HK:=ζ hK
 clear hK
 go_wp2_with (at_make;refine wpList_make_own _ rfl _ _ 89 rfl X.heap.size 24 i4 (.slice none 0 0) 1 Try.underlying89 hi4 hz40 hz41 _ _ _ l.length rfl rfl rfl (by rw [hz42];omega) (by unfold maxLen;omega) (Nat.le_refl _) ?_;(intro w1 hown hgrow);have HO1:=ζ hown;have HG1:=ζ hgrow;clear hown hgrow)
 refine HK.out _ _ ?_
 clear HK
 have HB1 : Hid (Below X.heap.size X w1):=(Below.refl _ _).grown HG1.out (Nat.le_refl _) (by intro k h;cases h)
 clear HG1 q0 q1 q2 q3 q4 q5 q6
 obtain ⟨q0,q1,q2,q3,q4,q5,q6⟩:=cellsY7 (blk_keep NS0.out HB1.out)
 rw [HGs.out] at q2
 refine wp_seq_k fun K hK => ?_
 have HK:=ζ hK
 clear hK
 go_wp2_with (at_make;refine wpList_make_full _ rfl _ _ 89 rfl w1.heap.size 24 i4 (.slice none 0 0) 1 Try.underlying89 hi4 hz40 hz41 _ _ _ _ G rfl rfl rfl rfl (by rw [hz42];omega) (by unfold maxLen;omega) (Nat.le_refl _) ?_;(intro w2 hown hgrow);(rw [made_rep _ rfl] at hown);have HO2:=ζ hown;have HG2:=ζ hgrow;clear hown hgrow)
 refine HK.out _ _ ?_
 clear HK
 have hst:=CM.start (o:=X) HB1.out HO1.out ((Below.refl w1.heap.size w1).grown HG2.out (Nat.le_refl _) (by intro k h;cases h)) HO2.out
 obtain ⟨v0,ev1,ev2,hm0⟩:=hst
 have HM0 : Hid (CM X w2 G 0 (cls s l f m 0) (ags s l f m 0) [] v0):=by
  rw [cls_zero,ags_zero];exact hm0
 have EV1:=ζ ev1
 have EV2:=ζ ev2
 clear HB1 HO1 HG2 HO2 hm0 ev1 ev2 q0 q1 q2 q3 q4 q5 q6
 generalize w1.heap.size = ad0 at *
 obtain ⟨q0,q1,q2,q3,q4,q5,q6⟩:=cellsY7 (blk_keep NS0.out HM0.out.bl)
 refine wp_seq_k fun K hK => ?_
 have HK:=ζ hK
 clear hK
 go_wp2
 clear q0 q1 q2 q3 q4 q5 q6
 go_loopw [1,7,26] (fun lv tv iv wr => ∃ (k : Nat) (v : Oc → Value) (hs : List Value) (a' : Option Addr) (c' : Nat) (ta : Option Addr) (tc n1 : Nat),k ≤ l.length ∧ iv = .int .i64 (k : Int) ∧ tv = .slice ta k tc ∧ v Oc.li = .slice ta k tc ∧ v Oc.ad = .slice (some ⟨ad0,0,none⟩) G G ∧ lv = .slice a' n1 c' ∧ Hid (n1 = (egF ed k).length) ∧ Hid (CM X wr G k (cls s l f m k) (ags s l f m k) hs v) ∧ Hid (EgR X a' c' (egF ed k))) (fun lv tv iv wr => l.length - (intOf iv).toNat)
 case atStart => exact ⟨0,v0,[],ea,ec,_,_,n0,Nat.zero_le _,rfl,rfl,EV1.out,EV2.out,rfl,HN0,HM0,HEg0⟩
 case round =>
  clear HM0 HEg0 EV1 EV2 HN0;obtain ⟨k,v,hs0,a',c',ta,tc,n1,hk,rfl,rfl,eli,ead,rfl,HN1,HM,HEg⟩:=hrel
  by_cases hlt : k < l.length
  ·have hk1 : (k : Int) < (l.length : Int):=by omega
   have hk0 : (0 : Int) ≤ (k : Int):=by omega
   have hk40 : k ≤ 40000:=by have:=HLn.out;omega
   obtain ⟨b,off,who,op,a,va,sh,hla,hev,_,_,_,_,x0,x1,x2,x3,x4⟩:=(HEv.out.below HM.out.bl).get k hlt
   subst hla;have hfit:=HGd.out k hlt
   have hev' : l.getD k Tr.e0 = ⟨who,op,a,va,sh⟩:=hev
   rw [hev'] at hfit;have f0:=hfit.w0
   have f1:=hfit.w1
   dsimp only at f0 f1
   obtain ⟨wn,rfl⟩ : ∃ wn : Nat,who = (wn : Int):=⟨who.toNat,by omega⟩
   have HWn : Hid (wn ≤ 1000):=by
    show _ ≤ _
    have:=Tr.rnC_le k hk (fun j hj => HGd.out j (by omega))
    omega
   have HGa : Hid (op = 10 ∨ op = 11 → ∃ an : Nat,an < G ∧ a = (an : Int)):=fun hop => by
    have:=hfit.a s.groups (by unfold Tr.mnC;dsimp only;rw [if_neg (by omega),if_neg (by omega),if_pos (by omega)])
    have h2:=HGs.out
    dsimp only at this
    exact ⟨a.toNat,by omega,by omega⟩
   have HLT:=ζ hlt
   have HEV:=ζ hev
   have HCk:=ζ (HCk0.out k hlt)
   have HLe:=ζ (rowsOf_len s l f m ed k)
   have HCu:=ζ (HCu.out k)
   have HTk:=ζ (HTl.out k)
   have HTx:=ζ (HTx.out k)
   obtain ⟨CL,hCL⟩ : ∃ CL,CL = cls s l f m k:=⟨_,rfl⟩
   obtain ⟨AG,hAG⟩ : ∃ AG,AG = ags s l f m k:=⟨_,rfl⟩
   rw [← hCL,← hAG] at HM;have HCL:=ζ hCL
   have HAG:=ζ hAG
   have hAl : Below wr.heap.size wr ((wr.alloc (.cells #[.int .i64 0,.int .i64 0,.int .i64 0,.int .i64 0,.bool false] 39)).setRow wr.heap.size #[.int .i64 (wn : Int),.int .i64 op,.int .i64 a,.int .i64 va,.bool sh]):=below_setRow ((Below.refl _ _).alloc (Nat.le_refl _) _) (Nat.le_refl _)
   have HM4:=ζ ((HM.out.below hAl).newAh)
   have NE4 : Hid (((wr.alloc (.cells #[.int .i64 0,.int .i64 0,.int .i64 0,.int .i64 0,.bool false] 39)).setRow wr.heap.size #[.int .i64 (wn : Int),.int .i64 op,.int .i64 a,.int .i64 va,.bool sh]).heap[wr.heap.size]? = some (.cells #[.int .i64 (wn : Int),.int .i64 op,.int .i64 a,.int .i64 va,.bool sh] 39 (0,0))):=setRow_heap _ _ _ _ _ _ (heap_alloc_new wr _)
   have ELi0 : Hid (vpc v Oc.ah (.slice none 0 0) Oc.li = .slice ta k tc):=by show _ = _;rw [vpc_other _ _ _ _ (by intro e;cases e)];exact eli
   have EAd0 : Hid (vpc v Oc.ah (.slice none 0 0) Oc.ad = .slice (some ⟨ad0,0,none⟩) G G):=by show _ = _;rw [vpc_other _ _ _ _ (by intro e;cases e)];exact ead
   have EAh0 : Hid (vpc v Oc.ah (.slice none 0 0) Oc.ah = .slice none 0 0):=vpc_same _ _ _
   rw [HCu.out] at HEg;rw [HCu.out] at HN1;clear hlt hfit hev hev' f0 f1 hAl HM hCL hAG eli ead HCk0 HTl HPo;generalize vpc v Oc.ah (.slice none 0 0) = vv at *;refine wp_seq_k fun K hK => ?_
   have HK:=ζ hK
   clear hK;go_wp2;refine HK.out _ _ ?_;clear HK K;refine wp_seq_k fun K hK => ?_
   have HK:=ζ hK
   clear hK;go_wp2;refine HK.out _ _ ?_;clear HK K;refine wp_seq_k fun Kb hK => ?_
   have HKb:=ζ hK
   clear hK;refine wp_block ?_;refine wp_seq_k fun K hK => ?_
   have HK:=ζ hK
   clear hK;go_wp2_with (first | (refine wpList_store_row (by rfl) 39 _ _ (by rfl) wr.heap.size #[.int .i64 (wn : Int),.int .i64 op,.int .i64 a,.int .i64 va,.bool sh] (by rfl) (by rfl) 39 _ (heap_alloc_new wr _) (by kernel_rfl) (by rfl) (by simp [Value.oneCell']) ?_;generalize World.setRow _ _ _ = W4 at *;generalize wr.heap.size = ge at *) | fail)
   refine HK.out _ _ ?_;clear HK x0 x1 x2 x3 x4;refine wp_seq_k fun K hK => ?_
   have HK:=ζ hK
   clear hK;go_wp2;refine HK.out _ _ ?_;clear HK;refine wp_seq_k fun K hK => ?_
   have HK:=ζ hK
   clear hK;go_wp2;go_loopw [1,11] (fun lv av wr2 => ∃ (i : Nat) (v1 : Oc → Value) (hs : List Value) (a2 : Option Addr) (c2 : Nat) (ua : Option Addr) (uc n2 : Nat),i ≤ (egT ed k).length ∧ lv = .slice a2 n2 c2 ∧ Hid (n2 = ((egT ed k).drop i ++ egF ed (k + 1)).length) ∧ av = .slice ua hs.length uc ∧ v1 Oc.ah = .slice ua hs.length uc ∧ v1 Oc.li = .slice ta k tc ∧ v1 Oc.ad = .slice (some ⟨ad0,0,none⟩) G G ∧ Hid (CM X wr2 G k CL AG hs v1) ∧ Hid (HsR v1 CL AG hs (((egT ed k).take i).map (fun x => clL s l f m x.1.toNat))) ∧ Hid (EgR X a2 c2 ((egT ed k).drop i ++ egF ed (k + 1))) ∧ Hid (wr2.heap[ge]? = some (.cells #[.int .i64 (wn : Int),.int .i64 op,.int .i64 a,.int .i64 va,.bool sh] 39 (0,0)))) (fun lv av wr2 => slen6 lv)
   case atStart => exact ⟨0,vv,[],a',c',none,0,n1,Nat.zero_le _,rfl,HN1,rfl,EAh0.out,ELi0.out,EAd0.out,HM4,ζ (HsR.nil _ _ _),HEg,NE4⟩
   case round =>
    clear HM4 NE4 ELi0 EAd0 EAh0 HEg;obtain ⟨i,v1,hs,a2,c2,ua,uc,n2,hi,rfl,HN2,rfl,eah,eli,ead,HM,HS,HEg,NE⟩:=hrel
    have EAh:=ζ eah
    have ELi:=ζ eli
    have EAd:=ζ ead
    clear eah ead;obtain ⟨HN,hHN⟩ : ∃ HN,hs.length = HN:=⟨_,rfl⟩
    have HHn:=ζ hHN
    have hN40 : HN ≤ 40000:=by
     have h1:=HS.out.1
     have h2:=HTk.out
     rw [List.length_map,List.length_take] at h1;omega
    rw [hHN] at EAh ⊢;clear hHN;by_cases hit : i < (egT ed k).length
    ·have hdr : (egT ed k).drop i = (egT ed k)[i] :: (egT ed k).drop (i + 1):=List.drop_eq_getElem_cons hit
     obtain ⟨i0,hi0,hx⟩:=HTx.out _ (List.getElem_mem hit)
     rw [hdr,List.cons_append,hx] at HEg;have hn:=HN2.out
     rw [hdr,List.cons_append,List.length_cons] at hn;obtain ⟨L1,hL1⟩ : ∃ L1,((egT ed k).drop (i + 1) ++ egF ed (k + 1)).length = L1:=⟨_,rfl⟩
     rw [hL1] at hn;subst hn;have HL1 : Hid (L1 = ((egT ed k).drop (i + 1) ++ egF ed (k + 1)).length):=hL1.symm
     obtain ⟨b3,o3,ea2,hc2,y0,y1⟩:=HEg.out.head
     subst ea2;rw [hL1] at hc2;have HTl:=ζ HEg.out.tail
     have y0:=keepC HM.out.bl y0
     have y1:=keepC HM.out.bl y1
     dsimp only at y0 y1
     obtain ⟨b4,cp4,e4,y4⟩:=HM.out.liAt i0 hi0
     rw [ELi.out] at e4;injection e4 with e41 _ e43
     subst e41 e43;obtain ⟨ca,cc,e5,_⟩:=HM.out.clIs i0
     have hcl : CL i0 = clL s l f m i0:=by rw [HCL.out];unfold cls;rw [if_pos hi0]
     rw [hcl,clL_len] at e5;rw [e5] at y4;have HS5 : Hid (∀ u,HsR (vpc v1 Oc.ah u) CL AG (hs ++ [.slice ca m cc]) (((egT ed k).take (i + 1)).map (fun x => clL s l f m x.1.toNat))):=fun u => by
      have h9:=(HS.out.set u).cl i0
      rw [vpc_other _ _ _ _ (by intro e;cases e),e5,hcl] at h9
      have h8 : ((egT ed k).take (i + 1)).map (fun x => clL s l f m x.1.toNat) = ((egT ed k).take i).map (fun x => clL s l f m x.1.toNat) ++ [clL s l f m i0]:=by
       rw [take_one _ i hit (0,0),List.map_append,gDQ,List.getElem?_eq_getElem hit];show _ ++ [clL s l f m ((egT ed k)[i]).1.toNat] = _
       rw [hx];rfl
      rw [h8];exact h9
     have HTi : Hid (i + 1 ≤ (egT ed k).length):=hit
     have qk : ((k : Int) == (k : Int)) = true:=by simp
     have q0 : (0 : Int) < ((L1 + 1 : Nat) : Int):=by omega
     have q1 : (0 : Int) ≤ (i0 : Int):=by omega
     have q2 : (i0 : Int) < (k : Int):=by omega
     clear hdr hx HEg hL1 e5 hcl HN2 HS hit hi0 hi;have hAl_ : Below wr.heap.size wr (wr.alloc (.cells #[.slice ca m cc] 24)):=(Below.refl _ _).alloc (Nat.le_refl _) _
     have HMa:=ζ (HM.out.below hAl_)
     have HOa : Hid ((wr.alloc (.cells #[.slice ca m cc] 24)).ownsRow X.heap.size 24 1 (.slice ua HN uc) HN hs):=by
      have h9 : (wr.alloc (.cells #[.slice ca m cc] 24)).ownsRow X.heap.size 24 1 (v1 Oc.ah) hs.length hs:=HMa.out.fam.own Oc.ah
      show World.ownsRow _ _ _ _ _ _ _
      rw [EAh.out,HHn.out] at h9;exact h9
     have HSa : Hid (X.heap.size ≤ (wr.alloc (.cells #[.slice ca m cc] 24)).heap.size):=HMa.out.bl.size
     have NEa:=ζ (blk_keep NE.out hAl_)
     have HF5 : Hid (∀ v5 w5,w5.ownsRow X.heap.size 24 1 v5 (HN + 1) (hs ++ [.slice ca m cc]) → (wr.alloc (.cells #[.slice ca m cc] 24)).grownBy w5 (Value.slice ua HN uc).ownBlock → (v5.ownBlock = (Value.slice ua HN uc).ownBlock ∨ v5.ownBlock = some (wr.alloc (.cells #[.slice ca m cc] 24)).heap.size) → (∃ va_ vc_,v5 = .slice va_ (HN + 1) vc_) ∧ CM X w5 G k CL AG (hs ++ [.slice ca m cc]) (vpc v1 Oc.ah v5) ∧ w5.heap[ge]? = some (.cells #[.int .i64 (wn : Int),.int .i64 op,.int .i64 a,.int .i64 va,.bool sh] 39 (0,0))):=fun v5 w5 h1 h2 h3 => by
      refine ⟨own_openE h1,HMa.out.appAh _ v5 (by rw [HHn.out];exact h1) (by rw [EAh.out];exact h2) (by rw [EAh.out];exact h3),?_⟩
      rw [h2.block ge (blk_lt NEa.out) (fun e => own_neB HOa.out NEa.out (by decide) e.symm)]
      exact NEa.out
     clear hAl_ HMa NEa;clear HM NE;go_wp2_with (at_builtin;refine wpList_append_own_at _ rfl _ _ 89 rfl X.heap.size 24 i4 (.slice none 0 0) 1 24 Try.underlying89 hi4 hz40 hz41 hz42 rfl (by decide) _ HN hs rfl HOa.out ⟨wr.heap.size,0,none⟩ 1 1 [.slice ca m cc] rfl rfl (cell_one_new _ _ _) (by simp [Value.oneCell']) (by unfold maxLen;omega) (by omega) HSa.out ?_;(intro v5 w5 h51 h52 _ h53);obtain ⟨⟨va_,vc_,rfl⟩,hm5,hn5⟩:=HF5.out v5 w5 h51 h52 h53;have HM5:=ζ hm5;have NE5:=ζ hn5;clear h51 h52 h53 hm5 hn5 HF5)
     refine ⟨⟨i + 1,vpc v1 Oc.ah (.slice va_ (HN + 1) vc_),hs ++ [.slice ca m cc],_,_,va_,vc_,L1,HTi.out,rfl,HL1,?_,?_,?_,?_,HM5,ζ (HS5.out _),HTl,NE5⟩,by simp [slen6]⟩
     ·rw [List.length_append,HHn.out];rfl
     ·rw [List.length_append,HHn.out];exact vpc_same _ _ _
     ·rw [vpc_other _ _ _ _ (by intro e;cases e)];exact ELi.out
     ·rw [vpc_other _ _ _ _ (by intro e;cases e)];exact EAd.out
    ·obtain rfl : i = (egT ed k).length:=by omega
     rw [List.drop_length,List.nil_append] at HEg HN2;rw [List.take_length] at HS;have HEg1:=HEg
     refine wp_act7 fun a0 ha0 => ?_
     have hR : ∀ u31 u32 u33 u34 u35 u36 u37 u38 u39 u40 u41 : Value,K (((((((((((a0.put (some 31) u31).put (some 32) u32).put (some 33) u33).put (some 34) u34).put (some 35) u35).put (some 36) u36).put (some 37) u37).put (some 38) u38).put (some 39) u39).put (some 40) u40).put (some 41) u41) wr:=by
      intro u31 u32 u33 u34 u35 u36 u37 u38 u39 u40 u41
      rw [ha0];clear ha0;simp only [Act.put,List.setIfInBounds_toArray,List.set_cons_zero,List.set_cons_succ]
      refine HK.out _ _ ?_;clear HK;obtain ⟨z0,z1,z2,z3,z4⟩:=cellsY5 NE.out
      have HN3 : Hid (n2 = (egF ed (k + 1)).length):=HN2
      by_cases hop11 : op = 11
      ·have k11 : (op == 11) = true:=by simp [hop11]
       obtain ⟨an,han,haa⟩:=HGa.out (.inr hop11)
       have HAn:=ζ han
       have HAa:=ζ haa
       obtain ⟨b6,cp6,e6,y6,_⟩:=HM.out.adAt an han
       rw [EAd.out] at e6;injection e6 with e61 _ e63
       injection e61 with e61
       injection e61 with e61
       subst e61 e63;obtain ⟨ga,gc,e7,_⟩:=HM.out.agIs an
       obtain ⟨gl,hgl⟩ : ∃ gl,(AG an).length = gl:=⟨_,rfl⟩
       rw [hgl] at e7;rw [e7] at y6;have qa0 : (0 : Int) ≤ (an : Int):=by omega
       have qa1 : (an : Int) < (G : Int):=by omega
       have HSw : Hid (∀ u,HsR (vpc v1 Oc.ah u) CL AG (hs ++ [.slice ga gl gc]) ((egT ed k).map (fun x => clL s l f m x.1.toNat) ++ [AG an])):=fun u => by
        have h9:=(HS.out.set u).ag an
        rw [vpc_other _ _ _ _ (by intro e;cases e),e7] at h9
        exact h9
       have HRw : Hid ((egT ed k).map (fun x => clL s l f m x.1.toNat) ++ [AG an] = rowsOf s l f m ed k):=by
        show _ = _
        rw [rowsOf_eq,if_pos (by rw [HEV.out];exact hop11),HEV.out,HAG.out]
        show _ ++ [adL s l f m k (an : Int)] = _
        rw [haa]
       have k10 : (op == 10) = false:=by simp;omega
       have hop10 : Hid (op ≠ 10):=by show op ≠ 10;omega
       rw [haa] at z2;clear hop11 han haa e7 hgl HGa;have hAl_ : Below wr.heap.size wr (wr.alloc (.cells #[.slice ga gl gc] 24)):=(Below.refl _ _).alloc (Nat.le_refl _) _
       have HMa:=ζ (HM.out.below hAl_)
       have HOa : Hid ((wr.alloc (.cells #[.slice ga gl gc] 24)).ownsRow X.heap.size 24 1 (.slice ua HN uc) HN hs):=by
        have h9 : (wr.alloc (.cells #[.slice ga gl gc] 24)).ownsRow X.heap.size 24 1 (v1 Oc.ah) hs.length hs:=HMa.out.fam.own Oc.ah
        show World.ownsRow _ _ _ _ _ _ _
        rw [EAh.out,HHn.out] at h9;exact h9
       have HSa : Hid (X.heap.size ≤ (wr.alloc (.cells #[.slice ga gl gc] 24)).heap.size):=HMa.out.bl.size
       have NEa:=ζ (blk_keep NE.out hAl_)
       have HF5 : Hid (∀ v5 w5,w5.ownsRow X.heap.size 24 1 v5 (HN + 1) (hs ++ [.slice ga gl gc]) → (wr.alloc (.cells #[.slice ga gl gc] 24)).grownBy w5 (Value.slice ua HN uc).ownBlock → (v5.ownBlock = (Value.slice ua HN uc).ownBlock ∨ v5.ownBlock = some (wr.alloc (.cells #[.slice ga gl gc] 24)).heap.size) → (∃ va_ vc_,v5 = .slice va_ (HN + 1) vc_) ∧ CM X w5 G k CL AG (hs ++ [.slice ga gl gc]) (vpc v1 Oc.ah v5) ∧ w5.heap[ge]? = some (.cells #[.int .i64 (wn : Int),.int .i64 op,.int .i64 a,.int .i64 va,.bool sh] 39 (0,0))):=fun v5 w5 h1 h2 h3 => by
        refine ⟨own_openE h1,HMa.out.appAh _ v5 (by rw [HHn.out];exact h1) (by rw [EAh.out];exact h2) (by rw [EAh.out];exact h3),?_⟩
        rw [h2.block ge (blk_lt NEa.out) (fun e => own_neB HOa.out NEa.out (by decide) e.symm)]
        exact NEa.out
       clear hAl_ HMa NEa;clear HM NE HS;refine wp_seq_k fun K hK => ?_
       have HK:=ζ hK
       clear hK;go_wp2_with (at_builtin;refine wpList_append_own_at _ rfl _ _ 89 rfl X.heap.size 24 i4 (.slice none 0 0) 1 24 Try.underlying89 hi4 hz40 hz41 hz42 rfl (by decide) _ HN hs rfl HOa.out ⟨wr.heap.size,0,none⟩ 1 1 [.slice ga gl gc] rfl rfl (cell_one_new _ _ _) (by simp [Value.oneCell']) (by unfold maxLen;omega) (by omega) HSa.out ?_;(intro v5 w5 h51 h52 _ h53);obtain ⟨⟨ua,uc,rfl⟩,hm5,hn5⟩:=HF5.out v5 w5 h51 h52 h53;have HM5:=ζ hm5;have NE5:=ζ hn5;clear h51 h52 h53 hm5 hn5 HF5)
       refine HK.out _ _ ?_;clear HK z0 z1 z2 z3 z4 y6 qa0 qa1 HOa HSa;have HM : Hid _:=HM5
       have NE : Hid (w5.heap[ge]? = some (.cells #[.int .i64 (wn : Int),.int .i64 op,.int .i64 a,.int .i64 va,.bool sh] 39 (0,0))):=NE5
       have HS:=ζ (HSw.out (.slice ua (HN + 1) uc))
       have EAh5 : Hid ((vpc v1 Oc.ah (.slice ua (HN + 1) uc)) Oc.ah = .slice ua (HN + 1) uc):=vpc_same _ _ _
       have ELi5 : Hid ((vpc v1 Oc.ah (.slice ua (HN + 1) uc)) Oc.li = .slice ta k tc):=by show _ = _;rw [vpc_other _ _ _ _ (by intro e;cases e)];exact ELi.out
       have EAd5 : Hid ((vpc v1 Oc.ah (.slice ua (HN + 1) uc)) Oc.ad = .slice (some ⟨ad0,0,none⟩) G G):=by show _ = _;rw [vpc_other _ _ _ _ (by intro e;cases e)];exact EAd.out
       have HHn5 : Hid ((hs ++ [(.slice ga gl gc : Value)]).length = HN + 1):=by show _ = _;rw [List.length_append,HHn.out];rfl
       have hNb : HN + 1 ≤ 40001:=by omega
       clear EAh ELi EAd HHn hN40 HM5 NE5 HSw;have EAh:=EAh5
       have ELi:=ELi5
       have EAd:=EAd5
       have HHn:=HHn5
       clear EAh5 ELi5 EAd5 HHn5;generalize vpc v1 Oc.ah (.slice ua (HN + 1) uc) = v1 at *;generalize hs ++ [.slice ga gl gc] = hs at *;generalize HN + 1 = HN at *;generalize (egT ed k).map (fun x => clL s l f m x.1.toNat) ++ [AG an] = rows at *;obtain ⟨oa,oc,eA_,hrr⟩:=HM.out.rr HS.out
       have hlen_:=HS.out.1
       rw [EAh.out,← hlen_,HHn.out] at eA_;injection eA_ with eA1 eA2 eA3
       subst eA1 eA3;have HJ : Hid (∀ W,Below w5.heap.size w5 W → Calls Try.prog 46 #[.int .i64 (m : Int),.slice ua HN uc] W fun e w' => (e = .returned (.slice (some ⟨W.heap.size,0,none⟩) m m) ∧ w'.ownsRow W.heap.size 3 1 (.slice (some ⟨W.heap.size,0,none⟩) m m) m (rwI m (fun p => .int .i64 (jn rows p)))) ∧ Below W.heap.size W w'):=fun W hW => by
        have:=pjoined m ua uc rows W HMm.out (hrr.below hW) (fun i => by rw [HRw.out];exact HLe.out i) (by rw [← hlen_,HHn.out];omega)
        rw [← hlen_,HHn.out] at this;exact this
       have HRow:=ζ (HCk.out)
       rw [← HRw.out] at HRow;clear hrr hlen_ eA2;obtain ⟨b0,b1⟩:=cellsY2 (blk_keep NA0.out HM.out.bl)
       refine wp_seq_k fun K hK => ?_
       have HK:=ζ hK
       clear hK;go_wp2_with fail
       refine (HJ.out w5 (Below.refl _ _)).mono ?_
       rintro e3 W3 ⟨⟨rfl,hown⟩,hb3⟩
       have HM3:=ζ (HM.out.newCl hb3 ((List.range m).map (jn rows)) _ (by rw [len_rng,mapI];exact hown))
       have HO3:=ζ hown
       have NE3:=ζ (blk_keep NE.out hb3)
       clear hown hb3 HJ HM NE b0 b1;generalize w5.heap.size = bc at *;go_wp2;refine HK.out _ _ ?_;clear HK;obtain ⟨b0,b1⟩:=cellsY2 (blk_keep NA0.out HM3.out.bl)
       obtain ⟨z0,z1,z2,z3,z4⟩:=cellsY5 NE3.out
       obtain ⟨dd,hdd⟩ : ∃ dd : Int,(wn : Int) - (f : Int) = dd:=⟨_,rfl⟩
       have HPl : Hid (∀ W,Calls Try.prog 47 #[.agg #[.int .i64 (f : Int),.int .i64 (m : Int)],.int .i64 (wn : Int)] W fun e w' => e = .returned (.tuple #[.int .i64 dd,.bool (decide (0 ≤ dd ∧ dd < (m : Int)))]) ∧ Below W.heap.size W w'):=fun W => by
        have:=pplace f m (wn : Int) W (by omega) (by have:=HWn.out;omega) HFf.out
        rw [hdd] at this;exact this
       by_cases hok : 0 ≤ dd ∧ dd < (m : Int)
       ·have kd : decide (0 ≤ dd ∧ dd < (m : Int)) = true:=decide_eq_true hok
        rw [kd] at HPl;obtain ⟨p,rfl⟩ : ∃ p : Nat,dd = (p : Int):=⟨dd.toNat,by omega⟩
        have hpm : p < m:=by omega
        have HRf : Hid (∀ x0,jn rows p = x0 → ((List.range m).map (jn rows)).set p (x0 + 1) = clL s l f m k ∧ 0 ≤ x0 ∧ x0 ≤ 1000000):=fun x0 hx => by
         have h1:=HRow.out p hpm
         rw [if_pos (by rw [HEV.out];show (wn : Int) = _;omega),hx] at h1
         have h2:=Tr.ck_le s l ((f + p : Nat) : Int) k HLT.out
         have h3 : Tr.wc l ((f + p : Nat) : Int) (k + 1) ≤ k + 1:=by
          unfold Tr.wc
          exact Nat.le_trans List.countP_le_length (by rw [List.length_take];omega)
         refine ⟨?_,by rw [← hx];exact jn_nn rows p,by omega⟩
         symm
         unfold clL;refine ext_rng _ _ _ (by simp) (fun q hq => ?_)
         rw [getD_set];by_cases e : p = q
         ·subst e
          rw [if_pos ⟨rfl,by simpa using hpm⟩]
          exact h1
         ·rw [if_neg (fun h => e h.1),rng_getD _ m q hq]
          have h4:=HRow.out q hq
          rw [if_neg (by rw [HEV.out];show ¬ (wn : Int) = _;omega)] at h4
          omega
        clear hok kd hdd HRow;refine wp_seq_k fun K hK => ?_
        have HK:=ζ hK
        clear hK;go_wp2_with fail
        refine (HPl.out _).mono ?_
        rintro e4 W4 ⟨rfl,hb4⟩
        have HM4:=ζ (HM3.out.below hb4)
        have NE4:=ζ (blk_keep NE3.out hb4)
        have HO4:=ζ (own_belowI HO3.out hb4)
        clear hb4 HM3 NE3 HO3 HPl b0 b1 z0 z1 z2 z3 z4;obtain ⟨x0,hx0⟩ : ∃ x0,jn rows p = x0:=⟨_,rfl⟩
        obtain ⟨_,_,ebc,_,_,_,yp⟩:=own_rw HO4.out p hpm
        injection ebc with ebc1 _ ebc3
        subst ebc3;injection ebc1 with ebc1
        injection ebc1 with ebc1
        subst ebc1;rw [hx0] at yp;have fp:=HO4.out.frozenAt p
        obtain ⟨_,cur,hcur⟩:=row_is HO4.out rfl (by omega)
        obtain ⟨hr1,hr2,hr3⟩:=HRf.out x0 hx0
        have wx : IntKind.i64.wrap (x0 + 1) = x0 + 1:=by rw [IntKind.wrap_i64];omega
        have qp0 : (0 : Int) ≤ (p : Int):=by omega
        have qp1 : (p : Int) < (m : Int):=by omega
        have hset:=HM4.out.setCl k p (x0 + 1) (b:=bc) (cap:=m) (by rw [vpc_same,put_same,len_rng])
        rw [put_same,hr1] at hset;have HM5 : Hid (CM X (W4.setCell ⟨bc,p,none⟩ (.int .i64 (x0 + 1))) G k (cls s l f m (k + 1)) AG hs (vpc v1 (Oc.cl k) (.slice (some ⟨bc,0,none⟩) m m))):=by
         rw [← cls_put,← HCL.out];refine cm_cong hset (fun j => ?_)
         unfold put;split <;> rfl
        have NE5 : Hid ((W4.setCell ⟨bc,p,none⟩ (.int .i64 (x0 + 1))).heap[ge]? = some (.cells #[.int .i64 (wn : Int),.int .i64 op,.int .i64 a,.int .i64 va,.bool sh] 39 (0,0))):=blk_setN NE4.out hcur (by decide)
        clear hr1 hr2 hr3 hset hcur HM4 NE4 HO4 HRf hx0;go_wp2;refine HK.out _ _ ?_;clear HK yp fp wx qp0 qp1;generalize World.setCell _ _ _ = Y at *;obtain ⟨z0,z1,z2,z3,z4⟩:=cellsY5 NE5.out
        have HM6 : Hid (CM X Y G k (cls s l f m (k + 1)) (ags s l f m (k + 1)) hs (vpc v1 (Oc.cl k) (.slice (some ⟨bc,0,none⟩) m m))):=by
         have h9:=HM5.out
         rw [HAG.out,ags_same s l f m k (by rw [HEV.out];show op ≠ 10;exact hop10.out)] at h9
         exact h9
        have E6l : Hid ((vpc v1 (Oc.cl k) (.slice (some ⟨bc,0,none⟩) m m)) Oc.li = .slice ta k tc):=by show _ = _;rw [vpc_other _ _ _ _ (by intro e;cases e)];exact ELi.out
        have E6a : Hid ((vpc v1 (Oc.cl k) (.slice (some ⟨bc,0,none⟩) m m)) Oc.ad = .slice (some ⟨ad0,0,none⟩) G G):=by show _ = _;rw [vpc_other _ _ _ _ (by intro e;cases e)];exact EAd.out
        have E6k : Hid ((vpc v1 (Oc.cl k) (.slice (some ⟨bc,0,none⟩) m m)) (Oc.cl k) = .slice (some ⟨bc,0,none⟩) m m):=vpc_same _ _ _
        clear HM5 ELi EAd;refine wp_seq_k fun K hK => ?_
        have HK:=ζ hK
        clear hK;go_wp2;refine HK.out _ _ ?_;clear HK z0 z1 z2 z3 z4;generalize vpc v1 (Oc.cl k) (.slice (some ⟨bc,0,none⟩) m m) = v6 at *;have hAl_ : Below Y.heap.size Y (Y.alloc (.cells #[.slice (some ⟨bc,0,none⟩) m m] 24)):=(Below.refl _ _).alloc (Nat.le_refl _) _
        have HMa:=ζ (HM6.out.below hAl_)
        have HOa : Hid ((Y.alloc (.cells #[.slice (some ⟨bc,0,none⟩) m m] 24)).ownsRow X.heap.size 24 1 (.slice ta k tc) k (rwI k (fun j => v6 (Oc.cl j)))):=by
         have h9 : (Y.alloc (.cells #[.slice (some ⟨bc,0,none⟩) m m] 24)).ownsRow X.heap.size 24 1 (v6 Oc.li) k (rwI k (fun j => v6 (Oc.cl j))):=HMa.out.fam.own Oc.li
         show World.ownsRow _ _ _ _ _ _ _
         rw [E6l.out] at h9;exact h9
        have HSa : Hid (X.heap.size ≤ (Y.alloc (.cells #[.slice (some ⟨bc,0,none⟩) m m] 24)).heap.size):=HMa.out.bl.size
        have HF5 : Hid (∀ v5 w5,w5.ownsRow X.heap.size 24 1 v5 (k + 1) (rwI k (fun j => v6 (Oc.cl j)) ++ [.slice (some ⟨bc,0,none⟩) m m]) → (Y.alloc (.cells #[.slice (some ⟨bc,0,none⟩) m m] 24)).grownBy w5 (Value.slice ta k tc).ownBlock → (v5.ownBlock = (Value.slice ta k tc).ownBlock ∨ v5.ownBlock = some (Y.alloc (.cells #[.slice (some ⟨bc,0,none⟩) m m] 24)).heap.size) → (∃ va_ vc_,v5 = .slice va_ (k + 1) vc_) ∧ CM X w5 G (k + 1) (cls s l f m (k + 1)) (ags s l f m (k + 1)) hs (vpc v6 Oc.li v5) ∧ (vpc v6 Oc.li v5) Oc.li = v5 ∧ (vpc v6 Oc.li v5) Oc.ad = v6 Oc.ad):=fun v5 w5 h1 h2 h3 =>
         ⟨own_openE h1,HMa.out.appLi v5 (by rw [E6k.out];exact h1) (by rw [E6l.out];exact h2) (by rw [E6l.out];exact h3),vpc_same _ _ _,vpc_other _ _ _ _ (by intro e;cases e)⟩
        clear hAl_ HMa HM6;go_wp2_with (at_builtin;refine wpList_append_own_at _ rfl _ _ 89 rfl X.heap.size 24 i4 (.slice none 0 0) 1 24 Try.underlying89 hi4 hz40 hz41 hz42 rfl (by decide) _ k (rwI k (fun j => v6 (Oc.cl j))) rfl HOa.out ⟨Y.heap.size,0,none⟩ 1 1 [.slice (some ⟨bc,0,none⟩) m m] rfl rfl (cell_one_new _ _ _) (by simp [Value.oneCell']) (by unfold maxLen;omega) (by omega) HSa.out ?_;(intro v5 w5 h51 h52 _ h53);obtain ⟨⟨va_,vc_,rfl⟩,hm5,hn5,hn6⟩:=HF5.out v5 w5 h51 h52 h53;have HM8:=ζ hm5;have E8l:=ζ hn5;have E8a:=ζ hn6;clear h51 h52 h53 hm5 hn5 hn6 HF5)
        refine HKb.out _ _ ?_;go_wp2;go_roundw
        case rel => exact ⟨k + 1,_,hs,_,_,_,_,_,HLT.out,by go_num,rfl,E8l.out,by rw [E8a.out];exact E6a.out,rfl,HN3,HM8,HEg1⟩
        case measure => simp [intOf];have:=HLT.out;omega
       ·have kd : decide (0 ≤ dd ∧ dd < (m : Int)) = false:=decide_eq_false hok
        rw [kd] at HPl;have HRf : Hid ((List.range m).map (jn rows) = clL s l f m k):=by
         show _ = _
         unfold clL;apply List.map_congr_left
         intro q hq
         have hq:=List.mem_range.1 hq
         have h4:=HRow.out q hq
         rw [if_neg (by rw [HEV.out];show ¬ (wn : Int) = _;omega)] at h4
         omega
        clear hok kd hdd HRow;refine wp_seq_k fun K hK => ?_
        have HK:=ζ hK
        clear hK;go_wp2_with fail
        refine (HPl.out _).mono ?_
        rintro e4 W4 ⟨rfl,hb4⟩
        have HM4:=ζ (HM3.out.below hb4)
        have NE4:=ζ (blk_keep NE3.out hb4)
        have HO4:=ζ (own_belowI HO3.out hb4)
        clear hb4 HM3 NE3 HO3 HPl b0 b1 z0 z1 z2 z3 z4;have HM5 : Hid (CM X W4 G k (cls s l f m (k + 1)) AG hs (vpc v1 (Oc.cl k) (.slice (some ⟨bc,0,none⟩) m m))):=by
         have h9:=HM4.out
         rw [HRf.out,HCL.out,cls_put] at h9;exact h9
        have NE5:=NE4
        clear HM4 NE4 HO4 HRf;go_wp2;refine HK.out _ _ ?_;clear HK;rename World => Y
        obtain ⟨z0,z1,z2,z3,z4⟩:=cellsY5 NE5.out
        have HM6 : Hid (CM X Y G k (cls s l f m (k + 1)) (ags s l f m (k + 1)) hs (vpc v1 (Oc.cl k) (.slice (some ⟨bc,0,none⟩) m m))):=by
         have h9:=HM5.out
         rw [HAG.out,ags_same s l f m k (by rw [HEV.out];show op ≠ 10;exact hop10.out)] at h9
         exact h9
        have E6l : Hid ((vpc v1 (Oc.cl k) (.slice (some ⟨bc,0,none⟩) m m)) Oc.li = .slice ta k tc):=by show _ = _;rw [vpc_other _ _ _ _ (by intro e;cases e)];exact ELi.out
        have E6a : Hid ((vpc v1 (Oc.cl k) (.slice (some ⟨bc,0,none⟩) m m)) Oc.ad = .slice (some ⟨ad0,0,none⟩) G G):=by show _ = _;rw [vpc_other _ _ _ _ (by intro e;cases e)];exact EAd.out
        have E6k : Hid ((vpc v1 (Oc.cl k) (.slice (some ⟨bc,0,none⟩) m m)) (Oc.cl k) = .slice (some ⟨bc,0,none⟩) m m):=vpc_same _ _ _
        clear HM5 ELi EAd;refine wp_seq_k fun K hK => ?_
        have HK:=ζ hK
        clear hK;go_wp2;refine HK.out _ _ ?_;clear HK z0 z1 z2 z3 z4;generalize vpc v1 (Oc.cl k) (.slice (some ⟨bc,0,none⟩) m m) = v6 at *;have hAl_ : Below Y.heap.size Y (Y.alloc (.cells #[.slice (some ⟨bc,0,none⟩) m m] 24)):=(Below.refl _ _).alloc (Nat.le_refl _) _
        have HMa:=ζ (HM6.out.below hAl_)
        have HOa : Hid ((Y.alloc (.cells #[.slice (some ⟨bc,0,none⟩) m m] 24)).ownsRow X.heap.size 24 1 (.slice ta k tc) k (rwI k (fun j => v6 (Oc.cl j)))):=by
         have h9 : (Y.alloc (.cells #[.slice (some ⟨bc,0,none⟩) m m] 24)).ownsRow X.heap.size 24 1 (v6 Oc.li) k (rwI k (fun j => v6 (Oc.cl j))):=HMa.out.fam.own Oc.li
         show World.ownsRow _ _ _ _ _ _ _
         rw [E6l.out] at h9;exact h9
        have HSa : Hid (X.heap.size ≤ (Y.alloc (.cells #[.slice (some ⟨bc,0,none⟩) m m] 24)).heap.size):=HMa.out.bl.size
        have HF5 : Hid (∀ v5 w5,w5.ownsRow X.heap.size 24 1 v5 (k + 1) (rwI k (fun j => v6 (Oc.cl j)) ++ [.slice (some ⟨bc,0,none⟩) m m]) → (Y.alloc (.cells #[.slice (some ⟨bc,0,none⟩) m m] 24)).grownBy w5 (Value.slice ta k tc).ownBlock → (v5.ownBlock = (Value.slice ta k tc).ownBlock ∨ v5.ownBlock = some (Y.alloc (.cells #[.slice (some ⟨bc,0,none⟩) m m] 24)).heap.size) → (∃ va_ vc_,v5 = .slice va_ (k + 1) vc_) ∧ CM X w5 G (k + 1) (cls s l f m (k + 1)) (ags s l f m (k + 1)) hs (vpc v6 Oc.li v5) ∧ (vpc v6 Oc.li v5) Oc.li = v5 ∧ (vpc v6 Oc.li v5) Oc.ad = v6 Oc.ad):=fun v5 w5 h1 h2 h3 =>
         ⟨own_openE h1,HMa.out.appLi v5 (by rw [E6k.out];exact h1) (by rw [E6l.out];exact h2) (by rw [E6l.out];exact h3),vpc_same _ _ _,vpc_other _ _ _ _ (by intro e;cases e)⟩
        clear hAl_ HMa HM6;go_wp2_with (at_builtin;refine wpList_append_own_at _ rfl _ _ 89 rfl X.heap.size 24 i4 (.slice none 0 0) 1 24 Try.underlying89 hi4 hz40 hz41 hz42 rfl (by decide) _ k (rwI k (fun j => v6 (Oc.cl j))) rfl HOa.out ⟨Y.heap.size,0,none⟩ 1 1 [.slice (some ⟨bc,0,none⟩) m m] rfl rfl (cell_one_new _ _ _) (by simp [Value.oneCell']) (by unfold maxLen;omega) (by omega) HSa.out ?_;(intro v5 w5 h51 h52 _ h53);obtain ⟨⟨va_,vc_,rfl⟩,hm5,hn5,hn6⟩:=HF5.out v5 w5 h51 h52 h53;have HM8:=ζ hm5;have E8l:=ζ hn5;have E8a:=ζ hn6;clear h51 h52 h53 hm5 hn5 hn6 HF5)
        refine HKb.out _ _ ?_;go_wp2;go_roundw
        case rel => exact ⟨k + 1,_,hs,_,_,_,_,_,HLT.out,by go_num,rfl,E8l.out,by rw [E8a.out];exact E6a.out,rfl,HN3,HM8,HEg1⟩
        case measure => simp [intOf];have:=HLT.out;omega
      ·have k11 : (op == 11) = false:=by simp [hop11]
       have HRw : Hid ((egT ed k).map (fun x => clL s l f m x.1.toNat) = rowsOf s l f m ed k):=by
        show _ = _
        rw [rowsOf_eq,if_neg (by rw [HEV.out];exact hop11),List.append_nil]
       have hNb : HN ≤ 40001:=by omega
       clear hop11 hN40;generalize (egT ed k).map (fun x => clL s l f m x.1.toNat) = rows at *;refine wp_seq_k fun K hK => ?_
       have HK:=ζ hK
       clear hK;go_wp2;refine HK.out _ _ ?_;clear HK z0 z1 z2 z3 z4;by_cases hop10' : op = 10
       ·have k10 : (op == 10) = true:=by simp [hop10']
        obtain ⟨an,han,haa⟩:=HGa.out (.inl hop10')
        have HAn:=ζ han
        have HAa:=ζ haa
        have hop10 : Hid (op = 10):=hop10'
        clear hop10' han haa HGa;obtain ⟨oa,oc,eA_,hrr⟩:=HM.out.rr HS.out
        have hlen_:=HS.out.1
        rw [EAh.out,← hlen_,HHn.out] at eA_;injection eA_ with eA1 eA2 eA3
        subst eA1 eA3;have HJ : Hid (∀ W,Below wr.heap.size wr W → Calls Try.prog 46 #[.int .i64 (m : Int),.slice ua HN uc] W fun e w' => (e = .returned (.slice (some ⟨W.heap.size,0,none⟩) m m) ∧ w'.ownsRow W.heap.size 3 1 (.slice (some ⟨W.heap.size,0,none⟩) m m) m (rwI m (fun p => .int .i64 (jn rows p)))) ∧ Below W.heap.size W w'):=fun W hW => by
         have:=pjoined m ua uc rows W HMm.out (hrr.below hW) (fun i => by rw [HRw.out];exact HLe.out i) (by rw [← hlen_,HHn.out];omega)
         rw [← hlen_,HHn.out] at this;exact this
        have HRow:=ζ (HCk.out)
        rw [← HRw.out] at HRow;clear hrr hlen_ eA2;obtain ⟨b0,b1⟩:=cellsY2 (blk_keep NA0.out HM.out.bl)
        refine wp_seq_k fun K hK => ?_
        have HK:=ζ hK
        clear hK;go_wp2_with fail
        refine (HJ.out wr (Below.refl _ _)).mono ?_
        rintro e3 W3 ⟨⟨rfl,hown⟩,hb3⟩
        have HM3:=ζ (HM.out.newCl hb3 ((List.range m).map (jn rows)) _ (by rw [len_rng,mapI];exact hown))
        have HO3:=ζ hown
        have NE3:=ζ (blk_keep NE.out hb3)
        clear hown hb3 HJ HM NE b0 b1;generalize wr.heap.size = bc at *;go_wp2;refine HK.out _ _ ?_;clear HK;obtain ⟨b0,b1⟩:=cellsY2 (blk_keep NA0.out HM3.out.bl)
        obtain ⟨z0,z1,z2,z3,z4⟩:=cellsY5 NE3.out
        obtain ⟨dd,hdd⟩ : ∃ dd : Int,(wn : Int) - (f : Int) = dd:=⟨_,rfl⟩
        have HPl : Hid (∀ W,Calls Try.prog 47 #[.agg #[.int .i64 (f : Int),.int .i64 (m : Int)],.int .i64 (wn : Int)] W fun e w' => e = .returned (.tuple #[.int .i64 dd,.bool (decide (0 ≤ dd ∧ dd < (m : Int)))]) ∧ Below W.heap.size W w'):=fun W => by
         have:=pplace f m (wn : Int) W (by omega) (by have:=HWn.out;omega) HFf.out
         rw [hdd] at this;exact this
        by_cases hok : 0 ≤ dd ∧ dd < (m : Int)
        ·have kd : decide (0 ≤ dd ∧ dd < (m : Int)) = true:=decide_eq_true hok
         rw [kd] at HPl;obtain ⟨p,rfl⟩ : ∃ p : Nat,dd = (p : Int):=⟨dd.toNat,by omega⟩
         have hpm : p < m:=by omega
         have HRf : Hid (∀ x0,jn rows p = x0 → ((List.range m).map (jn rows)).set p (x0 + 1) = clL s l f m k ∧ 0 ≤ x0 ∧ x0 ≤ 1000000):=fun x0 hx => by
          have h1:=HRow.out p hpm
          rw [if_pos (by rw [HEV.out];show (wn : Int) = _;omega),hx] at h1
          have h2:=Tr.ck_le s l ((f + p : Nat) : Int) k HLT.out
          have h3 : Tr.wc l ((f + p : Nat) : Int) (k + 1) ≤ k + 1:=by
           unfold Tr.wc
           exact Nat.le_trans List.countP_le_length (by rw [List.length_take];omega)
          refine ⟨?_,by rw [← hx];exact jn_nn rows p,by omega⟩
          symm
          unfold clL;refine ext_rng _ _ _ (by simp) (fun q hq => ?_)
          rw [getD_set];by_cases e : p = q
          ·subst e
           rw [if_pos ⟨rfl,by simpa using hpm⟩]
           exact h1
          ·rw [if_neg (fun h => e h.1),rng_getD _ m q hq]
           have h4:=HRow.out q hq
           rw [if_neg (by rw [HEV.out];show ¬ (wn : Int) = _;omega)] at h4
           omega
         clear hok kd hdd HRow;refine wp_seq_k fun K hK => ?_
         have HK:=ζ hK
         clear hK;go_wp2_with fail
         refine (HPl.out _).mono ?_
         rintro e4 W4 ⟨rfl,hb4⟩
         have HM4:=ζ (HM3.out.below hb4)
         have NE4:=ζ (blk_keep NE3.out hb4)
         have HO4:=ζ (own_belowI HO3.out hb4)
         clear hb4 HM3 NE3 HO3 HPl b0 b1 z0 z1 z2 z3 z4;obtain ⟨x0,hx0⟩ : ∃ x0,jn rows p = x0:=⟨_,rfl⟩
         obtain ⟨_,_,ebc,_,_,_,yp⟩:=own_rw HO4.out p hpm
         injection ebc with ebc1 _ ebc3
         subst ebc3;injection ebc1 with ebc1
         injection ebc1 with ebc1
         subst ebc1;rw [hx0] at yp;have fp:=HO4.out.frozenAt p
         obtain ⟨_,cur,hcur⟩:=row_is HO4.out rfl (by omega)
         obtain ⟨hr1,hr2,hr3⟩:=HRf.out x0 hx0
         have wx : IntKind.i64.wrap (x0 + 1) = x0 + 1:=by rw [IntKind.wrap_i64];omega
         have qp0 : (0 : Int) ≤ (p : Int):=by omega
         have qp1 : (p : Int) < (m : Int):=by omega
         have hset:=HM4.out.setCl k p (x0 + 1) (b:=bc) (cap:=m) (by rw [vpc_same,put_same,len_rng])
         rw [put_same,hr1] at hset;have HM5 : Hid (CM X (W4.setCell ⟨bc,p,none⟩ (.int .i64 (x0 + 1))) G k (cls s l f m (k + 1)) AG hs (vpc v1 (Oc.cl k) (.slice (some ⟨bc,0,none⟩) m m))):=by
          rw [← cls_put,← HCL.out];refine cm_cong hset (fun j => ?_)
          unfold put;split <;> rfl
         have NE5 : Hid ((W4.setCell ⟨bc,p,none⟩ (.int .i64 (x0 + 1))).heap[ge]? = some (.cells #[.int .i64 (wn : Int),.int .i64 op,.int .i64 a,.int .i64 va,.bool sh] 39 (0,0))):=blk_setN NE4.out hcur (by decide)
         clear hr1 hr2 hr3 hset hcur HM4 NE4 HO4 HRf hx0;go_wp2;refine HK.out _ _ ?_;clear HK yp fp wx qp0 qp1;generalize World.setCell _ _ _ = Y at *;obtain ⟨z0,z1,z2,z3,z4⟩:=cellsY5 NE5.out
         refine wp_seq_k fun K hK => ?_
         have HK:=ζ hK
         clear hK;go_wp2;obtain ⟨ab,acap,eab,yr,_⟩:=HM5.out.adAt an HAn.out
         obtain ⟨ga,gc,ega,hga⟩:=HM5.out.agIs an
         obtain ⟨gl,hgl⟩ : ∃ gl,(AG an).length = gl:=⟨_,rfl⟩
         rw [hgl] at ega;rw [ega] at yr;have eab : (.slice (some ⟨ad0,0,none⟩) G G : Value) = .slice (some ⟨ab,0,none⟩) G acap:=by rw [← EAd.out,← eab,vpc_other _ _ _ _ (by intro e;cases e)]
         injection eab with eab1 _ eab3
         injection eab1 with eab1
         injection eab1 with eab1
         subst eab1 eab3;have eab : (vpc v1 (Oc.cl k) (.slice (some ⟨bc,0,none⟩) m m)) Oc.ad = .slice (some ⟨ad0,0,none⟩) G G:=by rw [vpc_other _ _ _ _ (by intro e;cases e)];exact EAd.out
         have NBd:=ζ (blk_keep NA0.out HM5.out.bl)
         have qa0 : (0 : Int) ≤ (an : Int):=by omega
         have qa1 : (an : Int) < (G : Int):=by have:=HAn.out;omega
         have HGl:=ζ hgl
         have HGA:=ζ hga
         have EAb:=ζ eab
         have hglm : gl ≤ m:=by rw [← hgl,HAG.out];exact adL_len s l f m k (an : Int)
         have HGm:=ζ hglm
         clear z0 z1 z2 z3 z4 hga hgl eab hglm;refine wp_region_noPanic ?_
         refine RG.wp_region_L (fun Z => Below Y.heap.size Y Z) (fun Z => True) [14] (by kernel_rfl) ?_
         refine RG.wpL_any fun Yz99 hY => ?_
         have HBz99 : Hid (Below Y.heap.size Y Yz99):=by rw [hY];exact below_drewN (Below.refl _ _) 1
         clear hY;refine RG.wpL_takeS (fuel:=4) (a':=?Az99) [0,1,2,3,4,5,6,7,8,9,10] (by kernel_rfl) (by kernel_rfl) (fun _ _ _ _ _ h => h) trivial (HBz99.out) ?rz99 ?_
         case rz99 =>
          iterate 2
           refine RG.rS ?_ (fun Z hT hS => ?_) ?_
           rotate_left
           ·go_simp
            rfl
           simp only [Act.put,lA,lB,lC,lD,lE,lF]
          refine RG.rS (.int .i64 (an : Int)) (fun Z hT hS => ?_) ?_
          ·obtain ⟨z0,z1,z2,z3,z4⟩:=cellsY5 (blk_keep NE5.out hS);rw [HAa.out] at z2;obtain ⟨b0,b1⟩:=cellsY2 (blk_keep NBd.out hS);have yr:=keepC hS yr
           go_simp
          simp only [Act.put,lA,lB,lC,lD,lE,lF]
          refine RG.rS ?_ (fun Z hT hS => ?_) ?_
          rotate_left
          ·go_simp
           rfl
          simp only [Act.put,lA,lB,lC,lD,lE,lF]
          refine RG.rS (.int .i64 (m : Int)) (fun Z hT hS => ?_) ?_
          ·obtain ⟨z0,z1,z2,z3,z4⟩:=cellsY5 (blk_keep NE5.out hS);rw [HAa.out] at z2;obtain ⟨b0,b1⟩:=cellsY2 (blk_keep NBd.out hS);have yr:=keepC hS yr
           go_simp
          simp only [Act.put,lA,lB,lC,lD,lE,lF]
          iterate 2
           refine RG.rS ?_ (fun Z hT hS => ?_) ?_
           rotate_left
           ·go_simp
            rfl
           simp only [Act.put,lA,lB,lC,lD,lE,lF]
          refine RG.rS (.int .i64 (an : Int)) (fun Z hT hS => ?_) ?_
          ·obtain ⟨z0,z1,z2,z3,z4⟩:=cellsY5 (blk_keep NE5.out hS);rw [HAa.out] at z2;obtain ⟨b0,b1⟩:=cellsY2 (blk_keep NBd.out hS);have yr:=keepC hS yr
           go_simp
          simp only [Act.put,lA,lB,lC,lD,lE,lF]
          refine RG.rS ?_ (fun Z hT hS => ?_) ?_
          rotate_left
          ·go_simp
           rfl
          simp only [Act.put,lA,lB,lC,lD,lE,lF]
          refine RG.rS (.slice ga gl gc) (fun Z hT hS => ?_) ?_
          ·obtain ⟨z0,z1,z2,z3,z4⟩:=cellsY5 (blk_keep NE5.out hS);rw [HAa.out] at z2;obtain ⟨b0,b1⟩:=cellsY2 (blk_keep NBd.out hS);have yr:=keepC hS yr
           go_simp
          simp only [Act.put,lA,lB,lC,lD,lE,lF]
          refine RG.rS ?_ (fun Z hT hS => ?_) ?_
          rotate_left
          ·go_simp
           rfl
          simp only [Act.put,lA,lB,lC,lD,lE,lF]
          exact RG.RunsS.nil
         refine RG.wpL_step (i:=11) (by kernel_rfl) (by rfl) (by rfl) (fun KX hK => ?_)
         have HK:=ζ hK
         clear hK;go_simp;have hAb : Below Y.heap.size Y (Yz99.alloc (.cells #[.slice ga gl gc,.slice (some ⟨bc,0,none⟩) m m] 24)):=HBz99.out.alloc HBz99.out.size _
         have HAb:=ζ hAb
         have hA1 : Below Yz99.heap.size Yz99 (Yz99.alloc (.cells #[.slice ga gl gc,.slice (some ⟨bc,0,none⟩) m m] 24)):=(Below.refl _ _).alloc (Nat.le_refl _) _
         have HQc : Hid (RR (Yz99.alloc (.cells #[.slice ga gl gc,.slice (some ⟨bc,0,none⟩) m m] 24)) (some ⟨Yz99.heap.size,0,none⟩) [AG an,clL s l f m k]):=by
          refine .inr ⟨Yz99.heap.size,0,rfl,fun i hi => ?_⟩
          have hnew:=heap_alloc_new Yz99 (.cells #[.slice ga gl gc,.slice (some ⟨bc,0,none⟩) m m] 24)
          simp only [List.length_cons,List.length_nil] at hi
          rcases (show i = 0 ∨ i = 1 by omega) with rfl | rfl
          ·exact ⟨ga,gc,by rw [cell_of_row _ _ _ _ _ (0,0) hnew];show _ = some (Value.slice ga (AG an).length gc);rw [HGl.out];rfl,HGA.out.below hAb⟩
          ·obtain ⟨a2,c2,e6,h4⟩:=HM5.out.clIs k
           rw [vpc_same] at e6;have hkk : cls s l f m (k + 1) k = clL s l f m k:=by unfold cls;rw [if_pos (by omega)]
           rw [hkk,clL_len] at e6;rw [hkk] at h4;injection e6 with e61 _ e63
           subst e61 e63;refine ⟨_,m,by rw [cell_of_row _ _ _ _ _ (0,0) hnew];show _ = some (Value.slice _ (clL s l f m k).length m);rw [clL_len];rfl,h4.below hAb⟩
         refine HK.out _ _ trivial (fun _ => HAb.out) ?_
         clear HK KX hAb hA1;generalize hYb : World.alloc Yz99 _ = Yb at *;generalize Yz99.heap.size = gq at *;try simp only [Act.put,lA,lB,lC,lD,lE,lF]
         have HJ2 : Hid (Calls Try.prog 46 #[.int .i64 (m : Int),.slice (some ⟨gq,0,none⟩) 2 2] Yb fun e w' => (e = .returned (.slice (some ⟨Yb.heap.size,0,none⟩) m m) ∧ w'.ownsRow Yb.heap.size 3 1 (.slice (some ⟨Yb.heap.size,0,none⟩) m m) m (rwI m (fun p => .int .i64 (jn [AG an,clL s l f m k] p)))) ∧ Below Yb.heap.size Yb w'):=pjoined m (some ⟨gq,0,none⟩) 2 [AG an,clL s l f m k] Yb HMm.out HQc.out (fun i => by
          rcases i with _ | _ | i
          ·show (AG an).length ≤ m;rw [HGl.out];exact HGm.out
          ·show (clL s l f m k).length ≤ m;rw [clL_len];omega
          ·simp) (by simp)
         refine RG.wpL_step (i:=12) (by kernel_rfl) (by rfl) (by rfl) (fun KX hK => ?_)
         have HK:=ζ hK
         clear hK;go_simp;refine HJ2.out.mono ?_
         rintro e7 W7 ⟨⟨rfl,hown7⟩,hb7⟩
         have HB7 : Hid (Below Y.heap.size Y W7):=HAb.out.trans (hb7.mono HAb.out.size)
         have HM6':=ζ (HM5.out.setAg HB7.out an HAn.out ((List.range m).map (jn [AG an,clL s l f m k])) (.slice (some ⟨Yb.heap.size,0,none⟩) m m) (by rw [len_rng,mapI];exact own_baseL hown7 HAb.out.size) EAb.out)
         obtain ⟨_,_,eab7,cz,fz⟩:=(HM5.out.below HB7.out).adAt an HAn.out
         rw [EAb.out] at eab7;injection eab7 with eab71 _ eab73
         injection eab71 with eab71
         injection eab71 with eab71
         subst eab71 eab73;refine HK.out _ _ trivial (fun _ => HB7.out) ?_
         clear HK KX hown7 hb7 HJ2 HQc HAb;generalize Yb.heap.size = bd at *;try simp only [Act.put,lA,lB,lC,lD,lE,lF]
         refine RG.wpL_take (fuel:=1) (a':=?Bz100) [13] (by kernel_rfl) (by kernel_rfl) (fun _ _ _ _ _ h => h) trivial (fun _ => HB7.out) ?sz100 ?_
         case sz100 =>
          refine RG.rW ?_ (fun Z hT => ?_) ?_
          rotate_left
          ·go_simp
           rfl
          simp only [Act.put,lA,lB,lC,lD,lE,lF]
          exact RG.RunsIf.nil
         refine RG.wpL_late (i:=14) (by kernel_rfl) (by rfl) (by rfl) (by kernel_rfl) (fun KX hK => ?_)
         have HK:=ζ hK
         clear hK;go_simp;refine HK.out _ _ trivial ?_
         clear HK KX cz fz;refine RG.wpL_done (by kernel_rfl) ?_ _
         refine NoPanic.normal ?_
         go_wp2;have HM6 : Hid (CM X (W7.setCell ⟨ad0,an,none⟩ (.slice (some ⟨bd,0,none⟩) m m)) G k (cls s l f m (k + 1)) (ags s l f m (k + 1)) hs (vpc (vpc v1 (Oc.cl k) (.slice (some ⟨bc,0,none⟩) m m)) (Oc.ag an) (.slice (some ⟨bd,0,none⟩) m m))):=by
          have h9:=HM6'.out
          have h8 : (List.range m).map (jn [AG an,clL s l f m k]) = adL s l f m (k + 1) (an : Int):=by
           rw [HAG.out];exact adL_join s l f m k (an : Int) ⟨by rw [HEV.out];exact hop10.out,by rw [HEV.out];exact HAa.out⟩
          rw [h8,HAG.out,ags_put s l f m k an (by rw [HEV.out];exact hop10.out) (by rw [HEV.out];exact HAa.out)] at h9
          exact h9
         have E6l : Hid ((vpc (vpc v1 (Oc.cl k) (.slice (some ⟨bc,0,none⟩) m m)) (Oc.ag an) (.slice (some ⟨bd,0,none⟩) m m)) Oc.li = .slice ta k tc):=by show _ = _;rw [vpc_other _ _ _ _ (by intro e;cases e),vpc_other _ _ _ _ (by intro e;cases e)];exact ELi.out
         have E6a : Hid ((vpc (vpc v1 (Oc.cl k) (.slice (some ⟨bc,0,none⟩) m m)) (Oc.ag an) (.slice (some ⟨bd,0,none⟩) m m)) Oc.ad = .slice (some ⟨ad0,0,none⟩) G G):=by show _ = _;rw [vpc_other _ _ _ _ (by intro e;cases e),vpc_other _ _ _ _ (by intro e;cases e)];exact EAd.out
         have E6k : Hid ((vpc (vpc v1 (Oc.cl k) (.slice (some ⟨bc,0,none⟩) m m)) (Oc.ag an) (.slice (some ⟨bd,0,none⟩) m m)) (Oc.cl k) = .slice (some ⟨bc,0,none⟩) m m):=by show _ = _;rw [vpc_other _ _ _ _ (by intro e;cases e)];exact vpc_same _ _ _
         clear HM6' HM5 ELi EAd HB7;generalize vpc (vpc v1 (Oc.cl k) (.slice (some ⟨bc,0,none⟩) m m)) (Oc.ag an) (.slice (some ⟨bd,0,none⟩) m m) = v6 at *;generalize World.setCell _ _ _ = Y at *;refine HK.out _ _ ?_;clear HK;have hAl_ : Below Y.heap.size Y (Y.alloc (.cells #[.slice (some ⟨bc,0,none⟩) m m] 24)):=(Below.refl _ _).alloc (Nat.le_refl _) _
         have HMa:=ζ (HM6.out.below hAl_)
         have HOa : Hid ((Y.alloc (.cells #[.slice (some ⟨bc,0,none⟩) m m] 24)).ownsRow X.heap.size 24 1 (.slice ta k tc) k (rwI k (fun j => v6 (Oc.cl j)))):=by
          have h9 : (Y.alloc (.cells #[.slice (some ⟨bc,0,none⟩) m m] 24)).ownsRow X.heap.size 24 1 (v6 Oc.li) k (rwI k (fun j => v6 (Oc.cl j))):=HMa.out.fam.own Oc.li
          show World.ownsRow _ _ _ _ _ _ _
          rw [E6l.out] at h9;exact h9
         have HSa : Hid (X.heap.size ≤ (Y.alloc (.cells #[.slice (some ⟨bc,0,none⟩) m m] 24)).heap.size):=HMa.out.bl.size
         have HF5 : Hid (∀ v5 w5,w5.ownsRow X.heap.size 24 1 v5 (k + 1) (rwI k (fun j => v6 (Oc.cl j)) ++ [.slice (some ⟨bc,0,none⟩) m m]) → (Y.alloc (.cells #[.slice (some ⟨bc,0,none⟩) m m] 24)).grownBy w5 (Value.slice ta k tc).ownBlock → (v5.ownBlock = (Value.slice ta k tc).ownBlock ∨ v5.ownBlock = some (Y.alloc (.cells #[.slice (some ⟨bc,0,none⟩) m m] 24)).heap.size) → (∃ va_ vc_,v5 = .slice va_ (k + 1) vc_) ∧ CM X w5 G (k + 1) (cls s l f m (k + 1)) (ags s l f m (k + 1)) hs (vpc v6 Oc.li v5) ∧ (vpc v6 Oc.li v5) Oc.li = v5 ∧ (vpc v6 Oc.li v5) Oc.ad = v6 Oc.ad):=fun v5 w5 h1 h2 h3 =>
          ⟨own_openE h1,HMa.out.appLi v5 (by rw [E6k.out];exact h1) (by rw [E6l.out];exact h2) (by rw [E6l.out];exact h3),vpc_same _ _ _,vpc_other _ _ _ _ (by intro e;cases e)⟩
         clear hAl_ HMa HM6;go_wp2_with (at_builtin;refine wpList_append_own_at _ rfl _ _ 89 rfl X.heap.size 24 i4 (.slice none 0 0) 1 24 Try.underlying89 hi4 hz40 hz41 hz42 rfl (by decide) _ k (rwI k (fun j => v6 (Oc.cl j))) rfl HOa.out ⟨Y.heap.size,0,none⟩ 1 1 [.slice (some ⟨bc,0,none⟩) m m] rfl rfl (cell_one_new _ _ _) (by simp [Value.oneCell']) (by unfold maxLen;omega) (by omega) HSa.out ?_;(intro v5 w5 h51 h52 _ h53);obtain ⟨⟨va_,vc_,rfl⟩,hm5,hn5,hn6⟩:=HF5.out v5 w5 h51 h52 h53;have HM8:=ζ hm5;have E8l:=ζ hn5;have E8a:=ζ hn6;clear h51 h52 h53 hm5 hn5 hn6 HF5)
         refine HKb.out _ _ ?_;go_wp2;go_roundw
         case rel => exact ⟨k + 1,_,hs,_,_,_,_,_,HLT.out,by go_num,rfl,E8l.out,by rw [E8a.out];exact E6a.out,rfl,HN3,HM8,HEg1⟩
         case measure => simp [intOf];have:=HLT.out;omega
        ·have kd : decide (0 ≤ dd ∧ dd < (m : Int)) = false:=decide_eq_false hok
         rw [kd] at HPl;have HRf : Hid ((List.range m).map (jn rows) = clL s l f m k):=by
          show _ = _
          unfold clL;apply List.map_congr_left
          intro q hq
          have hq:=List.mem_range.1 hq
          have h4:=HRow.out q hq
          rw [if_neg (by rw [HEV.out];show ¬ (wn : Int) = _;omega)] at h4
          omega
         clear hok kd hdd HRow;refine wp_seq_k fun K hK => ?_
         have HK:=ζ hK
         clear hK;go_wp2_with fail
         refine (HPl.out _).mono ?_
         rintro e4 W4 ⟨rfl,hb4⟩
         have HM4:=ζ (HM3.out.below hb4)
         have NE4:=ζ (blk_keep NE3.out hb4)
         have HO4:=ζ (own_belowI HO3.out hb4)
         clear hb4 HM3 NE3 HO3 HPl b0 b1 z0 z1 z2 z3 z4;have HM5 : Hid (CM X W4 G k (cls s l f m (k + 1)) AG hs (vpc v1 (Oc.cl k) (.slice (some ⟨bc,0,none⟩) m m))):=by
          have h9:=HM4.out
          rw [HRf.out,HCL.out,cls_put] at h9;exact h9
         have NE5:=NE4
         clear HM4 NE4 HO4 HRf;go_wp2;refine HK.out _ _ ?_;clear HK;rename World => Y
         obtain ⟨z0,z1,z2,z3,z4⟩:=cellsY5 NE5.out
         refine wp_seq_k fun K hK => ?_
         have HK:=ζ hK
         clear hK;go_wp2;obtain ⟨ab,acap,eab,yr,_⟩:=HM5.out.adAt an HAn.out
         obtain ⟨ga,gc,ega,hga⟩:=HM5.out.agIs an
         obtain ⟨gl,hgl⟩ : ∃ gl,(AG an).length = gl:=⟨_,rfl⟩
         rw [hgl] at ega;rw [ega] at yr;have eab : (.slice (some ⟨ad0,0,none⟩) G G : Value) = .slice (some ⟨ab,0,none⟩) G acap:=by rw [← EAd.out,← eab,vpc_other _ _ _ _ (by intro e;cases e)]
         injection eab with eab1 _ eab3
         injection eab1 with eab1
         injection eab1 with eab1
         subst eab1 eab3;have eab : (vpc v1 (Oc.cl k) (.slice (some ⟨bc,0,none⟩) m m)) Oc.ad = .slice (some ⟨ad0,0,none⟩) G G:=by rw [vpc_other _ _ _ _ (by intro e;cases e)];exact EAd.out
         have NBd:=ζ (blk_keep NA0.out HM5.out.bl)
         have qa0 : (0 : Int) ≤ (an : Int):=by omega
         have qa1 : (an : Int) < (G : Int):=by have:=HAn.out;omega
         have HGl:=ζ hgl
         have HGA:=ζ hga
         have EAb:=ζ eab
         have hglm : gl ≤ m:=by rw [← hgl,HAG.out];exact adL_len s l f m k (an : Int)
         have HGm:=ζ hglm
         clear z0 z1 z2 z3 z4 hga hgl eab hglm;refine wp_region_noPanic ?_
         refine RG.wp_region_L (fun Z => Below Y.heap.size Y Z) (fun Z => True) [14] (by kernel_rfl) ?_
         refine RG.wpL_any fun Yz101 hY => ?_
         have HBz101 : Hid (Below Y.heap.size Y Yz101):=by rw [hY];exact below_drewN (Below.refl _ _) 1
         clear hY;refine RG.wpL_takeS (fuel:=4) (a':=?Az101) [0,1,2,3,4,5,6,7,8,9,10] (by kernel_rfl) (by kernel_rfl) (fun _ _ _ _ _ h => h) trivial (HBz101.out) ?rz101 ?_
         case rz101 =>
          iterate 2
           refine RG.rS ?_ (fun Z hT hS => ?_) ?_
           rotate_left
           ·go_simp
            rfl
           simp only [Act.put,lA,lB,lC,lD,lE,lF]
          refine RG.rS (.int .i64 (an : Int)) (fun Z hT hS => ?_) ?_
          ·obtain ⟨z0,z1,z2,z3,z4⟩:=cellsY5 (blk_keep NE5.out hS);rw [HAa.out] at z2;obtain ⟨b0,b1⟩:=cellsY2 (blk_keep NBd.out hS);have yr:=keepC hS yr
           go_simp
          simp only [Act.put,lA,lB,lC,lD,lE,lF]
          refine RG.rS ?_ (fun Z hT hS => ?_) ?_
          rotate_left
          ·go_simp
           rfl
          simp only [Act.put,lA,lB,lC,lD,lE,lF]
          refine RG.rS (.int .i64 (m : Int)) (fun Z hT hS => ?_) ?_
          ·obtain ⟨z0,z1,z2,z3,z4⟩:=cellsY5 (blk_keep NE5.out hS);rw [HAa.out] at z2;obtain ⟨b0,b1⟩:=cellsY2 (blk_keep NBd.out hS);have yr:=keepC hS yr
           go_simp
          simp only [Act.put,lA,lB,lC,lD,lE,lF]
          iterate 2
           refine RG.rS ?_ (fun Z hT hS => ?_) ?_
           rotate_left
           ·go_simp
            rfl
           simp only [Act.put,lA,lB,lC,lD,lE,lF]
          refine RG.rS (.int .i64 (an : Int)) (fun Z hT hS => ?_) ?_
          ·obtain ⟨z0,z1,z2,z3,z4⟩:=cellsY5 (blk_keep NE5.out hS);rw [HAa.out] at z2;obtain ⟨b0,b1⟩:=cellsY2 (blk_keep NBd.out hS);have yr:=keepC hS yr
           go_simp
          simp only [Act.put,lA,lB,lC,lD,lE,lF]
          refine RG.rS ?_ (fun Z hT hS => ?_) ?_
          rotate_left
          ·go_simp
           rfl
          simp only [Act.put,lA,lB,lC,lD,lE,lF]
          refine RG.rS (.slice ga gl gc) (fun Z hT hS => ?_) ?_
          ·obtain ⟨z0,z1,z2,z3,z4⟩:=cellsY5 (blk_keep NE5.out hS);rw [HAa.out] at z2;obtain ⟨b0,b1⟩:=cellsY2 (blk_keep NBd.out hS);have yr:=keepC hS yr
           go_simp
          simp only [Act.put,lA,lB,lC,lD,lE,lF]
          refine RG.rS ?_ (fun Z hT hS => ?_) ?_
          rotate_left
          ·go_simp
           rfl
          simp only [Act.put,lA,lB,lC,lD,lE,lF]
          exact RG.RunsS.nil
         refine RG.wpL_step (i:=11) (by kernel_rfl) (by rfl) (by rfl) (fun KX hK => ?_)
         have HK:=ζ hK
         clear hK;go_simp;have hAb : Below Y.heap.size Y (Yz101.alloc (.cells #[.slice ga gl gc,.slice (some ⟨bc,0,none⟩) m m] 24)):=HBz101.out.alloc HBz101.out.size _
         have HAb:=ζ hAb
         have hA1 : Below Yz101.heap.size Yz101 (Yz101.alloc (.cells #[.slice ga gl gc,.slice (some ⟨bc,0,none⟩) m m] 24)):=(Below.refl _ _).alloc (Nat.le_refl _) _
         have HQc : Hid (RR (Yz101.alloc (.cells #[.slice ga gl gc,.slice (some ⟨bc,0,none⟩) m m] 24)) (some ⟨Yz101.heap.size,0,none⟩) [AG an,clL s l f m k]):=by
          refine .inr ⟨Yz101.heap.size,0,rfl,fun i hi => ?_⟩
          have hnew:=heap_alloc_new Yz101 (.cells #[.slice ga gl gc,.slice (some ⟨bc,0,none⟩) m m] 24)
          simp only [List.length_cons,List.length_nil] at hi
          rcases (show i = 0 ∨ i = 1 by omega) with rfl | rfl
          ·exact ⟨ga,gc,by rw [cell_of_row _ _ _ _ _ (0,0) hnew];show _ = some (Value.slice ga (AG an).length gc);rw [HGl.out];rfl,HGA.out.below hAb⟩
          ·obtain ⟨a2,c2,e6,h4⟩:=HM5.out.clIs k
           rw [vpc_same] at e6;have hkk : cls s l f m (k + 1) k = clL s l f m k:=by unfold cls;rw [if_pos (by omega)]
           rw [hkk,clL_len] at e6;rw [hkk] at h4;injection e6 with e61 _ e63
           subst e61 e63;refine ⟨_,m,by rw [cell_of_row _ _ _ _ _ (0,0) hnew];show _ = some (Value.slice _ (clL s l f m k).length m);rw [clL_len];rfl,h4.below hAb⟩
         refine HK.out _ _ trivial (fun _ => HAb.out) ?_
         clear HK KX hAb hA1;generalize hYb : World.alloc Yz101 _ = Yb at *;generalize Yz101.heap.size = gq at *;try simp only [Act.put,lA,lB,lC,lD,lE,lF]
         have HJ2 : Hid (Calls Try.prog 46 #[.int .i64 (m : Int),.slice (some ⟨gq,0,none⟩) 2 2] Yb fun e w' => (e = .returned (.slice (some ⟨Yb.heap.size,0,none⟩) m m) ∧ w'.ownsRow Yb.heap.size 3 1 (.slice (some ⟨Yb.heap.size,0,none⟩) m m) m (rwI m (fun p => .int .i64 (jn [AG an,clL s l f m k] p)))) ∧ Below Yb.heap.size Yb w'):=pjoined m (some ⟨gq,0,none⟩) 2 [AG an,clL s l f m k] Yb HMm.out HQc.out (fun i => by
          rcases i with _ | _ | i
          ·show (AG an).length ≤ m;rw [HGl.out];exact HGm.out
          ·show (clL s l f m k).length ≤ m;rw [clL_len];omega
          ·simp) (by simp)
         refine RG.wpL_step (i:=12) (by kernel_rfl) (by rfl) (by rfl) (fun KX hK => ?_)
         have HK:=ζ hK
         clear hK;go_simp;refine HJ2.out.mono ?_
         rintro e7 W7 ⟨⟨rfl,hown7⟩,hb7⟩
         have HB7 : Hid (Below Y.heap.size Y W7):=HAb.out.trans (hb7.mono HAb.out.size)
         have HM6':=ζ (HM5.out.setAg HB7.out an HAn.out ((List.range m).map (jn [AG an,clL s l f m k])) (.slice (some ⟨Yb.heap.size,0,none⟩) m m) (by rw [len_rng,mapI];exact own_baseL hown7 HAb.out.size) EAb.out)
         obtain ⟨_,_,eab7,cz,fz⟩:=(HM5.out.below HB7.out).adAt an HAn.out
         rw [EAb.out] at eab7;injection eab7 with eab71 _ eab73
         injection eab71 with eab71
         injection eab71 with eab71
         subst eab71 eab73;refine HK.out _ _ trivial (fun _ => HB7.out) ?_
         clear HK KX hown7 hb7 HJ2 HQc HAb;generalize Yb.heap.size = bd at *;try simp only [Act.put,lA,lB,lC,lD,lE,lF]
         refine RG.wpL_take (fuel:=1) (a':=?Bz102) [13] (by kernel_rfl) (by kernel_rfl) (fun _ _ _ _ _ h => h) trivial (fun _ => HB7.out) ?sz102 ?_
         case sz102 =>
          refine RG.rW ?_ (fun Z hT => ?_) ?_
          rotate_left
          ·go_simp
           rfl
          simp only [Act.put,lA,lB,lC,lD,lE,lF]
          exact RG.RunsIf.nil
         refine RG.wpL_late (i:=14) (by kernel_rfl) (by rfl) (by rfl) (by kernel_rfl) (fun KX hK => ?_)
         have HK:=ζ hK
         clear hK;go_simp;refine HK.out _ _ trivial ?_
         clear HK KX cz fz;refine RG.wpL_done (by kernel_rfl) ?_ _
         refine NoPanic.normal ?_
         go_wp2;have HM6 : Hid (CM X (W7.setCell ⟨ad0,an,none⟩ (.slice (some ⟨bd,0,none⟩) m m)) G k (cls s l f m (k + 1)) (ags s l f m (k + 1)) hs (vpc (vpc v1 (Oc.cl k) (.slice (some ⟨bc,0,none⟩) m m)) (Oc.ag an) (.slice (some ⟨bd,0,none⟩) m m))):=by
          have h9:=HM6'.out
          have h8 : (List.range m).map (jn [AG an,clL s l f m k]) = adL s l f m (k + 1) (an : Int):=by
           rw [HAG.out];exact adL_join s l f m k (an : Int) ⟨by rw [HEV.out];exact hop10.out,by rw [HEV.out];exact HAa.out⟩
          rw [h8,HAG.out,ags_put s l f m k an (by rw [HEV.out];exact hop10.out) (by rw [HEV.out];exact HAa.out)] at h9
          exact h9
         have E6l : Hid ((vpc (vpc v1 (Oc.cl k) (.slice (some ⟨bc,0,none⟩) m m)) (Oc.ag an) (.slice (some ⟨bd,0,none⟩) m m)) Oc.li = .slice ta k tc):=by show _ = _;rw [vpc_other _ _ _ _ (by intro e;cases e),vpc_other _ _ _ _ (by intro e;cases e)];exact ELi.out
         have E6a : Hid ((vpc (vpc v1 (Oc.cl k) (.slice (some ⟨bc,0,none⟩) m m)) (Oc.ag an) (.slice (some ⟨bd,0,none⟩) m m)) Oc.ad = .slice (some ⟨ad0,0,none⟩) G G):=by show _ = _;rw [vpc_other _ _ _ _ (by intro e;cases e),vpc_other _ _ _ _ (by intro e;cases e)];exact EAd.out
         have E6k : Hid ((vpc (vpc v1 (Oc.cl k) (.slice (some ⟨bc,0,none⟩) m m)) (Oc.ag an) (.slice (some ⟨bd,0,none⟩) m m)) (Oc.cl k) = .slice (some ⟨bc,0,none⟩) m m):=by show _ = _;rw [vpc_other _ _ _ _ (by intro e;cases e)];exact vpc_same _ _ _
         clear HM6' HM5 ELi EAd HB7;generalize vpc (vpc v1 (Oc.cl k) (.slice (some ⟨bc,0,none⟩) m m)) (Oc.ag an) (.slice (some ⟨bd,0,none⟩) m m) = v6 at *;generalize World.setCell _ _ _ = Y at *;refine HK.out _ _ ?_;clear HK;have hAl_ : Below Y.heap.size Y (Y.alloc (.cells #[.slice (some ⟨bc,0,none⟩) m m] 24)):=(Below.refl _ _).alloc (Nat.le_refl _) _
         have HMa:=ζ (HM6.out.below hAl_)
         have HOa : Hid ((Y.alloc (.cells #[.slice (some ⟨bc,0,none⟩) m m] 24)).ownsRow X.heap.size 24 1 (.slice ta k tc) k (rwI k (fun j => v6 (Oc.cl j)))):=by
          have h9 : (Y.alloc (.cells #[.slice (some ⟨bc,0,none⟩) m m] 24)).ownsRow X.heap.size 24 1 (v6 Oc.li) k (rwI k (fun j => v6 (Oc.cl j))):=HMa.out.fam.own Oc.li
          show World.ownsRow _ _ _ _ _ _ _
          rw [E6l.out] at h9;exact h9
         have HSa : Hid (X.heap.size ≤ (Y.alloc (.cells #[.slice (some ⟨bc,0,none⟩) m m] 24)).heap.size):=HMa.out.bl.size
         have HF5 : Hid (∀ v5 w5,w5.ownsRow X.heap.size 24 1 v5 (k + 1) (rwI k (fun j => v6 (Oc.cl j)) ++ [.slice (some ⟨bc,0,none⟩) m m]) → (Y.alloc (.cells #[.slice (some ⟨bc,0,none⟩) m m] 24)).grownBy w5 (Value.slice ta k tc).ownBlock → (v5.ownBlock = (Value.slice ta k tc).ownBlock ∨ v5.ownBlock = some (Y.alloc (.cells #[.slice (some ⟨bc,0,none⟩) m m] 24)).heap.size) → (∃ va_ vc_,v5 = .slice va_ (k + 1) vc_) ∧ CM X w5 G (k + 1) (cls s l f m (k + 1)) (ags s l f m (k + 1)) hs (vpc v6 Oc.li v5) ∧ (vpc v6 Oc.li v5) Oc.li = v5 ∧ (vpc v6 Oc.li v5) Oc.ad = v6 Oc.ad):=fun v5 w5 h1 h2 h3 =>
          ⟨own_openE h1,HMa.out.appLi v5 (by rw [E6k.out];exact h1) (by rw [E6l.out];exact h2) (by rw [E6l.out];exact h3),vpc_same _ _ _,vpc_other _ _ _ _ (by intro e;cases e)⟩
         clear hAl_ HMa HM6;go_wp2_with (at_builtin;refine wpList_append_own_at _ rfl _ _ 89 rfl X.heap.size 24 i4 (.slice none 0 0) 1 24 Try.underlying89 hi4 hz40 hz41 hz42 rfl (by decide) _ k (rwI k (fun j => v6 (Oc.cl j))) rfl HOa.out ⟨Y.heap.size,0,none⟩ 1 1 [.slice (some ⟨bc,0,none⟩) m m] rfl rfl (cell_one_new _ _ _) (by simp [Value.oneCell']) (by unfold maxLen;omega) (by omega) HSa.out ?_;(intro v5 w5 h51 h52 _ h53);obtain ⟨⟨va_,vc_,rfl⟩,hm5,hn5,hn6⟩:=HF5.out v5 w5 h51 h52 h53;have HM8:=ζ hm5;have E8l:=ζ hn5;have E8a:=ζ hn6;clear h51 h52 h53 hm5 hn5 hn6 HF5)
         refine HKb.out _ _ ?_;go_wp2;go_roundw
         case rel => exact ⟨k + 1,_,hs,_,_,_,_,_,HLT.out,by go_num,rfl,E8l.out,by rw [E8a.out];exact E6a.out,rfl,HN3,HM8,HEg1⟩
         case measure => simp [intOf];have:=HLT.out;omega
       ·have k10 : (op == 10) = false:=by simp [hop10']
        have hop10 : Hid (op ≠ 10):=hop10'
        clear hop10' HGa;obtain ⟨oa,oc,eA_,hrr⟩:=HM.out.rr HS.out
        have hlen_:=HS.out.1
        rw [EAh.out,← hlen_,HHn.out] at eA_;injection eA_ with eA1 eA2 eA3
        subst eA1 eA3;have HJ : Hid (∀ W,Below wr.heap.size wr W → Calls Try.prog 46 #[.int .i64 (m : Int),.slice ua HN uc] W fun e w' => (e = .returned (.slice (some ⟨W.heap.size,0,none⟩) m m) ∧ w'.ownsRow W.heap.size 3 1 (.slice (some ⟨W.heap.size,0,none⟩) m m) m (rwI m (fun p => .int .i64 (jn rows p)))) ∧ Below W.heap.size W w'):=fun W hW => by
         have:=pjoined m ua uc rows W HMm.out (hrr.below hW) (fun i => by rw [HRw.out];exact HLe.out i) (by rw [← hlen_,HHn.out];omega)
         rw [← hlen_,HHn.out] at this;exact this
        have HRow:=ζ (HCk.out)
        rw [← HRw.out] at HRow;clear hrr hlen_ eA2;obtain ⟨b0,b1⟩:=cellsY2 (blk_keep NA0.out HM.out.bl)
        refine wp_seq_k fun K hK => ?_
        have HK:=ζ hK
        clear hK;go_wp2_with fail
        refine (HJ.out wr (Below.refl _ _)).mono ?_
        rintro e3 W3 ⟨⟨rfl,hown⟩,hb3⟩
        have HM3:=ζ (HM.out.newCl hb3 ((List.range m).map (jn rows)) _ (by rw [len_rng,mapI];exact hown))
        have HO3:=ζ hown
        have NE3:=ζ (blk_keep NE.out hb3)
        clear hown hb3 HJ HM NE b0 b1;generalize wr.heap.size = bc at *;go_wp2;refine HK.out _ _ ?_;clear HK;obtain ⟨b0,b1⟩:=cellsY2 (blk_keep NA0.out HM3.out.bl)
        obtain ⟨z0,z1,z2,z3,z4⟩:=cellsY5 NE3.out
        obtain ⟨dd,hdd⟩ : ∃ dd : Int,(wn : Int) - (f : Int) = dd:=⟨_,rfl⟩
        have HPl : Hid (∀ W,Calls Try.prog 47 #[.agg #[.int .i64 (f : Int),.int .i64 (m : Int)],.int .i64 (wn : Int)] W fun e w' => e = .returned (.tuple #[.int .i64 dd,.bool (decide (0 ≤ dd ∧ dd < (m : Int)))]) ∧ Below W.heap.size W w'):=fun W => by
         have:=pplace f m (wn : Int) W (by omega) (by have:=HWn.out;omega) HFf.out
         rw [hdd] at this;exact this
        by_cases hok : 0 ≤ dd ∧ dd < (m : Int)
        ·have kd : decide (0 ≤ dd ∧ dd < (m : Int)) = true:=decide_eq_true hok
         rw [kd] at HPl;obtain ⟨p,rfl⟩ : ∃ p : Nat,dd = (p : Int):=⟨dd.toNat,by omega⟩
         have hpm : p < m:=by omega
         have HRf : Hid (∀ x0,jn rows p = x0 → ((List.range m).map (jn rows)).set p (x0 + 1) = clL s l f m k ∧ 0 ≤ x0 ∧ x0 ≤ 1000000):=fun x0 hx => by
          have h1:=HRow.out p hpm
          rw [if_pos (by rw [HEV.out];show (wn : Int) = _;omega),hx] at h1
          have h2:=Tr.ck_le s l ((f + p : Nat) : Int) k HLT.out
          have h3 : Tr.wc l ((f + p : Nat) : Int) (k + 1) ≤ k + 1:=by
           unfold Tr.wc
           exact Nat.le_trans List.countP_le_length (by rw [List.length_take];omega)
          refine ⟨?_,by rw [← hx];exact jn_nn rows p,by omega⟩
          symm
          unfold clL;refine ext_rng _ _ _ (by simp) (fun q hq => ?_)
          rw [getD_set];by_cases e : p = q
          ·subst e
           rw [if_pos ⟨rfl,by simpa using hpm⟩]
           exact h1
          ·rw [if_neg (fun h => e h.1),rng_getD _ m q hq]
           have h4:=HRow.out q hq
           rw [if_neg (by rw [HEV.out];show ¬ (wn : Int) = _;omega)] at h4
           omega
         clear hok kd hdd HRow;refine wp_seq_k fun K hK => ?_
         have HK:=ζ hK
         clear hK;go_wp2_with fail
         refine (HPl.out _).mono ?_
         rintro e4 W4 ⟨rfl,hb4⟩
         have HM4:=ζ (HM3.out.below hb4)
         have NE4:=ζ (blk_keep NE3.out hb4)
         have HO4:=ζ (own_belowI HO3.out hb4)
         clear hb4 HM3 NE3 HO3 HPl b0 b1 z0 z1 z2 z3 z4;obtain ⟨x0,hx0⟩ : ∃ x0,jn rows p = x0:=⟨_,rfl⟩
         obtain ⟨_,_,ebc,_,_,_,yp⟩:=own_rw HO4.out p hpm
         injection ebc with ebc1 _ ebc3
         subst ebc3;injection ebc1 with ebc1
         injection ebc1 with ebc1
         subst ebc1;rw [hx0] at yp;have fp:=HO4.out.frozenAt p
         obtain ⟨_,cur,hcur⟩:=row_is HO4.out rfl (by omega)
         obtain ⟨hr1,hr2,hr3⟩:=HRf.out x0 hx0
         have wx : IntKind.i64.wrap (x0 + 1) = x0 + 1:=by rw [IntKind.wrap_i64];omega
         have qp0 : (0 : Int) ≤ (p : Int):=by omega
         have qp1 : (p : Int) < (m : Int):=by omega
         have hset:=HM4.out.setCl k p (x0 + 1) (b:=bc) (cap:=m) (by rw [vpc_same,put_same,len_rng])
         rw [put_same,hr1] at hset;have HM5 : Hid (CM X (W4.setCell ⟨bc,p,none⟩ (.int .i64 (x0 + 1))) G k (cls s l f m (k + 1)) AG hs (vpc v1 (Oc.cl k) (.slice (some ⟨bc,0,none⟩) m m))):=by
          rw [← cls_put,← HCL.out];refine cm_cong hset (fun j => ?_)
          unfold put;split <;> rfl
         have NE5 : Hid ((W4.setCell ⟨bc,p,none⟩ (.int .i64 (x0 + 1))).heap[ge]? = some (.cells #[.int .i64 (wn : Int),.int .i64 op,.int .i64 a,.int .i64 va,.bool sh] 39 (0,0))):=blk_setN NE4.out hcur (by decide)
         clear hr1 hr2 hr3 hset hcur HM4 NE4 HO4 HRf hx0;go_wp2;refine HK.out _ _ ?_;clear HK yp fp wx qp0 qp1;generalize World.setCell _ _ _ = Y at *;obtain ⟨z0,z1,z2,z3,z4⟩:=cellsY5 NE5.out
         have HM6 : Hid (CM X Y G k (cls s l f m (k + 1)) (ags s l f m (k + 1)) hs (vpc v1 (Oc.cl k) (.slice (some ⟨bc,0,none⟩) m m))):=by
          have h9:=HM5.out
          rw [HAG.out,ags_same s l f m k (by rw [HEV.out];show op ≠ 10;exact hop10.out)] at h9
          exact h9
         have E6l : Hid ((vpc v1 (Oc.cl k) (.slice (some ⟨bc,0,none⟩) m m)) Oc.li = .slice ta k tc):=by show _ = _;rw [vpc_other _ _ _ _ (by intro e;cases e)];exact ELi.out
         have E6a : Hid ((vpc v1 (Oc.cl k) (.slice (some ⟨bc,0,none⟩) m m)) Oc.ad = .slice (some ⟨ad0,0,none⟩) G G):=by show _ = _;rw [vpc_other _ _ _ _ (by intro e;cases e)];exact EAd.out
         have E6k : Hid ((vpc v1 (Oc.cl k) (.slice (some ⟨bc,0,none⟩) m m)) (Oc.cl k) = .slice (some ⟨bc,0,none⟩) m m):=vpc_same _ _ _
         clear HM5 ELi EAd;refine wp_seq_k fun K hK => ?_
         have HK:=ζ hK
         clear hK;go_wp2;refine HK.out _ _ ?_;clear HK z0 z1 z2 z3 z4;generalize vpc v1 (Oc.cl k) (.slice (some ⟨bc,0,none⟩) m m) = v6 at *;have hAl_ : Below Y.heap.size Y (Y.alloc (.cells #[.slice (some ⟨bc,0,none⟩) m m] 24)):=(Below.refl _ _).alloc (Nat.le_refl _) _
         have HMa:=ζ (HM6.out.below hAl_)
         have HOa : Hid ((Y.alloc (.cells #[.slice (some ⟨bc,0,none⟩) m m] 24)).ownsRow X.heap.size 24 1 (.slice ta k tc) k (rwI k (fun j => v6 (Oc.cl j)))):=by
          have h9 : (Y.alloc (.cells #[.slice (some ⟨bc,0,none⟩) m m] 24)).ownsRow X.heap.size 24 1 (v6 Oc.li) k (rwI k (fun j => v6 (Oc.cl j))):=HMa.out.fam.own Oc.li
          show World.ownsRow _ _ _ _ _ _ _
          rw [E6l.out] at h9;exact h9
         have HSa : Hid (X.heap.size ≤ (Y.alloc (.cells #[.slice (some ⟨bc,0,none⟩) m m] 24)).heap.size):=HMa.out.bl.size
         have HF5 : Hid (∀ v5 w5,w5.ownsRow X.heap.size 24 1 v5 (k + 1) (rwI k (fun j => v6 (Oc.cl j)) ++ [.slice (some ⟨bc,0,none⟩) m m]) → (Y.alloc (.cells #[.slice (some ⟨bc,0,none⟩) m m] 24)).grownBy w5 (Value.slice ta k tc).ownBlock → (v5.ownBlock = (Value.slice ta k tc).ownBlock ∨ v5.ownBlock = some (Y.alloc (.cells #[.slice (some ⟨bc,0,none⟩) m m] 24)).heap.size) → (∃ va_ vc_,v5 = .slice va_ (k + 1) vc_) ∧ CM X w5 G (k + 1) (cls s l f m (k + 1)) (ags s l f m (k + 1)) hs (vpc v6 Oc.li v5) ∧ (vpc v6 Oc.li v5) Oc.li = v5 ∧ (vpc v6 Oc.li v5) Oc.ad = v6 Oc.ad):=fun v5 w5 h1 h2 h3 =>
          ⟨own_openE h1,HMa.out.appLi v5 (by rw [E6k.out];exact h1) (by rw [E6l.out];exact h2) (by rw [E6l.out];exact h3),vpc_same _ _ _,vpc_other _ _ _ _ (by intro e;cases e)⟩
         clear hAl_ HMa HM6;go_wp2_with (at_builtin;refine wpList_append_own_at _ rfl _ _ 89 rfl X.heap.size 24 i4 (.slice none 0 0) 1 24 Try.underlying89 hi4 hz40 hz41 hz42 rfl (by decide) _ k (rwI k (fun j => v6 (Oc.cl j))) rfl HOa.out ⟨Y.heap.size,0,none⟩ 1 1 [.slice (some ⟨bc,0,none⟩) m m] rfl rfl (cell_one_new _ _ _) (by simp [Value.oneCell']) (by unfold maxLen;omega) (by omega) HSa.out ?_;(intro v5 w5 h51 h52 _ h53);obtain ⟨⟨va_,vc_,rfl⟩,hm5,hn5,hn6⟩:=HF5.out v5 w5 h51 h52 h53;have HM8:=ζ hm5;have E8l:=ζ hn5;have E8a:=ζ hn6;clear h51 h52 h53 hm5 hn5 hn6 HF5)
         refine HKb.out _ _ ?_;go_wp2;go_roundw
         case rel => exact ⟨k + 1,_,hs,_,_,_,_,_,HLT.out,by go_num,rfl,E8l.out,by rw [E8a.out];exact E6a.out,rfl,HN3,HM8,HEg1⟩
         case measure => simp [intOf];have:=HLT.out;omega
        ·have kd : decide (0 ≤ dd ∧ dd < (m : Int)) = false:=decide_eq_false hok
         rw [kd] at HPl;have HRf : Hid ((List.range m).map (jn rows) = clL s l f m k):=by
          show _ = _
          unfold clL;apply List.map_congr_left
          intro q hq
          have hq:=List.mem_range.1 hq
          have h4:=HRow.out q hq
          rw [if_neg (by rw [HEV.out];show ¬ (wn : Int) = _;omega)] at h4
          omega
         clear hok kd hdd HRow;refine wp_seq_k fun K hK => ?_
         have HK:=ζ hK
         clear hK;go_wp2_with fail
         refine (HPl.out _).mono ?_
         rintro e4 W4 ⟨rfl,hb4⟩
         have HM4:=ζ (HM3.out.below hb4)
         have NE4:=ζ (blk_keep NE3.out hb4)
         have HO4:=ζ (own_belowI HO3.out hb4)
         clear hb4 HM3 NE3 HO3 HPl b0 b1 z0 z1 z2 z3 z4;have HM5 : Hid (CM X W4 G k (cls s l f m (k + 1)) AG hs (vpc v1 (Oc.cl k) (.slice (some ⟨bc,0,none⟩) m m))):=by
          have h9:=HM4.out
          rw [HRf.out,HCL.out,cls_put] at h9;exact h9
         have NE5:=NE4
         clear HM4 NE4 HO4 HRf;go_wp2;refine HK.out _ _ ?_;clear HK;rename World => Y
         obtain ⟨z0,z1,z2,z3,z4⟩:=cellsY5 NE5.out
         have HM6 : Hid (CM X Y G k (cls s l f m (k + 1)) (ags s l f m (k + 1)) hs (vpc v1 (Oc.cl k) (.slice (some ⟨bc,0,none⟩) m m))):=by
          have h9:=HM5.out
          rw [HAG.out,ags_same s l f m k (by rw [HEV.out];show op ≠ 10;exact hop10.out)] at h9
          exact h9
         have E6l : Hid ((vpc v1 (Oc.cl k) (.slice (some ⟨bc,0,none⟩) m m)) Oc.li = .slice ta k tc):=by show _ = _;rw [vpc_other _ _ _ _ (by intro e;cases e)];exact ELi.out
         have E6a : Hid ((vpc v1 (Oc.cl k) (.slice (some ⟨bc,0,none⟩) m m)) Oc.ad = .slice (some ⟨ad0,0,none⟩) G G):=by show _ = _;rw [vpc_other _ _ _ _ (by intro e;cases e)];exact EAd.out
         have E6k : Hid ((vpc v1 (Oc.cl k) (.slice (some ⟨bc,0,none⟩) m m)) (Oc.cl k) = .slice (some ⟨bc,0,none⟩) m m):=vpc_same _ _ _
         clear HM5 ELi EAd;refine wp_seq_k fun K hK => ?_
         have HK:=ζ hK
         clear hK;go_wp2;refine HK.out _ _ ?_;clear HK z0 z1 z2 z3 z4;generalize vpc v1 (Oc.cl k) (.slice (some ⟨bc,0,none⟩) m m) = v6 at *;have hAl_ : Below Y.heap.size Y (Y.alloc (.cells #[.slice (some ⟨bc,0,none⟩) m m] 24)):=(Below.refl _ _).alloc (Nat.le_refl _) _
         have HMa:=ζ (HM6.out.below hAl_)
         have HOa : Hid ((Y.alloc (.cells #[.slice (some ⟨bc,0,none⟩) m m] 24)).ownsRow X.heap.size 24 1 (.slice ta k tc) k (rwI k (fun j => v6 (Oc.cl j)))):=by
          have h9 : (Y.alloc (.cells #[.slice (some ⟨bc,0,none⟩) m m] 24)).ownsRow X.heap.size 24 1 (v6 Oc.li) k (rwI k (fun j => v6 (Oc.cl j))):=HMa.out.fam.own Oc.li
          show World.ownsRow _ _ _ _ _ _ _
          rw [E6l.out] at h9;exact h9
         have HSa : Hid (X.heap.size ≤ (Y.alloc (.cells #[.slice (some ⟨bc,0,none⟩) m m] 24)).heap.size):=HMa.out.bl.size
         have HF5 : Hid (∀ v5 w5,w5.ownsRow X.heap.size 24 1 v5 (k + 1) (rwI k (fun j => v6 (Oc.cl j)) ++ [.slice (some ⟨bc,0,none⟩) m m]) → (Y.alloc (.cells #[.slice (some ⟨bc,0,none⟩) m m] 24)).grownBy w5 (Value.slice ta k tc).ownBlock → (v5.ownBlock = (Value.slice ta k tc).ownBlock ∨ v5.ownBlock = some (Y.alloc (.cells #[.slice (some ⟨bc,0,none⟩) m m] 24)).heap.size) → (∃ va_ vc_,v5 = .slice va_ (k + 1) vc_) ∧ CM X w5 G (k + 1) (cls s l f m (k + 1)) (ags s l f m (k + 1)) hs (vpc v6 Oc.li v5) ∧ (vpc v6 Oc.li v5) Oc.li = v5 ∧ (vpc v6 Oc.li v5) Oc.ad = v6 Oc.ad):=fun v5 w5 h1 h2 h3 =>
          ⟨own_openE h1,HMa.out.appLi v5 (by rw [E6k.out];exact h1) (by rw [E6l.out];exact h2) (by rw [E6l.out];exact h3),vpc_same _ _ _,vpc_other _ _ _ _ (by intro e;cases e)⟩
         clear hAl_ HMa HM6;go_wp2_with (at_builtin;refine wpList_append_own_at _ rfl _ _ 89 rfl X.heap.size 24 i4 (.slice none 0 0) 1 24 Try.underlying89 hi4 hz40 hz41 hz42 rfl (by decide) _ k (rwI k (fun j => v6 (Oc.cl j))) rfl HOa.out ⟨Y.heap.size,0,none⟩ 1 1 [.slice (some ⟨bc,0,none⟩) m m] rfl rfl (cell_one_new _ _ _) (by simp [Value.oneCell']) (by unfold maxLen;omega) (by omega) HSa.out ?_;(intro v5 w5 h51 h52 _ h53);obtain ⟨⟨va_,vc_,rfl⟩,hm5,hn5,hn6⟩:=HF5.out v5 w5 h51 h52 h53;have HM8:=ζ hm5;have E8l:=ζ hn5;have E8a:=ζ hn6;clear h51 h52 h53 hm5 hn5 hn6 HF5)
         refine HKb.out _ _ ?_;go_wp2;go_roundw
         case rel => exact ⟨k + 1,_,hs,_,_,_,_,_,HLT.out,by go_num,rfl,E8l.out,by rw [E8a.out];exact E6a.out,rfl,HN3,HM8,HEg1⟩
         case measure => simp [intOf];have:=HLT.out;omega
     rw [ha0] at hR;simp only [Act.put,List.setIfInBounds_toArray,List.set_cons_zero,List.set_cons_succ] at hR
     rw [ha0];clear ha0;have HR:=ζ hR
     clear hR HK;rcases hE : egF ed (k + 1) with _ | ⟨x,r⟩
     ·have hn : n2 = 0:=by have:=HN2.out;rw [hE] at this;exact this
      subst hn;clear hE HM HS NE HEg HEg1 HN2;go_wp2;exact HR.out _ _ _ _ _ _ _ _ _ _ _
     ·have hn : n2 = r.length + 1:=by have:=HN2.out;rw [hE] at this;exact this
      have HEx:=HEg.out
      rw [hE] at HEx;obtain ⟨b3,o3,ea2,hc2,y0,y1⟩:=HEx.head
      have y1:=keepC HM.out.bl y1
      have qk : (x.2 == (k : Int)) = false:=by simpa using egF_head hE
      obtain ⟨x2,hx2⟩ : ∃ x2,x.2 = x2:=⟨_,rfl⟩
      rw [hx2] at y1 qk;obtain ⟨L1,hL1⟩ : ∃ L1,r.length = L1:=⟨_,rfl⟩
      rw [hL1] at hn;have q0 : (0 : Int) < ((L1 + 1 : Nat) : Int):=by omega
      clear hx2 hL1 HEx y0 hc2 hE HM HS NE HEg HEg1 HN2;subst hn ea2;go_wp2;exact HR.out _ _ _ _ _ _ _ _ _ _ _
  ·obtain rfl : k = l.length:=by omega
   have kk : ¬ (l.length : Int) < (l.length : Int):=by omega
   have HR:=ζ (HPo.out X wr G _ _ v HXs.out HM.out (NB0.out.trans (HM.out.bl.mono NB0.out.size)))
   rw [eli] at HR;clear HM eli ead HEg HN1 HPo hlt;go_wp2;refine HK.out _ _ ?_;go_wp2;first | exact HR.out | exact ⟨rfl,HR.out⟩
end LW
end Go.Proofs.Ytfbnakmmmphedaa

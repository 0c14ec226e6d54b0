/-
  Ow1, Ow2, PvO in one.
-/
import Derived.Test.YtfbnakmmmphedaaPw2o
import Derived.Test.YtfbnakmmmphedaaPvBo
import Derived.Test.YtfbnakmmmphedaaPgK3o
import Derived.Test.YtfbnakmmmphedaaPlT2o
import Derived.Test.YtfbnakmmmphedaaCkCo
import Derived.Test.YtfbnakmmmphedaaArgs13o
set_option linter.unusedVariables false
set_option linter.unusedSimpArgs false
set_option maxRecDepth 100000
namespace Go.Proofs.Ytfbnakmmmphedaa
open Go.RowKit
namespace LW
open Mc
theorem be_in7 {s : Syst} {l : List Ev} {i j : Nat} (h : (Tr.vR s l).2.2 = 0) (hi : i < l.length) (hj : j < l.length) : beE s l (i : Int) (j : Int) = 0 ∧ beA s l (i : Int) (j : Int) = bfB s l i j:=by
 have h1 : beE s l (i : Int) (j : Int) = 0:=by unfold beE;rw [if_pos h,if_pos (by omega)]
 refine ⟨h1,?_⟩
 unfold beA
 rw [h1]
 simp
theorem bfB_iff {s : Syst} {l : List Ev} {i j : Nat} (hi : i < l.length) (hj : j < l.length) : bfB s l i j = true ↔ Tr.Bf s l i j:=by
 unfold bfB
 rw [decide_eq_true_eq]
 exact (Tr.bf_iff s l i j hi hj).symm
def lt (b : Bool) (E : List Ev) (v : Int) : Nat → Int
 | 0 => 0
 | k + 1 => if (Tr.ev E k).op = 15 ∧ decide ((Tr.ev E k).a = 0) = b ∧ (Tr.ev E k).value = v then (k : Int) + 1 else lt b E v k
theorem lt_step {b : Bool} {E : List Ev} {k : Nat} {who op a va : Int} {sh : Bool} (h : Tr.ev E k = ⟨who,op,a,va,sh⟩) (v : Int) : lt b E v (k + 1) = if op = 15 ∧ decide (a = 0) = b ∧ va = v then (k : Int) + 1 else lt b E v k:=by
 rw [lt,h]
theorem lt_one {b : Bool} {E : List Ev} {v : Int} {i : Nat} (h1 : (Tr.ev E i).op = 15 ∧ decide ((Tr.ev E i).a = 0) = b ∧ (Tr.ev E i).value = v) (h2 : ∀ j,j < E.length → (Tr.ev E j).op = 15 ∧ decide ((Tr.ev E j).a = 0) = b ∧ (Tr.ev E j).value = v → j = i) : ∀ k,k ≤ E.length → lt b E v k = if i < k then (i : Int) + 1 else 0
 | 0,_ => by rw [if_neg (Nat.not_lt_zero _)];rfl
 | k + 1,hk => by
  rw [lt,lt_one h1 h2 k (by omega)]
  by_cases hc : (Tr.ev E k).op = 15 ∧ decide ((Tr.ev E k).a = 0) = b ∧ (Tr.ev E k).value = v
  ·obtain rfl:=h2 k (by omega) hc
   rw [if_pos hc,if_pos (by omega)]
  ·rw [if_neg hc]
   have hne : k ≠ i:=fun e => hc (by rw [e];exact h1)
   by_cases hik : i < k
   ·rw [if_pos hik,if_pos (by omega)]
   ·rw [if_neg hik,if_neg (by omega)]
structure RunO (s : Syst) (n : Int) (E : List Ev) : Prop where
 vr : (Tr.vR s E).2.2 = 0
 lo : ∀ v,0 ≤ v → v < n → ∃ i j : Nat,i < E.length ∧ j < E.length ∧ lt true E v E.length = (i : Int) + 1 ∧ lt false E v E.length = (j : Int) + 1 ∧ bfB s E i j = true ∧ bfB s E j i = false
theorem sysL_psys' (n a q : Int) : sysL n a q = PQ.psys n a q (bu a q):=rfl
theorem hyO {n a q : Int} (hv : vp a q = 0) (h0 : 0 ≤ n) (h1 : n ≤ 1024) : PQ.Hy n a q (bu a q) ∧ q ≤ 1024:=by
 obtain ⟨v1,v2,v3,v4⟩:=vp0 hv
 refine ⟨⟨⟨h0,h1⟩,⟨v1,v2⟩,v3,?_⟩,v4⟩
 unfold bu
 split <;> omega
theorem ft_of' {n a q : Int} (hv : vp a q = 0) (h0 : 0 ≤ n) (h1 : n ≤ 1024) : ft n a q = 0:=by
 unfold ft ou
 rw [if_neg (by simp [hv]),if_neg]
 simp
 omega
theorem runO {n a q : Int} (hv : vp a q = 0) (h0 : 0 ≤ n) (h1 : n ≤ 1024) (picks : List Int) : ∃ t,play (sysL n a q) picks = (1,0,t) ∧ RunO (sysL n a q) n t.evs:=by
 obtain ⟨hy,hq⟩:=hyO hv h0 h1
 have hok:=PQ.okP hy hq
 obtain ⟨t,hp,_,_,hl⟩:=PQ.playJ hy picks
 refine ⟨t,hp,⟨?_,fun v v0 v1 => ?_⟩⟩
 ·obtain ⟨hg,_,hL⟩:=Tr.play_trace hok (PQ.nmP hy) picks
  rw [hp] at hg hL;have:=Tr.vR_good hok (by omega) hg
  rw [sysL_psys',this]
 ·obtain ⟨i,j,hi,ui,hj,uj,hB⟩:=hl v v0 v1
  refine ⟨i,j,hi.1,hj.1,?_,?_,?_,?_⟩
  ·rw [lt_one (i:=i) ⟨hi.2.1,by rw [hi.2.2.1];rfl,hi.2.2.2⟩ (fun k hk hx => ui k ⟨hk,hx.1,of_decide_eq_true hx.2.1,hx.2.2⟩) _ (Nat.le_refl _),if_pos hi.1]
  ·rw [lt_one (i:=j) ⟨hj.2.1,decide_eq_false hj.2.2.1,hj.2.2.2⟩ (fun k hk hx => uj k ⟨hk,hx.1,of_decide_eq_false hx.2.1,hx.2.2⟩) _ (Nat.le_refl _),if_pos hj.1]
  ·exact (bfB_iff hi.1 hj.1).2 hB
  ·have h9:=hB.lt
   by_cases hc : bfB (sysL n a q) t.evs j i = true
   ·have:=((bfB_iff hj.1 hi.1).1 hc).lt
    omega
   ·simpa using hc
theorem syI_P {n a q : Int} (hv : vp a q = 0) (h0 : 0 ≤ n) (h1 : n ≤ 1024) {W : World} {pa ra : Option Addr} (h : SM W (sysL n a q) pa ra) : SyI W (sysL n a q) pa ra:=by
 obtain ⟨v1,v2,v3,v4⟩:=vp0 hv
 have hb:=bu_le hv
 have key : ∀ l : List Ins,(∀ i ∈ l,iIns i) → ∀ j,iIns (l.getD j i0):=fun l hl j => by
  rw [List.getD_eq_getElem?_getD];rcases hj : l[j]? with _ | i
  ·exact iIns_0
  ·exact hl i (List.mem_of_getElem? hj)
 refine ⟨h,by simp [sysL],by simp [sysL],fun p => ?_,fun p j => ?_⟩
 ·match p with
  | 0 => simp [sysL,cmL]
  | 1 => simp [sysL,wkL]
  | 2 => simp [sysL,fdL]
  | 3 => simp [sysL,clL15]
  | p + 4 => simp [sysL]
 ·match p with
  | 0 =>
   refine key (cmL a) (fun i hi => ?_) j
   simp [cmL] at hi
   rcases hi with rfl | rfl | rfl | rfl | rfl | rfl | rfl | rfl | rfl | rfl | rfl | rfl | rfl | rfl | rfl <;> (unfold iIns i64;dsimp only;omega)
  | 1 =>
   refine key wkL (fun i hi => ?_) j
   simp [wkL] at hi
   rcases hi with rfl | rfl | rfl | rfl | rfl | rfl | rfl | rfl <;> (unfold iIns i64;dsimp only;omega)
  | 2 =>
   refine key (fdL (bu a q) n) (fun i hi => ?_) j
   simp [fdL] at hi
   rcases hi with rfl | rfl | rfl | rfl | rfl | rfl | rfl | rfl | rfl | rfl | rfl | rfl | rfl | rfl | rfl | rfl | rfl | rfl | rfl <;> (unfold iIns i64;dsimp only;omega)
  | 3 =>
   refine key clL15 (fun i hi => ?_) j
   simp [clL15] at hi
   rcases hi with rfl | rfl | rfl <;> (unfold iIns i64;dsimp only;omega)
  | p + 4 => exact iIns_0
theorem pplayO {n a q : Int} (hv : vp a q = 0) (h0 : 0 ≤ n) (h1 : n ≤ 1024) (pa : Option Addr) (pc : Nat) (ra : Option Addr) (rc : Nat) (ka : Option Addr) (kc : Nat) (picks : List Int) (w : World) (hS : SM w (sysL n a q) pa ra) (hp : PkI w ka kc picks) :
  Calls Try.prog 7 #[.agg (syC (sysL n a q) pa pc ra rc),.slice ka picks.length kc] w fun e w' => ∃ (E : List Ev) (ea : Option Addr) (ec : Nat) (rn : Int) (ca : Option Addr) (cl cc : Nat),e = .returned (.tuple #[.agg #[.int .i64 1,.int .i64 0,.slice ea E.length ec,.int .i64 rn,.slice ca cl cc],.int .i64 0]) ∧ EvI w' ea ec E ∧ RunO (sysL n a q) n E ∧ Below w.heap.size w w':=by
 obtain ⟨hy,hq⟩:=hyO hv h0 h1
 have hok : Ok (sysL n a q):=PQ.okP hy hq
 have hs:=syI_P hv h0 h1 hS
 refine (pplayC (sysL n a q) pa pc ra rc ka kc picks w hs hp).mono ?_
 rintro e w' ⟨cs,x,r,rfl,⟨ea,ec,ca,cc,rfl,her,hnr,hec⟩,hb,hok1,_⟩
 obtain ⟨rfl,rfl⟩:=hok1 hok
 obtain ⟨t,ht,hR⟩:=runO hv h0 h1 picks
 have hie:=play_ie hok hs.ni hs.nm picks
 rw [ht] at her hie hec ⊢
 exact ⟨t.evs,ea,ec,_,ca,_,cc,rfl,⟨her,hie,hec.1,hec.2.1,hec.2.2⟩,hR,hb⟩
def HB (W : World) (b n : Nat) (f : Nat → Int) : Prop:=W.ownsRow b 3 1 (.slice (some ⟨b,0,none⟩) n n) n ((List.range n).map fun v => .int .i64 (f v))
theorem HB.cell {W : World} {b n : Nat} {f : Nat → Int} (h : HB W b n f) {j : Nat} (hj : j < n) : W.cell? ⟨b,j,none⟩ = some (.int .i64 (f j)) ∧ W.frozen? ⟨b,j,none⟩ = false:=by
 refine ⟨?_,World.ownsRow.frozenAt h j⟩
 rw [World.ownsRow.cellAt h j (by omega)]
 simp [hj]
theorem HB.set {W : World} {b n : Nat} {f : Nat → Int} (h : HB W b n f) (j : Nat) (x : Int) {g : Nat → Int} (hg : ∀ v,v < n → g v = if v = j then x else f v) : HB (W.setCell ⟨b,j,none⟩ (.int .i64 x)) b n g:=by
 have h1:=(World.ownsRow.stored h j (.int .i64 x)).1
 have h2 : ((List.range n).map fun v => Value.int .i64 (f v)).set j (.int .i64 x) = (List.range n).map fun v => .int .i64 (g v):=by
  apply List.ext_getElem?
  intro i
  rw [List.getElem?_set];by_cases hij : j = i
  ·subst hij
   by_cases hn : j < n
   ·simp [hn,hg]
   ·simp [hn]
  ·rw [if_neg hij]
   by_cases hn : i < n
   ·have : ¬ i = j:=fun e => hij e.symm
    simp [hn,hg,this]
   ·simp [hn]
 rw [h2] at h1
 exact h1
theorem HB.other {W : World} {b n p o : Nat} {u : Value} {f : Nat → Int} (h : HB W b n f) (hp : p ≠ b) : HB (W.setCell ⟨p,o,none⟩ u) b n f:=own_setB h (fun e => hp (by injection e with e1;exact e1.symm))
theorem HB.below {W W' : World} {b n : Nat} {f : Nat → Int} (h : HB W b n f) (hb : Below W.heap.size W W') : HB W' b n f:=own_belowI h hb
theorem HB.congr {W : World} {b n : Nat} {f g : Nat → Int} (h : HB W b n f) (hg : ∀ v,v < n → g v = f v) : HB W b n g:=by
 have h2 : ((List.range n).map fun v => Value.int .i64 (f v)) = (List.range n).map fun v => .int .i64 (g v):=by
  refine List.map_congr_left fun v hv => ?_
  rw [hg v (List.mem_range.1 hv)]
 unfold HB
 rw [← h2]
 exact h
theorem HB.made {W : World} {b n : Nat} (h : W.ownsRow b 3 1 (.slice (some ⟨b,0,none⟩) n n) n (List.replicate n (.int .i64 0))) {f : Nat → Int} (hf : ∀ v,f v = 0) : HB W b n f:=by
 have h2 : List.replicate n (Value.int .i64 0) = (List.range n).map fun v => .int .i64 (f v):=by
  apply List.ext_getElem?
  intro i
  by_cases hn : i < n
  ·simp [hn,hf,List.getElem?_replicate]
  ·simp [hn,List.getElem?_replicate]
 unfold HB
 rw [← h2]
 exact h
theorem pbeforeO {s : Syst} {n : Int} (pa : Option Addr) (pc : Nat) (ra : Option Addr) (rc : Nat) (ea : Option Addr) (ec : Nat) {E : List Ev} (hR : RunO s n E) {i j : Nat} (hi : i < E.length) (hj : j < E.length) (W : World) (hs : SyI W s pa ra) (hl : EvI W ea ec E) :
  Calls Try.prog 8 #[.agg (syC s pa pc ra rc),.slice ea E.length ec,.int .i64 (i : Int),.int .i64 (j : Int)] W fun e w' => e = .returned (.tuple #[.bool (bfB s E i j),.int .i64 0]) ∧ Below W.heap.size W w':=by
 obtain ⟨e1,e2⟩:=be_in7 hR.vr hi hj
 have:=ptbefore s pa pc ra rc ea ec E (i : Int) (j : Int) W hs hl
 rw [e1,e2] at this
 exact this
theorem HB.lt {W : World} {b n : Nat} {f : Nat → Int} (h : HB W b n f) : b < W.heap.size:=own_lt h b rfl
end LW
end Go.Proofs.Ytfbnakmmmphedaa
namespace Go.Proofs.Ytfbnakmmmphedaa
open Go.RowKit
namespace LW
open Mc
set_option maxHeartbeats 40000000 in
theorem orderedW (j a q : Int) (ka : Option Addr) (kc : Nat) (picks : List Int) (w : World) (hj0 : 0 ≤ j) (hj1 : j ≤ 255) (hp : PkI w ka kc picks) :
  Calls Try.prog 3 #[.int .u8 j,.agg #[.int .i64 a,.int .i64 q],.slice ka picks.length kc] w fun e w' => e = .returned (.bool true) ∧ Below w.heap.size w w':=by
 have H4:=ζ (fun W => rvalid15 a q W)
 have H5:=ζ (fun W => pvalid15 a q W)
 have hA : Below w.heap.size w (w.alloc (.cells #[.int .i64 a,.int .i64 q] 23)):=(Below.refl _ _).alloc (Nat.le_refl _) _
 have N0 : Hid ((w.alloc (.cells #[.int .i64 a,.int .i64 q] 23)).heap[w.heap.size]? = some (.cells #[.int .i64 a,.int .i64 q] 23 (0,0))):=heap_alloc_new w _
 have NB:=ζ hA
 have HPk:=ζ (hp.below hA)
 clear hA hp
 obtain ⟨n,hn⟩ : ∃ n : Nat,1 + j % 8 = (n : Int):=⟨(1 + j % 8).toNat,by omega⟩
 have hjw : IntKind.u8.wrap (j % 8) = j % 8:=by rw [IntKind.wrap_u8];omega
 have hjw2 : IntKind.i64.wrap (j % 8) = j % 8:=PQ.wrap_id (by omega)
 have hw3 : IntKind.i64.wrap (1 + j % 8) = (n : Int):=by rw [← hn];exact PQ.wrap_id (by omega)
 have hn1 : 1 ≤ n ∧ n ≤ 8:=by omega
 have HN:=ζ hn1
 go_enter Try.func3,Try.ntmps3
 refine wp_seq_k fun K hK => ?_
 have HK:=ζ hK
 clear hK
 go_wp2
 refine HK.out _ _ ?_
 clear HK K
 generalize w.alloc _ = X at *
 refine wp_seq_k fun K1 hK1 => ?_
 have HK1:=ζ hK1
 clear hK1
 go_wp2
 refine HK1.out _ _ ?_
 clear HK1
 clear hjw hjw2 hw3 hn
 obtain ⟨c0,c1⟩:=cells2 N0.out
 by_cases hv : vp a q = 0
 ·rw [hv] at H4 H5
  by_cases ha : 8 < a
  ·have kf : decide (8 < a) = true:=decide_eq_true ha
   refine wp_seq_k fun K hK => ?_
   have HK:=ζ hK
   clear hK;go_wp2_with fail
   refine (H4.out X).mono ?_
   rintro e1 W1 ⟨rfl,hb⟩
   have NB1 : Hid (Below w.heap.size w W1):=NB.out.trans (hb.mono NB.out.size)
   have N1:=ζ (blk_keep N0.out hb)
   clear hb NB N0 c0 c1;obtain ⟨c0,c1⟩:=cells2 N1.out
   go_wp2_with fail
   refine (H5.out W1).mono ?_
   rintro e2 W2 ⟨rfl,hb⟩
   have NB2 : Hid (Below w.heap.size w W2):=NB1.out.trans (hb.mono NB1.out.size)
   have N2:=ζ (blk_keep N1.out hb)
   clear hb NB1 N1 c0 c1;obtain ⟨c0,c1⟩:=cells2 N2.out
   go_wp2_with fail
   refine (H4.out W2).mono ?_
   rintro e3 W3 ⟨rfl,hb⟩
   have NB3 : Hid (Below w.heap.size w W3):=NB2.out.trans (hb.mono NB2.out.size)
   clear hb NB2 N2 c0 c1;go_wp2;go_ret;exact ⟨rfl,NB3.out⟩
  ·have kf : decide (8 < a) = false:=decide_eq_false ha
   have hn2 : (n : Int) ≤ 1024:=by omega
   have hn3 : (0 : Int) ≤ (n : Int):=by omega
   have H6 : Hid (∀ W,Calls Try.prog 6 #[.int .i64 (n : Int),.agg #[.int .i64 a,.int .i64 q]] W fun e w' => (∃ pa pc ra rc,e = .returned (.tuple #[.agg (syC (sysL (n : Int) a q) pa pc ra rc),.int .i64 0]) ∧ SM w' (sysL (n : Int) a q) pa ra) ∧ Below W.heap.size W w'):=fun W => by
    have h:=pSystem (n : Int) a q W
    unfold SyP at h;rw [ft_of' hv hn3 hn2] at h;simp only [if_true] at h
    exact h
   have H7 : Hid (∀ pa pc ra rc W,SM W (sysL (n : Int) a q) pa ra → PkI W ka kc picks → Calls Try.prog 7 #[.agg (syC (sysL (n : Int) a q) pa pc ra rc),.slice ka picks.length kc] W fun e w' => ∃ (E : List Ev) (ea : Option Addr) (ec : Nat) (rn : Int) (ca : Option Addr) (cl cc : Nat),e = .returned (.tuple #[.agg #[.int .i64 1,.int .i64 0,.slice ea E.length ec,.int .i64 rn,.slice ca cl cc],.int .i64 0]) ∧ EvI w' ea ec E ∧ RunO (sysL (n : Int) a q) (n : Int) E ∧ Below W.heap.size W w'):=fun pa pc ra rc W h1 h2 => pplayO hv hn3 hn2 pa pc ra rc ka kc picks W h1 h2
   have HSy : Hid (∀ W pa ra,SM W (sysL (n : Int) a q) pa ra → SyI W (sysL (n : Int) a q) pa ra):=fun W pa ra h => syI_P hv hn3 hn2 h
   clear hv hn2 hn3 hn1 H5 ha;generalize sysL (n : Int) a q = s at *;have HBf : Hid (∀ pa pc ra rc ea ec (E : List Ev),RunO s (n : Int) E → ∀ (i j : Nat),i < E.length → j < E.length → ∀ W,SM W s pa ra → EvI W ea ec E → Calls Try.prog 8 #[.agg (syC s pa pc ra rc),.slice ea E.length ec,.int .i64 (i : Int),.int .i64 (j : Int)] W fun e w' => e = .returned (.tuple #[.bool (bfB s E i j),.int .i64 0]) ∧ Below W.heap.size W w'):=fun pa pc ra rc ea ec E hR i j hi hj W h1 h2 => pbeforeO pa pc ra rc ea ec hR hi hj W (HSy.out W pa ra h1) h2
   unfold syC at H6 H7 HBf;generalize s.rooms.length = M at *;generalize s.progs.length = N at *;generalize s.groups = x1 at *;generalize s.locks = x2 at *;generalize s.cells = x3 at *;refine wp_seq_k fun K hK => ?_
   have HK:=ζ hK
   clear hK;go_wp2_with fail
   refine (H4.out X).mono ?_
   rintro e1 W1 ⟨rfl,hb⟩
   have NB1 : Hid (Below w.heap.size w W1):=NB.out.trans (hb.mono NB.out.size)
   have N1:=ζ (blk_keep N0.out hb)
   have HP1:=ζ (HPk.out.below hb)
   clear hb NB N0 c0 c1 HPk;obtain ⟨c0,c1⟩:=cells2 N1.out
   go_wp2;refine HK.out _ _ ?_;clear HK H4 kf;refine wp_seq_k fun K hK => ?_
   have HK:=ζ hK
   clear hK;go_wp2_with fail
   refine (H6.out W1).mono ?_
   rintro e2 W2 ⟨⟨pa,pc,ra,rc,rfl,hSa⟩,hb⟩
   have BX_ : Below W2.heap.size W2 ((W2.alloc (.cells #[.slice none 0 0,.slice none 0 0,.int .i64 0,.int .i64 0,.int .i64 0] 30)).setRow W2.heap.size #[.slice pa N pc,.slice ra M rc,.int .i64 x1,.int .i64 x2,.int .i64 x3]):=below_setRow ((Below.refl _ _).alloc (Nat.le_refl _) _) (Nat.le_refl _)
   have NS2 : Hid (((W2.alloc (.cells #[.slice none 0 0,.slice none 0 0,.int .i64 0,.int .i64 0,.int .i64 0] 30)).setRow W2.heap.size #[.slice pa N pc,.slice ra M rc,.int .i64 x1,.int .i64 x2,.int .i64 x3]).heap[W2.heap.size]? = some (.cells #[.slice pa N pc,.slice ra M rc,.int .i64 x1,.int .i64 x2,.int .i64 x3] 30 (0,0))):=setRow_heap _ _ _ _ _ _ (heap_alloc_new W2 _)
   have hb2:=hb.trans (BX_.mono hb.size)
   have NB2 : Hid (Below w.heap.size w ((W2.alloc (.cells #[.slice none 0 0,.slice none 0 0,.int .i64 0,.int .i64 0,.int .i64 0] 30)).setRow W2.heap.size #[.slice pa N pc,.slice ra M rc,.int .i64 x1,.int .i64 x2,.int .i64 x3])):=NB1.out.trans (hb2.mono NB1.out.size)
   have HP2:=ζ (HP1.out.below hb2)
   have HS2:=ζ (hSa.below BX_)
   clear hb hb2 BX_ hSa NB1 N1 HP1 c0 c1;go_wp2_with (refine wpList_store_row (by rfl) 30 _ _ (by rfl) W2.heap.size #[.slice pa N pc,.slice ra M rc,.int .i64 x1,.int .i64 x2,.int .i64 x3] (by rfl) (by rfl) 30 _ (heap_alloc_new W2 _) (by kernel_rfl) (by rfl) (by simp [Value.oneCell']) ?_;generalize World.setRow _ _ _ = X2 at *;generalize W2.heap.size = g8 at *)
   refine HK.out _ _ ?_;clear HK H6;obtain ⟨y0,y1,y2,y3,y4⟩:=cellsY5 NS2.out
   refine wp_seq_k fun K hK => ?_
   have HK:=ζ hK
   clear hK;go_wp2_with fail
   refine (H7.out pa pc ra rc X2 HS2.out HP2.out).mono ?_
   rintro e3 W3 ⟨E,ea,ec,rn,ca,cl,cc,rfl,hE,hR,hb⟩
   obtain ⟨EL,hEL⟩ : ∃ EL,E.length = EL:=⟨_,rfl⟩
   have HBg:=ζ (fun i j hi hj => HBf.out pa pc ra rc ea ec E hR i j hi hj)
   have HRn:=ζ hR.lo
   have HEL:=ζ hEL
   rw [hEL] at HBg HRn ⊢;have BX_ : Below W3.heap.size W3 ((W3.alloc (.cells #[.int .i64 0,.int .i64 0,.slice none 0 0,.int .i64 0,.slice none 0 0] 35)).setRow W3.heap.size #[.int .i64 1,.int .i64 0,.slice ea EL ec,.int .i64 rn,.slice ca cl cc]):=below_setRow ((Below.refl _ _).alloc (Nat.le_refl _) _) (Nat.le_refl _)
   have NR3 : Hid (((W3.alloc (.cells #[.int .i64 0,.int .i64 0,.slice none 0 0,.int .i64 0,.slice none 0 0] 35)).setRow W3.heap.size #[.int .i64 1,.int .i64 0,.slice ea EL ec,.int .i64 rn,.slice ca cl cc]).heap[W3.heap.size]? = some (.cells #[.int .i64 1,.int .i64 0,.slice ea EL ec,.int .i64 rn,.slice ca cl cc] 35 (0,0))):=setRow_heap _ _ _ _ _ _ (heap_alloc_new W3 _)
   have hb3:=hb.trans (BX_.mono hb.size)
   have NB3 : Hid (Below w.heap.size w ((W3.alloc (.cells #[.int .i64 0,.int .i64 0,.slice none 0 0,.int .i64 0,.slice none 0 0] 35)).setRow W3.heap.size #[.int .i64 1,.int .i64 0,.slice ea EL ec,.int .i64 rn,.slice ca cl cc])):=NB2.out.trans (hb3.mono NB2.out.size)
   have HS3:=ζ (HS2.out.below hb3)
   have NS3:=ζ (blk_keep NS2.out hb3)
   have HE3:=ζ (hE.below BX_)
   clear hb hb3 BX_ hE hR hEL NB2 NS2 HS2 HP2 HBf HSy y0 y1 y2 y3 y4;go_wp2_with (refine wpList_store_row (by rfl) 35 _ _ (by rfl) W3.heap.size #[.int .i64 1,.int .i64 0,.slice ea EL ec,.int .i64 rn,.slice ca cl cc] (by rfl) (by rfl) 35 _ (heap_alloc_new W3 _) (by kernel_rfl) (by rfl) (by simp [Value.oneCell']) ?_;generalize World.setRow _ _ _ = X3 at *;generalize W3.heap.size = g10 at *)
   refine HK.out _ _ ?_;clear HK H7;obtain ⟨z0,z1,z2,z3,z4⟩:=cellsY5 NR3.out
   refine wp_seq_k fun K hK => ?_
   have HK:=ζ hK
   clear hK;go_wp2;refine HK.out _ _ ?_;clear HK;clear z0 z1 z2 z3 z4;obtain ⟨i3,hi3,hz30,hz31,hz32⟩:=info_parts' intinfo
   have hn8:=HN.out
   refine wp_seq_k fun K hK => ?_
   have HK:=ζ hK
   clear hK;go_wp2_with (at_make;refine wpList_make_full _ rfl _ _ 24 rfl X3.heap.size 3 i3 (.int .i64 0) 1 Try.underlying24 hi3 hz30 hz31 _ _ _ _ n rfl rfl rfl rfl (by rw [hz32];omega) (by unfold maxLen;omega) (Nat.le_refl _) ?_;(intro W4 hown hgrow);have hbw_ : Below X3.heap.size X3 W4:=(Below.refl _ _).grown hgrow (Nat.le_refl _) (by intro k h;cases h);(rw [made_rep _ rfl] at hown);have HO1:=ζ hown;have HG_:=ζ hbw_;clear hown hgrow hbw_)
   refine HK.out _ _ ?_;clear HK;have HL4 : Hid (Below X3.heap.size X3 W4):=HG_.out
   have HH1 : Hid (HB W4 X3.heap.size n (fun v => lt true E (v : Int) 0)):=HB.made HO1.out (fun v => rfl)
   clear HO1 HG_;obtain ⟨b1,hb1⟩ : ∃ b,X3.heap.size = b:=⟨_,rfl⟩
   have HB1:=ζ hb1
   rw [hb1] at HH1 ⊢;clear hb1;refine wp_seq_k fun K hK => ?_
   have HK:=ζ hK
   clear hK;go_wp2_with (at_make;refine wpList_make_full _ rfl _ _ 24 rfl W4.heap.size 3 i3 (.int .i64 0) 1 Try.underlying24 hi3 hz30 hz31 _ _ _ _ n rfl rfl rfl rfl (by rw [hz32];omega) (by unfold maxLen;omega) (Nat.le_refl _) ?_;(intro W5 hown hgrow);have hbw_ : Below W4.heap.size W4 W5:=(Below.refl _ _).grown hgrow (Nat.le_refl _) (by intro k h;cases h);(rw [made_rep _ rfl] at hown);have HO2:=ζ hown;have HG_:=ζ hbw_;clear hown hgrow hbw_)
   refine HK.out _ _ ?_;clear HK;have HL5 : Hid (Below X3.heap.size X3 W5):=HL4.out.trans (HG_.out.mono HL4.out.size)
   have HH2 : Hid (HB W5 W4.heap.size n (fun v => lt false E (v : Int) 0)):=HB.made HO2.out (fun v => rfl)
   have HH15:=ζ (HH1.out.below HG_.out)
   have HLt : Hid (b1 < W4.heap.size):=HH1.out.lt
   have HL4s : Hid (X3.heap.size ≤ W4.heap.size):=HL4.out.size
   clear HO2 HG_ HH1 HL4;obtain ⟨b2,hb2⟩ : ∃ b,W4.heap.size = b:=⟨_,rfl⟩
   rw [hb2] at HH2 HLt HL4s ⊢;clear hb2 i3 hi3 hz30 hz31 hz32 hn8;obtain ⟨z0,z1,z2,z3,z4⟩:=cellsY5 (blk_keep NR3.out HL5.out)
   refine wp_seq_k fun Kl hKl => ?_
   have HKl:=ζ hKl
   clear hKl;refine wp_seq_k fun K hK => ?_
   have HK:=ζ hK
   clear hK;go_wp2;refine HK.out _ _ ?_;clear HK;clear z0 z1 z2 z3 z4;go_wp2;go_loopw [71] (fun iv wr => ∃ k : Nat,k ≤ EL ∧ iv = .int .i64 (k : Int) ∧ Hid (Below X3.heap.size X3 wr) ∧ Hid (HB wr b1 n (fun v => lt true E (v : Int) k)) ∧ Hid (HB wr b2 n (fun v => lt false E (v : Int) k))) (fun iv wr => EL - (intOf iv).toNat)
   case atStart => exact ⟨0,Nat.zero_le _,rfl,HL5,HH15,HH2⟩
   case round =>
    clear HL5 HH15 HH2;obtain ⟨k,hk,rfl,HB0,H1,H2⟩:=hrel
    by_cases hlt : k < EL
    ·have HLk:=ζ hlt
     have q1 : (k : Int) < (EL : Int):=by omega
     have q0 : (0 : Int) ≤ (k : Int):=by omega
     obtain ⟨b,off,who,op,ae,va,sh,hla,hev,_,_,_,_,e0,e1,e2,e3,e4⟩:=(HE3.out.below HB0.out).get k (by rw [HEL.out];exact hlt)
     subst hla;have HST : Hid (∀ b v,lt b E v (k + 1) = if op = 15 ∧ decide (ae = 0) = b ∧ va = v then (k : Int) + 1 else lt b E v k):=fun b v => lt_step hev v
     have hAl : Below wr.heap.size wr ((wr.alloc (.cells #[.int .i64 0,.int .i64 0,.int .i64 0,.int .i64 0,.bool false] 39)).setRow wr.heap.size #[.int .i64 who,.int .i64 op,.int .i64 ae,.int .i64 va,.bool sh]):=below_setRow ((Below.refl _ _).alloc (Nat.le_refl _) _) (Nat.le_refl _)
     have NE4 : Hid (((wr.alloc (.cells #[.int .i64 0,.int .i64 0,.int .i64 0,.int .i64 0,.bool false] 39)).setRow wr.heap.size #[.int .i64 who,.int .i64 op,.int .i64 ae,.int .i64 va,.bool sh]).heap[wr.heap.size]? = some (.cells #[.int .i64 who,.int .i64 op,.int .i64 ae,.int .i64 va,.bool sh] 39 (0,0))):=setRow_heap _ _ _ _ _ _ (heap_alloc_new wr _)
     have HB4 : Hid (Below X3.heap.size X3 ((wr.alloc (.cells #[.int .i64 0,.int .i64 0,.int .i64 0,.int .i64 0,.bool false] 39)).setRow wr.heap.size #[.int .i64 who,.int .i64 op,.int .i64 ae,.int .i64 va,.bool sh])):=HB0.out.trans (hAl.mono HB0.out.size)
     have H14:=ζ (H1.out.below hAl)
     have H24:=ζ (H2.out.below hAl)
     have hEl : EL ≤ 9223372036854775807:=by have h1:=HE3.out.lc;have h2:=HE3.out.ln;have h3:=HEL.out;omega
     clear hAl hlt hev H1 H2 HB0 hk;refine wp_seq_k fun K1 hK1 => ?_
     have HK1:=ζ hK1
     clear hK1;go_wp2;refine HK1.out _ _ ?_;clear HK1;refine wp_seq_k fun K2 hK2 => ?_
     have HK2:=ζ hK2
     clear hK2;go_wp2;refine HK2.out _ _ ?_;clear HK2;refine wp_seq_k fun Kb hKb => ?_
     have HKb:=ζ hKb
     clear hKb;refine wp_block ?_;refine wp_seq_k fun K hK => ?_
     have HK:=ζ hK
     clear hK;go_wp2_with (first | (refine wpList_store_row (by rfl) 39 _ _ (by rfl) wr.heap.size #[.int .i64 who,.int .i64 op,.int .i64 ae,.int .i64 va,.bool sh] (by rfl) (by rfl) 39 _ (heap_alloc_new wr _) (by kernel_rfl) (by rfl) (by simp [Value.oneCell']) ?_;generalize World.setRow _ _ _ = W6 at *;generalize wr.heap.size = ge at *) | fail)
     refine HK.out _ _ ?_;clear HK e0 e1 e2 e3 e4 q0 q1;obtain ⟨e0,e1,e2,e3,e4⟩:=cellsY5 NE4.out
     by_cases hop : op = 15
     ·have ko : (op != 15) = false:=by simp [hop]
      by_cases hv0 : va < 0
      ·have k0 : decide (va < 0) = true:=decide_eq_true hv0
       have HBn:=HB4
       have H1n : Hid (HB W6 b1 n (fun v => lt true E (v : Int) (k + 1))):=H14.out.congr fun v hv => by rw [HST.out,if_neg (fun hh => by have:=hh.2.2;omega)]
       have H2n : Hid (HB W6 b2 n (fun v => lt false E (v : Int) (k + 1))):=H24.out.congr fun v hv => by rw [HST.out,if_neg (fun hh => by have:=hh.2.2;omega)]
       clear HB4 H14 H24 HST;refine wp_seq_k fun Kc hKc => ?_
       have HKc:=ζ hKc
       clear hKc;go_wp2;refine HKb.out _ _ ?_;clear HKb;have kw9 : IntKind.i64.wrap ((k : Int) + 1) = (k : Int) + 1:=PQ.wrap_id (by have:=HLk.out;omega)
       have HEl9:=ζ hEl
       go_wp2;go_roundw
       case rel => exact ⟨k + 1,HLk.out,by go_num,HBn,H1n,H2n⟩
       case measure => simp [intOf];have:=HLk.out;omega
      ·have k0 : decide (va < 0) = false:=decide_eq_false hv0
       by_cases hvn : (n : Int) ≤ va
       ·have k1 : decide ((n : Int) ≤ va) = true:=decide_eq_true hvn
        have HBn:=HB4
        have H1n : Hid (HB W6 b1 n (fun v => lt true E (v : Int) (k + 1))):=H14.out.congr fun v hv => by rw [HST.out,if_neg (fun hh => by have:=hh.2.2;omega)]
        have H2n : Hid (HB W6 b2 n (fun v => lt false E (v : Int) (k + 1))):=H24.out.congr fun v hv => by rw [HST.out,if_neg (fun hh => by have:=hh.2.2;omega)]
        clear HB4 H14 H24 HST;refine wp_seq_k fun Kc hKc => ?_
        have HKc:=ζ hKc
        clear hKc;go_wp2;refine HKb.out _ _ ?_;clear HKb;have kw9 : IntKind.i64.wrap ((k : Int) + 1) = (k : Int) + 1:=PQ.wrap_id (by have:=HLk.out;omega)
        have HEl9:=ζ hEl
        go_wp2;go_roundw
        case rel => exact ⟨k + 1,HLk.out,by go_num,HBn,H1n,H2n⟩
        case measure => simp [intOf];have:=HLk.out;omega
       ·have k1 : decide ((n : Int) ≤ va) = false:=decide_eq_false hvn
        refine wp_seq_k fun Kc hKc => ?_
        have HKc:=ζ hKc
        clear hKc;go_wp2;refine HKc.out _ _ ?_;clear HKc;obtain ⟨u,rfl⟩ : ∃ u : Nat,va = (u : Int):=⟨va.toNat,by omega⟩
        have hun : u < n:=by omega
        have q8 : (u : Int) < (n : Int):=by omega
        have q9 : (0 : Int) ≤ (u : Int):=by omega
        have kw : IntKind.i64.wrap ((k : Int) + 1) = (k : Int) + 1:=PQ.wrap_id (by have:=HLk.out;omega)
        subst hop;clear k0 k1 ko hv0 hvn;by_cases ha0 : ae = 0
        ·have k2 : (ae == 0) = true:=by simp [ha0]
         have HBn : Hid (Below X3.heap.size X3 (W6.setCell ⟨b1,u,none⟩ (.int .i64 ((k : Int) + 1)))):=HB4.out.setCell (by simp only;have:=HL4s.out;have:=HB1.out;omega) _
         have H1n : Hid (HB (W6.setCell ⟨b1,u,none⟩ (.int .i64 ((k : Int) + 1))) b1 n (fun v => lt true E (v : Int) (k + 1))):=H14.out.set u _ fun v hv => by
          rw [HST.out];by_cases hvu : v = u
          ·rw [if_pos hvu,if_pos ⟨rfl,by simp [ha0],by rw [hvu]⟩]
          ·rw [if_neg hvu,if_neg (fun hh => hvu (by have:=hh.2.2;omega))]
         have H2n : Hid (HB (W6.setCell ⟨b1,u,none⟩ (.int .i64 ((k : Int) + 1))) b2 n (fun v => lt false E (v : Int) (k + 1))):=(H24.out.other (by have:=HLt.out;omega)).congr fun v hv => by
          rw [HST.out,if_neg (fun hh => by have:=hh.2.1;simp [ha0] at this)]
         obtain ⟨cz,fz⟩:=(H14).out.cell hun
         clear HB4 H14 H24 HST;go_wp2;clear cz fz q8 q9 kw e0 e1 e2 e3 e4;refine HKb.out _ _ ?_;clear HKb;have kw9 : IntKind.i64.wrap ((k : Int) + 1) = (k : Int) + 1:=PQ.wrap_id (by have:=HLk.out;omega)
         have HEl9:=ζ hEl
         go_wp2;go_roundw
         case rel => exact ⟨k + 1,HLk.out,by go_num,HBn,H1n,H2n⟩
         case measure => simp [intOf];have:=HLk.out;omega
        ·have k2 : (ae == 0) = false:=by simp [ha0]
         have HBn : Hid (Below X3.heap.size X3 (W6.setCell ⟨b2,u,none⟩ (.int .i64 ((k : Int) + 1)))):=HB4.out.setCell (by simp only;have:=HL4s.out;have:=HB1.out;omega) _
         have H2n : Hid (HB (W6.setCell ⟨b2,u,none⟩ (.int .i64 ((k : Int) + 1))) b2 n (fun v => lt false E (v : Int) (k + 1))):=H24.out.set u _ fun v hv => by
          rw [HST.out];by_cases hvu : v = u
          ·rw [if_pos hvu,if_pos ⟨rfl,by simp [ha0],by rw [hvu]⟩]
          ·rw [if_neg hvu,if_neg (fun hh => hvu (by have:=hh.2.2;omega))]
         have H1n : Hid (HB (W6.setCell ⟨b2,u,none⟩ (.int .i64 ((k : Int) + 1))) b1 n (fun v => lt true E (v : Int) (k + 1))):=(H14.out.other (by have:=HLt.out;omega)).congr fun v hv => by
          rw [HST.out,if_neg (fun hh => by have:=hh.2.1;simp [ha0] at this)]
         obtain ⟨cz,fz⟩:=(H24).out.cell hun
         clear HB4 H14 H24 HST;go_wp2;clear cz fz q8 q9 kw e0 e1 e2 e3 e4;refine HKb.out _ _ ?_;clear HKb;have kw9 : IntKind.i64.wrap ((k : Int) + 1) = (k : Int) + 1:=PQ.wrap_id (by have:=HLk.out;omega)
         have HEl9:=ζ hEl
         go_wp2;go_roundw
         case rel => exact ⟨k + 1,HLk.out,by go_num,HBn,H1n,H2n⟩
         case measure => simp [intOf];have:=HLk.out;omega
     ·have ko : (op != 15) = true:=by simp [hop]
      have HBn:=HB4
      have H1n : Hid (HB W6 b1 n (fun v => lt true E (v : Int) (k + 1))):=H14.out.congr fun v hv => by rw [HST.out,if_neg (fun hh => hop hh.1)]
      have H2n : Hid (HB W6 b2 n (fun v => lt false E (v : Int) (k + 1))):=H24.out.congr fun v hv => by rw [HST.out,if_neg (fun hh => hop hh.1)]
      clear HB4 H14 H24 HST;refine wp_seq_k fun Kc hKc => ?_
      have HKc:=ζ hKc
      clear hKc;go_wp2;refine HKb.out _ _ ?_;clear HKb;have kw9 : IntKind.i64.wrap ((k : Int) + 1) = (k : Int) + 1:=PQ.wrap_id (by have:=HLk.out;omega)
      have HEl9:=ζ hEl
      go_wp2;go_roundw
      case rel => exact ⟨k + 1,HLk.out,by go_num,HBn,H1n,H2n⟩
      case measure => simp [intOf];have:=HLk.out;omega
    obtain rfl : EL = k:=by omega
    have q1 : ¬ (EL : Int) < (EL : Int):=by omega
    clear hlt hk;go_wp2;refine HKl.out _ _ ?_;clear HKl q1;have NSa:=ζ (blk_keep NS3.out HB0.out)
    have NRa:=ζ (blk_keep NR3.out HB0.out)
    have HSa:=ζ (HS3.out.below HB0.out)
    have HEa:=ζ (HE3.out.below HB0.out)
    have NBa : Hid (Below w.heap.size w wr):=NB3.out.trans (HB0.out.mono NB3.out.size)
    clear NS3 NR3 HS3 HE3 NB3 HB0;generalize wr = Wa at *;refine wp_seq_k fun Km hKm => ?_
    have HKm:=ζ hKm
    clear hKm;refine wp_seq_k fun K1 hK1 => ?_
    have HK1:=ζ hK1
    clear hK1;go_wp2;refine HK1.out _ _ ?_;clear HK1;go_wp2;go_loopw [16] (fun iv wr => ∃ k : Nat,k ≤ n ∧ iv = .int .i64 (k : Int) ∧ Hid (Below Wa.heap.size Wa wr)) (fun iv wr => n - (intOf iv).toNat)
    case atStart => exact ⟨0,Nat.zero_le _,rfl,ζ (Below.refl _ _)⟩
    case round =>
     obtain ⟨k,hk,rfl,HBk⟩:=hrel
     by_cases hlt : k < n
     ·have HLk:=ζ hlt
      have q1 : (k : Int) < (n : Int):=by omega
      have q0 : (0 : Int) ≤ (k : Int):=by omega
      obtain ⟨i,jj,hi,hj,ei,ej,bt,bf⟩:=HRn.out (k : Int) q0 q1
      have u1:=((H1.out.below HBk.out).cell hlt).1
      have u2:=((H2.out.below HBk.out).cell hlt).1
      (try dsimp only at u1);(try dsimp only at u2)
      rw [ei] at u1;rw [ej] at u2;have HC1 : Hid (∀ W,SM W s pa ra → EvI W ea ec E → Calls Try.prog 8 #[.agg #[.slice pa N pc,.slice ra M rc,.int .i64 x1,.int .i64 x2,.int .i64 x3],.slice ea EL ec,.int .i64 (i : Int),.int .i64 (jj : Int)] W fun e w' => e = .returned (.tuple #[.bool true,.int .i64 0]) ∧ Below W.heap.size W w'):=fun W h1 h2 => by
       have h:=HBg.out i jj hi hj W h1 h2
       rw [bt] at h;exact h
      have HC2 : Hid (∀ W,SM W s pa ra → EvI W ea ec E → Calls Try.prog 8 #[.agg #[.slice pa N pc,.slice ra M rc,.int .i64 x1,.int .i64 x2,.int .i64 x3],.slice ea EL ec,.int .i64 (jj : Int),.int .i64 (i : Int)] W fun e w' => e = .returned (.tuple #[.bool false,.int .i64 0]) ∧ Below W.heap.size W w'):=fun W h1 h2 => by
       have h:=HBg.out jj i hj hi W h1 h2
       rw [bf] at h;exact h
      have NSk:=ζ (blk_keep NSa.out HBk.out)
      have NRk:=ζ (blk_keep NRa.out HBk.out)
      have HSk:=ζ (HSa.out.below HBk.out)
      have HEk:=ζ (HEa.out.below HBk.out)
      have hEl : EL ≤ 9223372036854775807:=by have h1:=HEk.out.lc;have h2:=HEk.out.ln;have h3:=HEL.out;omega
      have k1 : ((i : Int) + 1 == 0) = false:=by simp;omega
      have k2 : ((jj : Int) + 1 == 0) = false:=by simp;omega
      have w1 : IntKind.i64.wrap (i : Int) = (i : Int):=PQ.wrap_id (by omega)
      have w2 : IntKind.i64.wrap (jj : Int) = (jj : Int):=PQ.wrap_id (by omega)
      clear hi hj ei ej bt bf hlt hk hEl;refine wp_seq_k fun K1 hK1 => ?_
      have HK1:=ζ hK1
      clear hK1;go_wp2;refine HK1.out _ _ ?_;clear HK1;refine wp_seq_k fun Kb hKb => ?_
      have HKb:=ζ hKb
      clear hKb;refine wp_block ?_;refine wp_seq_k fun K1 hK1 => ?_
      have HK1:=ζ hK1
      clear hK1;go_wp2;refine HK1.out _ _ ?_;clear HK1;clear k1 k2;have HXa : Hid (Below wr.heap.size wr wr):=Below.refl _ _
      refine wp_seq_k fun K1 hK1 => ?_
      have HK1:=ζ hK1
      clear hK1;refine wp_region_noPanic ?_
      refine RG.wp_region_L (fun Z => True) (fun Z => Below wr.heap.size wr Z) [] (by kernel_rfl) ?_
      refine RG.wpL_any fun Yr hY => ?_
      have HTr : Hid (Below wr.heap.size wr Yr):=by rw [hY];exact below_drewN HXa.out 1
      clear hY;refine RG.wpL_take (fuel:=6) (a':=?Ar) [0,1,2,3,4,5,6,7,8,9,10,11,12] (by kernel_rfl) (by kernel_rfl) (fun _ _ _ _ _ h => h) HTr.out (fun _ => trivial) ?rr ?_
      case rr =>
       refine RG.rW (.agg #[.slice pa N pc,.slice ra M rc,.int .i64 x1,.int .i64 x2,.int .i64 x3]) (fun Z hT => ?_) ?_
       ·obtain ⟨y0,y1,y2,y3,y4⟩:=cellsY5 (blk_keep NSk.out hT)
        go_simp
       simp only [Act.put,lA,lB,lC,lD,lE,lF]
       refine RG.rW ?_ (fun Z hT => ?_) ?_
       rotate_left
       ·go_simp
        rfl
       simp only [Act.put,lA,lB,lC,lD,lE,lF]
       refine RG.rW (.slice ea EL ec) (fun Z hT => ?_) ?_
       ·obtain ⟨z0,z1,z2,z3,z4⟩:=cellsY5 (blk_keep NRk.out hT)
        go_simp
       simp only [Act.put,lA,lB,lC,lD,lE,lF]
       iterate 3
        refine RG.rW ?_ (fun Z hT => ?_) ?_
        rotate_left
        ·go_simp
         rfl
        simp only [Act.put,lA,lB,lC,lD,lE,lF]
       refine RG.rW (.int .i64 ((i : Int) + 1)) (fun Z hT => ?_) ?_
       ·have y9:=keepC hT u1
        go_simp
       simp only [Act.put,lA,lB,lC,lD,lE,lF]
       refine RG.rW (.int .i64 (i : Int)) (fun Z hT => ?_) ?_
       ·go_simp
       simp only [Act.put,lA,lB,lC,lD,lE,lF]
       iterate 3
        refine RG.rW ?_ (fun Z hT => ?_) ?_
        rotate_left
        ·go_simp
         rfl
        simp only [Act.put,lA,lB,lC,lD,lE,lF]
       refine RG.rW (.int .i64 ((jj : Int) + 1)) (fun Z hT => ?_) ?_
       ·have y9:=keepC hT u2
        go_simp
       simp only [Act.put,lA,lB,lC,lD,lE,lF]
       refine RG.rW (.int .i64 (jj : Int)) (fun Z hT => ?_) ?_
       ·go_simp
       simp only [Act.put,lA,lB,lC,lD,lE,lF]
       exact RG.RunsIf.nil
      refine RG.wpL_step (i:=13) (by kernel_rfl) (by rfl) (by rfl) (fun KX hK => ?_)
      have HK:=ζ hK
      clear hK;go_simp;refine (HC1.out Yr (HSk.out.below HTr.out) (HEk.out.below HTr.out)).mono ?_
      rintro e_W7 W7 ⟨rfl,hb⟩
      have HUr : Hid (Below wr.heap.size wr W7):=HTr.out.trans (hb.mono HTr.out.size)
      refine HK.out _ _ HUr.out (fun _ => trivial) ?_
      clear HK KX hb;try simp only [Act.put,lA,lB,lC,lD,lE,lF]
      refine RG.wpL_take (fuel:=0) (a':=?Arx) [14,15,16,17,18] (by kernel_rfl) (by kernel_rfl) (fun _ _ _ _ _ h => h) HUr.out (fun _ => trivial) ?rrx ?_
      case rrx =>
       iterate 5
        refine RG.rW ?_ (fun Z hT => ?_) ?_
        rotate_left
        ·go_simp
         rfl
        simp only [Act.put,lA,lB,lC,lD,lE,lF]
       exact RG.RunsIf.nil
      refine RG.wpL_done (by kernel_rfl) ?_ _
      refine NoPanic.normal ?_
      refine HK1.out _ _ ?_;clear HK1;have NSn:=ζ (blk_keep NSk.out HUr.out)
      have NRn:=ζ (blk_keep NRk.out HUr.out)
      have HSn:=ζ (HSk.out.below HUr.out)
      have HEn:=ζ (HEk.out.below HUr.out)
      have HBn:=ζ (HBk.out.trans (HUr.out.mono HBk.out.size))
      replace u1:=keepC HUr.out u1
      replace u2:=keepC HUr.out u2
      clear NSk NRk HSk HEk HBk;have NSk:=NSn
      have NRk:=NRn
      have HSk:=HSn
      have HEk:=HEn
      have HBk:=HBn
      clear NSn NRn HSn HEn HBn;clear HXa HUr HTr HC1;have HXb : Hid (Below W7.heap.size W7 W7):=Below.refl _ _
      refine wp_seq_k fun K1 hK1 => ?_
      have HK1:=ζ hK1
      clear hK1;refine wp_region_noPanic ?_
      refine RG.wp_region_L (fun Z => True) (fun Z => Below W7.heap.size W7 Z) [] (by kernel_rfl) ?_
      refine RG.wpL_any fun Yt hY => ?_
      have HTt : Hid (Below W7.heap.size W7 Yt):=by rw [hY];exact below_drewN HXb.out 1
      clear hY;refine RG.wpL_take (fuel:=6) (a':=?At) [0,1,2,3,4,5,6,7,8,9,10,11,12] (by kernel_rfl) (by kernel_rfl) (fun _ _ _ _ _ h => h) HTt.out (fun _ => trivial) ?rt ?_
      case rt =>
       refine RG.rW (.agg #[.slice pa N pc,.slice ra M rc,.int .i64 x1,.int .i64 x2,.int .i64 x3]) (fun Z hT => ?_) ?_
       ·obtain ⟨y0,y1,y2,y3,y4⟩:=cellsY5 (blk_keep NSk.out hT)
        go_simp
       simp only [Act.put,lA,lB,lC,lD,lE,lF]
       refine RG.rW ?_ (fun Z hT => ?_) ?_
       rotate_left
       ·go_simp
        rfl
       simp only [Act.put,lA,lB,lC,lD,lE,lF]
       refine RG.rW (.slice ea EL ec) (fun Z hT => ?_) ?_
       ·obtain ⟨z0,z1,z2,z3,z4⟩:=cellsY5 (blk_keep NRk.out hT)
        go_simp
       simp only [Act.put,lA,lB,lC,lD,lE,lF]
       iterate 3
        refine RG.rW ?_ (fun Z hT => ?_) ?_
        rotate_left
        ·go_simp
         rfl
        simp only [Act.put,lA,lB,lC,lD,lE,lF]
       refine RG.rW (.int .i64 ((jj : Int) + 1)) (fun Z hT => ?_) ?_
       ·have y9:=keepC hT u2
        go_simp
       simp only [Act.put,lA,lB,lC,lD,lE,lF]
       refine RG.rW (.int .i64 (jj : Int)) (fun Z hT => ?_) ?_
       ·go_simp
       simp only [Act.put,lA,lB,lC,lD,lE,lF]
       iterate 3
        refine RG.rW ?_ (fun Z hT => ?_) ?_
        rotate_left
        ·go_simp
         rfl
        simp only [Act.put,lA,lB,lC,lD,lE,lF]
       refine RG.rW (.int .i64 ((i : Int) + 1)) (fun Z hT => ?_) ?_
       ·have y9:=keepC hT u1
        go_simp
       simp only [Act.put,lA,lB,lC,lD,lE,lF]
       refine RG.rW (.int .i64 (i : Int)) (fun Z hT => ?_) ?_
       ·go_simp
       simp only [Act.put,lA,lB,lC,lD,lE,lF]
       exact RG.RunsIf.nil
      refine RG.wpL_step (i:=13) (by kernel_rfl) (by rfl) (by rfl) (fun KX hK => ?_)
      have HK:=ζ hK
      clear hK;go_simp;refine (HC2.out Yt (HSk.out.below HTt.out) (HEk.out.below HTt.out)).mono ?_
      rintro e_W8 W8 ⟨rfl,hb⟩
      have HUt : Hid (Below W7.heap.size W7 W8):=HTt.out.trans (hb.mono HTt.out.size)
      refine HK.out _ _ HUt.out (fun _ => trivial) ?_
      clear HK KX hb;try simp only [Act.put,lA,lB,lC,lD,lE,lF]
      refine RG.wpL_take (fuel:=0) (a':=?Atx) [14,15,16,17,18] (by kernel_rfl) (by kernel_rfl) (fun _ _ _ _ _ h => h) HUt.out (fun _ => trivial) ?rtx ?_
      case rtx =>
       iterate 5
        refine RG.rW ?_ (fun Z hT => ?_) ?_
        rotate_left
        ·go_simp
         rfl
        simp only [Act.put,lA,lB,lC,lD,lE,lF]
       exact RG.RunsIf.nil
      refine RG.wpL_done (by kernel_rfl) ?_ _
      refine NoPanic.normal ?_
      refine HK1.out _ _ ?_;clear HK1;have NSn:=ζ (blk_keep NSk.out HUt.out)
      have NRn:=ζ (blk_keep NRk.out HUt.out)
      have HSn:=ζ (HSk.out.below HUt.out)
      have HEn:=ζ (HEk.out.below HUt.out)
      have HBn:=ζ (HBk.out.trans (HUt.out.mono HBk.out.size))
      clear NSk NRk HSk HEk HBk;have NSk:=NSn
      have NRk:=NRn
      have HSk:=HSn
      have HEk:=HEn
      have HBk:=HBn
      clear NSn NRn HSn HEn HBn;clear HXb HUt HTt HC2 u1 u2 w1 w2;refine wp_seq_k fun Kc hKc => ?_
      have HKc:=ζ hKc
      clear hKc;go_wp2;refine HKc.out _ _ ?_;clear HKc;go_wp2;refine HKb.out _ _ ?_;clear HKb;have kw9 : IntKind.i64.wrap ((k : Int) + 1) = (k : Int) + 1:=PQ.wrap_id (by have:=HN.out;omega)
      go_wp2;go_roundw
      case rel => exact ⟨k + 1,HLk.out,by go_num,HBk⟩
      case measure => simp [intOf];have:=HLk.out;omega
     ·obtain rfl : n = k:=by omega
      have q1 : ¬ (n : Int) < (n : Int):=by omega
      have NBz : Hid (Below w.heap.size w wr):=NBa.out.trans (HBk.out.mono NBa.out.size)
      clear hlt hk;go_wp2;refine HKm.out _ _ ?_;go_wp2;go_ret;exact ⟨rfl,NBz.out⟩
 ·have h150:=vp150 hv
  rw [h150] at H4 H5;refine wp_seq_k fun K hK => ?_
  have HK:=ζ hK
  clear hK;go_wp2_with fail
  refine (H4.out X).mono ?_
  rintro e1 W1 ⟨rfl,hb⟩
  have NB1 : Hid (Below w.heap.size w W1):=NB.out.trans (hb.mono NB.out.size)
  have N1:=ζ (blk_keep N0.out hb)
  clear hb NB N0 c0 c1;obtain ⟨c0,c1⟩:=cells2 N1.out
  go_wp2_with fail
  refine (H5.out W1).mono ?_
  rintro e2 W2 ⟨rfl,hb⟩
  have NB2 : Hid (Below w.heap.size w W2):=NB1.out.trans (hb.mono NB1.out.size)
  clear hb NB1 N1 c0 c1;go_wp2;go_ret;exact ⟨rfl,NB2.out⟩
theorem orderedF (j a q : Int) (ka : Option Addr) (kc : Nat) (picks : List Int) (w : World) (hj : (Lit.int .u8 j).wf = true) (ha : i64 a) (hq : i64 q) (hp : PkI w ka kc picks) :
  Calls Try.prog 3 #[.int .u8 j,.agg #[.int .i64 a,.int .i64 q],.slice ka picks.length kc] w fun e w' => e = .returned (.bool true) ∧ Below w.heap.size w w':=by
 have hj2 : 0 ≤ j ∧ j ≤ 255:=by
  have h1 : IntKind.u8.min = 0:=rfl
  have h2 : IntKind.u8.max = 255:=rfl
  simp [Lit.wf,h1,h2] at hj
  omega
 exact orderedW j a q ka kc picks w hj2.1 hj2.2 hp
end LW
end Go.Proofs.Ytfbnakmmmphedaa
namespace Go.Proofs.Ytfbnakmmmphedaa
open Go.ChangeShapes Go.WideShapes Go.ChangeAt Go.RowKit Go.Deep
namespace LW
open Mc
theorem cellsPo : Try.prog.cellsOf 23 = 2:=by kernel_rfl
theorem array2 {cs : Array Value} (h : cs.size = 2) : ∃ a b,cs = #[a,b]:=by
 obtain ⟨l⟩:=cs
 match l,h with
 | [a,b],_ => exact ⟨a,b,rfl⟩
theorem open_pool {H : Type} {enc : TypeId × Value → H} {W : World} {r : Reach} {b0 : Nat} {v : Value} {d : DataW H} {p : List MemPlace}
  (hv : Value.okWide Try.prog W r b0 23 v) (h : DataW.Trod enc Try.prog W 0 (fun _ => true) true 23 v d p) :
  ∃ i j : Int,v = .agg #[.int .i64 i,.int .i64 j] ∧ i64 i ∧ i64 j:=by
 obtain ⟨cs,rfl,hsz⟩:=okWide_struct Try.underlying23 hv
 obtain ⟨c0,c1,rfl⟩:=array2 (hsz.trans cellsPo)
 obtain ⟨fuel,hf⟩:=h
 obtain ⟨xs,n,_,hx,_,hlen,hg⟩:=DataW.trod_struct Try.underlying23 hf
 match xs,hlen with
 | [y0,y1],_ =>
  have h0:=hg 0 _ rfl
  have h1:=hg 1 _ rfl
  simp only [Value.cells] at h0 h1
  replace h0 : DataW.trod enc Try.prog W 0 (fun _ => true) true n 3 [c0] = some y0:=by simpa [cellsI1] using h0
  replace h1 : DataW.trod enc Try.prog W 0 (fun _ => true) true n 3 [c1] = some y1:=by simpa [cellsI1] using h1
  obtain ⟨z0,e0,_,w0⟩:=DataW.trod_int Try.underlying3 h0
  obtain ⟨z1,e1,_,w1⟩:=DataW.trod_int Try.underlying3 h1
  simp at e0 e1
  subst e0 e1;exact ⟨z0,z1,rfl,bounds_i64 w0,bounds_i64 w1⟩
end LW
end Go.Proofs.Ytfbnakmmmphedaa

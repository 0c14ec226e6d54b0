/-
  Cp1, Cp2, Cp3 in one.
-/
import Derived.Test.YtfbnakmmmphedaaNlAo
import Derived.Sort.Grow
import Derived.Deep.OwnRows
import Derived.Lib.LazyBuf
import Derived.Lib.SliceRun
set_option linter.unusedVariables false
set_option linter.unusedSimpArgs false
set_option maxRecDepth 100000
namespace Go.Proofs.Ytfbnakmmmphedaa
open Go.RowKit
namespace LW
open Mc
abbrev Eg2:=Int × Int
def lt2 (a b : Eg2) : Prop:=a.2 < b.2 ∨ (a.2 = b.2 ∧ a.1 < b.1)
theorem lt2_trans {a b c : Eg2} (h1 : lt2 a b) (h2 : lt2 b c) : lt2 a c:=by unfold lt2 at *;omega
theorem lt2_le {a b c : Eg2} (h1 : ¬ lt2 b a) (h2 : lt2 b c) : lt2 a c:=by unfold lt2 at *;omega
theorem lt2_of {a b : Eg2} (h1 : ¬ lt2 b a) (h2 : b ≠ a) : lt2 a b:=by
 unfold lt2 at *
 by_cases h3 : a.2 = b.2
 ·by_cases h4 : a.1 = b.1
  ·exact absurd (Prod.ext h4.symm h3.symm) h2
  ·omega
 ·omega
def cuN (d : List Eg2) : Nat → List Eg2
 | 0 => []
 | m + 1 => if 1 ≤ m ∧ d.getD m (0,0) = d.getD (m - 1) (0,0) then cuN d m else cuN d m ++ [d.getD m (0,0)]
theorem cuN_take (d : List Eg2) : ∀ m,m ≤ d.length → (∀ j,1 ≤ j → j < m → d.getD j (0,0) ≠ d.getD (j - 1) (0,0)) → cuN d m = d.take m
 | 0,_,_ => by simp [cuN]
 | m + 1,hm,h => by
  rw [cuN,if_neg (fun hh => h m hh.1 (by omega) hh.2),cuN_take d m (by omega) (fun j h1 h2 => h j h1 (by omega)),List.take_add_one,List.getD_eq_getElem?_getD,List.getElem?_eq_getElem (by omega)]
  rfl
theorem cuN_mem (d : List Eg2) : ∀ m x,x ∈ cuN d m ↔ ∃ i,i < m ∧ d.getD i (0,0) = x
 | 0,x => by simp [cuN]
 | m + 1,x => by
  rw [cuN];split
  ·rename_i h
   rw [cuN_mem d m x];constructor
   ·rintro ⟨i,h1,h2⟩
    exact ⟨i,by omega,h2⟩
   ·rintro ⟨i,h1,h2⟩
    by_cases e : i = m
    ·subst e
     exact ⟨i - 1,by omega,by rw [← h.2];exact h2⟩
    ·exact ⟨i,by omega,h2⟩
  ·rw [List.mem_append,cuN_mem d m x,List.mem_singleton]
   constructor
   ·rintro (⟨i,h1,h2⟩ | h)
    ·exact ⟨i,by omega,h2⟩
    ·exact ⟨m,by omega,h.symm⟩
   ·rintro ⟨i,h1,h2⟩
    by_cases e : i = m
    ·subst e
     exact .inr h2.symm
    ·exact .inl ⟨i,by omega,h2⟩
theorem cuN_ord (d : List Eg2) (hs : ∀ i j,i < j → j < d.length → ¬ lt2 (d.getD j (0,0)) (d.getD i (0,0))) : ∀ m,m ≤ d.length → Ord (cuN d m)
 | 0,_ => by simp [cuN,Ord]
 | m + 1,hm => by
  have ih:=cuN_ord d hs m (by omega)
  rw [cuN];split
  ·exact ih
  ·rename_i h
   unfold Ord at ih ⊢
   rw [List.pairwise_append];refine ⟨ih,List.pairwise_singleton _ _,fun x hx y hy => ?_⟩
   rw [List.mem_singleton] at hy;subst hy;obtain ⟨i,h1,rfl⟩:=(cuN_mem d m x).1 hx
   have h2 : lt2 (d.getD (m - 1) (0,0)) (d.getD m (0,0)):=lt2_of (hs (m - 1) m (by omega) (by omega)) (fun e => h ⟨by omega,e⟩)
   by_cases e : i = m - 1
   ·subst e;exact h2
   ·exact lt2_le (hs i (m - 1) (by omega) (by omega)) h2
def cf2 (x y : Eg2) : Int:=if x.2 < y.2 then -1 else if y.2 < x.2 then 1 else if x.1 < y.1 then -1 else if y.1 < x.1 then 1 else 0
theorem cf2_lt (x y : Eg2) : cf2 x y < 0 ↔ lt2 x y:=by
 unfold cf2 lt2
 (repeat' split) <;> omega
def cmpI (x y : Int) : Int:=if x < y then -1 else if y < x then 1 else 0
theorem pisnan (x : Int) (w : World) : Calls Try.prog 74 #[.int .i64 x] w fun e w' => e = .returned (.bool false) ∧ w' = w:=by
 have h1 : (x != x) = false:=by simp
 go_enter Try.func74,Try.ntmps74
 go_wp2
 go_ret
 exact ⟨rfl,rfl⟩
theorem pcompare (x y : Int) (w : World) : Calls Try.prog 63 #[.int .i64 x,.int .i64 y] w fun e w' => e = .returned (.int .i64 (cmpI x y)) ∧ w' = w:=by
 have H1:=ζ (fun W => pisnan x W)
 have H2:=ζ (fun W => pisnan y W)
 unfold cmpI
 by_cases h1 : x < y
 ·rw [if_pos h1]
  go_enter Try.func63,Try.ntmps63
  go_wp2_with fail
  refine (H1.out _).mono ?_
  rintro e w' ⟨rfl,rfl⟩
  go_wp2_with fail
  refine (H2.out _).mono ?_
  rintro e w' ⟨rfl,rfl⟩
  go_wp2;go_ret;exact ⟨rfl,rfl⟩
 ·rw [if_neg h1]
  by_cases h2 : y < x
  ·rw [if_pos h2]
   go_enter Try.func63,Try.ntmps63
   go_wp2_with fail
   refine (H1.out _).mono ?_
   rintro e w' ⟨rfl,rfl⟩
   go_wp2_with fail
   refine (H2.out _).mono ?_
   rintro e w' ⟨rfl,rfl⟩
   go_wp2;go_ret;exact ⟨rfl,rfl⟩
  ·rw [if_neg h2]
   go_enter Try.func63,Try.ntmps63
   go_wp2_with fail
   refine (H1.out _).mono ?_
   rintro e w' ⟨rfl,rfl⟩
   go_wp2_with fail
   refine (H2.out _).mono ?_
   rintro e w' ⟨rfl,rfl⟩
   go_wp2;go_ret;exact ⟨rfl,rfl⟩
theorem por (x y : Int) (b : Nat) (w : World) (c0 : w.cell? ⟨b,0,none⟩ = some (.int .i64 x)) (c1 : w.cell? ⟨b,1,none⟩ = some (.int .i64 y)) : Calls Try.prog 62 #[.slice (some ⟨b,0,none⟩) 2 2] w fun e w' => e = .returned (.int .i64 (if x = 0 then y else x)) ∧ w' = w:=by
 obtain ⟨POST,hP⟩ : ∃ Q : Ending → World → Prop,Q = fun e w' => e = .returned (.int .i64 (if x = 0 then y else x)) ∧ w' = w:=⟨_,rfl⟩
 have HPo : Hid (∀ v,v = (if x = 0 then y else x) → POST (.returned (.int .i64 v)) w):=fun v h => by rw [hP,h];exact ⟨rfl,rfl⟩
 rw [← hP]
 clear hP
 go_enter Try.func62,Try.ntmps62
 go_wp2
 go_loop [8] (fun i => ∃ k : Nat,k ≤ 2 ∧ i = .int .i64 (k : Int) ∧ Hid (1 ≤ k → x = 0) ∧ Hid (2 ≤ k → y = 0)) (fun i => 2 - (intOf i).toNat)
 case atStart => exact ⟨0,by omega,rfl,ζ (fun h => by omega),ζ (fun h => by omega)⟩
 case round =>
  obtain ⟨k,hk,rfl,H1,H2⟩:=hrel
  have hk3 : k = 0 ∨ k = 1 ∨ k = 2:=by omega
  rcases hk3 with rfl | rfl | rfl
  ·by_cases hx : x = 0
   ·have k0 : (x != 0) = false:=by simp [hx]
    have HX:=ζ hx
    clear hx;go_wp2;go_round
    case rel => exact ⟨1,by omega,by go_num,ζ (fun _ => HX.out),ζ (fun h => by omega)⟩
    case measure => simp [intOf]
   ·have k0 : (x != 0) = true:=by simp [hx]
    have HR:=ζ (HPo.out x (by rw [if_neg hx]))
    clear HPo hx;go_wp2;first | exact HR.out | exact ⟨rfl,HR.out⟩
  ·by_cases hy : y = 0
   ·have k0 : (y != 0) = false:=by simp [hy]
    have HX:=ζ hy
    clear hy;go_wp2;go_round
    case rel => exact ⟨2,by omega,by go_num,ζ (fun _ => H1.out (by omega)),ζ (fun _ => HX.out)⟩
    case measure => simp [intOf]
   ·have k0 : (y != 0) = true:=by simp [hy]
    have HR:=ζ (HPo.out y (by rw [if_pos (H1.out (by omega))]))
    clear HPo hy;go_wp2;first | exact HR.out | exact ⟨rfl,HR.out⟩
  ·have HR:=ζ (HPo.out 0 (by rw [if_pos (H1.out (by omega)),H2.out (by omega)]))
   clear HPo;go_wp2;first | exact HR.out | exact ⟨rfl,HR.out⟩
end LW
end Go.Proofs.Ytfbnakmmmphedaa
namespace Go.Proofs.Ytfbnakmmmphedaa
open Go.RowKit
namespace LW
open Mc
def GrT (w : World) (A B : Obj) (Z : World) : Prop:=∃ q os,Z = Go.Sort.grow (w.drewN q) (#[A,B] ++ os)
theorem GrT.one {w : World} {A B : Obj} {Z : World} (h : GrT w A B Z) : Z.heap[w.heap.size]? = some A:=by
 obtain ⟨q,os,rfl⟩:=h
 show (w.heap ++ (#[A,B] ++ os))[w.heap.size]? = some A
 rw [Array.getElem?_append_right (Nat.le_refl _),Nat.sub_self,Array.getElem?_append_left (by simp)]
 rfl
theorem GrT.two {w : World} {A B : Obj} {Z : World} (h : GrT w A B Z) : Z.heap[w.heap.size + 1]? = some B:=by
 obtain ⟨q,os,rfl⟩:=h
 show (w.heap ++ (#[A,B] ++ os))[w.heap.size + 1]? = some B
 rw [Array.getElem?_append_right (by omega),Nat.add_sub_cancel_left,Array.getElem?_append_left (by simp)]
 rfl
theorem GrT.alloc {w : World} {A B : Obj} {Z : World} (h : GrT w A B Z) (O : Obj) : GrT w A B (Z.alloc O):=by
 obtain ⟨q,os,rfl⟩:=h
 exact ⟨q,os ++ #[O],by rw [Go.Sort.alloc_eq_grow,Go.Sort.grow_grow,Array.append_assoc]⟩
theorem GrT.start (w : World) (A B : Obj) (n : Nat) : GrT w A B (((w.alloc A).alloc B).drewN n):=⟨n,#[],by rw [Go.Sort.alloc_eq_grow,Go.Sort.alloc_eq_grow,Go.Sort.grow_grow];rfl⟩
set_option maxHeartbeats 4000000 in
theorem pclos (x1 x2 y1 y2 : Int) (w : World) : Calls Try.prog 61 #[.agg #[.int .i64 x1,.int .i64 x2],.agg #[.int .i64 y1,.int .i64 y2]] w fun e w' => e = .returned (.int .i64 (cf2 (x1,x2) (y1,y2))) ∧ ∃ q os',w' = Go.Sort.grow (w.drewN q) os':=by
 obtain ⟨POST,hP⟩ : ∃ Q : Ending → World → Prop,Q = fun e w' => e = .returned (.int .i64 (cf2 (x1,x2) (y1,y2))) ∧ ∃ q os',w' = Go.Sort.grow (w.drewN q) os':=⟨_,rfl⟩
 have HPo : Hid (∀ Z,GrT w (.cells #[.int .i64 x1,.int .i64 x2] 109) (.cells #[.int .i64 y1,.int .i64 y2] 109) Z → POST (.returned (.int .i64 (if cmpI x2 y2 = 0 then cmpI x1 y1 else cmpI x2 y2))) Z):=fun Z h => by
  rw [hP];obtain ⟨q,os,rfl⟩:=h
  refine ⟨?_,q,_,rfl⟩
  have : (if cmpI x2 y2 = 0 then cmpI x1 y1 else cmpI x2 y2) = cf2 (x1,x2) (y1,y2):=by
   unfold cmpI cf2;dsimp only
   (repeat' split) <;> omega
  rw [this]
 rw [← hP]
 clear hP
 have HC1:=ζ (fun W => pcompare x2 y2 W)
 have HC2:=ζ (fun W => pcompare x1 y1 W)
 generalize cmpI x2 y2 = r1 at *
 generalize cmpI x1 y1 = r2 at *
 have HO:=ζ (fun b W c0 c1 => por r1 r2 b W c0 c1)
 go_enter Try.func61,Try.ntmps61
 go_wp2
 refine wp_region_noPanic ?_
 refine RG.wp_region_L (fun Z => True) (fun Z => GrT w (.cells #[.int .i64 x1,.int .i64 x2] 109) (.cells #[.int .i64 y1,.int .i64 y2] 109) Z) [] (by kernel_rfl) ?_
 refine RG.wpL_any fun Y hY => ?_
 have HT : Hid (GrT w (.cells #[.int .i64 x1,.int .i64 x2] 109) (.cells #[.int .i64 y1,.int .i64 y2] 109) Y):=by rw [hY];exact GrT.start w _ _ 1
 clear hY
 refine RG.wpL_take (fuel:=5) (a':=?Aa) [0,1,2,3,5,6,7,8] (by kernel_rfl) (by kernel_rfl) (fun _ _ _ _ _ h => h) HT.out (fun _ => trivial) ?ra ?_
 case ra =>
  refine RG.rW ?_ (fun Z hT => ?_) ?_
  rotate_left
  ·go_simp
   rfl
  simp only [Act.put,lA,lB,lC,lD,lE,lF]
  refine RG.rW (.int .i64 x2) (fun Z hT => ?_) ?_
  ·have h0:=blk_cell (GrT.one hT) (i:=1) rfl
   go_simp
  simp only [Act.put,lA,lB,lC,lD,lE,lF]
  refine RG.rW ?_ (fun Z hT => ?_) ?_
  rotate_left
  ·go_simp
   rfl
  simp only [Act.put,lA,lB,lC,lD,lE,lF]
  refine RG.rW (.int .i64 y2) (fun Z hT => ?_) ?_
  ·have h0:=blk_cell (GrT.two hT) (i:=1) rfl
   go_simp
  simp only [Act.put,lA,lB,lC,lD,lE,lF]
  refine RG.rW ?_ (fun Z hT => ?_) ?_
  rotate_left
  ·go_simp
   rfl
  simp only [Act.put,lA,lB,lC,lD,lE,lF]
  refine RG.rW (.int .i64 x1) (fun Z hT => ?_) ?_
  ·have h0:=blk_cell (GrT.one hT) (i:=0) rfl
   go_simp
  simp only [Act.put,lA,lB,lC,lD,lE,lF]
  refine RG.rW ?_ (fun Z hT => ?_) ?_
  rotate_left
  ·go_simp
   rfl
  simp only [Act.put,lA,lB,lC,lD,lE,lF]
  refine RG.rW (.int .i64 y1) (fun Z hT => ?_) ?_
  ·have h0:=blk_cell (GrT.two hT) (i:=0) rfl
   go_simp
  simp only [Act.put,lA,lB,lC,lD,lE,lF]
  exact RG.RunsIf.nil
 refine RG.wpL_step (i:=4) (by kernel_rfl) (by rfl) (by rfl) (fun KX hK => ?_)
 have HK:=ζ hK
 clear hK
 go_simp
 refine (HC1.out _).mono ?_
 rintro e1 w1 ⟨rfl,rfl⟩
 refine HK.out _ _ HT.out (fun _ => trivial) ?_
 clear HK KX
 try simp only [Act.put,lA,lB,lC,lD,lE,lF]
 refine RG.wpL_step (i:=9) (by kernel_rfl) (by rfl) (by rfl) (fun KX hK => ?_)
 have HK:=ζ hK
 clear hK
 go_simp
 refine (HC2.out _).mono ?_
 rintro e2 w2 ⟨rfl,rfl⟩
 refine HK.out _ _ HT.out (fun _ => trivial) ?_
 clear HK KX
 try simp only [Act.put,lA,lB,lC,lD,lE,lF]
 have HT2:=ζ (HT.out.alloc (.cells #[.int .i64 r1,.int .i64 r2] 3))
 have hn:=heap_alloc_new w2 (.cells #[.int .i64 r1,.int .i64 r2] 3)
 have HO2:=ζ (HO.out w2.heap.size (w2.alloc (.cells #[.int .i64 r1,.int .i64 r2] 3)) (blk_cell hn (i:=0) rfl) (blk_cell hn (i:=1) rfl))
 have HR:=ζ (HPo.out _ HT2.out)
 clear hn HO HPo HC1 HC2
 refine RG.wpL_step (i:=10) (by kernel_rfl) (by rfl) (by rfl) (fun KX hK => ?_)
 have HK:=ζ hK
 clear hK
 go_simp
 refine HK.out _ _ HT2.out (fun _ => trivial) ?_
 clear HK KX
 try simp only [Act.put,lA,lB,lC,lD,lE,lF]
 refine RG.wpL_step (i:=11) (by kernel_rfl) (by rfl) (by rfl) (fun KX hK => ?_)
 have HK:=ζ hK
 clear hK
 generalize (if r1 = 0 then r2 else r1) = rr at *
 go_simp
 refine HO2.out.mono ?_
 rintro e3 w3 ⟨rfl,rfl⟩
 refine HK.out _ _ HT2.out (fun _ => trivial) ?_
 clear HK KX
 try simp only [Act.put,lA,lB,lC,lD,lE,lF]
 refine RG.wpL_take (fuel:=0) (a':=?Ac) [12] (by kernel_rfl) (by kernel_rfl) (fun _ _ _ _ _ h => h) HT2.out (fun _ => trivial) ?rc ?_
 case rc =>
  refine RG.rW ?_ (fun Z hT => ?_) ?_
  rotate_left
  ·go_simp
   rfl
  simp only [Act.put,lA,lB,lC,lD,lE,lF]
  exact RG.RunsIf.nil
 refine RG.wpL_done (by kernel_rfl) ?_ _
 refine NoPanic.normal ?_
 go_wp2
 first | exact HR.out | exact ⟨rfl,HR.out⟩
end LW
end Go.Proofs.Ytfbnakmmmphedaa
namespace Go.Proofs.Ytfbnakmmmphedaa
open Go Go.RowKit
namespace LW
def CI (W : World) (g cap N : Nat) (r : Nat → Eg2) : Prop:=∃ f,W.rowIs g 109 (cap * 2) f ∧ ∀ j,j < N → f (j * 2) = .int .i64 (r j).1 ∧ f (j * 2 + 1) = .int .i64 (r j).2
theorem edC_at (d : List Eg2) (j : Nat) (h : j < d.length) : (edC d)[j * 2]? = some (.int .i64 (d.getD j (0,0)).1) ∧ (edC d)[j * 2 + 1]? = some (.int .i64 (d.getD j (0,0)).2):=by
 induction d generalizing j with
 | nil => simp at h
 | cons x d ih =>
  cases j with
  | zero => exact ⟨rfl,rfl⟩
  | succ j =>
   have:=ih j (by simpa using h)
   have e1 : (j + 1) * 2 = j * 2 + 2:=by omega
   have e2 : (j + 1) * 2 + 1 = j * 2 + 1 + 2:=by omega
   rw [e1,show j * 2 + 2 + 1 = j * 2 + 1 + 2 by omega]
   unfold edC;rw [List.flatMap_cons];show (_ :: _ :: _)[j * 2 + 2]? = _ ∧ (_ :: _ :: _)[j * 2 + 1 + 2]? = _
   simp only [List.getElem?_cons_succ,List.getD_cons_succ]
   exact this
theorem CI.of {W : World} {B : Nat} {v : Value} {d : List Eg2} (h : W.ownsRow B 109 2 v d.length (edC d)) (h0 : 0 < d.length) : ∃ g cap,v = .slice (some ⟨g,0,none⟩) d.length cap ∧ B ≤ g ∧ d.length ≤ cap ∧ cap ≤ maxLen ∧ CI W g cap d.length (fun j => d.getD j (0,0)):=by
 rcases h.2 with ⟨_,h1⟩ | ⟨g,cap,cur,e,hB,hh,hn,hm,hs,ht⟩
 ·omega
 ·refine ⟨g,cap,e,hB,hn,hm,fun j => cur[j]?.getD (.bool false),⟨cur,hh,hs,fun i hi => by simp [Array.getElem?_eq_getElem (show i < cur.size by omega)]⟩,fun j hj => ?_⟩
  obtain ⟨a1,a2⟩:=edC_at d j hj
  have key : ∀ i,i < d.length * 2 → cur[i]? = (edC d)[i]?:=fun i hi => by
   rw [← ht,List.getElem?_take,if_pos hi,Array.getElem?_toList]
  dsimp only
  rw [key _ (by omega),key _ (by omega),a1,a2]
  exact ⟨rfl,rfl⟩
theorem CI.low {W : World} {g cap N : Nat} {r : Nat → Eg2} (h : CI W g cap N r) : g < W.heap.size:=by
 obtain ⟨f,h1,_⟩:=h
 exact h1.lt
theorem CI.keep {W W' : World} {g cap N : Nat} {r : Nat → Eg2} (h : CI W g cap N r) (e : W'.heap[g]? = W.heap[g]?) : CI W' g cap N r:=by
 obtain ⟨f,h1,h2⟩:=h
 exact ⟨f,h1.of_block e,h2⟩
theorem CI.below {W W' : World} {g cap N : Nat} {r : Nat → Eg2} (h : CI W g cap N r) (hb : Below W.heap.size W W') : CI W' g cap N r:=h.keep (hb.block g h.low)
theorem CI.get {W : World} {g cap N : Nat} {r : Nat → Eg2} (h : CI W g cap N r) (hN : N ≤ cap) (j : Nat) (hj : j < N) : W.cell? ⟨g,j * 2,none⟩ = some (.int .i64 (r j).1) ∧ W.cell? ⟨g,j * 2 + 1,none⟩ = some (.int .i64 (r j).2):=by
 obtain ⟨f,h1,h2⟩:=h
 obtain ⟨a,b⟩:=h2 j hj
 exact ⟨by rw [h1.cell (by omega),a],by rw [h1.cell (by omega),b]⟩
theorem CI.frozen {W : World} {g cap N : Nat} {r : Nat → Eg2} (h : CI W g cap N r) (i : Nat) : W.frozen? ⟨g,i,none⟩ = false:=by
 obtain ⟨f,h1,h2⟩:=h
 exact h1.frozen i
theorem CI.there {W : World} {g cap N : Nat} {r : Nat → Eg2} (h : CI W g cap N r) (i : Nat) (hi : i < cap * 2) : (W.cell? ⟨g,i,none⟩).isSome = true:=by
 obtain ⟨f,h1,h2⟩:=h
 rw [h1.cell hi]
 rfl
theorem CI.setE {W : World} {g cap N : Nat} {r : Nat → Eg2} (h : CI W g cap N r) (k : Nat) (x y : Int) : CI (W.setCells g (k * 2) [.int .i64 x,.int .i64 y]) g cap N (put r k (x,y)):=by
 obtain ⟨f,h1,h2⟩:=h
 refine ⟨_,rowIs_setCells _ _ _ _ h1,fun j hj => ?_⟩
 by_cases e : j = k
 ·subst e
  rw [put_same];rw [if_pos (by simp),if_pos (by simp),Nat.sub_self,Nat.add_sub_cancel_left];exact ⟨rfl,rfl⟩
 ·rw [put_other _ _ _ _ e]
  rw [if_neg (by simp;omega),if_neg (by simp;omega)]
  exact h2 j hj
theorem CI.setB {W : World} {g cap N : Nat} {r : Nat → Eg2} (h : CI W g cap N r) (k : Nat) (hk : k ≤ N) (vs : List Value) : CI (W.setCells g (k * 2) vs) g cap k r:=by
 obtain ⟨f,h1,h2⟩:=h
 refine ⟨_,rowIs_setCells _ _ _ _ h1,fun j hj => ?_⟩
 rw [if_neg (by omega),if_neg (by omega)]
 exact h2 j (by omega)
theorem CI.less {W : World} {g cap N : Nat} {r : Nat → Eg2} (h : CI W g cap N r) (k : Nat) (hk : k ≤ N) : CI W g cap k r:=by
 obtain ⟨f,h1,h2⟩:=h
 exact ⟨f,h1,fun j hj => h2 j (by omega)⟩
theorem edC_get (d : List Eg2) (i : Nat) (h : i < d.length * 2) : (edC d)[i]? = some (if i % 2 = 0 then .int .i64 (d.getD (i / 2) (0,0)).1 else .int .i64 (d.getD (i / 2) (0,0)).2):=by
 obtain ⟨a,b⟩:=edC_at d (i / 2) (by omega)
 by_cases e : i % 2 = 0
 ·rw [if_pos e,← a]
  congr 1
  omega
 ·rw [if_neg e,← b]
  congr 1
  omega
theorem CI.own {W : World} {g cap : Nat} {d : List Eg2} (h : CI W g cap d.length (fun j => d.getD j (0,0))) (hN : d.length ≤ cap) (hm : cap ≤ maxLen) {B : Nat} (hB : B ≤ g) : W.ownsRow B 109 2 (.slice (some ⟨g,0,none⟩) d.length cap) d.length (edC d):=by
 obtain ⟨f,⟨cur,hh,hs,hc⟩,h2⟩:=h
 refine ⟨edC_len d,.inr ⟨g,cap,cur,rfl,hB,hh,hN,hm,hs,?_⟩⟩
 apply List.ext_getElem?
 intro i
 rw [List.getElem?_take]
 by_cases hi : i < d.length * 2
 ·rw [if_pos hi,Array.getElem?_toList,hc i (by omega),edC_get d i hi]
  obtain ⟨a,b⟩:=h2 (i / 2) (by omega)
  by_cases e : i % 2 = 0
  ·rw [if_pos e,← a]
   congr 2
   omega
  ·rw [if_neg e,← b]
   congr 2
   omega
 ·rw [if_neg hi,List.getElem?_eq_none (by rw [edC_len];omega)]
theorem zeroC2 (n : Nat) : (Builtin.zeroCells (Value.agg #[.int .i64 0,.int .i64 0]).cells n).toList = List.replicate (n * 2) (Value.int .i64 0):=by
 have hx : ∀ i,(#[Value.int .i64 0,Value.int .i64 0] : Array Value)[i % 2]! = Value.int .i64 0:=fun i => by
  have : i % 2 = 0 ∨ i % 2 = 1:=by omega
  rcases this with h | h <;> rw [h] <;> rfl
 unfold Builtin.zeroCells
 show ((Array.range (n * 2)).map fun i => (#[Value.int .i64 0,Value.int .i64 0] : Array Value)[i % 2]!).toList = _
 rw [show (fun i => (#[Value.int .i64 0,Value.int .i64 0] : Array Value)[i % 2]!) = fun _ => Value.int .i64 0 from funext hx]
 simp [List.map_const']
theorem run_clear2 {P : Program} (w : World) (t e ty : TypeId) (ht : P.underlying t = some (.slice e)) (hv : ∀ w,(zeroValue e).run P w = .ok (.agg #[.int .i64 0,.int .i64 0]) w) (b o n c : Nat) (hn : 0 < n)
  (hc : ∀ j,j < n * 2 → (w.cell? ⟨b,o + j,none⟩).isSome = true) (hf : ∀ j,j < n * 2 → w.frozen? ⟨b,o + j,none⟩ = false) :
  (Builtin.clear_ #[t] ty #[.slice (some ⟨b,o,none⟩) n c]).run P w = .ok (.tuple #[]) (w.setCells b o (List.replicate (n * 2) (.int .i64 0))):=by
 have hst:=run_storeCells_cells (P:=P) b o (List.replicate (n * 2) (Value.int .i64 0)) 0 w (by simpa using hc) (by simpa using hf) (by intro v hv';rw [List.eq_of_mem_replicate hv'];rfl)
 simp only [Nat.add_zero] at hst
 have hz:=zeroC2 n
 obtain ⟨m,rfl⟩ : ∃ m,n = m + 1:=⟨n - 1,by omega⟩
 simp [Builtin.clear_,run_underlying ht,hv,hz,hst]
end LW
end Go.Proofs.Ytfbnakmmmphedaa

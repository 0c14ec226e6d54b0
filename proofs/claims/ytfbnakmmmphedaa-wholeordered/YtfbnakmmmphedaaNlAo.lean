/-
  Ord4, Rp0, Rp1, Rp2, Ord5, Nl1 in one.
-/
import Derived.Test.YtfbnakmmmphedaaOrdero
import Derived.Below
import Derived.Lib.Mul64
import Derived.Shelf.Bits.Mul64
import Derived.Laws.CopyOwn
import Derived.Test.YtfbnakmmmphedaaLkBo
import Derived.Test.YtfbnakmmmphedaaTvAo
import Derived.Test.YtfbnakmmmphedaaLkAo
set_option linter.unusedVariables false
set_option linter.unusedSimpArgs false
set_option maxRecDepth 100000
set_option maxHeartbeats 4000000
namespace Go.Proofs.Ytfbnakmmmphedaa
open Go Go.RowKit
namespace RG
section
variable {P : Program} {ops : Array Oper} {Q : Exit → Act → World → Prop} {md : Region.Mode} {S T : World → Prop} {late : List Nat}
def cnt (l : Array Bool) : Nat:=(l.toList.filter (fun b => !b)).length
theorem cntL_set : ∀ (x : List Bool) (i : Nat),x[i]?.getD true = false → ((x.set i true).filter (fun b => !b)).length + 1 = (x.filter (fun b => !b)).length
 | [],i,h => by simp at h
 | b :: x,0,h => by simp at h;subst h;simp
 | b :: x,i + 1,h => by
  have:=cntL_set x i (by simpa using h)
  cases b <;> simp [List.set] <;> omega
theorem cnt_set {l : Array Bool} {i : Nat} (h : l.getD i true = false) : cnt (l.setIfInBounds i true) + 1 = cnt l:=by
 unfold cnt
 rw [Array.toList_setIfInBounds]
 exact cntL_set _ _ (by simpa using h)
theorem wpL_inv (I : Array Bool → Act → World → Prop) (fin : Array Bool) (fuel : Nat)
  (hI : ∀ l a w,I l a w → l = fin ∨ (cnt fin < cnt l ∧ Region.ready md ops l ≠ []))
  (hs : ∀ l a w,I l a w → l ≠ fin → ∀ i ∈ Region.ready md ops l,wpOp P ops Q i (fun a' w' => (T w' ∧ (noLate late (l.setIfInBounds i true) = true → S w')) ∧ I (l.setIfInBounds i true) a' w') a w)
  (he : ∀ a w,I fin a w → wpL P md ops Q S T late fuel fin a w) :
  ∀ (n : Nat) (l : Array Bool) (a : Act) (w : World),I l a w → cnt l = n + cnt fin → wpL P md ops Q S T late (n + fuel) l a w:=by
 intro n
 induction n with
 | zero =>
  intro l a w h hc
  rcases hI l a w h with rfl | h'
  ·rw [Nat.zero_add];exact he a w h
  ·omega
 | succ n ih =>
  intro l a w h hc
  rcases hI l a w h with rfl | h'
  ·omega
  ·rw [show n + 1 + fuel = (n + fuel) + 1 by omega]
   refine ⟨fun h0 => absurd h0 h'.2,fun i hi => wpOp_mono (fun a' w' h2 => ⟨h2.1,ih _ a' w' h2.2 ?_⟩) (hs l a w h (fun e => by subst e;omega) i hi)⟩
   have:=cnt_set (mem_ready.1 hi).1
   omega
theorem wpOp_of {i : Nat} {o : Oper} {K : Act → World → Prop} {a : Act} {w : World} (ho : ops[i]? = some o) (hg : o.guard = none) (h : o.wp P a w K Q) : wpOp P ops Q i K a w:=by
 unfold wpOp
 simp only [ho,Region.wanted,hg,if_true]
 exact .inl h
theorem after_of {i : Nat} {o : Oper} {l : Array Bool} (ho : ops[i]? = some o) (h : i ∈ Region.ready md ops l) : ∀ e ∈ o.after,Region.binds md e = true → l.getD e.on false = true:=by
 intro e he hb
 obtain ⟨_,o',ho',hall⟩:=mem_ready.1 h
 rw [ho] at ho'
 cases ho'
 simpa using hall e he hb
def upd (V : Nat → Value) (i : Nat) (v : Value) : Nat → Value:=fun j => if j = i then v else V j
theorem upd_self (V : Nat → Value) (i : Nat) (v : Value) : upd V i v i = v:=by simp [upd]
theorem upd_ne (V : Nat → Value) {i j : Nat} (v : Value) (h : j ≠ i) : upd V i v j = V j:=by simp [upd,h]
def slo (l : Array Bool) (V : Nat → Value) (z : Value) (j : Nat) : Value:=if l.getD j false then V j else z
theorem slo_self {l : Array Bool} {V : Nat → Value} {z v : Value} {i : Nat} (h : i < l.size) : slo (l.setIfInBounds i true) (upd V i v) z i = v:=by
 simp [slo,upd,h]
theorem slo_ne {l : Array Bool} {V : Nat → Value} {z v : Value} {i j : Nat} (h : j ≠ i) : slo (l.setIfInBounds i true) (upd V i v) z j = slo l V z j:=by
 unfold slo
 rw [getD_set_ne false (Ne.symm h),upd_ne V v h]
theorem slo_on {l : Array Bool} {V : Nat → Value} {z : Value} {i : Nat} (h : l.getD i false = true) : slo l V z i = V i:=by simp [slo,h]
def closed (md : Region.Mode) (ops : Array Oper) (late C : List Nat) (fin : Array Bool) (L : List (Array Bool)) : Bool :=
 L.all fun l => l == fin || (decide (cnt fin < cnt l) && !(Region.ready md ops l).isEmpty && (Region.ready md ops l).all fun i => C.contains i && L.contains (l.setIfInBounds i true))
def states : List Nat → Array Bool → List (Array Bool)
 | [],l => [l]
 | i :: C,l => states C l ++ states C (l.setIfInBounds i true)
theorem wpL_makers (C : List Nat) (L : List (Array Bool)) (fin : Array Bool) (fr : Array Bool → (Nat → Value) → Act) (Pr : Nat → Value → World → Prop) (w0 : World) (fuel : Nat)
  (hcl : closed md ops late C fin L = true)
  (hT : ∀ w,Below w0.heap.size w0 w → T w) (hS : ∀ w,Below w0.heap.size w0 w → S w)
  (hP : ∀ i v w w',Pr i v w → Below w.heap.size w w' → Pr i v w')
  (hop : ∀ l ∈ L,∀ V w,Below w0.heap.size w0 w → (∀ j ∈ C,l.getD j false = true → Pr j (V j) w) → ∀ i ∈ C,i ∈ Region.ready md ops l →
   ∀ K : Act → World → Prop,(∀ v w',Below w.heap.size w w' → Pr i v w' → K (fr (l.setIfInBounds i true) (upd V i v)) w') → wpOp P ops Q i K (fr l V) w)
  (he : ∀ V w,Below w0.heap.size w0 w → (∀ j ∈ C,fin.getD j false = true → Pr j (V j) w) → wpL P md ops Q S T late fuel fin (fr fin V) w)
  {n : Nat} {l0 : Array Bool} {V0 : Nat → Value} (hl : l0 ∈ L) (hn : cnt l0 = n + cnt fin) (hz : ∀ j ∈ C,l0.getD j false = false) : wpL P md ops Q S T late (n + fuel) l0 (fr l0 V0) w0:=by
 have hcl':=List.all_eq_true.1 hcl
 refine wpL_inv (fun l a w => l ∈ L ∧ Below w0.heap.size w0 w ∧ ∃ V,a = fr l V ∧ ∀ j ∈ C,l.getD j false = true → Pr j (V j) w) fin fuel ?_ ?_ ?_ n l0 _ w0 ⟨hl,Below.refl _ _,V0,rfl,fun j hj h => by rw [hz j hj] at h;cases h⟩ hn
 ·rintro l a w ⟨h1,-⟩
  have:=hcl' l h1
  simp only [Bool.or_eq_true,Bool.and_eq_true,beq_iff_eq,decide_eq_true_eq,Bool.not_eq_true',List.isEmpty_eq_false_iff] at this
  rcases this with h | h
  ·exact .inl h
  ·exact .inr ⟨h.1.1,h.1.2⟩
 ·rintro l a w ⟨h1,h2,V,rfl,h3⟩ hne i hi
  have:=hcl' l h1
  simp only [Bool.or_eq_true,Bool.and_eq_true,beq_iff_eq,decide_eq_true_eq,Bool.not_eq_true',List.isEmpty_eq_false_iff] at this
  rcases this with h | h
  ·exact absurd h hne
  ·have h4:=List.all_eq_true.1 h.2 i hi
   simp only [Bool.and_eq_true,List.contains_iff_mem] at h4
   refine hop l h1 V w h2 h3 i h4.1 hi _ (fun v w' hb hp => ?_)
   have hb' : Below w0.heap.size w0 w':=h2.trans (hb.mono h2.size)
   refine ⟨⟨hT w' hb',fun _ => hS w' hb'⟩,h4.2,hb',upd V i v,rfl,fun j hj hlj => ?_⟩
   by_cases hji : j = i
   ·subst hji;rw [upd_self];exact hp
   ·rw [upd_ne V v hji]
    rw [getD_set_ne false (Ne.symm hji)] at hlj;exact hP _ _ _ _ (h3 j hj hlj) hb
 ·rintro a w ⟨h1,h2,V,rfl,h3⟩
  exact he V w h2 h3
end
end RG
end Go.Proofs.Ytfbnakmmmphedaa
namespace Go.Proofs.Ytfbnakmmmphedaa
open Go.RowKit
namespace LW
open Mc
theorem mul64r (x b : Nat) (hx : x < 18446744073709551616) (hb : b ≤ 65535) (w : World) : Calls Try.prog 76 #[.int .u64 x,.int .u64 b] w fun e w' => e = .returned (.tuple #[.int .u64 (x * b / 18446744073709551616 : Nat),.int .u64 (x * b % 18446744073709551616 : Nat)]) ∧ w' = w:=by
 go_enter Try.func76,Try.ntmps76
 go_wp2
 go_ret2
 obtain ⟨h1,h2,h3,h4⟩:=Go.Lib.mul64_hi x b hx (by omega)
 have hb1 : b % 4294967296 = b:=by omega
 have hb2 : b / 4294967296 = 0:=by omega
 rw [hb1] at h1 h2 h3 h4
 rw [hb2] at h3 h4
 simp only [Nat.mul_zero,Nat.add_zero,Nat.zero_add] at h3 h4
 have y1 : (b : Int) / 4294967296 = 0:=by omega
 have y0 : bits .and .u64 (b : Int) 4294967295 = (b : Int):=by rw [Mul64.maskN b (by omega),hb1]
 have x0:=Mul64.maskN x hx
 have x1:=Mul64.divN x
 have x1l : x / 4294967296 < 4294967296:=by omega
 have x0l : x % 4294967296 < 4294967296:=by omega
 refine ⟨ret_two ?_ ?_,rfl⟩
 ·rw [y1,y0,x0,x1]
  generalize x / 4294967296 = p at *;generalize x % 4294967296 = q at *;simp only [Int.mul_zero]
  rw [← Int.natCast_mul,← Int.natCast_mul];have k1:=Nat.mul_le_mul (Nat.le_of_lt x1l) hb
  have k2:=Nat.mul_le_mul (Nat.le_of_lt x0l) hb
  generalize p * b = pb at *;generalize q * b = qb at *;rw [show IntKind.u64.wrap (pb : Int) = (pb : Int) by rw [IntKind.wrap_u64];omega,show IntKind.u64.wrap (qb : Int) = (qb : Int) by rw [IntKind.wrap_u64];omega,
   show IntKind.u64.wrap 0 = 0 from rfl]
  rw [show IntKind.u64.wrap ((pb : Int) + (qb : Int) / 4294967296) = ((pb + qb / 4294967296 : Nat) : Int) by rw [IntKind.wrap_u64];omega]
  rw [Mul64.maskN _ (by omega)]
  simp only [Int.zero_add,Int.add_zero]
  rw [← h4];generalize pb + qb / 4294967296 = t at *;simp only [IntKind.wrap_u64]
  omega
 ·rw [← Int.natCast_mul,IntKind.wrap_u64]
  omega
theorem pmul1 (b : Nat) (hb : b ≤ 65535) (w : World) : Calls Try.prog 71 #[.int .u64 1,.int .u64 b] w fun e w' => e = .returned (.tuple #[.int .u64 0,.int .u64 b]) ∧ w' = w:=by
 have HC : Hid (∀ W,Calls Try.prog 76 #[.int .u64 1,.int .u64 b] W fun e w' => e = .returned (.tuple #[.int .u64 0,.int .u64 b]) ∧ w' = W):=fun W => by
  refine (mul64r 1 b (by omega) hb W).mono ?_
  rintro e w' ⟨rfl,h⟩
  exact ⟨ret_two (by omega) (by omega),h⟩
 go_enter Try.func71,Try.ntmps71
 go_wp2_with fail
 refine (HC.out _).mono ?_
 rintro e w' ⟨rfl,rfl⟩
 go_wp2
 go_ret2
 exact ⟨rfl,rfl⟩
end LW
end Go.Proofs.Ytfbnakmmmphedaa
namespace Go.Proofs.Ytfbnakmmmphedaa
open Go.RowKit
namespace LW
open Mc
theorem wp_copyO {P : Program} {w : World} {o : Oper} {a : Act} {K : Act → World → Prop} {Q : Exit → Act → World → Prop} (d s : Operand) (dT sT : TypeId)
  (ho : o.op = .call { callee:=.builtin .copy,args:=#[d,s],argTypes:=#[dT,sT] }) (elem : TypeId) (hu : P.underlying dT = some (.slice elem)) (hsz : (P.info? elem).map (·.size) = some 1)
  (g off dLen dCap : Nat) (ad : Addr) (sLen sCap : Nat) (hd : a.eval d = .slice (some ⟨g,off,none⟩) dLen dCap) (hs : a.eval s = .slice (some ad) sLen sCap)
  (cur : Array Value) (t : TypeId) (hg : w.heap[g]? = some (.cells cur t (0,0))) (cs : List Value) (hn : cs.length = Nat.min sLen dLen)
  (hsrc : ∀ j v,cs[j]? = some v → w.cell? (ad.add j) = some v) (hfit : off + cs.length ≤ cur.size) (h1 : ∀ v ∈ cs,v.oneCell' = true)
  (h : K (a.put o.dst (goInt cs.length)) (w.setRow g (cur.toList.take off ++ (cs ++ cur.toList.drop (off + cs.length))).toArray)) : o.wp P a w K Q:=by
 have hrun:=run_copy_row (P:=P) w dT sT o.type elem g off dLen dCap ad sLen sCap cur t cs hu hsz hg hn hsrc hfit h1
 unfold Oper.wp
 simp [execOp,ho,resolve,invoke,builtin,hd,hs,hrun,Result.andThen]
 exact h
def repC (m n : Nat) : List Value:=List.replicate m (.int .i64 (-1)) ++ List.replicate (n - m) (.int .i64 0)
theorem repC_len (m n : Nat) (h : m ≤ n) : (repC m n).length = n:=by simp [repC];omega
theorem repC_more (m k n : Nat) (h : m + k ≤ n) : (repC m n).take m ++ (List.replicate k (.int .i64 (-1)) ++ (repC m n).drop (m + k)) = repC (m + k) n:=by
 unfold repC
 have e1 : (List.replicate m (Value.int .i64 (-1)) ++ List.replicate (n - m) (Value.int .i64 0)).take m = List.replicate m (.int .i64 (-1)):=by
  rw [List.take_append_of_le_length (by simp),List.take_of_length_le (by simp)]
 have e2 : (List.replicate m (Value.int .i64 (-1)) ++ List.replicate (n - m) (Value.int .i64 0)).drop (m + k) = List.replicate (n - (m + k)) (.int .i64 0):=by
  rw [List.drop_append,List.drop_of_length_le (by simp),List.nil_append,List.length_replicate,List.drop_replicate]
  congr 1
  omega
 rw [e1,e2,← List.append_assoc,List.replicate_append_replicate]
theorem repC_at (m n j : Nat) (h : j < m) : (repC m n)[j]? = some (.int .i64 (-1)):=by
 unfold repC
 rw [List.getElem?_append_left (by simpa using h),List.getElem?_replicate,if_pos h]
theorem own_wholeR {w : World} {B g m : Nat} {t : TypeId} {xs : List Value} (h : w.ownsRow B t 1 (.slice (some ⟨g,0,none⟩) m m) m xs) : w.heap[g]? = some (.cells xs.toArray t (0,0)):=by
 rcases h.2 with ⟨h',_⟩ | ⟨g',cap',cur,h',hb,hg,hnc,hcm,hcs,htake⟩
 ·cases h'
 ·injection h' with h1 h2 h3
  injection h1 with h1
  injection h1 with h1
  subst h1 h3;rw [hg,← htake,List.take_of_length_le (by simp [hcs])]
end LW
end Go.Proofs.Ytfbnakmmmphedaa
namespace Go.Proofs.Ytfbnakmmmphedaa
open Go.RowKit
namespace LW
open Mc
theorem rep_repC (n : Nat) : List.replicate n (Value.int .i64 0) = repC 0 n:=by simp [repC]
theorem splice_rep (m k n : Nat) (h : m + k ≤ n) : splice (repC m n) m (List.replicate k (.int .i64 (-1))) = repC (m + k) n:=by
 unfold splice
 rw [List.length_replicate]
 exact repC_more m k n h
theorem prepeat (n b : Nat) (hn : n ≤ 65535) (w : World) (hc : w.cell? ⟨b,0,none⟩ = some (.int .i64 (-1))) :
  Calls Try.prog 57 #[.slice (some ⟨b,0,none⟩) 1 1,.int .i64 (n : Int)] w fun e w' => (e = .returned (.slice (some ⟨w.heap.size,0,none⟩) n n) ∧ w'.ownsRow w.heap.size 3 1 (.slice (some ⟨w.heap.size,0,none⟩) n n) n (List.replicate n (.int .i64 (-1)))) ∧ Below w.heap.size w w':=by
 obtain ⟨POST,hP⟩ : ∃ Q : Ending → World → Prop,Q = fun e w' => (e = .returned (.slice (some ⟨w.heap.size,0,none⟩) n n) ∧ w'.ownsRow w.heap.size 3 1 (.slice (some ⟨w.heap.size,0,none⟩) n n) n (List.replicate n (.int .i64 (-1)))) ∧ Below w.heap.size w w':=⟨_,rfl⟩
 have HPo : Hid (∀ w',w'.ownsRow w.heap.size 3 1 (.slice (some ⟨w.heap.size,0,none⟩) n n) n (List.replicate n (.int .i64 (-1))) → Below w.heap.size w w' → POST (.returned (.slice (some ⟨w.heap.size,0,none⟩) n n)) w'):=fun w' h1 h2 => by rw [hP];exact ⟨⟨rfl,h1⟩,h2⟩
 rw [← hP]
 clear hP
 obtain ⟨i3,hi3,hz30,hz31,hz32⟩:=info_parts' intinfo
 have HC:=ζ hc
 have HM:=ζ (fun W => pmul1 n hn W)
 have u1 : IntKind.u64.wrap 1 = 1:=rfl
 have u2 : IntKind.u64.wrap (n : Int) = (n : Int):=by rw [IntKind.wrap_u64];omega
 have u3 : IntKind.i64.wrap (n : Int) = (n : Int):=by rw [IntKind.wrap_i64];omega
 have u4 : ¬ (n : Int) < 0:=by omega
 have u5 : ¬ (9223372036854775807 : Int) < (n : Int):=by omega
 clear hc
 go_enter Try.func57,Try.ntmps57
 go_wp2_with fail
 refine (HM.out _).mono ?_
 rintro e1 w1 ⟨rfl,rfl⟩
 have HS2 : Hid (∀ W,Below w1.heap.size w1 W → ∀ j v,(List.replicate (min 1 n) (Value.int .i64 (-1)))[j]? = some v → W.cell? ((⟨b,0,none⟩ : Addr).add j) = some v):=fun W hW j v hj => by
  have hj0:=(List.getElem?_eq_some_iff.1 hj).1
  simp at hj0
  obtain rfl : j = 0:=by omega
  rw [List.getElem?_replicate,if_pos (by omega)] at hj
  rw [← hj];exact keepC hW HC.out
 go_wp2_with (first
  | (at_make;refine wpList_make_full _ rfl _ _ 24 rfl w1.heap.size 3 i3 (.int .i64 0) 1 Try.underlying24 hi3 hz30 hz31 _ _ _ _ n rfl rfl rfl rfl (by rw [hz32];omega) (by unfold maxLen;omega) (Nat.le_refl _) ?_;(intro w2 hown hgrow);have HB2 : Hid (Below w1.heap.size w1 w2):=(Below.refl _ _).grown hgrow (Nat.le_refl _) (by intro k h;cases h);(rw [made_rep _ rfl,rep_repC] at hown);have HW2:=ζ (own_wholeR hown);clear hown hgrow)
  | (refine wpList_copy_splice rfl (.tmp 31) (.tmp 32) 24 24 rfl 3 Try.underlying24 (by rw [hi3];simp [hz31]) (some ⟨w1.heap.size,0,none⟩) (some ⟨b,0,none⟩) n n 1 1 rfl rfl w1.heap.size 0 (repC 0 n) 3 HW2.out (List.replicate (min 1 n) (.int .i64 (-1))) (by simp) (fun _ => ⟨rfl,_,rfl,fun j v hj => HS2.out _ HB2.out j v hj⟩) (by rw [repC_len 0 n (by omega)];simp;omega) (by intro v hv;rw [List.eq_of_mem_replicate hv];rfl) w1.heap.size w1 HB2.out (Nat.le_refl _) ?_;(intro w3 hrow hb3)))
 have HR3 : Hid (w3.heap[w1.heap.size]? = some (.cells (repC (min 1 n) n).toArray 3 (0,0))):=by
  have:=hrow.out
  rw [splice_rep 0 (min 1 n) n (by omega),Nat.zero_add] at this
  exact this
 go_loopw [8] (fun j wr => ∃ m : Nat,m ≤ n ∧ (0 < m ∨ n = 0) ∧ j = .int .i64 (m : Int) ∧ Hid (wr.heap[w1.heap.size]? = some (.cells (repC m n).toArray 3 (0,0))) ∧ Hid (Below w1.heap.size w1 wr)) (fun j wr => n - (intOf j).toNat)
 case atStart => exact ⟨min 1 n,by omega,by omega,rfl,HR3,ζ hb3⟩
 case round =>
  clear HR3 hrow hb3;obtain ⟨m,hm,hm0,rfl,HR,HB3⟩:=hrel
  by_cases hlt : m < n
  ·have k1 : (m : Int) < (n : Int):=by omega
   have k0 : (0 : Int) ≤ (m : Int):=by omega
   have HSj : Hid (∀ Y : World,Y.heap[w1.heap.size]? = some (.cells (repC m n).toArray 3 (0,0)) → ∀ j v,(List.replicate (min m (n - m)) (Value.int .i64 (-1)))[j]? = some v → Y.cell? ((⟨w1.heap.size,0,none⟩ : Addr).add j) = some v):=fun Y hY j v hj => by
    have hj0:=(List.getElem?_eq_some_iff.1 hj).1
    rw [List.length_replicate] at hj0;rw [List.getElem?_replicate,if_pos hj0] at hj;rw [← hj,Addr.add_mid,cell_of_row _ _ _ _ _ _ hY];rw [List.getElem?_toArray,Nat.zero_add];exact repC_at m n j (by omega)
   go_wp2;refine wp_region_noPanic ?_
   refine RG.wp_region_L (fun Z => Below wr.heap.size wr Z) (fun Z => True) [7] (by kernel_rfl) ?_
   refine RG.wpL_any fun Yz97 hY => ?_
   have HBz97 : Hid (Below wr.heap.size wr Yz97):=by rw [hY];exact below_drewN (Below.refl _ _) 1
   clear hY;refine RG.wpL_take (fuel:=3) (a':=?Az97) [0,1,2,3,4,5,6] (by kernel_rfl) (by kernel_rfl) (fun _ _ _ _ _ h => h) trivial (fun _ => HBz97.out) ?rz97 ?_
   case rz97 =>
    iterate 7
     refine RG.rW ?_ (fun Z hT => ?_) ?_
     rotate_left
     ·go_simp
      rfl
     simp only [Act.put,lA,lB,lC,lD,lE,lF]
    exact RG.RunsIf.nil
   have hr8 : Hid (Yz97.heap[w1.heap.size]? = some (.cells (repC m n).toArray 3 (0,0))):=blk_keep HR.out HBz97.out
   have hb8 : Hid (Below w1.heap.size w1 Yz97):=HB3.out.trans (HBz97.out.mono HB3.out.size)
   refine RG.wpL_late (i:=7) (by kernel_rfl) (by rfl) (by rfl) (by kernel_rfl) (fun KX hK => ?_)
   have HK:=ζ hK
   clear hK;refine wp_copyO (.tmp 41) (.tmp 44) 24 24 rfl 3 Try.underlying24 (by simp [hi3,hz31]) w1.heap.size m (n - m) (n - m) ⟨w1.heap.size,0,none⟩ m n (by show Value.slice (if n = m then _ else _) _ _ = _;rw [if_neg (by omega)]) rfl (repC m n).toArray 3 hr8.out (List.replicate (min m (n - m)) (.int .i64 (-1))) (by rw [List.length_replicate]) (fun j v hj => HSj.out Yz97 hr8.out j v hj) (by rw [List.length_replicate];show m + _ ≤ (repC m n).length;rw [repC_len m n (by omega)];omega) (by intro v hv;rw [List.eq_of_mem_replicate hv];rfl) ?_
   rw [List.length_replicate];generalize hW9 : World.setRow _ _ _ = W9
   have HR9 : Hid (W9.heap[w1.heap.size]? = some (.cells (repC (m + min m (n - m)) n).toArray 3 (0,0))):=by
    have h9:=setRow_heap Yz97 w1.heap.size (repC m n).toArray ((repC m n).toArray.toList.take m ++ (List.replicate (min m (n - m)) (Value.int .i64 (-1)) ++ (repC m n).toArray.toList.drop (m + min m (n - m)))).toArray _ _ hr8.out
    rw [hW9] at h9;have h10:=repC_more m (min m (n - m)) n (by omega)
    show _ = _
    rw [h9,← h10]
   have HB9 : Hid (Below w1.heap.size w1 W9):=by
    rw [← hW9];exact below_setRow hb8.out (Nat.le_refl _)
   have u9 : IntKind.i64.wrap ((m : Int) + ((min m (n - m) : Nat) : Int)) = ((m + min m (n - m) : Nat) : Int):=by rw [IntKind.wrap_i64];omega
   obtain ⟨k9,hk9⟩ : ∃ k9,min m (n - m) = k9:=⟨_,rfl⟩
   have hk1 : 0 < k9 ∧ m + k9 ≤ n:=by omega
   rw [hk9] at HR9 u9 ⊢;clear hW9 hk9 hr8 hb8 HSj HR HB3;refine HK.out _ _ trivial ?_
   clear HK KX;simp only [Act.put,lA,lB,lC,lD,lE,lF]
   refine RG.wpL_take (fuel:=0) (a':=?Az98) [8,9] (by kernel_rfl) (by kernel_rfl) (fun _ _ _ _ _ h => h) trivial (fun h => by cases (show false = true from h)) ?rz98 ?_
   case rz98 =>
    iterate 2
     refine RG.rW ?_ (fun Z hT => ?_) ?_
     rotate_left
     ·go_simp
      rfl
     simp only [Act.put,lA,lB,lC,lD,lE,lF]
    exact RG.RunsIf.nil
   refine RG.wpL_done (by kernel_rfl) ?_ _
   refine NoPanic.normal ?_
   go_wp2;go_roundw
   case rel => exact ⟨m + k9,hk1.2,by omega,by simp,HR9,HB9⟩
   case measure => simp [intOf];omega
  ·obtain rfl : m = n:=by omega
   have k1 : ¬ (m : Int) < (m : Int):=by omega
   have HE : Hid (POST (.returned (.slice (some ⟨w1.heap.size,0,none⟩) m m)) wr):=HPo.out wr ⟨by simp,.inr ⟨w1.heap.size,m,(repC m m).toArray,rfl,Nat.le_refl _,HR.out,Nat.le_refl _,by unfold maxLen;omega,by simp [repC],by simp [repC]⟩⟩ HB3.out
   clear HPo HR HB3;go_wp2;first | exact HE.out | exact ⟨rfl,HE.out⟩
end LW
end Go.Proofs.Ytfbnakmmmphedaa
namespace Go.Proofs.Ytfbnakmmmphedaa
open Go Go.RowKit
namespace RG
section
variable {P : Program} {ops : Array Oper} {Q : Exit → Act → World → Prop} {md : Region.Mode} {S T : World → Prop} {late : List Nat}
def closed2 (md : Region.Mode) (ops : Array Oper) (C : List Nat) (fin : Array Bool) (ok : Array Bool → Bool) (L : List (Array Bool)) : Bool :=
 L.all fun l => !ok l || (l == fin || (decide (cnt fin < cnt l) && !(Region.ready md ops l).isEmpty && (Region.ready md ops l).all fun i => C.contains i && ok (l.setIfInBounds i true)))
theorem set_comm (l : Array Bool) (a b : Nat) : (l.setIfInBounds a true).setIfInBounds b true = (l.setIfInBounds b true).setIfInBounds a true:=by
 by_cases h : a = b
 ·subst h;rfl
 ·exact Array.setIfInBounds_comm _ _ h
theorem set_twice (l : Array Bool) (a : Nat) : (l.setIfInBounds a true).setIfInBounds a true = l.setIfInBounds a true:=by
 simp
theorem states_map (x : Nat) : ∀ (C : List Nat) (l l0 : Array Bool),l ∈ states C l0 → l.setIfInBounds x true ∈ states C (l0.setIfInBounds x true)
 | [],l,l0,h => by
  simp only [states,List.mem_singleton] at h ⊢
  rw [h]
 | y :: C,l,l0,h => by
  simp only [states,List.mem_append] at h ⊢
  rcases h with h | h
  ·exact .inl (states_map x C l l0 h)
  ·right
   have:=states_map x C l _ h
   rw [set_comm] at this;exact this
theorem states_set : ∀ (C : List Nat) (l l0 : Array Bool) (i : Nat),l ∈ states C l0 → i ∈ C → l.setIfInBounds i true ∈ states C l0
 | [],l,l0,i,_,hi => by simp at hi
 | y :: C,l,l0,i,h,hi => by
  simp only [states,List.mem_append] at h ⊢
  by_cases e : i = y
  ·subst e
   right
   rcases h with h | h
   ·exact states_map i C l l0 h
   ·have:=states_map i C l _ h
    rw [set_twice] at this;exact this
  ·have hi' : i ∈ C:=by
    rcases List.mem_cons.1 hi with h2 | h2
    ·exact absurd h2 e
    ·exact h2
   rcases h with h | h
   ·exact .inl (states_set C l _ i h hi')
   ·exact .inr (states_set C l _ i h hi')
theorem states_self : ∀ (C : List Nat) (l0 : Array Bool),l0 ∈ states C l0
 | [],l0 => by simp [states]
 | y :: C,l0 => by
  simp only [states,List.mem_append]
  exact .inl (states_self C l0)
theorem states_size : ∀ (C : List Nat) (l l0 : Array Bool),l ∈ states C l0 → l.size = l0.size
 | [],l,l0,h => by
  simp only [states,List.mem_singleton] at h
  rw [h]
 | y :: C,l,l0,h => by
  simp only [states,List.mem_append] at h
  rcases h with h | h
  ·exact states_size C l l0 h
  ·have:=states_size C l _ h
   simpa using this
theorem wpL_makersA (C : List Nat) (l0 fin : Array Bool) (ok : Array Bool → Bool) (hok : ok l0 = true) (fr : Array Bool → (Nat → Value) → Act) (Pr : Nat → Value → World → Prop) (w0 : World) (fuel : Nat)
  (hcl : closed2 md ops C fin ok (states C l0) = true)
  (hT : ∀ w,Below w0.heap.size w0 w → T w) (hS : ∀ w,Below w0.heap.size w0 w → S w)
  (hP : ∀ i v w w',Pr i v w → Below w.heap.size w w' → Pr i v w')
  (hlt : ∀ i v w,Pr i v w → ∀ b,v.ownBlock = some b → b < w.heap.size)
  (hop : ∀ l ∈ states C l0,∀ V w,Below w0.heap.size w0 w → (∀ j ∈ C,l.getD j false = true → Pr j (V j) w) → ∀ i ∈ C,i ∈ Region.ready md ops l →
   ∀ K : Act → World → Prop,(∀ v w',Below w.heap.size w w' → Pr i v w' → (∀ b,v.ownBlock = some b → w.heap.size ≤ b) → K (fr (l.setIfInBounds i true) (upd V i v)) w') → wpOp P ops Q i K (fr l V) w)
  (he : ∀ V w,Below w0.heap.size w0 w → (∀ j ∈ C,fin.getD j false = true → Pr j (V j) w) → (∀ i ∈ C,∀ j ∈ C,fin.getD i false = true → fin.getD j false = true → i ≠ j → ∀ b,(V i).ownBlock = some b → (V j).ownBlock = some b → False) → wpL P md ops Q S T late fuel fin (fr fin V) w)
  {n : Nat} {V0 : Nat → Value} (hn : cnt l0 = n + cnt fin) (hz : ∀ j ∈ C,l0.getD j false = false) : wpL P md ops Q S T late (n + fuel) l0 (fr l0 V0) w0:=by
 have hcl':=List.all_eq_true.1 hcl
 refine wpL_inv (fun l a w => (l ∈ states C l0 ∧ ok l = true) ∧ Below w0.heap.size w0 w ∧ ∃ V,a = fr l V ∧ (∀ j ∈ C,l.getD j false = true → Pr j (V j) w) ∧ ∀ i ∈ C,∀ j ∈ C,l.getD i false = true → l.getD j false = true → i ≠ j → ∀ b,(V i).ownBlock = some b → (V j).ownBlock = some b → False) fin fuel ?_ ?_ ?_ n l0 _ w0 ⟨⟨states_self C l0,hok⟩,Below.refl _ _,V0,rfl,fun j hj h => (by rw [hz j hj] at h;cases h),fun i hi j hj h => (by rw [hz i hi] at h;cases h)⟩ hn
 ·rintro l a w ⟨⟨h1,h1o⟩,-⟩
  have:=hcl' l h1
  rw [h1o] at this;simp only [Bool.not_true,Bool.false_or,Bool.or_eq_true,Bool.and_eq_true,beq_iff_eq,decide_eq_true_eq,Bool.not_eq_true',List.isEmpty_eq_false_iff] at this
  rcases this with h | h
  ·exact .inl h
  ·exact .inr ⟨h.1.1,h.1.2⟩
 ·rintro l a w ⟨⟨h1,h1o⟩,h2,V,rfl,h3,h3d⟩ hne i hi
  have:=hcl' l h1
  rw [h1o] at this;simp only [Bool.not_true,Bool.false_or,Bool.or_eq_true,Bool.and_eq_true,beq_iff_eq,decide_eq_true_eq,Bool.not_eq_true',List.isEmpty_eq_false_iff] at this
  rcases this with h | h
  ·exact absurd h hne
  ·have h4:=List.all_eq_true.1 h.2 i hi
   simp only [Bool.and_eq_true,List.contains_iff_mem] at h4
   refine hop l h1 V w h2 h3 i h4.1 hi _ (fun v w' hb hp hnew => ?_)
   have hb' : Below w0.heap.size w0 w':=h2.trans (hb.mono h2.size)
   refine ⟨⟨hT w' hb',fun _ => hS w' hb'⟩,⟨states_set C l l0 i h1 h4.1,h4.2⟩,hb',upd V i v,rfl,fun j hj hlj => ?_,fun x hx y hy hlx hly hxy b e1 e2 => ?_⟩
   ·by_cases hji : j = i
    ·subst hji;rw [upd_self];exact hp
    ·rw [upd_ne V v hji]
     rw [getD_set_ne false (Ne.symm hji)] at hlj;exact hP _ _ _ _ (h3 j hj hlj) hb
   ·by_cases hxi : x = i
    ·subst hxi
     have hyi : y ≠ x:=Ne.symm hxy
     rw [upd_self] at e1;rw [upd_ne V v hyi] at e2;rw [getD_set_ne false (Ne.symm hyi)] at hly;have q1:=hnew b e1
     have q2:=hlt y _ w (h3 y hy hly) b e2
     omega
    ·rw [upd_ne V v hxi] at e1
     rw [getD_set_ne false (Ne.symm hxi)] at hlx;by_cases hyi : y = i
     ·subst hyi
      rw [upd_self] at e2;have q1:=hnew b e2
      have q2:=hlt x _ w (h3 x hx hlx) b e1
      omega
     ·rw [upd_ne V v hyi] at e2
      rw [getD_set_ne false (Ne.symm hyi)] at hly;exact h3d x hx y hy hlx hly hxy b e1 e2
 ·rintro a w ⟨h1,h2,V,rfl,h3,h3d⟩
  exact he V w h2 h3 h3d
end
end RG
end Go.Proofs.Ytfbnakmmmphedaa
namespace Go.Proofs.Ytfbnakmmmphedaa
open Go.RowKit
namespace LW
open Mc
structure PrN (B R M K : Nat) (i : Nat) (v : Value) (w : World) : Prop where
 a : (i = 3 ∨ i = 11) → ∃ b,v = .slice (some ⟨b,0,none⟩) 1 1 ∧ w.cell? ⟨b,0,none⟩ = some (.int .i64 (-1))
 la : i = 6 → w.ownsRow B 3 1 v R (List.replicate R (.int .i64 (-1)))
 sh : i = 13 → w.ownsRow B 3 1 v M (List.replicate M (.int .i64 (-1)))
 os : (i = 8 ∨ i = 10) → w.ownsRow B 24 1 v M (List.replicate M (.slice none 0 0))
 og : i = 17 → w.ownsRow B 24 1 v K (List.replicate K (.slice none 0 0))
 lt : ∀ b,v.ownBlock = some b → b < w.heap.size
theorem PrN.below {B R M K : Nat} {i : Nat} {v : Value} {w w' : World} (h : PrN B R M K i v w) (hb : Below w.heap.size w w') : PrN B R M K i v w' :=
 ⟨fun e => let ⟨b,e1,e2⟩:=h.a e;⟨b,e1,keepC hb e2⟩,fun e => own_belowI (h.la e) hb,fun e => own_belowI (h.sh e) hb,fun e => own_belowI (h.os e) hb,fun e => own_belowI (h.og e) hb,fun b e => Nat.lt_of_lt_of_le (h.lt b e) hb.size⟩
def frN (A : Value) (ra : Option Addr) (rc M R K g : Nat) (l : Array Bool) (V : Nat → Value) : Act:=⟨#[A,.pointer (some ⟨g,0,none⟩),.pointer none,.int .i64 (M : Int),.pointer (some ⟨g,0,none⟩),.pointer (some ⟨g,1,none⟩),.slice ra M rc,.int .i64 (M : Int),.pointer (some ⟨g,0,none⟩),.pointer (some ⟨g,1,none⟩),.slice ra M rc,RG.slo l V undef 3,.pointer (some ⟨g,6,none⟩),.int .i64 (R : Int),RG.slo l V undef 6,.int .i64 (M : Int),RG.slo l V undef 8,.int .i64 (M : Int),RG.slo l V undef 10,RG.slo l V undef 11,.int .i64 (M : Int),RG.slo l V undef 13,.pointer (some ⟨g,0,none⟩),.pointer (some ⟨g,3,none⟩),.int .i64 (K : Int),RG.slo l V undef 17,undef,undef],[]⟩
def vN (e6 e8 e10 e13 e17 : Value) : Ow → Value
 | .inl (false,none) => .slice none 0 0
 | .inl (false,some false) => e6
 | .inl (false,some true) => e13
 | .inl (true,none) => e8
 | .inl (true,some false) => e10
 | .inl (true,some true) => e17
 | .inr (_,none) => .slice none 0 0
 | .inr (_,some false) => .slice none 0 0
 | .inr (_,some true) => .slice none 0 0
theorem slicinfo : (Try.prog.info? 24).map (fun i => (i.zero,i.size,i.bytes)) = some (some (.slice none 0 0),1,24):=by kernel_rfl
theorem rep_rwN (n : Nat) (z : Value) (f : Nat → Value) (h : ∀ c,f c = z) : List.replicate n z = rwI n f:=by
 unfold rwI
 rw [List.map_congr_left (g:=fun _ => z) (fun c _ => h c)]
 exact (List.map_const' ..).symm ▸ by simp
theorem pnew : PNew:=by
 intro s pa pc ra rc la lc l w hs ho hR
 obtain ⟨POST,hP⟩ : ∃ Q : Ending → World → Prop,Q = fun e w' => ∃ g v,e = .returned (.pointer (some ⟨g,0,none⟩)) ∧ KM w w' g ra rc (Tr.rnC l) s.rooms.length s.locks.toNat (ltF s l 0) v:=⟨_,rfl⟩
 have HPo : Hid (∀ g v w',KM w w' g ra rc (Tr.rnC l) s.rooms.length s.locks.toNat (ltF s l 0) v → POST (.returned (.pointer (some ⟨g,0,none⟩))) w'):=fun g v w' h => by rw [hP];exact ⟨g,v,rfl,h⟩
 rw [← hP]
 clear hP
 have hl1:=ho.l1
 have hr1:=ho.r1
 obtain ⟨K,hK⟩ : ∃ K : Nat,s.locks = (K : Int):=⟨s.locks.toNat,by omega⟩
 have hK6 : K ≤ 64:=by omega
 have hKt : s.locks.toNat = K:=by omega
 rw [hKt] at HPo
 rw [hK]
 clear hs ho hl1 hK hKt
 generalize hM : s.rooms.length = M at *
 generalize s.progs.length = N0
 generalize s.groups = x1
 generalize s.cells = x3
 generalize l.length = ll
 generalize hRR : Tr.rnC l = R at *
 clear hM hRR
 obtain ⟨i3,hi3,hz30,hz31,hz32⟩:=info_parts' intinfo
 obtain ⟨i4,hi4,hz40,hz41,hz42⟩:=info_parts' slicinfo
 have hA : Below w.heap.size w (w.alloc (.cells #[.slice pa N0 pc,.slice ra M rc,.int .i64 x1,.int .i64 (K : Int),.int .i64 x3,.slice la ll lc,.int .i64 (R : Int)] 57)):=(Below.refl _ _).alloc (Nat.le_refl _) _
 have N1 : Hid ((w.alloc (.cells #[.slice pa N0 pc,.slice ra M rc,.int .i64 x1,.int .i64 (K : Int),.int .i64 x3,.slice la ll lc,.int .i64 (R : Int)] 57)).heap[w.heap.size]? = some (.cells #[.slice pa N0 pc,.slice ra M rc,.int .i64 x1,.int .i64 (K : Int),.int .i64 x3,.slice la ll lc,.int .i64 (R : Int)] 57 (0,0))):=heap_alloc_new w _
 have NB:=ζ hA
 clear hA
 go_enter Try.func48,Try.ntmps48
 refine wp_seq_k fun K hK => ?_
 have HK:=ζ hK
 clear hK
 go_wp2
 refine HK.out _ _ ?_
 clear HK K
 generalize w.alloc _ = X at *
 obtain ⟨z0,z1,z2,z3,z4,z5,z6⟩:=cellsY7 N1.out
 obtain ⟨g,hg⟩ : ∃ g,g = w.heap.size:=⟨_,rfl⟩
 have HG:=ζ hg
 rw [← hg] at N1 z0 z1 z2 z3 z4 z5 z6 ⊢
 clear hg
 refine wp_seq_k fun K2 hK2 => ?_
 have HK2:=ζ hK2
 clear hK2
 go_wp2
 refine HK2.out _ _ ?_
 clear HK2 K2
 go_wp2
 refine wp_region_noPanic ?_
 refine RG.wp_region_L (fun Z => True) (fun Z => Z.heap[g]? = some (.cells #[.slice pa N0 pc,.slice ra M rc,.int .i64 x1,.int .i64 (K : Int),.int .i64 x3,.slice la ll lc,.int .i64 (R : Int)] 57 (0,0))) [] (by kernel_rfl) ?_
 refine RG.wpL_any fun Y hY => ?_
 have hH : Y.heap = X.heap:=by rw [hY];rfl
 have HT : Hid (Y.heap[g]? = some (.cells #[.slice pa N0 pc,.slice ra M rc,.int .i64 x1,.int .i64 (K : Int),.int .i64 x3,.slice la ll lc,.int .i64 (R : Int)] 57 (0,0))):=by rw [hH];exact N1.out
 have BY : Hid (Below w.heap.size w Y):=by rw [hY];exact below_drewN NB.out 1
 clear hY hH N1 NB
 refine RG.wpL_take (fuel:=10) (a':=?Aa) [0,1,2,4,5,7,9,12,14,15,16] (by kernel_rfl) (by kernel_rfl) (fun _ _ _ _ _ h => h) HT.out (fun _ => trivial) ?ra ?_
 case ra =>
  iterate 2
   refine RG.rW ?_ (fun Z hT => ?_) ?_
   rotate_left
   ·go_simp
    rfl
   simp only [Act.put,lA,lB,lC,lD,lE,lF]
  refine RG.rW (.slice ra M rc) (fun Z hT => ?_) ?_
  ·obtain ⟨z0,z1,z2,z3,z4,z5,z6⟩:=cellsY7 hT
   go_simp
  simp only [Act.put,lA,lB,lC,lD,lE,lF]
  refine RG.rW ?_ (fun Z hT => ?_) ?_
  rotate_left
  ·go_simp
   rfl
  simp only [Act.put,lA,lB,lC,lD,lE,lF]
  refine RG.rW (.int .i64 (R : Int)) (fun Z hT => ?_) ?_
  ·obtain ⟨z0,z1,z2,z3,z4,z5,z6⟩:=cellsY7 hT
   go_simp
  simp only [Act.put,lA,lB,lC,lD,lE,lF]
  iterate 5
   refine RG.rW ?_ (fun Z hT => ?_) ?_
   rotate_left
   ·go_simp
    rfl
   simp only [Act.put,lA,lB,lC,lD,lE,lF]
  refine RG.rW (.int .i64 (K : Int)) (fun Z hT => ?_) ?_
  ·obtain ⟨z0,z1,z2,z3,z4,z5,z6⟩:=cellsY7 hT
   go_simp
  simp only [Act.put,lA,lB,lC,lD,lE,lF]
  exact RG.RunsIf.nil
 have HA0 : ∀ i ∈ [3,6,8,10,11,13,17],(#[true,true,true,true,true,true,true,true,true,true,true,true,true,true,true,true,true,true,false,false,false] : Array Bool).getD i false = true:=by decide
 have HA:=ζ HA0
 clear HA0
 have hG1 : g + 1 ≤ Y.heap.size:=blk_lt HT.out
 refine RG.wpL_makersA [3,6,8,10,11,13,17] #[true,true,true,false,true,true,false,true,false,true,false,false,true,false,true,true,true,false,false,false,false] #[true,true,true,true,true,true,true,true,true,true,true,true,true,true,true,true,true,true,false,false,false] (fun l => (!l.getD 6 false || l.getD 3 false) && (!l.getD 13 false || (l.getD 11 false && l.getD 6 false))) (by decide) (frN (.agg #[.slice pa N0 pc,.slice ra M rc,.int .i64 x1,.int .i64 (K : Int),.int .i64 x3,.slice la ll lc,.int .i64 (R : Int)]) ra rc M R K g) (PrN (g + 1) R M K) Y 3 (by kernel_rfl) (fun Z hZ => blk_keep HT.out hZ) (fun Z hZ => trivial) (fun i v w w' h hb => h.below hb) (fun i v w h => h.lt) ?_ ?_ (n:=7) (V0:=fun _ => undef) (by kernel_rfl) (by decide)
 ·intro l' hl V W hw hp i hi hr KQ hKQ
  have hsz : l'.size = 21:=RG.states_size _ _ _ hl
  have hG2 : g + 1 ≤ W.heap.size:=Nat.le_trans hG1 hw.size
  simp only [List.mem_cons,List.not_mem_nil,or_false] at hi
  rcases hi with rfl | rfl | rfl | rfl | rfl | rfl | rfl
  ·refine RG.wpOp_of (by rfl) (by rfl) ?_
   unfold frN;have hbn:=(Below.refl W.heap.size W).alloc (Nat.le_refl _) (.cells #[.int .i64 (-1)] 3)
   have:=hKQ (.slice (some ⟨W.heap.size,0,none⟩) 1 1) (W.alloc (.cells #[.int .i64 (-1)] 3)) hbn ⟨fun _ => ⟨_,rfl,blk_cell (heap_alloc_new W _) (i:=0) rfl⟩,fun h => absurd h (by decide),fun h => absurd h (by decide),fun h => absurd h (by decide),fun h => absurd h (by decide),fun b hb => by simp [Value.ownBlock] at hb;subst hb;simp⟩ (fun b hb => by simp [Value.ownBlock] at hb;omega)
   clear hKQ hbn;go_simp;unfold frN at this;rw [RG.slo_self (by rw [hsz];decide),RG.slo_ne (by decide : (6 : Nat) ≠ 3),RG.slo_ne (by decide : (8 : Nat) ≠ 3),RG.slo_ne (by decide : (10 : Nat) ≠ 3),RG.slo_ne (by decide : (11 : Nat) ≠ 3),RG.slo_ne (by decide : (13 : Nat) ≠ 3),RG.slo_ne (by decide : (17 : Nat) ≠ 3)] at this
   exact this
  ·have hh:=RG.after_of (i:=6) (by rfl) hr
   have ed:=hh ⟨3,.data⟩ (by simp) (by rfl)
   clear hh;obtain ⟨b,vb,cb⟩:=(hp 3 (by simp) ed).a (by simp)
   refine RG.wpOp_of (by rfl) (by rfl) ?_
   unfold frN;rw [RG.slo_on ed,vb];go_simp;refine (prepeat R b (by omega) W cb).mono ?_
   rintro e w' ⟨⟨rfl,ho⟩,hb⟩
   have:=hKQ _ w' hb ⟨fun h => absurd h (by decide),fun _ => own_baseL ho hG2,fun h => absurd h (by decide),fun h => absurd h (by decide),fun h => absurd h (by decide),own_lt ho⟩ (fun b hb => own_blkI ho b hb)
   unfold frN at this;rw [RG.slo_self (by rw [hsz];decide),RG.slo_ne (by decide : (3 : Nat) ≠ 6),RG.slo_ne (by decide : (8 : Nat) ≠ 6),RG.slo_ne (by decide : (10 : Nat) ≠ 6),RG.slo_ne (by decide : (11 : Nat) ≠ 6),RG.slo_ne (by decide : (13 : Nat) ≠ 6),RG.slo_ne (by decide : (17 : Nat) ≠ 6),RG.slo_on ed,vb] at this
   exact this
  ·refine RG.wpOp_of (by rfl) (by rfl) ?_
   unfold frN;refine wp_make_full W (.tmp 15) (.tmp 15) 89 rfl W.heap.size 24 i4 (.slice none 0 0) 1 Try.underlying89 hi4 hz40 hz41 .i64 .i64 _ _ M rfl rfl rfl rfl (by rw [hz42];omega) (by unfold maxLen;omega) (Nat.le_refl _) (fun w' ho hgr => ?_)
   rw [made_rep _ rfl] at ho;have hb : Below W.heap.size W w':=(Below.refl _ _).grown hgr (Nat.le_refl _) (by intro k h;cases h)
   have:=hKQ _ w' hb ⟨fun h => absurd h (by decide),fun h => absurd h (by decide),fun h => absurd h (by decide),fun _ => own_baseL ho hG2,fun h => absurd h (by decide),own_lt ho⟩ (fun b hb => own_blkI ho b hb)
   unfold frN at this;rw [RG.slo_self (by rw [hsz];decide),RG.slo_ne (by decide : (3 : Nat) ≠ 8),RG.slo_ne (by decide : (6 : Nat) ≠ 8),RG.slo_ne (by decide : (10 : Nat) ≠ 8),RG.slo_ne (by decide : (11 : Nat) ≠ 8),RG.slo_ne (by decide : (13 : Nat) ≠ 8),RG.slo_ne (by decide : (17 : Nat) ≠ 8)] at this
   exact this
  ·refine RG.wpOp_of (by rfl) (by rfl) ?_
   unfold frN;refine wp_make_full W (.tmp 17) (.tmp 17) 89 rfl W.heap.size 24 i4 (.slice none 0 0) 1 Try.underlying89 hi4 hz40 hz41 .i64 .i64 _ _ M rfl rfl rfl rfl (by rw [hz42];omega) (by unfold maxLen;omega) (Nat.le_refl _) (fun w' ho hgr => ?_)
   rw [made_rep _ rfl] at ho;have hb : Below W.heap.size W w':=(Below.refl _ _).grown hgr (Nat.le_refl _) (by intro k h;cases h)
   have:=hKQ _ w' hb ⟨fun h => absurd h (by decide),fun h => absurd h (by decide),fun h => absurd h (by decide),fun _ => own_baseL ho hG2,fun h => absurd h (by decide),own_lt ho⟩ (fun b hb => own_blkI ho b hb)
   unfold frN at this;rw [RG.slo_self (by rw [hsz];decide),RG.slo_ne (by decide : (3 : Nat) ≠ 10),RG.slo_ne (by decide : (6 : Nat) ≠ 10),RG.slo_ne (by decide : (8 : Nat) ≠ 10),RG.slo_ne (by decide : (11 : Nat) ≠ 10),RG.slo_ne (by decide : (13 : Nat) ≠ 10),RG.slo_ne (by decide : (17 : Nat) ≠ 10)] at this
   exact this
  ·refine RG.wpOp_of (by rfl) (by rfl) ?_
   unfold frN;have hbn:=(Below.refl W.heap.size W).alloc (Nat.le_refl _) (.cells #[.int .i64 (-1)] 3)
   have:=hKQ (.slice (some ⟨W.heap.size,0,none⟩) 1 1) (W.alloc (.cells #[.int .i64 (-1)] 3)) hbn ⟨fun _ => ⟨_,rfl,blk_cell (heap_alloc_new W _) (i:=0) rfl⟩,fun h => absurd h (by decide),fun h => absurd h (by decide),fun h => absurd h (by decide),fun h => absurd h (by decide),fun b hb => by simp [Value.ownBlock] at hb;subst hb;simp⟩ (fun b hb => by simp [Value.ownBlock] at hb;omega)
   clear hKQ hbn;go_simp;unfold frN at this;rw [RG.slo_self (by rw [hsz];decide),RG.slo_ne (by decide : (3 : Nat) ≠ 11),RG.slo_ne (by decide : (6 : Nat) ≠ 11),RG.slo_ne (by decide : (8 : Nat) ≠ 11),RG.slo_ne (by decide : (10 : Nat) ≠ 11),RG.slo_ne (by decide : (13 : Nat) ≠ 11),RG.slo_ne (by decide : (17 : Nat) ≠ 11)] at this
   exact this
  ·have hh:=RG.after_of (i:=13) (by rfl) hr
   have ed:=hh ⟨11,.data⟩ (by simp) (by rfl)
   clear hh;obtain ⟨b,vb,cb⟩:=(hp 11 (by simp) ed).a (by simp)
   refine RG.wpOp_of (by rfl) (by rfl) ?_
   unfold frN;rw [RG.slo_on ed,vb];go_simp;refine (prepeat M b (by omega) W cb).mono ?_
   rintro e w' ⟨⟨rfl,ho⟩,hb⟩
   have:=hKQ _ w' hb ⟨fun h => absurd h (by decide),fun h => absurd h (by decide),fun _ => own_baseL ho hG2,fun h => absurd h (by decide),fun h => absurd h (by decide),own_lt ho⟩ (fun b hb => own_blkI ho b hb)
   unfold frN at this;rw [RG.slo_self (by rw [hsz];decide),RG.slo_ne (by decide : (3 : Nat) ≠ 13),RG.slo_ne (by decide : (6 : Nat) ≠ 13),RG.slo_ne (by decide : (8 : Nat) ≠ 13),RG.slo_ne (by decide : (10 : Nat) ≠ 13),RG.slo_ne (by decide : (11 : Nat) ≠ 13),RG.slo_ne (by decide : (17 : Nat) ≠ 13),RG.slo_on ed,vb] at this
   exact this
  ·refine RG.wpOp_of (by rfl) (by rfl) ?_
   unfold frN;refine wp_make_full W (.tmp 24) (.tmp 24) 89 rfl W.heap.size 24 i4 (.slice none 0 0) 1 Try.underlying89 hi4 hz40 hz41 .i64 .i64 _ _ K rfl rfl rfl rfl (by rw [hz42];omega) (by unfold maxLen;omega) (Nat.le_refl _) (fun w' ho hgr => ?_)
   rw [made_rep _ rfl] at ho;have hb : Below W.heap.size W w':=(Below.refl _ _).grown hgr (Nat.le_refl _) (by intro k h;cases h)
   have:=hKQ _ w' hb ⟨fun h => absurd h (by decide),fun h => absurd h (by decide),fun h => absurd h (by decide),fun h => absurd h (by decide),fun _ => own_baseL ho hG2,own_lt ho⟩ (fun b hb => own_blkI ho b hb)
   unfold frN at this;rw [RG.slo_self (by rw [hsz];decide),RG.slo_ne (by decide : (3 : Nat) ≠ 17),RG.slo_ne (by decide : (6 : Nat) ≠ 17),RG.slo_ne (by decide : (8 : Nat) ≠ 17),RG.slo_ne (by decide : (10 : Nat) ≠ 17),RG.slo_ne (by decide : (11 : Nat) ≠ 17),RG.slo_ne (by decide : (13 : Nat) ≠ 17)] at this
   exact this
 ·intro V W hw hp hd
  have p6:=(hp 6 (by simp) (by kernel_rfl)).la rfl
  have p13:=(hp 13 (by simp) (by kernel_rfl)).sh rfl
  have p8:=(hp 8 (by simp) (by kernel_rfl)).os (.inl rfl)
  have p10:=(hp 10 (by simp) (by kernel_rfl)).os (.inr rfl)
  have p17:=(hp 17 (by simp) (by kernel_rfl)).og rfl
  have hD : ∀ i ∈ [3,6,8,10,11,13,17],∀ j ∈ [3,6,8,10,11,13,17],i ≠ j → ∀ b,(V i).ownBlock = some b → (V j).ownBlock = some b → False:=fun i hi j hj hne b e1 e2 => hd i hi j hj (HA.out i hi) (HA.out j hj) hne b e1 e2
  have d1:=hD 6 (by simp) 8 (by simp) (by decide)
  have d2:=hD 6 (by simp) 10 (by simp) (by decide)
  have d3:=hD 6 (by simp) 13 (by simp) (by decide)
  have d4:=hD 6 (by simp) 17 (by simp) (by decide)
  have d5:=hD 8 (by simp) 10 (by simp) (by decide)
  have d6:=hD 8 (by simp) 13 (by simp) (by decide)
  have d7:=hD 8 (by simp) 17 (by simp) (by decide)
  have d8:=hD 10 (by simp) 13 (by simp) (by decide)
  have d9:=hD 10 (by simp) 17 (by simp) (by decide)
  have d10:=hD 13 (by simp) 17 (by simp) (by decide)
  clear hD hd;unfold frN;rw [RG.slo_on (i:=6) (by kernel_rfl),RG.slo_on (i:=8) (by kernel_rfl),RG.slo_on (i:=10) (by kernel_rfl),RG.slo_on (i:=13) (by kernel_rfl),RG.slo_on (i:=17) (by kernel_rfl)];generalize RG.slo _ V undef 3 = x3_
  generalize RG.slo _ V undef 11 = x11_
  generalize V 6 = e6 at *;generalize V 8 = e8 at *;generalize V 10 = e10 at *;generalize V 13 = e13 at *;generalize V 17 = e17 at *;obtain ⟨a6,c6,rfl⟩:=own_openE p6
  obtain ⟨a8,c8,rfl⟩:=own_openE p8
  obtain ⟨a10,c10,rfl⟩:=own_openE p10
  obtain ⟨a13,c13,rfl⟩:=own_openE p13
  obtain ⟨a17,c17,rfl⟩:=own_openE p17
  have HT2:=ζ (blk_keep HT.out hw)
  have B2 : Hid (Below w.heap.size w W):=BY.out.trans (hw.mono BY.out.size)
  have hbA : Below W.heap.size W (W.alloc (.cells #[.slice none 0 0,.slice ra M rc,.slice a6 R c6,.slice a8 M c8,.slice a10 M c10,.slice a13 M c13,.slice a17 K c17] 116)):=(Below.refl _ _).alloc (Nat.le_refl _) _
  have HKM : Hid (KM w (W.alloc (.cells #[.slice none 0 0,.slice ra M rc,.slice a6 R c6,.slice a8 M c8,.slice a10 M c10,.slice a13 M c13,.slice a17 K c17] 116)) W.heap.size ra rc R M K (ltF s l 0) (vN (.slice a6 R c6) (.slice a8 M c8) (.slice a10 M c10) (.slice a13 M c13) (.slice a17 K c17))):=by
   have hg1 : w.heap.size ≤ g + 1:=by rw [HG.out];omega
   refine ⟨B2.out.trans (hbA.mono B2.out.size),B2.out.size,heap_alloc_new W _,fun i => ?_,fun i j b hi hj => ?_⟩
   ·rcases i with ⟨_ | _,_ | _ | _⟩ | ⟨c,_ | _ | _⟩
    ·exact ⟨by simp [fm,ltF,Tr.edF,edC],.inl ⟨rfl,rfl⟩⟩
    ·have:=own_baseL (own_belowI p6 hbA) hg1;rw [rep_rwN R _ (fun r => .int .i64 ((ltF s l 0).la r)) (fun c => rfl)] at this;exact this
    ·have:=own_baseL (own_belowI p13 hbA) hg1;rw [rep_rwN M _ (fun r => .int .i64 ((ltF s l 0).sh r)) (fun c => rfl)] at this;exact this
    ·have:=own_baseL (own_belowI p8 hbA) hg1;rw [rep_rwN M _ (fun c => (.slice none 0 0 : Value)) (fun c => rfl)] at this;exact this
    ·have:=own_baseL (own_belowI p10 hbA) hg1;rw [rep_rwN M _ (fun c => (.slice none 0 0 : Value)) (fun c => rfl)] at this;exact this
    ·have:=own_baseL (own_belowI p17 hbA) hg1;rw [rep_rwN K _ (fun c => (.slice none 0 0 : Value)) (fun c => rfl)] at this;exact this
    ·exact ⟨by simp [fm,ltF,Tr.snI],.inl ⟨rfl,rfl⟩⟩
    ·exact ⟨by simp [fm,ltF,Tr.tkI],.inl ⟨rfl,rfl⟩⟩
    ·exact ⟨by simp [fm,ltF,Tr.frI],.inl ⟨rfl,rfl⟩⟩
   ·rw [fm_val] at hi hj
    rcases i with ⟨_ | _,_ | _ | _⟩ | ⟨c,_ | _ | _⟩ <;> first | (cases (show (none : Option Nat) = some b from hi)) | (rcases j with ⟨_ | _,_ | _ | _⟩ | ⟨c2,_ | _ | _⟩ <;> first | rfl | (cases (show (none : Option Nat) = some b from hj)) | exact (d1 b hi hj).elim | exact (d1 b hj hi).elim | exact (d2 b hi hj).elim | exact (d2 b hj hi).elim | exact (d3 b hi hj).elim | exact (d3 b hj hi).elim | exact (d4 b hi hj).elim | exact (d4 b hj hi).elim | exact (d5 b hi hj).elim | exact (d5 b hj hi).elim | exact (d6 b hi hj).elim | exact (d6 b hj hi).elim | exact (d7 b hi hj).elim | exact (d7 b hj hi).elim | exact (d8 b hi hj).elim | exact (d8 b hj hi).elim | exact (d9 b hi hj).elim | exact (d9 b hj hi).elim | exact (d10 b hi hj).elim | exact (d10 b hj hi).elim)
  have HRet:=ζ (HPo.out _ _ _ HKM.out)
  have HT3:=ζ (blk_keep HT2.out hbA)
  clear p6 p8 p10 p13 p17 hp hw HT BY d1 d2 d3 d4 d5 d6 d7 d8 d9 d10 HKM hbA HPo;refine RG.wpL_take (fuel:=2) (a':=?Ab) [18] (by kernel_rfl) (by kernel_rfl) (fun _ _ _ _ _ h => h) HT2.out (fun _ => trivial) ?rb ?_
  case rb =>
   refine RG.rW (.agg #[.slice none 0 0,.slice ra M rc,.slice a6 R c6,.slice a8 M c8,.slice a10 M c10,.slice a13 M c13,.slice a17 K c17]) (fun Z hT => ?_) ?_
   ·go_simp
   simp only [Act.put,lA,lB,lC,lD,lE,lF]
   exact RG.RunsIf.nil
  refine RG.wpL_step (i:=19) (by kernel_rfl) (by rfl) (by rfl) (fun KX hK => ?_)
  have HK:=ζ hK
  clear hK;go_simp;refine HK.out _ _ HT3.out (fun _ => trivial) ?_
  clear HK KX;try simp only [Act.put,lA,lB,lC,lD,lE,lF]
  refine RG.wpL_take (fuel:=0) (a':=?Ac) [20] (by kernel_rfl) (by kernel_rfl) (fun _ _ _ _ _ h => h) HT3.out (fun _ => trivial) ?rc ?_
  case rc =>
   refine RG.rW ?_ (fun Z hT => ?_) ?_
   rotate_left
   ·go_simp
    rfl
   simp only [Act.put,lA,lB,lC,lD,lE,lF]
   exact RG.RunsIf.nil
  refine RG.wpL_done (by kernel_rfl) ?_ _
  refine NoPanic.normal ?_
  go_wp2;first | exact HRet.out | exact ⟨rfl,HRet.out⟩ | (trace_state;sorry)
end LW
end Go.Proofs.Ytfbnakmmmphedaa

/-
  Pv1, Pv2 in one.
-/
import Derived.Test.YtfbnakmmmphedaaBsAo
import Derived.Test.YtfbnakmmmphedaaArgs13o
set_option linter.unusedVariables false
set_option linter.unusedSimpArgs false
set_option maxHeartbeats 4000000
namespace Go.Proofs.Ytfbnakmmmphedaa
open Go.RowKit
namespace LW
open Words
def ou (n a b : Int) : Bool:=decide (n < a) || decide (b < n)
theorem outside15 (n a b : Int) (w : World) : Calls Try.prog 9 #[.int .i64 n,.int .i64 a,.int .i64 b] w fun e w' => e = .returned (.bool (ou n a b)) ∧ w' = w:=by
 unfold ou
 by_cases h1 : n < a
 ·go_enter Try.func9,Try.ntmps9
  go_wp2;go_ret;exact ⟨by simp [h1],rfl⟩
 ·go_enter Try.func9,Try.ntmps9
  go_wp2;go_ret;exact ⟨by simp;omega,rfl⟩
def vp (a q : Int) : Int:=if ou a 1 256 || ou q 1 1024 then 150 else 0
theorem cells2 {w : World} {b : Nat} {t : TypeId} {v0 v1 : Value} (h : w.heap[b]? = some (.cells #[v0,v1] t (0,0))) :
  w.cell? ⟨b,0,none⟩ = some v0 ∧ w.cell? ⟨b,1,none⟩ = some v1:=by
 simp [World.cell?,h]
theorem pvalid15 (a q : Int) (w : World) : Calls Try.prog 5 #[.agg #[.int .i64 a,.int .i64 q]] w fun e w' => e = .returned (.int .i64 (vp a q)) ∧ Below w.heap.size w w':=by
 unfold vp
 have H1:=ζ (fun W => outside15 a 1 256 W)
 have H2:=ζ (fun W => outside15 q 1 1024 W)
 generalize ou a 1 256 = q1 at *
 generalize ou q 1 1024 = q2 at *
 have n0:=heap_alloc_new w (.cells #[.int .i64 a,.int .i64 q] 23)
 have hb:=(Below.refl w.heap.size w).alloc (Nat.le_refl _) (.cells #[.int .i64 a,.int .i64 q] 23)
 have HB:=ζ hb
 obtain ⟨c0,c1⟩:=cells2 n0
 clear n0 hb
 go_enter Try.func5,Try.ntmps5
 go_wp2_with fail
 refine (H1.out _).mono ?_
 rintro e1 w1 ⟨rfl,rfl⟩
 cases q1 with
 | true =>
  go_wp2;go_ret;exact ⟨rfl,HB.out⟩
 | false =>
  go_wp2_with fail
  refine (H2.out _).mono ?_
  rintro e1 w1 ⟨rfl,rfl⟩
  cases q2 with
  | true =>
   go_wp2;go_ret;exact ⟨rfl,HB.out⟩
  | false =>
   go_wp2;go_ret;exact ⟨rfl,HB.out⟩
theorem rvalid15 (a q : Int) (w : World) : Calls Try.prog 4 #[.agg #[.int .i64 a,.int .i64 q]] w fun e w' => e = .returned (.int .i64 (vp a q)) ∧ Below w.heap.size w w':=by
 unfold vp ou
 have n0:=heap_alloc_new w (.cells #[.int .i64 a,.int .i64 q] 23)
 have hb:=(Below.refl w.heap.size w).alloc (Nat.le_refl _) (.cells #[.int .i64 a,.int .i64 q] 23)
 have HB:=ζ hb
 obtain ⟨c0,c1⟩:=cells2 n0
 clear n0 hb
 generalize g1 : decide (a < 1) = b1
 generalize g2 : decide (256 < a) = b2
 generalize g3 : decide (q < 1) = b3
 generalize g4 : decide (1024 < q) = b4
 cases b1 <;> cases b2 <;> cases b3 <;> cases b4
 all_goals
  go_enter Try.func4,Try.ntmps4
  go_wp2;first
   | (go_ret;exact ⟨rfl,HB.out⟩)
   | trace_state
  done
def bu (a q : Int) : Int:=if a + q < 64 then a + q else 64
theorem vp0 {a q : Int} (h : vp a q = 0) : 1 ≤ a ∧ a ≤ 256 ∧ 1 ≤ q ∧ q ≤ 1024:=by
 unfold vp ou at h
 split at h
 ·simp at h
 ·rename_i h'
  simp at h'
  omega
theorem vp150 {a q : Int} (h : vp a q ≠ 0) : vp a q = 150:=by
 unfold vp at *
 split at h <;> simp_all
theorem pbuffers (a q : Int) (w : World) (h0 : vp a q = 0) : Calls Try.prog 18 #[.agg #[.int .i64 a,.int .i64 q]] w fun e w' => e = .returned (.int .i64 (bu a q)) ∧ Below w.heap.size w w':=by
 obtain ⟨h1,h2,h3,h4⟩:=vp0 h0
 clear h0
 have e1 : IntKind.i64.wrap (q + a) = q + a:=by rw [IntKind.wrap_i64];omega
 have n0:=heap_alloc_new w (.cells #[.int .i64 a,.int .i64 q] 23)
 have hb:=(Below.refl w.heap.size w).alloc (Nat.le_refl _) (.cells #[.int .i64 a,.int .i64 q] 23)
 have HB:=ζ hb
 obtain ⟨c0,c1⟩:=cells2 n0
 clear n0 hb
 generalize hB : bu a q = B
 go_enter Try.func18,Try.ntmps18
 go_wp2
 all_goals
  go_ret;exact ⟨TW.ret_int (by subst hB;unfold bu;split <;> omega),HB.out⟩
def ft (n a q : Int) : Int:=if vp a q ≠ 0 then 150 else if ou n 0 1024 then 1 else 0
theorem pfits15 (n a q : Int) (w : World) : Calls Try.prog 10 #[.int .i64 n,.agg #[.int .i64 a,.int .i64 q]] w fun e w' => e = .returned (.int .i64 (ft n a q)) ∧ Below w.heap.size w w':=by
 have n0:=heap_alloc_new w (.cells #[.int .i64 a,.int .i64 q] 23)
 have hb:=(Below.refl w.heap.size w).alloc (Nat.le_refl _) (.cells #[.int .i64 a,.int .i64 q] 23)
 obtain ⟨c0,c1⟩:=cells2 n0
 unfold ft
 have HV:=ζ (fun W => pvalid15 a q W)
 have HO:=ζ (fun W => outside15 n 0 1024 W)
 have HI:=ζ (@vp150 a q)
 have HB:=ζ hb
 generalize vp a q = v at *
 generalize ou n 0 1024 = o at *
 clear n0 hb
 go_enter Try.func10,Try.ntmps10
 go_wp2_with fail
 refine (HV.out _).mono ?_
 rintro e1 w1 ⟨rfl,hb1⟩
 have HX:=ζ (HB.out.trans (hb1.mono (by simp)))
 clear HB hb1
 by_cases h : v = 0
 ·subst h
  go_wp2_with fail
  refine (HO.out _).mono ?_
  rintro e2 w2 ⟨rfl,rfl⟩
  cases o
  ·go_wp2
   go_ret;exact ⟨by simp,HX.out⟩
  ·go_wp2
   go_ret;exact ⟨by simp,HX.out⟩
 ·have:=HI.out h
  subst this;go_wp2;go_ret;exact ⟨by simp,HX.out⟩
def bd (n a q : Int) : Int:=if ft n a q = 0 then 23 + 8 * a + 4 * bu a q + 15 * n else 0
theorem ft0 {n a q : Int} (h : ft n a q = 0) : vp a q = 0 ∧ 0 ≤ n ∧ n ≤ 1024:=by
 unfold ft at h
 split at h
 ·simp at h
 ·rename_i h1
  split at h
  ·simp at h
  ·rename_i h2
   simp at h1
   unfold ou at h2;simp at h2
   exact ⟨h1,by omega,by omega⟩
theorem bu_le {a q : Int} (h : vp a q = 0) : 2 ≤ bu a q ∧ bu a q ≤ 64:=by
 have:=vp0 h
 unfold bu
 split <;> omega
end LW
end Go.Proofs.Ytfbnakmmmphedaa
namespace Go.Proofs.Ytfbnakmmmphedaa
open Go.RowKit
namespace LW
open Mc
def cmL (a : Int) : List Ins:=[⟨1,0,0,0⟩,⟨1,1,a,0⟩,⟨1,2,1,0⟩,⟨3,0,1,5⟩,⟨4,0,0,9⟩,⟨10,0,1,0⟩,⟨14,1,0,0⟩,⟨2,0,2,0⟩,⟨4,0,0,3⟩,⟨14,2,0,0⟩,⟨14,3,0,0⟩,⟨6,1,3,14⟩,⟨15,1,3,0⟩,⟨4,0,0,11⟩,⟨16,0,0,0⟩]
def wkL : List Ins:=[⟨6,0,3,6⟩,⟨12,3,4,0⟩,⟨15,0,4,0⟩,⟨5,2,3,0⟩,⟨5,1,4,0⟩,⟨4,0,0,0⟩,⟨10,0,-1,0⟩,⟨16,0,0,0⟩]
def fdL (b n : Int) : List Ins:=[⟨1,0,0,0⟩,⟨1,1,b,0⟩,⟨1,2,1,0⟩,⟨3,0,1,5⟩,⟨4,0,0,8⟩,⟨5,2,0,0⟩,⟨2,0,2,0⟩,⟨4,0,0,3⟩,⟨1,0,0,0⟩,⟨1,1,n,0⟩,⟨3,0,1,12⟩,⟨4,0,0,17⟩,⟨6,2,3,17⟩,⟨13,3,0,0⟩,⟨5,0,3,0⟩,⟨2,0,2,0⟩,⟨4,0,0,10⟩,⟨7,0,0,0⟩,⟨16,0,0,0⟩]
def clL15 : List Ins:=[⟨11,0,0,0⟩,⟨7,1,0,0⟩,⟨16,0,0,0⟩]
def insC (i : Ins) : List Value:=[.int .i64 i.op,.int .i64 i.a,.int .i64 i.b,.int .i64 i.c]
theorem flat4 : ∀ (l : List Ins) (j r : Nat),j < l.length → r < 4 → (l.flatMap insC)[j * 4 + r]? = (insC (l.getD j i0))[r]?:=by
 intro l
 induction l with
 | nil => intro j r h;simp at h
 | cons x l ih =>
  intro j r h hr
  rw [List.flatMap_cons];have h4 : (insC x).length = 4:=rfl
  cases j with
  | zero => rw [List.getElem?_append_left (by omega)];simp
  | succ j =>
   rw [List.getElem?_append_right (by omega),h4,show (j + 1) * 4 + r - 4 = j * 4 + r by omega,ih j r (by simpa using h) hr]
   simp
theorem IR_block {w : World} {b : Nat} {t : TypeId} {l : List Ins} (h : w.heap[b]? = some (.cells (l.flatMap insC).toArray t (0,0))) : IR w (some ⟨b,0,none⟩) l:=by
 refine .inr ⟨b,0,rfl,fun j hj => ?_⟩
 have e : ∀ r,r < 4 → w.cell? ⟨b,0 + j * 4 + r,none⟩ = (insC (l.getD j i0))[r]?:=by
  intro r hr
  rw [← flat4 l j r hj hr];simp [World.cell?,h]
 exact ⟨e 0 (by omega),e 1 (by omega),e 2 (by omega),e 3 (by omega)⟩
def Aw (B : Nat) (A : Option Addr) : Prop:=∀ b off s,A = some ⟨b,off,s⟩ → B ≤ b
theorem Aw.low {B C : Nat} {A : Option Addr} (h : Aw B A) (hc : C ≤ B) : Aw C A:=fun b off s e => Nat.le_trans hc (h b off s e)
theorem Aw.new (B : Nat) : Aw B (some ⟨B,0,none⟩):=fun b off s e => by cases e;exact Nat.le_refl _
theorem IR.row {w : World} {G g : Nat} {A : Option Addr} {l : List Ins} {cs : Array Value} (h : IR w A l) (ha : Aw G A) (hg : g < G) : IR (w.setRow g cs) A l:=by
 rcases h with h | ⟨b,off,rfl,hc⟩
 ·exact .inl h
 ·have hb : b ≠ g:=by have:=ha b off none rfl;omega
  refine .inr ⟨b,off,rfl,fun j hj => ?_⟩
  have e : ∀ o,(w.setRow g cs).cell? ⟨b,o,none⟩ = w.cell? ⟨b,o,none⟩:=fun o => by simp only [World.cell?];rw [setRow_other _ _ _ _ hb]
  simp only [e]
  exact hc j hj
theorem NR.row {w : World} {G g : Nat} {A : Option Addr} {l : List Int} {cs : Array Value} (h : NR w A l) (ha : Aw G A) (hg : g < G) : NR (w.setRow g cs) A l:=by
 rcases h with h | ⟨b,off,rfl,hc⟩
 ·exact .inl h
 ·have hb : b ≠ g:=by have:=ha b off none rfl;omega
  refine .inr ⟨b,off,rfl,fun j hj => ?_⟩
  have e : ∀ o,(w.setRow g cs).cell? ⟨b,o,none⟩ = w.cell? ⟨b,o,none⟩:=fun o => by simp only [World.cell?];rw [setRow_other _ _ _ _ hb]
  simp only [e]
  exact hc j hj
def PG (G : Nat) (w : World) (A : Option Addr) (ps : List (List Ins)) : Prop:=∃ b,A = some ⟨b,0,none⟩ ∧ G ≤ b ∧ ∀ p,p < ps.length → ∃ A' K,w.cell? ⟨b,0 + p,none⟩ = some (.slice A' (ps.getD p []).length K) ∧ IR w A' (ps.getD p []) ∧ Aw G A'
theorem PG.below {G : Nat} {w w' : World} {A : Option Addr} {ps : List (List Ins)} (h : PG G w A ps) (hb : Below w.heap.size w w') : PG G w' A ps:=by
 obtain ⟨b,rfl,hg,hc⟩:=h
 refine ⟨b,rfl,hg,fun p hp => ?_⟩
 obtain ⟨A',K,h1,h2,h3⟩:=hc p hp
 exact ⟨A',K,by rw [← h1];exact hb.cell (lt_of_cell h1),h2.below hb,h3⟩
theorem PG.low {G H : Nat} {w : World} {A : Option Addr} {ps : List (List Ins)} (h : PG G w A ps) (hH : H ≤ G) : PG H w A ps:=by
 obtain ⟨b,rfl,hG,hc⟩:=h
 refine ⟨b,rfl,by omega,fun p hp => ?_⟩
 obtain ⟨A',K,h1,h2,h3⟩:=hc p hp
 exact ⟨A',K,h1,h2,h3.low hH⟩
theorem PG.set {G g : Nat} {w : World} {A : Option Addr} {ps : List (List Ins)} {cs : Array Value} (h : PG G w A ps) (hg : g < G) : PG G (w.setRow g cs) A ps:=by
 obtain ⟨b,rfl,hG,hc⟩:=h
 have hb : b ≠ g:=by omega
 refine ⟨b,rfl,hG,fun p hp => ?_⟩
 obtain ⟨A',K,h1,h2,h3⟩:=hc p hp
 refine ⟨A',K,?_,h2.row h3 hg,h3⟩
 rw [← h1]
 simp only [World.cell?]
 rw [setRow_other _ _ _ _ hb]
theorem PG.pr {G g : Nat} {w : World} {A : Option Addr} {ps : List (List Ins)} {cs : Array Value} (h : PG G w A ps) (hg : g < G) : PR (w.setRow g cs) A ps:=by
 obtain ⟨b,rfl,hG,hc⟩:=h
 have hb : b ≠ g:=by omega
 refine .inr ⟨b,0,rfl,fun p hp => ?_⟩
 obtain ⟨A',K,h1,h2,h3⟩:=hc p hp
 refine ⟨A',K,?_,h2.row h3 hg⟩
 rw [← h1]
 simp only [World.cell?]
 rw [setRow_other _ _ _ _ hb]
theorem pcloser (w : World) : Calls Try.prog 22 #[] w fun e w' => (∃ A,e = .returned (.slice A 3 3) ∧ IR w' A clL15 ∧ Aw w.heap.size A) ∧ Below w.heap.size w w':=by
 go_enter Try.func22,Try.ntmps22
 go_wp2
 go_ret
 exact ⟨⟨_,rfl,IR_block (heap_alloc_new w _),Aw.new _⟩,(Below.refl w.heap.size w).alloc (Nat.le_refl _) _⟩
theorem pcombiner (a : Int) (w : World) : Calls Try.prog 19 #[.int .i64 a] w fun e w' => (∃ A,e = .returned (.slice A 15 15) ∧ IR w' A (cmL a) ∧ Aw w.heap.size A) ∧ Below w.heap.size w w':=by
 go_enter Try.func19,Try.ntmps19
 go_wp2
 go_ret
 exact ⟨⟨_,rfl,IR_block (heap_alloc_new w _),Aw.new _⟩,(Below.refl w.heap.size w).alloc (Nat.le_refl _) _⟩
theorem pworker (w : World) : Calls Try.prog 20 #[] w fun e w' => (∃ A,e = .returned (.slice A 8 8) ∧ IR w' A wkL ∧ Aw w.heap.size A) ∧ Below w.heap.size w w':=by
 go_enter Try.func20,Try.ntmps20
 go_wp2
 go_ret
 exact ⟨⟨_,rfl,IR_block (heap_alloc_new w _),Aw.new _⟩,(Below.refl w.heap.size w).alloc (Nat.le_refl _) _⟩
theorem pfeeder (b n : Int) (w : World) : Calls Try.prog 21 #[.int .i64 b,.int .i64 n] w fun e w' => (∃ A,e = .returned (.slice A 19 19) ∧ IR w' A (fdL b n) ∧ Aw w.heap.size A) ∧ Below w.heap.size w w':=by
 go_enter Try.func21,Try.ntmps21
 go_wp2
 go_ret
 exact ⟨⟨_,rfl,IR_block (heap_alloc_new w _),Aw.new _⟩,(Below.refl w.heap.size w).alloc (Nat.le_refl _) _⟩
end LW
end Go.Proofs.Ytfbnakmmmphedaa

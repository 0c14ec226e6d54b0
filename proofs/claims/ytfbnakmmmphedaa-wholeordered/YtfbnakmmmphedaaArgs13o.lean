/-
 How a system and lists of numbers among a law's arguments are opened.
-/
import Derived.Test.YtfbnakmmmphedaaRows
import Derived.Test.YtfbnakmmmphedaaSyAo
import Derived.Deep.Slices
import Derived.SizedLaws
import Derived.ProofKit
import Derived.OpenShut
import Derived.ChangeOld
set_option linter.unusedVariables false
set_option linter.unusedSimpArgs false
namespace Go.Proofs.Ytfbnakmmmphedaa
open Go.ChangeShapes Go.WideShapes Go.ChangeAt Go.RowKit Go.Deep
namespace LW
open Mc
theorem spot_none {w : World} {a : Addr} {v : Value} (h : w.cell? (a.add 0) = some v) : ∃ b off,a = ⟨b,off,none⟩:=by
 obtain ⟨b,off,spot⟩:=a
 have : spot = none:=by simpa [Addr.add] using World.cell?_spot h
 subst this
 exact ⟨b,off,rfl⟩
theorem add_none (b off r : Nat) : (⟨b,off,none⟩ : Addr).add r = ⟨b,off + r,none⟩:=by
 unfold Addr.add;split <;> simp_all
theorem getD_range {α : Type} (f : Nat → α) (n j : Nat) (d : α) (h : j < n) : ((List.range n).map f).getD j d = f j:=by
 rw [List.getD_eq_getElem?_getD,List.getElem?_map,List.getElem?_range h]
 rfl
theorem getD_range' {α : Type} (f : Nat → α) (n j : Nat) (d : α) (h : ¬ j < n) : ((List.range n).map f).getD j d = d:=by
 rw [List.getD_eq_getElem?_getD,List.getElem?_map,List.getElem?_eq_none (by simpa using h)]
 rfl
theorem cellsI1 : Try.prog.cellsOf 3 = 1:=by kernel_rfl
theorem bytesI8 : Try.prog.bytesOf 3 = 8:=by kernel_rfl
theorem open_nums {H : Type} {enc : TypeId × Value → H} {W : World} {v : Value} {n : Nat} {y : DataW H × List MemPlace}
  (h : DataW.trod enc Try.prog W 0 (fun _ => true) true n 24 [v] = some y) :
  ∃ (a : Option Addr) (c : Nat) (xs : List Int),v = .slice a xs.length c ∧ NR W a xs ∧ (∀ j,i64 (xs.getD j 0)) ∧ xs.length ≤ c ∧ c ≤ maxLen ∧ (a = none → c = 0) ∧ ((y.1 = .nil ∧ xs.length = 0) ∨ ∃ el sp,y.1 = .slice el sp ∧ el.length = xs.length):=by
 rcases open_slice1 Try.underlying24 cellsI1 h with ⟨hcs,hx⟩ | ⟨a,len,cap,m,n',V,D,Pl,hcs,_,hl,hm,hmm,hx,hall⟩
 ·simp at hcs
  exact ⟨none,0,[],hcs,.inl rfl,fun j => by simpa using i64_0,Nat.le_refl _,Nat.zero_le _,fun _ => rfl,.inl ⟨by rw [hx],rfl⟩⟩
 ·simp at hcs hmm
  have hmm':=hmm.symm
  subst hmm'
  obtain ⟨Z,hZ⟩:=choose_lt (α:=Int) (p:=fun i z => V i = .int .i64 z ∧ i64 z) (fun i hi => by
   obtain ⟨_,h2⟩:=hall i hi
   obtain ⟨z,e,_,hw⟩:=DataW.trod_int Try.underlying3 h2
   simp at e
   exact ⟨z,e,(bounds_i64 hw).1,(bounds_i64 hw).2⟩)
  refine ⟨some a,cap,(List.range len).map Z,by simpa using hcs,?_,fun j => ?_,by simpa using hl,hm,(fun h => by cases h),.inr ⟨_,_,by rw [hx],by simp⟩⟩
  ·rcases Nat.eq_zero_or_pos len with h0 | h0
   ·left;subst h0;rfl
   ·right
    obtain ⟨b,off,rfl⟩:=spot_none (hall 0 (by omega)).1
    refine ⟨b,off,rfl,fun j hj => ?_⟩
    have hj' : j < len:=by simpa using hj
    have h1:=(hall j (by omega)).1
    rw [add_none,(hZ j (by omega)).1] at h1
    rw [getD_range Z len j 0 hj'];exact h1
  ·by_cases hj : j < len
   ·rw [getD_range Z len j 0 hj];exact (hZ j (by omega)).2
   ·rw [getD_range' Z len j 0 hj];exact i64_0
def iIns (i : Ins) : Prop:=i64 i.op ∧ i64 i.a ∧ i64 i.b ∧ i64 i.c
theorem iIns_0 : iIns i0:=⟨i64_0,i64_0,i64_0,i64_0⟩
structure SyI (W : World) (s : Syst) (pa ra : Option Addr) : Prop where
 sm : SM W s pa ra
 pn : s.progs.length ≤ 9223372036854775807
 rn : s.rooms.length ≤ 9223372036854775807
 pl : ∀ p,(s.progs.getD p []).length ≤ 9223372036854775807
 ni : ∀ p j,iIns ((s.progs.getD p []).getD j i0)
theorem SyI.nm {w : World} {s : Syst} {pa ra : Option Addr} (h : SyI w s pa ra) : Nm s:=fun p j => (h.ni p j).2.2.1
theorem SyI.below {w w' : World} {s : Syst} {pa ra : Option Addr} (h : SyI w s pa ra) (hb : Below w.heap.size w w') : SyI w' s pa ra:=⟨h.sm.below hb,h.pn,h.rn,h.pl,h.ni⟩
structure PkI (W : World) (a : Option Addr) (c : Nat) (xs : List Int) : Prop where
 nr : NR W a xs
 i6 : ∀ j,i64 (xs.getD j 0)
 lc : xs.length ≤ c
 nn : a = none → c = 0
 ln : xs.length ≤ 17592186043904
theorem PkI.below {w w' : World} {a : Option Addr} {c : Nat} {xs : List Int} (h : PkI w a c xs) (hb : Below w.heap.size w w') : PkI w' a c xs:=⟨h.nr.below hb,h.i6,h.lc,h.nn,h.ln⟩
set_option maxRecDepth 100000 in
theorem open_picks {H : Type} {enc : TypeId × Value → H} {W : World} {r : Reach} {b0 : Nat} {v : Value} {d : DataW H} {p : List MemPlace}
  (hv : Value.okWide Try.prog W r b0 24 v) (h : DataW.Trod enc Try.prog W 0 (fun _ => true) true 24 v d p) :
  ∃ (a : Option Addr) (c : Nat) (xs : List Int),v = .slice a xs.length c ∧ NR W a xs ∧ (∀ j,i64 (xs.getD j 0)) ∧ xs.length ≤ c ∧ c ≤ 9223372036854775807 ∧ (a = none → c = 0) ∧ ((d = .nil ∧ xs.length = 0) ∨ ∃ el sp,d = .slice el sp ∧ el.length = xs.length):=by
 obtain ⟨a,len,cap,rfl⟩:=okWide_slice Try.underlying24 hv
 obtain ⟨fuel,hf⟩:=h
 obtain ⟨a',c,xs,e,h1,h2,h3,h4,h6,h5⟩:=open_nums (v:=.slice a len cap) (by simpa [Value.cells] using hf)
 exact ⟨a',c,xs,e,h1,h2,h3,by simpa [maxLen] using h4,h6,h5⟩
end LW
end Go.Proofs.Ytfbnakmmmphedaa

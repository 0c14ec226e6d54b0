/-
  Words, Base, Table, Small, Check, Plain in one.
-/
import Derived.Laws.BitsAllLaws
import Derived.Laws.Entries
import Derived.Test.YtfbnakmmmphedaaChecked
import Derived.WalkKit
import Derived.WalkLawsBesides
import Derived.BigQuiet
import Derived.Deep.QuietTactic
import Derived.Laws.Tables
import Derived.Laws.ShiftsVarLaws
import Derived.Deep.RegionHeld3
set_option linter.unusedVariables false
set_option linter.unusedSimpArgs false
namespace Go.Proofs.Ytfbnakmmmphedaa.Words
open Go
def Byt (l : List Int) : Prop:=∀ z ∈ l,0 ≤ z ∧ z < 256
def le : List Int → Int
 | [] => 0
 | z :: l => z + 256 * le l
def un (w : Int) : Nat → List Int
 | 0 => []
 | n + 1 => w % 256 :: un (w / 256) n
theorem Byt.nil : Byt []:=fun _ h => by cases h
theorem Byt.cons {z : Int} {l : List Int} (h : Byt (z :: l)) : (0 ≤ z ∧ z < 256) ∧ Byt l:=⟨h z (by simp),fun x hx => h x (by simp [hx])⟩
theorem Byt.mk {z : Int} {l : List Int} (h0 : 0 ≤ z) (h1 : z < 256) (h : Byt l) : Byt (z :: l):=fun x hx => by
 rcases List.mem_cons.1 hx with rfl | hx
 ·exact ⟨h0,h1⟩
 ·exact h x hx
theorem Byt.take {l : List Int} (h : Byt l) (n : Nat) : Byt (l.take n):=fun x hx => h x (List.mem_of_mem_take hx)
theorem Byt.drop {l : List Int} (h : Byt l) (n : Nat) : Byt (l.drop n):=fun x hx => h x (List.mem_of_mem_drop hx)
theorem Byt.append {l m : List Int} (h : Byt l) (h' : Byt m) : Byt (l ++ m):=fun x hx => by
 rcases List.mem_append.1 hx with hx | hx
 ·exact h x hx
 ·exact h' x hx
theorem Byt.get {l : List Int} (h : Byt l) (i : Nat) : 0 ≤ l.getD i 0 ∧ l.getD i 0 < 256:=by
 rw [List.getD_eq_getElem?_getD]
 by_cases hi : i < l.length
 ·rw [List.getElem?_eq_getElem hi];exact h _ (List.getElem_mem hi)
 ·rw [List.getElem?_eq_none (by omega)];simp
theorem Byt.un (w : Int) (n : Nat) : Byt (un w n):=by
 induction n generalizing w with
 | zero => exact Byt.nil
 | succ n ih => exact Byt.mk (by omega) (by omega) (ih _)
end Go.Proofs.Ytfbnakmmmphedaa.Words
namespace Go.Proofs.Ytfbnakmmmphedaa
open Go.RowKit
namespace TW
theorem hide {p : Prop} (h : p) : Hid p:=h
theorem ret_int {k : IntKind} {a b : Int} (h : a = b) : Ending.returned (.int k a) = .returned (.int k b):=by rw [h]
end TW
theorem ζ {p : Prop} (h : p) : Hid p:=h
theorem lA {α : Type} {l : List α} {i : Nat} {a : α} : l.toArray.setIfInBounds i a = (l.set i a).toArray:=List.setIfInBounds_toArray ..
theorem lB {α : Type} {x : α} {l : List α} {b : α} : (x :: l).set 0 b = b :: l:=rfl
theorem lD {α : Type} {l : List α} {i : Nat} (h : i < l.toArray.size) : l.toArray[i] = l[i]'(by simpa using h):=rfl
theorem lE {α : Type} {x : α} {l : List α} (h : 0 < (x :: l).length) : (x :: l)[0] = x:=rfl
theorem lF {α : Type} {x : α} {l : List α} {i : Nat} (h : i + 1 < (x :: l).length) : (x :: l)[i + 1] = l[i]'(Nat.lt_of_succ_lt_succ h):=rfl
theorem lC {α : Type} {x : α} {l : List α} {n : Nat} {b : α} : (x :: l).set (n + 1) b = x :: l.set n b:=rfl
namespace LW
open Words
def Row (w : World) (a : Option Addr) (zs : List Int) : Prop :=
 zs = [] ∨ ∃ b off,a = some ⟨b,off,none⟩ ∧ ∀ i,i < zs.length → w.cell? ⟨b,off + i,none⟩ = some (.int .u8 (zs.getD i 0))
theorem ret_two {k l : IntKind} {a b c d : Int} (h : a = b) (h' : c = d) : Ending.returned (.tuple #[.int k a,.int l c]) = .returned (.tuple #[.int k b,.int l d]):=by rw [h,h']
theorem take_snoc (l : List Int) (k : Nat) (h : k < l.length) : l.take (k + 1) = l.take k ++ [l.getD k 0]:=by
 rw [List.take_succ_eq_append_getElem h,List.getD_eq_getElem?_getD,List.getElem?_eq_getElem h];rfl
theorem below_drewN {w w' : World} {B : Nat} (h : Below B w w') (n : Nat) : Below B w (w'.drewN n):=h.trans ⟨rfl,rfl,rfl,Nat.le_refl _,fun _ _ => rfl⟩
def vs (zs : List Int) : List Value:=zs.map (Value.int .u8)
theorem lt_of_cell {w : World} {b o : Nat} {v : Value} (h : w.cell? ⟨b,o,none⟩ = some v) : b < w.heap.size:=by
 rcases Nat.lt_or_ge b w.heap.size with h' | h'
 ·exact h'
 ·exfalso
  simp [World.cell?,Array.getElem?_eq_none h'] at h
theorem Row.below {w w' : World} {a : Option Addr} {zs : List Int} (h : Row w a zs) (hb : Below w.heap.size w w') : Row w' a zs:=by
 rcases h with h | ⟨b,off,rfl,hc⟩
 ·exact .inl h
 ·refine .inr ⟨b,off,rfl,fun i hi => ?_⟩
  rw [hb.cell (lt_of_cell (hc i hi))];exact hc i hi
theorem Row.drewN {w : World} {a : Option Addr} {zs : List Int} (h : Row w a zs) (q : Nat) : Row (w.drewN q) a zs:=h
end LW
end Go.Proofs.Ytfbnakmmmphedaa
namespace Go.Proofs.Ytfbnakmmmphedaa
open Go.RowKit
namespace LW
open Words
theorem below_setRow {B g : Nat} {w w' : World} {cs : Array Value} (h : Below B w w') (hg : B ≤ g) : Below B w (w'.setRow g cs) :=
 h.trans ⟨rfl,rfl,rfl,by simp,fun k hk => setRow_other _ _ _ _ (by omega)⟩
end LW
end Go.Proofs.Ytfbnakmmmphedaa
namespace Go.Proofs.Ytfbnakmmmphedaa
open Go.RowKit
namespace LW
open Words
theorem blk_set {w : World} {g : Nat} {cs : Array Value} {t : TypeId} {fr : Nat × Nat} {i : Nat} {u : Value} (h : w.heap[g]? = some (.cells cs t fr)) : (w.setCell ⟨g,i,none⟩ u).heap[g]? = some (.cells (cs.setIfInBounds i u) t fr):=by
 rw [setCell_eq_setRow w g i cs t fr u h];exact setRow_heap _ _ _ _ _ _ h
theorem blk_alloc {w : World} {g : Nat} {o o' : Obj} (h : w.heap[g]? = some o) : (w.alloc o').heap[g]? = some o:=by
 have hlt : g < w.heap.size:=(Array.getElem?_eq_some_iff.1 h).1
 rw [Below.heap_alloc _ _ _ hlt];exact h
end LW
end Go.Proofs.Ytfbnakmmmphedaa
namespace Go.Proofs.Ytfbnakmmmphedaa
open Go.RowKit
namespace LW
open Words
theorem blk_keep {w w' : World} {b : Nat} {o : Obj} (h : w.heap[b]? = some o) (hb : Below w.heap.size w w') : w'.heap[b]? = some o:=by
 rw [hb.block _ (Array.getElem?_eq_some_iff.1 h).1];exact h
theorem blk_cell {w : World} {b i : Nat} {cs : Array Value} {t : TypeId} {fr : Nat × Nat} {v : Value} (h : w.heap[b]? = some (.cells cs t fr)) (hv : cs[i]? = some v) : w.cell? ⟨b,i,none⟩ = some v:=by
 simp [World.cell?,h,hv]
theorem blk_lt {w : World} {b : Nat} {o : Obj} (h : w.heap[b]? = some o) : b < w.heap.size:=(Array.getElem?_eq_some_iff.1 h).1
def pc (d k f dp lf off xof nd inn : Int) (s t : Value) : Array Value:=#[.int .i64 d,.int .i64 k,.int .i64 f,.int .i64 dp,.int .u32 lf,.int .u64 off,.int .u32 xof,.int .i64 nd,.int .i64 inn,s,t]
end LW
end Go.Proofs.Ytfbnakmmmphedaa
namespace Go.Proofs.Ytfbnakmmmphedaa
open Go.RowKit
namespace LW
open Words
theorem results_row_tmp {P : Program} {fn : Func} {p q : Tmp} {ty : TypeId} (h : fn.results = #[.cell p ty,.tmp q]) (tmps : Array Value) (w : World) (g : Nat) (t : TypeId) (cs : Array Value) (fr : Nat × Nat) (d : TypeDesc) (v : Value)
  (hp : tmps.getD p undef = .pointer (some ⟨g,0,none⟩)) (hq : tmps.getD q undef = v) (hg : w.heap[g]? = some (.cells cs t fr))
  (hu : P.underlying ty = some d) (hd : (match d with | .struct _ | .array _ _ => true | _ => false) = true) (hi : (P.info? ty).map (·.size) = some cs.size) :
  (results fn tmps).run P w = .ok (.tuple #[.agg cs,v]) w:=by
 have hp' : tmps[p]?.getD undef = .pointer (some ⟨g,0,none⟩):=by simpa using hp
 have hq' : tmps[q]?.getD undef = v:=by simpa using hq
 simp [results,h,hp',hq',asAddr,run_loadVar_row w g t ty cs fr d hg hu hd hi]
end LW
end Go.Proofs.Ytfbnakmmmphedaa

/-
  Fm1, Tr3, Lk1, Lk2, Lk3, Lk4 in one.
-/
import Derived.Test.YtfbnakmmmphedaaHndo
import Derived.Maps.AppendAt
import Derived.Test.YtfbnakmmmphedaaTrAo
import Derived.Test.YtfbnakmmmphedaaTv9o
import Derived.Test.YtfbnakmmmphedaaOrd2o
import Derived.Test.YtfbnakmmmphedaaOrd3o
import Derived.Test.YtfbnakmmmphedaaPairo
set_option linter.unusedVariables false
set_option linter.unusedSimpArgs false
set_option maxRecDepth 100000
set_option maxHeartbeats 4000000
namespace Go.Proofs.Ytfbnakmmmphedaa
open Go Go.RowKit
namespace LW
structure Rw where
 ty : TypeId
 sz : Nat
 val : Value
 n : Nat
 con : List Value
def Rw.In (r : Rw) (W : World) (B : Nat) : Prop:=W.ownsRow B r.ty r.sz r.val r.n r.con
structure Fam {I : Type} (W : World) (B : Nat) (f : I → Rw) : Prop where
 own : ∀ i,(f i).In W B
 dis : ∀ i j b,(f i).val.ownBlock = some b → (f j).val.ownBlock = some b → i = j
def upd {I : Type} [DecidableEq I] (f : I → Rw) (i : I) (r : Rw) : I → Rw:=fun j => if j = i then r else f j
theorem upd_same {I : Type} [DecidableEq I] (f : I → Rw) (i : I) (r : Rw) : upd f i r i = r:=by simp [upd]
theorem upd_other {I : Type} [DecidableEq I] (f : I → Rw) (i j : I) (r : Rw) (h : j ≠ i) : upd f i r j = f j:=by simp [upd,h]
section
variable {I : Type} {W W' : World} {B : Nat} {f f' : I → Rw}
theorem Fam.below (h : Fam W B f) (hb : Below W.heap.size W W') : Fam W' B f:=⟨fun i => own_belowI (h.own i) hb,h.dis⟩
theorem Fam.keep (h : Fam W B f) (hk : ∀ i b,(f i).val.ownBlock = some b → W'.heap[b]? = W.heap[b]?) : Fam W' B f:=⟨fun i => own_keepK (h.own i) (hk i),h.dis⟩
theorem Fam.lt (h : Fam W B f) (i : I) : ∀ b,(f i).val.ownBlock = some b → b < W.heap.size:=own_lt (h.own i)
theorem Fam.congr (h : Fam W B f) (hf : ∀ i,f' i = f i) : Fam W B f':=by
 have : f' = f:=funext hf
 rw [this];exact h
theorem Fam.setT (h : Fam W B f) {p o : Nat} {cs : Array Value} {t : TypeId} {fr : Nat × Nat} (hp : W.heap[p]? = some (.cells cs t fr)) (ht : ∀ i,(f i).ty ≠ t) (u : Value) : Fam (W.setCell ⟨p,o,none⟩ u) B f:=⟨fun i => own_setN (h.own i) hp (ht i),h.dis⟩
theorem Fam.neT (h : Fam W B f) {p : Nat} {cs : Array Value} {t : TypeId} {fr : Nat × Nat} (hp : W.heap[p]? = some (.cells cs t fr)) (ht : ∀ i,(f i).ty ≠ t) (i : I) : (f i).val.ownBlock ≠ some p:=by
 intro e
 rcases (h.own i).2 with ⟨e2,_⟩ | ⟨g,cap,cur,e2,_,hh,_⟩
 ·rw [e2] at e;cases e
 ·rw [e2] at e
  simp [Value.ownBlock] at e
  subst e;rw [hp] at hh;injection hh with hh
  injection hh with _ h2
  exact ht i h2.symm
theorem Fam.set [DecidableEq I] (h : Fam W B f) (i : I) {b n cap : Nat} (hv : (f i).val = .slice (some ⟨b,0,none⟩) n cap) (hn : (f i).n = n) (j : Nat) (u : Value) : Fam (W.setCell ⟨b,j,none⟩ u) B (upd f i { f i with con:=(f i).con.set j u }):=by
 have hb : (f i).val.ownBlock = some b:=by rw [hv];rfl
 refine ⟨fun k => ?_,fun k m c hk hm => ?_⟩
 ·by_cases hki : k = i
  ·subst hki
   rw [upd_same];have ho:=h.own k
   unfold Rw.In at ho ⊢
   dsimp only
   rw [hv,hn] at ho ⊢;exact (World.ownsRow.stored ho j u).1
  ·rw [upd_other _ _ _ _ hki]
   exact own_setB (h.own k) (fun e => hki (h.dis k i b e hb))
 ·have key : ∀ x,(upd f i { f i with con:=(f i).con.set j u } x).val = (f x).val:=fun x => by
   unfold upd;split
   ·rename_i e;rw [e]
   ·rfl
  rw [key] at hk hm;exact h.dis k m c hk hm
theorem Fam.grown [DecidableEq I] (h : Fam W B f) (i : I) (r : Rw) (hg : W.grownBy W' (f i).val.ownBlock) (ho : r.In W' B) (hat : r.val.ownBlock = (f i).val.ownBlock ∨ ∀ b,r.val.ownBlock = some b → W.heap.size ≤ b) : Fam W' B (upd f i r):=by
 have key : ∀ k b,k ≠ i → (f k).val.ownBlock = some b → r.val.ownBlock ≠ some b:=fun k b hki hk e => by
  rcases hat with h1 | h1
  ·exact hki (h.dis k i b hk (by rw [← h1];exact e))
  ·have:=h1 b e
   have:=h.lt k b hk
   omega
 refine ⟨fun k => ?_,fun k m b hk hm => ?_⟩
 ·by_cases hki : k = i
  ·subst hki
   rw [upd_same];exact ho
  ·rw [upd_other _ _ _ _ hki]
   refine own_keepK (h.own k) (fun b hb => hg.block b (h.lt k b hb) (fun e => hki (h.dis k i b hb e.symm)))
 ·by_cases hki : k = i
  ·by_cases hmi : m = i
   ·rw [hki,hmi]
   ·rw [hki,upd_same] at hk
    rw [upd_other _ _ _ _ hmi] at hm;exact absurd hk (key m b hmi hm)
  ·by_cases hmi : m = i
   ·rw [hmi,upd_same] at hm
    rw [upd_other _ _ _ _ hki] at hk;exact absurd hm (key k b hki hk)
   ·rw [upd_other _ _ _ _ hki] at hk
    rw [upd_other _ _ _ _ hmi] at hm;exact h.dis k m b hk hm
theorem Fam.fresh [DecidableEq I] (h : Fam W B f) (i : I) (r : Rw) (hb : Below W.heap.size W W') (ho : r.In W' B) (hat : ∀ b,r.val.ownBlock = some b → W.heap.size ≤ b) : Fam W' B (upd f i r):=by
 have h':=h.below hb
 refine ⟨fun k => ?_,fun k m b hk hm => ?_⟩
 ·by_cases hki : k = i
  ·subst hki
   rw [upd_same];exact ho
  ·rw [upd_other _ _ _ _ hki]
   exact h'.own k
 ·by_cases hki : k = i
  ·by_cases hmi : m = i
   ·rw [hki,hmi]
   ·rw [hki,upd_same] at hk
    rw [upd_other _ _ _ _ hmi] at hm;have h1:=hat b hk
    have h2:=h.lt m b hm
    omega
  ·by_cases hmi : m = i
   ·rw [hmi,upd_same] at hm
    rw [upd_other _ _ _ _ hki] at hk;have h1:=hat b hm
    have h2:=h.lt k b hk
    omega
   ·rw [upd_other _ _ _ _ hki] at hk
    rw [upd_other _ _ _ _ hmi] at hm;exact h.dis k m b hk hm
theorem Fam.nil [DecidableEq I] (h : Fam W B f) (i : I) : Fam W B (upd f i ⟨(f i).ty,(f i).sz,.slice none 0 0,0,[]⟩) :=
 h.fresh i _ (Below.refl _ _) ⟨by simp,.inl ⟨rfl,rfl⟩⟩ (fun b hb => by cases hb)
theorem Fam.none (W : World) (B : Nat) (ty : I → TypeId) (sz : I → Nat) : Fam W B (fun i => ⟨ty i,sz i,.slice none 0 0,0,[]⟩):=⟨fun i => ⟨by simp,.inl ⟨rfl,rfl⟩⟩,fun i j b h => by cases h⟩
theorem Fam.cell (h : Fam W B f) (i : I) (k : Nat) (hk : k < (f i).con.length) : ∃ b cap,(f i).val = .slice (some ⟨b,0,Option.none⟩) (f i).n cap ∧ B ≤ b ∧ W.cell? ⟨b,k,Option.none⟩ = some ((f i).con.getD k (.bool false)) ∧ W.frozen? ⟨b,k,Option.none⟩ = false:=by
 have ho:=h.own i
 unfold Rw.In at ho
 rcases ho.2 with ⟨_,h0⟩ | ⟨g,cap,cur,e,hB,hh,_⟩
 ·have:=ho.1
  rw [h0,Nat.zero_mul] at this;omega
 ·refine ⟨g,cap,e,hB,?_,?_⟩
  ·have h1:=ho.cells (g:=g) (by rw [e];rfl) k _ (List.getElem?_eq_getElem hk)
   have hadd : (⟨g,0,Option.none⟩ : Addr).add k = ⟨g,k,Option.none⟩:=by unfold Addr.add;split <;> simp_all
   rw [hadd] at h1;rw [h1,List.getD_eq_getElem?_getD,List.getElem?_eq_getElem hk];rfl
  ·rw [e] at ho
   exact ho.frozenAt k
end
end LW
end Go.Proofs.Ytfbnakmmmphedaa
namespace Go.Proofs.Ytfbnakmmmphedaa
open List renaming getD_eq_getElem?_getD → gDQ
open Go
namespace Tr
open Mc
def laF (l : List Ev) : Nat → Int → Int
 | 0,_ => -1
 | n + 1,r => if (ev l n).op = 14 ∧ 0 < (ev l n).value ∧ (ev l n).value = r then (n : Int) else if (ev l n).who = r then (n : Int) else laF l n r
def snI (l : List Ev) : Nat → Int → List Int
 | 0,_ => []
 | n + 1,c => if (ev l n).op = 5 ∧ (ev l n).a = c then snI l n c ++ [(n : Int)] else snI l n c
def tkI (l : List Ev) : Nat → Int → List Int
 | 0,_ => []
 | n + 1,c => if (ev l n).op = 6 ∧ (ev l n).shut = false ∧ (ev l n).a = c then tkI l n c ++ [(n : Int)] else tkI l n c
def shF (l : List Ev) : Nat → Int → Int
 | 0,_ => -1
 | n + 1,c => if (ev l n).op = 7 ∧ (ev l n).a = c ∧ shF l n c = -1 then (n : Int) else shF l n c
def frI (l : List Ev) : Nat → Int → List Int
 | 0,_ => []
 | n + 1,k => if (ev l n).op = 9 ∧ (ev l n).a = k then frI l n k ++ [(n : Int)] else if (ev l n).op = 8 ∧ (ev l n).a = k then [] else frI l n k
def lnk (f : Int) (n : Nat) : List (Int × Int):=if f = -1 then [] else [(f,(n : Int))]
def opE (s : Syst) (l : List Ev) (n : Nat) : List (Int × Int) :=
 let e:=ev l n
 if e.op = 5 then
  (if 0 ≤ ((snI l n e.a).length : Int) - s.rooms.getD e.a.toNat 0 ∧ ((snI l n e.a).length : Int) - s.rooms.getD e.a.toNat 0 < (tkI l n e.a).length then lnk ((tkI l n e.a).getD (((snI l n e.a).length : Int) - s.rooms.getD e.a.toNat 0).toNat 0) n else [])
 else if e.op = 6 then
  (if e.shut = true then lnk (shF l n e.a) n else lnk ((snI l n e.a).getD (tkI l n e.a).length 0) n)
 else if e.op = 8 then (frI l n e.a).flatMap (fun f => lnk f n)
 else []
def edF (s : Syst) (l : List Ev) : Nat → List (Int × Int)
 | 0 => []
 | n + 1 => edF s l n ++ lnk (laF l n (ev l n).who) n ++ opE s l n
theorem snI_len (l : List Ev) (n : Nat) (hn : n ≤ l.length) (c : Int) : (snI l n c).length = snC (l.take n) c:=by
 induction n with
 | zero => simp [snI,snC]
 | succ n ih =>
  have h:=ih (by omega)
  rw [snI,take_snoc l n hn,snC_snoc,← h];show (if (ev l n).op = 5 ∧ (ev l n).a = c then _ else _ : List Int).length = _ + if (ev l n).op = 5 ∧ (ev l n).a = c then 1 else 0
  split <;> simp
theorem tkI_len (l : List Ev) (n : Nat) (hn : n ≤ l.length) (c : Int) : (tkI l n c).length = tkC (l.take n) c:=by
 induction n with
 | zero => simp [tkI,tkC]
 | succ n ih =>
  have h:=ih (by omega)
  rw [tkI,take_snoc l n hn,tkC_snoc,← h];show (if (ev l n).op = 6 ∧ (ev l n).shut = false ∧ (ev l n).a = c then _ else _ : List Int).length = _ + if (ev l n).op = 6 ∧ (ev l n).shut = false ∧ (ev l n).a = c then 1 else 0
  split <;> simp
theorem snI_at (l : List Ev) (n : Nat) (hn : n ≤ l.length) (c : Int) (m : Nat) (i : Int) : (snI l n c)[m]? = some i ↔ ∃ k : Nat,i = k ∧ k < n ∧ (ev l k).op = 5 ∧ (ev l k).a = c ∧ snC (l.take k) c = m:=by
 induction n with
 | zero => simp [snI]
 | succ n ih =>
  have h:=ih (by omega)
  have hl:=snI_len l n (by omega) c
  rw [snI];split
  ·rename_i h1
   rw [List.getElem?_append];split
   ·rename_i h2
    rw [h];constructor
    ·rintro ⟨k,e,h3,h4⟩
     exact ⟨k,e,by omega,h4⟩
    ·rintro ⟨k,e,h3,h4,h5,h6⟩
     refine ⟨k,e,?_,h4,h5,h6⟩
     rcases Nat.lt_succ_iff_lt_or_eq.1 h3 with h7 | rfl
     ·exact h7
     ·omega
   ·rename_i h2
    constructor
    ·intro h3
     have h4 : m - (snI l n c).length = 0:=by
      by_cases h5 : m - (snI l n c).length = 0
      ·exact h5
      ·rw [List.getElem?_eq_none (by simp;omega)] at h3;cases h3
     rw [h4] at h3;simp at h3
     exact ⟨n,h3.symm,by omega,h1.1,h1.2,by omega⟩
    ·rintro ⟨k,e,h3,h4,h5,h6⟩
     rcases Nat.lt_succ_iff_lt_or_eq.1 h3 with h7 | rfl
     ·have:=(h).2 ⟨k,e,h7,h4,h5,h6⟩
      rw [List.getElem?_eq_none (by omega)] at this
      cases this
     ·have h8 : m - (snI l k c).length = 0:=by omega
      rw [h8,e];rfl
  ·rename_i h1
   rw [h];constructor
   ·rintro ⟨k,e,h3,h4⟩
    exact ⟨k,e,by omega,h4⟩
   ·rintro ⟨k,e,h3,h4,h5,h6⟩
    refine ⟨k,e,?_,h4,h5,h6⟩
    rcases Nat.lt_succ_iff_lt_or_eq.1 h3 with h7 | rfl
    ·exact h7
    ·exact absurd ⟨h4,h5⟩ h1
theorem tkI_at (l : List Ev) (n : Nat) (hn : n ≤ l.length) (c : Int) (m : Nat) (i : Int) : (tkI l n c)[m]? = some i ↔ ∃ k : Nat,i = k ∧ k < n ∧ ((ev l k).op = 6 ∧ (ev l k).shut = false ∧ (ev l k).a = c) ∧ tkC (l.take k) c = m:=by
 induction n with
 | zero => simp [tkI]
 | succ n ih =>
  have h:=ih (by omega)
  have hl:=tkI_len l n (by omega) c
  rw [tkI];split
  ·rename_i h1
   rw [List.getElem?_append];split
   ·rename_i h2
    rw [h];constructor
    ·rintro ⟨k,e,h3,h4⟩
     exact ⟨k,e,by omega,h4⟩
    ·rintro ⟨k,e,h3,h5,h6⟩
     refine ⟨k,e,?_,h5,h6⟩
     rcases Nat.lt_succ_iff_lt_or_eq.1 h3 with h7 | rfl
     ·exact h7
     ·omega
   ·rename_i h2
    constructor
    ·intro h3
     have h4 : m - (tkI l n c).length = 0:=by
      by_cases h5 : m - (tkI l n c).length = 0
      ·exact h5
      ·rw [List.getElem?_eq_none (by simp;omega)] at h3;cases h3
     rw [h4] at h3;simp at h3
     exact ⟨n,h3.symm,by omega,h1,by omega⟩
    ·rintro ⟨k,e,h3,h5,h6⟩
     rcases Nat.lt_succ_iff_lt_or_eq.1 h3 with h7 | rfl
     ·have:=(h).2 ⟨k,e,h7,h5,h6⟩
      rw [List.getElem?_eq_none (by omega)] at this
      cases this
     ·have h8 : m - (tkI l k c).length = 0:=by omega
      rw [h8,e];rfl
  ·rename_i h1
   rw [h];constructor
   ·rintro ⟨k,e,h3,h4⟩
    exact ⟨k,e,by omega,h4⟩
   ·rintro ⟨k,e,h3,h5,h6⟩
    refine ⟨k,e,?_,h5,h6⟩
    rcases Nat.lt_succ_iff_lt_or_eq.1 h3 with h7 | rfl
    ·exact h7
    ·exact absurd h5 h1
theorem shF_at (l : List Ev) (n : Nat) (hn : n ≤ l.length) (c : Int) : (shF l n c = -1 ∧ clC (l.take n) c = false) ∨ (∃ k : Nat,shF l n c = k ∧ k < n ∧ (ev l k).op = 7 ∧ (ev l k).a = c ∧ clC (l.take k) c = false ∧ clC (l.take n) c = true):=by
 induction n with
 | zero => exact .inl ⟨rfl,rfl⟩
 | succ n ih =>
  have h:=ih (by omega)
  rw [shF,take_snoc l n hn,clC_snoc];show (_ ∧ (_ || decide ((ev l n).op = 7 ∧ (ev l n).a = c)) = false) ∨ ∃ k : Nat,_ = (k : Int) ∧ _ ∧ _ ∧ _ ∧ _ ∧ (_ || decide ((ev l n).op = 7 ∧ (ev l n).a = c)) = true
  rcases h with ⟨h1,h2⟩ | ⟨k,h1,h2,h3,h4,h5,h6⟩
  ·by_cases h3 : (ev l n).op = 7 ∧ (ev l n).a = c
   ·rw [if_pos ⟨h3.1,h3.2,h1⟩]
    exact .inr ⟨n,rfl,by omega,h3.1,h3.2,h2,by simp [h3]⟩
   ·rw [if_neg (fun h => h3 ⟨h.1,h.2.1⟩)]
    exact .inl ⟨h1,by simp [h2];exact fun a b => h3 ⟨a,b⟩⟩
  ·rw [if_neg (fun h => by omega)]
   exact .inr ⟨k,h1,by omega,h3,h4,h5,by simp [h6]⟩
theorem frI_mem (l : List Ev) (n : Nat) (c i : Int) : i ∈ frI l n c ↔ ∃ k : Nat,i = k ∧ k < n ∧ (ev l k).op = 9 ∧ (ev l k).a = c ∧ ∀ m,k < m → m < n → ¬ ((ev l m).op = 8 ∧ (ev l m).a = c):=by
 induction n with
 | zero => simp [frI]
 | succ n ih =>
  rw [frI];split
  ·rename_i h1
   rw [List.mem_append,ih];constructor
   ·rintro (⟨k,e,h3,h4,h5,h6⟩ | h3)
    ·refine ⟨k,e,by omega,h4,h5,fun m h7 h8 => ?_⟩
     rcases Nat.lt_succ_iff_lt_or_eq.1 h8 with h9 | rfl
     ·exact h6 m h7 h9
     ·intro h;omega
    ·exact ⟨n,by simpa using h3,by omega,h1.1,h1.2,fun m _ _ => by omega⟩
   ·rintro ⟨k,e,h3,h4,h5,h6⟩
    rcases Nat.lt_succ_iff_lt_or_eq.1 h3 with h7 | rfl
    ·exact .inl ⟨k,e,h7,h4,h5,fun m h8 h9 => h6 m h8 (by omega)⟩
    ·exact .inr (by simp [e])
  ·rename_i h1
   split
   ·rename_i h2
    constructor
    ·intro h;cases h
    ·rintro ⟨k,e,h3,h4,h5,h6⟩
     rcases Nat.lt_succ_iff_lt_or_eq.1 h3 with h7 | rfl
     ·exact absurd h2 (h6 n h7 (by omega))
     ·omega
   ·rename_i h2
    rw [ih];constructor
    ·rintro ⟨k,e,h3,h4,h5,h6⟩
     refine ⟨k,e,by omega,h4,h5,fun m h7 h8 => ?_⟩
     rcases Nat.lt_succ_iff_lt_or_eq.1 h8 with h9 | rfl
     ·exact h6 m h7 h9
     ·exact h2
    ·rintro ⟨k,e,h3,h4,h5,h6⟩
     rcases Nat.lt_succ_iff_lt_or_eq.1 h3 with h7 | rfl
     ·exact ⟨k,e,h7,h4,h5,fun m h8 h9 => h6 m h8 (by omega)⟩
     ·exact absurd ⟨h4,h5⟩ h1
theorem rnC_mono (l : List Ev) {m n : Nat} (h : m ≤ n) (hn : n ≤ l.length) : rnC (l.take m) ≤ rnC (l.take n):=by
 induction n with
 | zero =>
      obtain rfl : m = 0:=by omega
      exact Nat.le_refl _
 | succ n ih =>
  rcases Nat.lt_or_eq_of_le h with h1 | rfl
  ·have:=ih (by omega) (by omega)
   rw [take_snoc l n hn,rnC_snoc];omega
  ·exact Nat.le_refl _
theorem start_once {s : Syst} {l : List Ev} {n i j : Nat} (hg : Gd s l n) (hn : n ≤ l.length) (hi : i < n) (hj : j < n) (h1 : (ev l i).op = 14) (h2 : (ev l j).op = 14) (h3 : (ev l i).value = (ev l j).value) (h4 : 0 < (ev l i).value) : i = j:=by
 have key : ∀ a b,a < b → b < n → (ev l a).op = 14 → (ev l b).op = 14 → (ev l a).value = (ev l b).value → 0 < (ev l a).value → False:=fun a b hab hb k1 k2 k3 k4 => by
  have e1:=(hg a (by omega)).st k1
  have e2:=(hg b hb).st k2
  have m1 : rnC (l.take (a + 1)) ≤ rnC (l.take b):=rnC_mono l (by omega) (by omega)
  rw [take_snoc l a (by omega),rnC_snoc,if_pos ⟨k1,by show (ev l a).value ≠ 0;omega⟩] at m1
  have e1' : (ev l a).value = 0 ∨ ((ev l a).value = rnC (l.take a) ∧ _):=e1
  have e2' : (ev l b).value = 0 ∨ ((ev l b).value = rnC (l.take b) ∧ _):=e2
  omega
 rcases Nat.lt_trichotomy i j with h | h | h
 ·exact absurd (key i j h hj h1 h2 h3 h4) id
 ·exact h
 ·exact absurd (key j i h hi h2 h1 h3.symm (by omega)) id
theorem laF_at {s : Syst} {l : List Ev} {n : Nat} (hg : Gd s l n) (hn : n ≤ l.length) (r : Int) : (laF l n r = -1 ∧ (∀ k,k < n → (ev l k).who ≠ r) ∧ ∀ k,k < n → ¬ ((ev l k).op = 14 ∧ (ev l k).value = r ∧ 0 < r)) ∨ ∃ i : Nat,laF l n r = i ∧ i < n ∧ (((ev l i).who = r ∧ ∀ k,i < k → k < n → (ev l k).who ≠ r) ∨ ((ev l i).op = 14 ∧ (ev l i).value = r ∧ 0 < r ∧ ∀ k,k < n → (ev l k).who ≠ r)):=by
 induction n with
 | zero => exact .inl ⟨rfl,fun k hk => by omega,fun k hk => by omega⟩
 | succ n ih =>
  have h:=ih (fun j hj => hg j (by omega)) (by omega)
  have hf:=hg n (by omega)
  have hw : (ev l n).who < rnC (l.take n):=hf.w1
  rw [laF];split
  ·rename_i h1
   have h2 : (ev l n).value = 0 ∨ ((ev l n).value = rnC (l.take n) ∧ _):=hf.st h1.1
   have h3 : r = rnC (l.take n):=by omega
   refine .inr ⟨n,rfl,by omega,.inr ⟨h1.1,h1.2.2,by omega,fun k hk => ?_⟩⟩
   have h4 : (ev l k).who < rnC (l.take k):=(hg k hk).w1
   have h5:=rnC_mono l (show k ≤ n by omega) (by omega)
   omega
  ·rename_i h1
   split
   ·rename_i h2
    exact .inr ⟨n,rfl,by omega,.inl ⟨h2,fun k _ _ => by omega⟩⟩
   ·rename_i h2
    rcases h with ⟨e,h3,h4⟩ | ⟨i,e,h3,h4⟩
    ·refine .inl ⟨e,fun k hk => ?_,fun k hk => ?_⟩
     ·rcases Nat.lt_succ_iff_lt_or_eq.1 hk with h5 | rfl
      ·exact h3 k h5
      ·exact h2
     ·rcases Nat.lt_succ_iff_lt_or_eq.1 hk with h5 | rfl
      ·exact h4 k h5
      ·exact fun h => h1 ⟨h.1,by omega,h.2.1⟩
    ·refine .inr ⟨i,e,by omega,?_⟩
     rcases h4 with ⟨h5,h6⟩ | ⟨h5,h6,h7,h8⟩
     ·refine .inl ⟨h5,fun k hk hk2 => ?_⟩
      rcases Nat.lt_succ_iff_lt_or_eq.1 hk2 with h9 | rfl
      ·exact h6 k hk h9
      ·exact h2
     ·refine .inr ⟨h5,h6,h7,fun k hk => ?_⟩
      rcases Nat.lt_succ_iff_lt_or_eq.1 hk with h9 | rfl
      ·exact h8 k h9
      ·exact h2
theorem lnk_mem (f : Int) (n : Nat) (x : Int × Int) : x ∈ lnk f n ↔ f ≠ -1 ∧ x = (f,(n : Int)):=by
 unfold lnk
 split <;> simp_all
theorem laF_mem {s : Syst} {l : List Ev} {n : Nat} (hg : Gd s l n) (hn : n < l.length) (i : Nat) : ((i : Int),(n : Int)) ∈ lnk (laF l n (ev l n).who) n ↔ E1 l i n ∨ E2 l i n:=by
 rw [lnk_mem]
 have h:=laF_at hg (by omega) (ev l n).who
 constructor
 ·rintro ⟨h1,h2⟩
  have h3 : (i : Int) = laF l n (ev l n).who:=congrArg Prod.fst h2
  rcases h with ⟨e,_⟩ | ⟨k,e,h4,h5⟩
  ·exact absurd e h1
  ·obtain rfl : i = k:=by omega
   rcases h5 with ⟨h6,h7⟩ | ⟨h6,h7,h8,h9⟩
   ·exact .inl ⟨h4,h6,h7⟩
   ·exact .inr ⟨h4,h6,h7,h8,h9⟩
 ·intro h1
  have key : laF l n (ev l n).who = i:=by
   rcases h with ⟨e,h2,h3⟩ | ⟨k,e,h4,h5⟩
   ·rcases h1 with ⟨h6,h7,_⟩ | ⟨h6,h7,h8,h9,_⟩
    ·exact absurd h7 (h2 i h6)
    ·exact absurd ⟨h7,h8,h9⟩ (h3 i h6)
   ·rw [e]
    congr 1
    rcases h1 with ⟨h6,h7,h8⟩ | ⟨h6,h7,h8,h9,h10⟩
    ·rcases h5 with ⟨k1,k2⟩ | ⟨_,_,_,k2⟩
     ·rcases Nat.lt_trichotomy i k with h | h | h
      ·exact absurd k1 (h8 k h h4)
      ·exact h.symm
      ·exact absurd h7 (k2 i h h6)
     ·exact absurd h7 (k2 i h6)
    ·rcases h5 with ⟨k1,k2⟩ | ⟨k1,k2,k3,_⟩
     ·exact absurd k1 (h10 k h4)
     ·exact start_once hg (by omega) h4 h6 k1 h7 (by omega) (by omega)
  rw [key];exact ⟨by omega,rfl⟩
theorem opE_mem {s : Syst} {l : List Ev} {n : Nat} (hf : FitE s (l.take n) (ev l n)) (hn : n < l.length) (hr : ∀ c,0 ≤ s.rooms.getD c 0) (i : Nat) : ((i : Int),(n : Int)) ∈ opE s l n ↔ E3 l i n ∨ E4 s l i n ∨ E5 l i n ∨ E6 l i n:=by
 have hsl:=snI_len l n (by omega) (ev l n).a
 have htl:=tkI_len l n (by omega) (ev l n).a
 unfold opE
 dsimp only
 split
 ·rename_i h5
  have n3 : ¬ E3 l i n:=fun h => by have:=h.2.1;omega
  have n5 : ¬ E5 l i n:=fun h => by have:=h.2.1;omega
  have n6 : ¬ E6 l i n:=fun h => by have:=h.2.1;omega
  have hR:=hr (ev l n).a.toNat
  split
  ·rename_i h6
   rw [lnk_mem];have hm : (((snI l n (ev l n).a).length : Int) - s.rooms.getD (ev l n).a.toNat 0).toNat < (tkI l n (ev l n).a).length:=by omega
   have hat:=(tkI_at l n (by omega) (ev l n).a _ _).1 (List.getElem?_eq_getElem hm)
   rw [gDQ,List.getElem?_eq_getElem hm];obtain ⟨k,e,h7,h8,h9⟩:=hat
   show (_ = _ → False) ∧ _ ↔ _
   constructor
   ·rintro ⟨_,h⟩
    have h1 : (i : Int) = _:=congrArg Prod.fst h
    have h1' : (i : Int) = k:=by rw [h1];exact e
    obtain rfl : i = k:=by omega
    exact .inr (.inl ⟨h7,h5,h8.1,h8.2.1,h8.2.2,by omega⟩)
   ·rintro (h | h | h | h)
    ·exact absurd h n3
    ·obtain ⟨k1,k2,k3,k4,k5,k6⟩:=h
     have:=(tkI_at l n (by omega) (ev l n).a _ (i : Int)).2 ⟨i,rfl,k1,⟨k3,k4,k5⟩,rfl⟩
     have em : tkC (l.take i) (ev l n).a = (((snI l n (ev l n).a).length : Int) - s.rooms.getD (ev l n).a.toNat 0).toNat:=by omega
     rw [em,List.getElem?_eq_getElem hm] at this;injection this with this
     simp only [Option.getD_some]
     rw [this];exact ⟨by omega,rfl⟩
    ·exact absurd h n5
    ·exact absurd h n6
  ·rename_i h6
   constructor
   ·intro h;cases h
   ·rintro (h | h | h | h)
    ·exact absurd h n3
    ·obtain ⟨k1,k2,k3,k4,k5,k6⟩:=h
     have:=(tkI_at l n (by omega) (ev l n).a _ (i : Int)).2 ⟨i,rfl,k1,⟨k3,k4,k5⟩,rfl⟩
     obtain ⟨h7,_⟩:=List.getElem?_eq_some_iff.1 this
     exact absurd (by omega) h6
    ·exact absurd h n5
    ·exact absurd h n6
 ·rename_i hn5
  have n4 : ¬ E4 s l i n:=fun h => hn5 h.2.1
  split
  ·rename_i h6
   have n6 : ¬ E6 l i n:=fun h => by have:=h.2.1;omega
   split
   ·rename_i hs
    have n3 : ¬ E3 l i n:=fun h => by have:=h.2.2.1;rw [hs] at this;cases this
    rw [lnk_mem];have hcl : clC (l.take n) (ev l n).a = true:=hf.ts h6 hs
    rcases shF_at l n (by omega) (ev l n).a with ⟨_,h7⟩ | ⟨k,e,h7,h8,h9,h10,_⟩
    ·rw [h7] at hcl;cases hcl
    ·rw [e]
     constructor
     ·rintro ⟨_,h⟩
      have h1 : (i : Int) = k:=congrArg Prod.fst h
      obtain rfl : i = k:=by omega
      exact .inr (.inr (.inl ⟨h7,h6,hs,h8,h9,h10⟩))
     ·rintro (h | h | h | h)
      ·exact absurd h n3
      ·exact absurd h n4
      ·obtain ⟨k1,k2,k3,k4,k5,k6⟩:=h
       have key : ∀ a b,a < b → b < l.length → (ev l a).op = 7 → (ev l a).a = (ev l n).a → clC (l.take b) (ev l n).a = true:=fun a b hab hb j1 j2 => by
        unfold clC;rw [List.any_eq_true];refine ⟨ev l a,?_,by simp [j1,j2]⟩
        unfold ev;rw [gDQ,List.getElem?_eq_getElem (by omega)];exact List.mem_take_iff_getElem.2 ⟨a,by omega,rfl⟩
       have : i = k:=by
        rcases Nat.lt_trichotomy i k with h | h | h
        ·rw [key i k h (by omega) k4 k5] at h10;cases h10
        ·exact h
        ·rw [key k i h (by omega) h8 h9] at k6;cases k6
       subst this;exact ⟨by omega,rfl⟩
      ·exact absurd h n6
   ·rename_i hs
    have hs' : (ev l n).shut = false:=by cases h : (ev l n).shut <;> simp_all
    have n5 : ¬ E5 l i n:=fun h => by have:=h.2.2.1;rw [hs'] at this;cases this
    have hlt : tkC (l.take n) (ev l n).a < snC (l.take n) (ev l n).a:=hf.tk h6 hs'
    have hm : (tkI l n (ev l n).a).length < (snI l n (ev l n).a).length:=by omega
    rw [lnk_mem,gDQ,List.getElem?_eq_getElem hm];obtain ⟨k,e,h7,h8,h9,h10⟩:=(snI_at l n (by omega) (ev l n).a _ _).1 (List.getElem?_eq_getElem hm)
    simp only [Option.getD_some]
    rw [e];constructor
    ·rintro ⟨_,h⟩
     have h1 : (i : Int) = k:=congrArg Prod.fst h
     obtain rfl : i = k:=by omega
     exact .inl ⟨h7,h6,hs',h8,h9,by omega⟩
    ·rintro (h | h | h | h)
     ·obtain ⟨k1,k2,k3,k4,k5,k6⟩:=h
      have:=(snI_at l n (by omega) (ev l n).a _ (i : Int)).2 ⟨i,rfl,k1,k4,k5,rfl⟩
      rw [k6,← htl,List.getElem?_eq_getElem hm,e] at this;injection this with this
      obtain rfl : i = k:=by omega
      exact ⟨by omega,rfl⟩
     ·exact absurd h n4
     ·exact absurd h n5
     ·exact absurd h n6
  ·rename_i hn6
   have n3 : ¬ E3 l i n:=fun h => hn6 h.2.1
   have n5 : ¬ E5 l i n:=fun h => hn6 h.2.1
   split
   ·rename_i h8
    rw [List.mem_flatMap];constructor
    ·rintro ⟨f,h1,h2⟩
     rw [lnk_mem] at h2;have h3 : (i : Int) = f:=congrArg Prod.fst h2.2
     obtain ⟨k,e,k1,k2,k3,k4⟩:=(frI_mem l n _ f).1 h1
     obtain rfl : i = k:=by omega
     exact .inr (.inr (.inr ⟨k1,h8,k2,k3,k4⟩))
    ·rintro (h | h | h | h)
     ·exact absurd h n3
     ·exact absurd h n4
     ·exact absurd h n5
     ·obtain ⟨k1,k2,k3,k4,k5⟩:=h
      exact ⟨i,(frI_mem l n _ _).2 ⟨i,rfl,k1,k3,k4,k5⟩,(lnk_mem _ _ _).2 ⟨by omega,rfl⟩⟩
   ·rename_i hn8
    constructor
    ·intro h;cases h
    ·rintro (h | h | h | h)
     ·exact absurd h n3
     ·exact absurd h n4
     ·exact absurd h n5
     ·exact absurd h.2.1 hn8
theorem opE_snd {s : Syst} {l : List Ev} {n : Nat} {x : Int × Int} (h : x ∈ opE s l n) : x.2 = n:=by
 have key : ∀ f,x ∈ lnk f n → x.2 = n:=fun f h => by
  rw [lnk_mem] at h;rw [h.2]
 unfold opE at h
 dsimp only at h
 split at h
 ·split at h
  ·exact key _ h
  ·cases h
 ·split at h
  ·split at h
   ·exact key _ h
   ·exact key _ h
  ·split at h
   ·obtain ⟨f,_,h2⟩:=List.mem_flatMap.1 h
    exact key _ h2
   ·cases h
theorem edF_mem {s : Syst} {l : List Ev} {n : Nat} (hg : Gd s l n) (hn : n ≤ l.length) (hr : ∀ c,0 ≤ s.rooms.getD c 0) (i j : Nat) : ((i : Int),(j : Int)) ∈ edF s l n ↔ j < n ∧ EL s l i j:=by
 induction n with
 | zero => simp [edF]
 | succ n ih =>
  have h:=ih (fun j hj => hg j (by omega)) (by omega)
  rw [edF,List.mem_append,List.mem_append,h];by_cases hj : j = n
  ·subst hj
   have h1:=laF_mem (fun k hk => hg k (by omega)) (show j < l.length by omega) i
   have h2:=opE_mem (hg j (by omega)) (show j < l.length by omega) hr i
   have h1' : ((i : Int),(j : Int)) ∈ lnk (laF l j (ev l j).who) j ↔ E1 l i j ∨ E2 l i j:=h1
   have h2' : ((i : Int),(j : Int)) ∈ opE s l j ↔ E3 l i j ∨ E4 s l i j ∨ E5 l i j ∨ E6 l i j:=h2
   rw [h1',h2'];unfold EL;constructor
   ·rintro ((⟨h,_⟩ | h | h) | h | h | h | h)
    ·omega
    ·exact ⟨by omega,.inl h⟩
    ·exact ⟨by omega,.inr (.inl h)⟩
    ·exact ⟨by omega,.inr (.inr (.inl h))⟩
    ·exact ⟨by omega,.inr (.inr (.inr (.inl h)))⟩
    ·exact ⟨by omega,.inr (.inr (.inr (.inr (.inl h))))⟩
    ·exact ⟨by omega,.inr (.inr (.inr (.inr (.inr h))))⟩
   ·rintro ⟨_,h | h | h | h | h | h⟩
    ·exact .inl (.inr (.inl h))
    ·exact .inl (.inr (.inr h))
    ·exact .inr (.inl h)
    ·exact .inr (.inr (.inl h))
    ·exact .inr (.inr (.inr (.inl h)))
    ·exact .inr (.inr (.inr (.inr h)))
  ·constructor
   ·rintro ((⟨h,h'⟩ | h) | h)
    ·exact ⟨by omega,h'⟩
    ·rw [lnk_mem] at h
     have : (j : Int) = n:=congrArg Prod.snd h.2
     omega
    ·have : (j : Int) = n:=opE_snd h
     omega
   ·rintro ⟨h,h'⟩
    exact .inl (.inl ⟨by omega,h'⟩)
end Tr
end Go.Proofs.Ytfbnakmmmphedaa
namespace Go.Proofs.Ytfbnakmmmphedaa
open Go.RowKit
namespace LW
open Mc
abbrev Ow:=(Bool × Option Bool) ⊕ (Nat × Option Bool)
abbrev Ow.ed : Ow:=.inl (false,none)
abbrev Ow.la : Ow:=.inl (false,some false)
abbrev Ow.sh : Ow:=.inl (false,some true)
abbrev Ow.os : Ow:=.inl (true,none)
abbrev Ow.ot : Ow:=.inl (true,some false)
abbrev Ow.og : Ow:=.inl (true,some true)
abbrev Ow.sn (c : Nat) : Ow:=.inr (c,none)
abbrev Ow.tk (c : Nat) : Ow:=.inr (c,some false)
abbrev Ow.fr (c : Nat) : Ow:=.inr (c,some true)
structure Lt where
 ed : List (Int × Int)
 la : Nat → Int
 sn : Nat → List Int
 tk : Nat → List Int
 sh : Nat → Int
 fr : Nat → List Int
def put {α : Type} (f : Nat → α) (k : Nat) (x : α) : Nat → α:=fun j => if j = k then x else f j
theorem put_same {α : Type} (f : Nat → α) (k : Nat) (x : α) : put f k x k = x:=by simp [put]
theorem put_other {α : Type} (f : Nat → α) (k j : Nat) (x : α) (h : j ≠ k) : put f k x j = f j:=by simp [put,h]
def vpt (v : Ow → Value) (i : Ow) (x : Value) : Ow → Value:=fun j => if j = i then x else v j
def edC (l : List (Int × Int)) : List Value:=l.flatMap fun x => [.int .i64 x.1,.int .i64 x.2]
theorem edC_len (l : List (Int × Int)) : (edC l).length = l.length * 2:=by
 unfold edC
 induction l with
 | nil => rfl
 | cons x l ih => rw [List.flatMap_cons,List.length_append,ih,List.length_cons];simp;omega
theorem edC_app (l m : List (Int × Int)) : edC (l ++ m) = edC l ++ edC m:=by simp [edC]
def fm (R M K : Nat) (t : Lt) (v : Ow → Value) : Ow → Rw
 | .inl (false,none) => ⟨109,2,v .ed,t.ed.length,edC t.ed⟩
 | .inl (false,some false) => ⟨3,1,v .la,R,rwI R (fun r => .int .i64 (t.la r))⟩
 | .inl (false,some true) => ⟨3,1,v .sh,M,rwI M (fun r => .int .i64 (t.sh r))⟩
 | .inl (true,none) => ⟨24,1,v .os,M,rwI M (fun c => v (.sn c))⟩
 | .inl (true,some false) => ⟨24,1,v .ot,M,rwI M (fun c => v (.tk c))⟩
 | .inl (true,some true) => ⟨24,1,v .og,K,rwI K (fun c => v (.fr c))⟩
 | .inr (c,none) => ⟨3,1,v (.sn c),(t.sn c).length,(t.sn c).map (Value.int .i64)⟩
 | .inr (c,some false) => ⟨3,1,v (.tk c),(t.tk c).length,(t.tk c).map (Value.int .i64)⟩
 | .inr (c,some true) => ⟨3,1,v (.fr c),(t.fr c).length,(t.fr c).map (Value.int .i64)⟩
theorem fm_val (R M K : Nat) (t : Lt) (v : Ow → Value) (i : Ow) : (fm R M K t v i).val = v i:=by rcases i with ⟨_ | _,_ | _ | _⟩ | ⟨c,_ | _ | _⟩ <;> rfl
theorem fm_ty (R M K : Nat) (t : Lt) (v : Ow → Value) (i : Ow) : (fm R M K t v i).ty ≠ 116:=by rcases i with ⟨_ | _,_ | _ | _⟩ | ⟨c,_ | _ | _⟩ <;> simp only [fm] <;> decide
def lkC (ra : Option Addr) (M rc : Nat) (v : Ow → Value) : Array Value:=#[v .ed,.slice ra M rc,v .la,v .os,v .ot,v .sh,v .og]
structure KM (o W : World) (g : Nat) (ra : Option Addr) (rc R M K : Nat) (t : Lt) (v : Ow → Value) : Prop where
 bl : Below o.heap.size o W
 gB : o.heap.size ≤ g
 blk : W.heap[g]? = some (.cells (lkC ra M rc v) 116 (0,0))
 fam : Fam W o.heap.size (fm R M K t v)
theorem KM.below {o W : World} {g R M K rc : Nat} {ra : Option Addr} {t : Lt} {v : Ow → Value} {W' : World} (h : KM o W g ra rc R M K t v) (hb : Below W.heap.size W W') : KM o W' g ra rc R M K t v:=⟨h.bl.trans (hb.mono h.bl.size),h.gB,blk_keep h.blk hb,h.fam.below hb⟩
theorem cellsY7 {w : World} {b : Nat} {t : TypeId} {v0 v1 v2 v3 v4 v5 v6 : Value} (h : w.heap[b]? = some (.cells #[v0,v1,v2,v3,v4,v5,v6] t (0,0))) : w.cell? ⟨b,0,none⟩ = some v0 ∧ w.cell? ⟨b,1,none⟩ = some v1 ∧ w.cell? ⟨b,2,none⟩ = some v2 ∧ w.cell? ⟨b,3,none⟩ = some v3 ∧ w.cell? ⟨b,4,none⟩ = some v4 ∧ w.cell? ⟨b,5,none⟩ = some v5 ∧ w.cell? ⟨b,6,none⟩ = some v6:=by
 refine ⟨?_,?_,?_,?_,?_,?_,?_⟩ <;> (rw [cell_of_row w b _ _ t (0,0) h];rfl)
theorem KM.setIn {o W : World} {g R M K rc : Nat} {ra : Option Addr} {t : Lt} {v : Ow → Value} (h : KM o W g ra rc R M K t v) (i : Ow) {b n cap : Nat} (hv : v i = .slice (some ⟨b,0,none⟩) n cap) (hn : (fm R M K t v i).n = n) (j : Nat) (u : Value) (t' : Lt) (v' : Ow → Value) (hvv : ∀ x,(x = .ed ∨ x = .la ∨ x = .os ∨ x = .ot ∨ x = .sh ∨ x = .og) → v' x = v x) (hf : ∀ x,fm R M K t' v' x = upd (fm R M K t v) i { fm R M K t v i with con:=(fm R M K t v i).con.set j u } x) : KM o (W.setCell ⟨b,j,none⟩ u) g ra rc R M K t' v':=by
 have hb : (fm R M K t v i).val.ownBlock = some b:=by rw [fm_val,hv];rfl
 have hB : o.heap.size ≤ b:=own_blkI (h.fam.own i) b hb
 have hne : g ≠ b:=fun e => h.fam.neT h.blk (fm_ty R M K t v) i (by rw [hb,e])
 refine ⟨h.bl.setCell (p:=⟨b,j,none⟩) hB _,h.gB,?_,(h.fam.set i (by rw [fm_val];exact hv) hn j u).congr hf⟩
 rw [Below.heap_setCell _ _ _ _ hne,h.blk]
 unfold lkC
 rw [hvv _ (.inl rfl),hvv _ (.inr (.inl rfl)),hvv _ (.inr (.inr (.inl rfl))),hvv _ (.inr (.inr (.inr (.inl rfl)))),hvv _ (.inr (.inr (.inr (.inr (.inl rfl))))),hvv _ (.inr (.inr (.inr (.inr (.inr rfl)))))]
theorem KM.setLa {o W : World} {g R M K rc : Nat} {ra : Option Addr} {t : Lt} {v : Ow → Value} (h : KM o W g ra rc R M K t v) {b cap : Nat} (hv : v .la = .slice (some ⟨b,0,none⟩) R cap) (k : Nat) (x : Int) : KM o (W.setCell ⟨b,k,none⟩ (.int .i64 x)) g ra rc R M K { t with la:=put t.la k x } v:=by
 refine h.setIn .la hv rfl k _ _ _ (fun _ _ => rfl) (fun i => ?_)
 unfold upd
 split
 ·rename_i e
  subst e;show Rw.mk _ _ _ _ _ = Rw.mk _ _ _ _ _
  congr 1
  symm
  exact rwI_set R _ _ k _ (congrArg (Value.int .i64) (put_same _ _ _)) (fun j hj => congrArg (Value.int .i64) (put_other _ _ _ _ hj))
 ·rename_i e
  rcases i with ⟨_ | _,_ | _ | _⟩ | ⟨c,_ | _ | _⟩ <;> first | rfl | exact absurd rfl e
theorem KM.laAt {o W : World} {g R M K rc : Nat} {ra : Option Addr} {t : Lt} {v : Ow → Value} (h : KM o W g ra rc R M K t v) (k : Nat) (hk : k < R) : ∃ b cap,v .la = .slice (some ⟨b,0,none⟩) R cap ∧ W.cell? ⟨b,k,none⟩ = some (.int .i64 (t.la k)) ∧ W.frozen? ⟨b,k,none⟩ = false:=by
 obtain ⟨b,cap,e,_,_,_,hc⟩:=own_rw (h.fam.own .la) k hk
 have e' : v .la = _:=e
 refine ⟨b,cap,e',hc,?_⟩
 have ho:=h.fam.own .la
 unfold Rw.In at ho
 rw [e] at ho
 exact ho.frozenAt k
theorem KM.setSh {o W : World} {g R M K rc : Nat} {ra : Option Addr} {t : Lt} {v : Ow → Value} (h : KM o W g ra rc R M K t v) {b cap : Nat} (hv : v .sh = .slice (some ⟨b,0,none⟩) M cap) (k : Nat) (x : Int) : KM o (W.setCell ⟨b,k,none⟩ (.int .i64 x)) g ra rc R M K { t with sh:=put t.sh k x } v:=by
 refine h.setIn .sh hv rfl k _ _ _ (fun _ _ => rfl) (fun i => ?_)
 unfold upd
 split
 ·rename_i e
  subst e;show Rw.mk _ _ _ _ _ = Rw.mk _ _ _ _ _
  congr 1
  symm
  exact rwI_set M _ _ k _ (congrArg (Value.int .i64) (put_same _ _ _)) (fun j hj => congrArg (Value.int .i64) (put_other _ _ _ _ hj))
 ·rename_i e
  rcases i with ⟨_ | _,_ | _ | _⟩ | ⟨c,_ | _ | _⟩ <;> first | rfl | exact absurd rfl e
theorem KM.shAt {o W : World} {g R M K rc : Nat} {ra : Option Addr} {t : Lt} {v : Ow → Value} (h : KM o W g ra rc R M K t v) (k : Nat) (hk : k < M) : ∃ b cap,v .sh = .slice (some ⟨b,0,none⟩) M cap ∧ W.cell? ⟨b,k,none⟩ = some (.int .i64 (t.sh k)) ∧ W.frozen? ⟨b,k,none⟩ = false:=by
 obtain ⟨b,cap,e,_,_,_,hc⟩:=own_rw (h.fam.own .sh) k hk
 have e' : v .sh = _:=e
 refine ⟨b,cap,e',hc,?_⟩
 have ho:=h.fam.own .sh
 unfold Rw.In at ho
 rw [e] at ho
 exact ho.frozenAt k
theorem KM.osAt {o W : World} {g R M K rc : Nat} {ra : Option Addr} {t : Lt} {v : Ow → Value} (h : KM o W g ra rc R M K t v) (k : Nat) (hk : k < M) : ∃ b cap,v .os = .slice (some ⟨b,0,none⟩) M cap ∧ W.cell? ⟨b,k,none⟩ = some (v (.sn k)) ∧ W.frozen? ⟨b,k,none⟩ = false:=by
 obtain ⟨b,cap,e,_,_,_,hc⟩:=own_rw (h.fam.own .os) k hk
 have e' : v .os = _:=e
 refine ⟨b,cap,e',hc,?_⟩
 have ho:=h.fam.own .os
 unfold Rw.In at ho
 rw [e] at ho
 exact ho.frozenAt k
theorem KM.snIs {o W : World} {g R M K rc : Nat} {ra : Option Addr} {t : Lt} {v : Ow → Value} (h : KM o W g ra rc R M K t v) (k : Nat) : ∃ a c,v (.sn k) = .slice a (t.sn k).length c ∧ NR W a (t.sn k):=by
 have ho : W.ownsRow o.heap.size 3 1 (v (.sn k)) (t.sn k).length ((t.sn k).map (Value.int .i64)):=h.fam.own (.sn k)
 obtain ⟨a,c,e,h1⟩:=own_read1 0 ho rfl
 refine ⟨a,c,e,?_⟩
 rcases h1 with h1 | ⟨b,hb,h1⟩
 ·exact .inl h1
 ·exact .inr ⟨b,0,hb,fun j hj => by rw [Nat.zero_add];exact h1 j hj⟩
theorem KM.app_sn {o W : World} {g R M K rc : Nat} {ra : Option Addr} {t : Lt} {v : Ow → Value} {W1 : World} (h : KM o W g ra rc R M K t v) (k : Nat) (hk : k < M) (x : Int) (u : Value) (ho : W1.ownsRow o.heap.size 3 1 u ((t.sn k).length + 1) ((t.sn k).map (Value.int .i64) ++ [.int .i64 x])) (hg : W.grownBy W1 (v (.sn k)).ownBlock) (hat : u.ownBlock = (v (.sn k)).ownBlock ∨ u.ownBlock = some W.heap.size) {b cap : Nat} (hv : v .os = .slice (some ⟨b,0,none⟩) M cap) : KM o (W1.setCell ⟨b,k,none⟩ u) g ra rc R M K { t with sn:=put t.sn k (t.sn k ++ [x]) } (vpt v (.sn k) u):=by
 have hF:=h.fam.grown (W':=W1) (.sn k) ⟨3,1,u,(t.sn k).length + 1,(t.sn k).map (Value.int .i64) ++ [Value.int .i64 x]⟩ (by rw [fm_val];exact hg) (show World.ownsRow _ _ _ _ _ _ _ from ho) (by
  rw [fm_val];rcases hat with e | e
  ·exact .inl e
  ·refine .inr fun b hb => ?_
   have hb' : u.ownBlock = some b:=hb
   rw [e] at hb'
   injection hb' with hb'
   omega)
 have hbk : ∀ b',(v (.sn k)).ownBlock = some b' → o.heap.size ≤ b':=fun b' e => own_blkI (h.fam.own (.sn k)) b' (by rw [fm_val];exact e)
 have hbl : Below o.heap.size o W1:=h.bl.grown hg h.bl.size hbk
 have hgb : W1.heap[g]? = some (.cells (lkC ra M rc v) 116 (0,0)):=by
  rw [hg.block g (blk_lt h.blk) (fun e => h.fam.neT h.blk (fm_ty R M K t v) (.sn k) (by rw [fm_val];exact e.symm))]
  exact h.blk
 have hob : (fm R M K t v .os).val.ownBlock = some b:=by rw [fm_val,hv];rfl
 have hB : o.heap.size ≤ b:=own_blkI (h.fam.own .os) b hob
 have hne : g ≠ b:=fun e => h.fam.neT h.blk (fm_ty R M K t v) .os (by rw [hob,e])
 refine ⟨hbl.setCell (p:=⟨b,k,none⟩) hB _,h.gB,?_,(hF.set .os (by rw [upd_other _ _ _ _ (by intro h;cases h),fm_val];exact hv) (by rw [upd_other _ _ _ _ (by intro h;cases h)];rfl) k u).congr (fun i => ?_)⟩
 ·rw [Below.heap_setCell _ _ _ _ hne,hgb]
  unfold lkC vpt;simp
 ·rw [upd_other (fm R M K t v) (.sn k) .os _ (by intro h;cases h)]
  unfold upd;by_cases e1 : i = .os
  ·subst e1
   rw [if_pos rfl];show Rw.mk _ _ (vpt v (.sn k) u .os) _ _ = Rw.mk _ _ _ _ ((rwI M (fun c => v (.sn c))).set k u)
   rw [rwI_set M (fun c => v (.sn c)) (fun c => vpt v (.sn k) u (.sn c)) k u (by simp [vpt]) (fun j hj => by simp [vpt,hj])]
   rw [show vpt v (.sn k) u .os = v .os by simp [vpt]]
   rfl
  ·rw [if_neg e1]
   by_cases e2 : i = .sn k
   ·subst e2
    rw [if_pos rfl];show Rw.mk _ _ (vpt v (.sn k) u (.sn k)) (put t.sn k (t.sn k ++ [x]) k).length ((put t.sn k (t.sn k ++ [x]) k).map _) = _
    rw [put_same];simp [vpt]
   ·rw [if_neg e2]
    rcases i with ⟨_ | _,_ | _ | _⟩ | ⟨c,_ | _ | _⟩
    ·simp [fm,vpt]
    ·simp [fm,vpt]
    ·simp [fm,vpt]
    ·exact absurd rfl e1
    ·simp [fm,vpt]
    ·simp [fm,vpt]
    ·have hc : c ≠ k:=fun e => e2 (by rw [e])
     show Rw.mk _ _ (vpt v (.sn k) u (.sn c)) (put t.sn k (t.sn k ++ [x]) c).length ((put t.sn k (t.sn k ++ [x]) c).map _) = _
     rw [put_other _ _ _ _ hc];simp [vpt,hc,fm]
    ·simp [fm,vpt]
    ·simp [fm,vpt]
theorem KM.otAt {o W : World} {g R M K rc : Nat} {ra : Option Addr} {t : Lt} {v : Ow → Value} (h : KM o W g ra rc R M K t v) (k : Nat) (hk : k < M) : ∃ b cap,v .ot = .slice (some ⟨b,0,none⟩) M cap ∧ W.cell? ⟨b,k,none⟩ = some (v (.tk k)) ∧ W.frozen? ⟨b,k,none⟩ = false:=by
 obtain ⟨b,cap,e,_,_,_,hc⟩:=own_rw (h.fam.own .ot) k hk
 have e' : v .ot = _:=e
 refine ⟨b,cap,e',hc,?_⟩
 have ho:=h.fam.own .ot
 unfold Rw.In at ho
 rw [e] at ho
 exact ho.frozenAt k
theorem KM.tkIs {o W : World} {g R M K rc : Nat} {ra : Option Addr} {t : Lt} {v : Ow → Value} (h : KM o W g ra rc R M K t v) (k : Nat) : ∃ a c,v (.tk k) = .slice a (t.tk k).length c ∧ NR W a (t.tk k):=by
 have ho : W.ownsRow o.heap.size 3 1 (v (.tk k)) (t.tk k).length ((t.tk k).map (Value.int .i64)):=h.fam.own (.tk k)
 obtain ⟨a,c,e,h1⟩:=own_read1 0 ho rfl
 refine ⟨a,c,e,?_⟩
 rcases h1 with h1 | ⟨b,hb,h1⟩
 ·exact .inl h1
 ·exact .inr ⟨b,0,hb,fun j hj => by rw [Nat.zero_add];exact h1 j hj⟩
theorem KM.app_tk {o W : World} {g R M K rc : Nat} {ra : Option Addr} {t : Lt} {v : Ow → Value} {W1 : World} (h : KM o W g ra rc R M K t v) (k : Nat) (hk : k < M) (x : Int) (u : Value) (ho : W1.ownsRow o.heap.size 3 1 u ((t.tk k).length + 1) ((t.tk k).map (Value.int .i64) ++ [.int .i64 x])) (hg : W.grownBy W1 (v (.tk k)).ownBlock) (hat : u.ownBlock = (v (.tk k)).ownBlock ∨ u.ownBlock = some W.heap.size) {b cap : Nat} (hv : v .ot = .slice (some ⟨b,0,none⟩) M cap) : KM o (W1.setCell ⟨b,k,none⟩ u) g ra rc R M K { t with tk:=put t.tk k (t.tk k ++ [x]) } (vpt v (.tk k) u):=by
 have hF:=h.fam.grown (W':=W1) (.tk k) ⟨3,1,u,(t.tk k).length + 1,(t.tk k).map (Value.int .i64) ++ [Value.int .i64 x]⟩ (by rw [fm_val];exact hg) (show World.ownsRow _ _ _ _ _ _ _ from ho) (by
  rw [fm_val];rcases hat with e | e
  ·exact .inl e
  ·refine .inr fun b hb => ?_
   have hb' : u.ownBlock = some b:=hb
   rw [e] at hb'
   injection hb' with hb'
   omega)
 have hbk : ∀ b',(v (.tk k)).ownBlock = some b' → o.heap.size ≤ b':=fun b' e => own_blkI (h.fam.own (.tk k)) b' (by rw [fm_val];exact e)
 have hbl : Below o.heap.size o W1:=h.bl.grown hg h.bl.size hbk
 have hgb : W1.heap[g]? = some (.cells (lkC ra M rc v) 116 (0,0)):=by
  rw [hg.block g (blk_lt h.blk) (fun e => h.fam.neT h.blk (fm_ty R M K t v) (.tk k) (by rw [fm_val];exact e.symm))]
  exact h.blk
 have hob : (fm R M K t v .ot).val.ownBlock = some b:=by rw [fm_val,hv];rfl
 have hB : o.heap.size ≤ b:=own_blkI (h.fam.own .ot) b hob
 have hne : g ≠ b:=fun e => h.fam.neT h.blk (fm_ty R M K t v) .ot (by rw [hob,e])
 refine ⟨hbl.setCell (p:=⟨b,k,none⟩) hB _,h.gB,?_,(hF.set .ot (by rw [upd_other _ _ _ _ (by intro h;cases h),fm_val];exact hv) (by rw [upd_other _ _ _ _ (by intro h;cases h)];rfl) k u).congr (fun i => ?_)⟩
 ·rw [Below.heap_setCell _ _ _ _ hne,hgb]
  unfold lkC vpt;simp
 ·rw [upd_other (fm R M K t v) (.tk k) .ot _ (by intro h;cases h)]
  unfold upd;by_cases e1 : i = .ot
  ·subst e1
   rw [if_pos rfl];show Rw.mk _ _ (vpt v (.tk k) u .ot) _ _ = Rw.mk _ _ _ _ ((rwI M (fun c => v (.tk c))).set k u)
   rw [rwI_set M (fun c => v (.tk c)) (fun c => vpt v (.tk k) u (.tk c)) k u (by simp [vpt]) (fun j hj => by simp [vpt,hj])]
   rw [show vpt v (.tk k) u .ot = v .ot by simp [vpt]]
   rfl
  ·rw [if_neg e1]
   by_cases e2 : i = .tk k
   ·subst e2
    rw [if_pos rfl];show Rw.mk _ _ (vpt v (.tk k) u (.tk k)) (put t.tk k (t.tk k ++ [x]) k).length ((put t.tk k (t.tk k ++ [x]) k).map _) = _
    rw [put_same];simp [vpt]
   ·rw [if_neg e2]
    rcases i with ⟨_ | _,_ | _ | _⟩ | ⟨c,_ | _ | _⟩
    ·simp [fm,vpt]
    ·simp [fm,vpt]
    ·simp [fm,vpt]
    ·simp [fm,vpt]
    ·exact absurd rfl e1
    ·simp [fm,vpt]
    ·simp [fm,vpt]
    ·have hc : c ≠ k:=fun e => e2 (by rw [e])
     show Rw.mk _ _ (vpt v (.tk k) u (.tk c)) (put t.tk k (t.tk k ++ [x]) c).length ((put t.tk k (t.tk k ++ [x]) c).map _) = _
     rw [put_other _ _ _ _ hc];simp [vpt,hc,fm]
    ·simp [fm,vpt]
theorem KM.ogAt {o W : World} {g R M K rc : Nat} {ra : Option Addr} {t : Lt} {v : Ow → Value} (h : KM o W g ra rc R M K t v) (k : Nat) (hk : k < K) : ∃ b cap,v .og = .slice (some ⟨b,0,none⟩) K cap ∧ W.cell? ⟨b,k,none⟩ = some (v (.fr k)) ∧ W.frozen? ⟨b,k,none⟩ = false:=by
 obtain ⟨b,cap,e,_,_,_,hc⟩:=own_rw (h.fam.own .og) k hk
 have e' : v .og = _:=e
 refine ⟨b,cap,e',hc,?_⟩
 have ho:=h.fam.own .og
 unfold Rw.In at ho
 rw [e] at ho
 exact ho.frozenAt k
theorem KM.frIs {o W : World} {g R M K rc : Nat} {ra : Option Addr} {t : Lt} {v : Ow → Value} (h : KM o W g ra rc R M K t v) (k : Nat) : ∃ a c,v (.fr k) = .slice a (t.fr k).length c ∧ NR W a (t.fr k):=by
 have ho : W.ownsRow o.heap.size 3 1 (v (.fr k)) (t.fr k).length ((t.fr k).map (Value.int .i64)):=h.fam.own (.fr k)
 obtain ⟨a,c,e,h1⟩:=own_read1 0 ho rfl
 refine ⟨a,c,e,?_⟩
 rcases h1 with h1 | ⟨b,hb,h1⟩
 ·exact .inl h1
 ·exact .inr ⟨b,0,hb,fun j hj => by rw [Nat.zero_add];exact h1 j hj⟩
theorem KM.app_fr {o W : World} {g R M K rc : Nat} {ra : Option Addr} {t : Lt} {v : Ow → Value} {W1 : World} (h : KM o W g ra rc R M K t v) (k : Nat) (hk : k < K) (x : Int) (u : Value) (ho : W1.ownsRow o.heap.size 3 1 u ((t.fr k).length + 1) ((t.fr k).map (Value.int .i64) ++ [.int .i64 x])) (hg : W.grownBy W1 (v (.fr k)).ownBlock) (hat : u.ownBlock = (v (.fr k)).ownBlock ∨ u.ownBlock = some W.heap.size) {b cap : Nat} (hv : v .og = .slice (some ⟨b,0,none⟩) K cap) : KM o (W1.setCell ⟨b,k,none⟩ u) g ra rc R M K { t with fr:=put t.fr k (t.fr k ++ [x]) } (vpt v (.fr k) u):=by
 have hF:=h.fam.grown (W':=W1) (.fr k) ⟨3,1,u,(t.fr k).length + 1,(t.fr k).map (Value.int .i64) ++ [Value.int .i64 x]⟩ (by rw [fm_val];exact hg) (show World.ownsRow _ _ _ _ _ _ _ from ho) (by
  rw [fm_val];rcases hat with e | e
  ·exact .inl e
  ·refine .inr fun b hb => ?_
   have hb' : u.ownBlock = some b:=hb
   rw [e] at hb'
   injection hb' with hb'
   omega)
 have hbk : ∀ b',(v (.fr k)).ownBlock = some b' → o.heap.size ≤ b':=fun b' e => own_blkI (h.fam.own (.fr k)) b' (by rw [fm_val];exact e)
 have hbl : Below o.heap.size o W1:=h.bl.grown hg h.bl.size hbk
 have hgb : W1.heap[g]? = some (.cells (lkC ra M rc v) 116 (0,0)):=by
  rw [hg.block g (blk_lt h.blk) (fun e => h.fam.neT h.blk (fm_ty R M K t v) (.fr k) (by rw [fm_val];exact e.symm))]
  exact h.blk
 have hob : (fm R M K t v .og).val.ownBlock = some b:=by rw [fm_val,hv];rfl
 have hB : o.heap.size ≤ b:=own_blkI (h.fam.own .og) b hob
 have hne : g ≠ b:=fun e => h.fam.neT h.blk (fm_ty R M K t v) .og (by rw [hob,e])
 refine ⟨hbl.setCell (p:=⟨b,k,none⟩) hB _,h.gB,?_,(hF.set .og (by rw [upd_other _ _ _ _ (by intro h;cases h),fm_val];exact hv) (by rw [upd_other _ _ _ _ (by intro h;cases h)];rfl) k u).congr (fun i => ?_)⟩
 ·rw [Below.heap_setCell _ _ _ _ hne,hgb]
  unfold lkC vpt;simp
 ·rw [upd_other (fm R M K t v) (.fr k) .og _ (by intro h;cases h)]
  unfold upd;by_cases e1 : i = .og
  ·subst e1
   rw [if_pos rfl];show Rw.mk _ _ (vpt v (.fr k) u .og) _ _ = Rw.mk _ _ _ _ ((rwI K (fun c => v (.fr c))).set k u)
   rw [rwI_set K (fun c => v (.fr c)) (fun c => vpt v (.fr k) u (.fr c)) k u (by simp [vpt]) (fun j hj => by simp [vpt,hj])]
   rw [show vpt v (.fr k) u .og = v .og by simp [vpt]]
   rfl
  ·rw [if_neg e1]
   by_cases e2 : i = .fr k
   ·subst e2
    rw [if_pos rfl];show Rw.mk _ _ (vpt v (.fr k) u (.fr k)) (put t.fr k (t.fr k ++ [x]) k).length ((put t.fr k (t.fr k ++ [x]) k).map _) = _
    rw [put_same];simp [vpt]
   ·rw [if_neg e2]
    rcases i with ⟨_ | _,_ | _ | _⟩ | ⟨c,_ | _ | _⟩
    ·simp [fm,vpt]
    ·simp [fm,vpt]
    ·simp [fm,vpt]
    ·simp [fm,vpt]
    ·simp [fm,vpt]
    ·exact absurd rfl e1
    ·simp [fm,vpt]
    ·simp [fm,vpt]
    ·have hc : c ≠ k:=fun e => e2 (by rw [e])
     show Rw.mk _ _ (vpt v (.fr k) u (.fr c)) (put t.fr k (t.fr k ++ [x]) c).length ((put t.fr k (t.fr k ++ [x]) c).map _) = _
     rw [put_other _ _ _ _ hc];simp [vpt,hc,fm]
theorem KM.nil_fr {o W : World} {g R M K rc : Nat} {ra : Option Addr} {t : Lt} {v : Ow → Value} (h : KM o W g ra rc R M K t v) (k : Nat) {b cap : Nat} (hv : v .og = .slice (some ⟨b,0,none⟩) K cap) : KM o (W.setCell ⟨b,k,none⟩ (.slice none 0 0)) g ra rc R M K { t with fr:=put t.fr k [] } (vpt v (.fr k) (.slice none 0 0)):=by
 have hF:=h.fam.nil (.fr k)
 have hob : (fm R M K t v .og).val.ownBlock = some b:=by rw [fm_val,hv];rfl
 have hB : o.heap.size ≤ b:=own_blkI (h.fam.own .og) b hob
 have hne : g ≠ b:=fun e => h.fam.neT h.blk (fm_ty R M K t v) .og (by rw [hob,e])
 refine ⟨h.bl.setCell (p:=⟨b,k,none⟩) hB _,h.gB,?_,(hF.set .og (by rw [upd_other _ _ _ _ (by intro h;cases h),fm_val];exact hv) (by rw [upd_other _ _ _ _ (by intro h;cases h)];rfl) k (.slice none 0 0)).congr (fun i => ?_)⟩
 ·rw [Below.heap_setCell _ _ _ _ hne,h.blk]
  unfold lkC vpt;simp
 ·rw [upd_other (fm R M K t v) (.fr k) .og _ (by intro h;cases h)]
  unfold upd;by_cases e1 : i = .og
  ·subst e1
   rw [if_pos rfl];show Rw.mk _ _ (vpt v (.fr k) (.slice none 0 0) .og) _ _ = Rw.mk _ _ _ _ ((rwI K (fun c => v (.fr c))).set k (.slice none 0 0))
   rw [rwI_set K (fun c => v (.fr c)) (fun c => vpt v (.fr k) (.slice none 0 0) (.fr c)) k (.slice none 0 0) (by simp [vpt]) (fun j hj => by simp [vpt,hj])]
   rw [show vpt v (.fr k) (.slice none 0 0) .og = v .og by simp [vpt]]
   rfl
  ·rw [if_neg e1]
   by_cases e2 : i = .fr k
   ·subst e2
    rw [if_pos rfl];show Rw.mk _ _ (vpt v (.fr k) (.slice none 0 0) (.fr k)) (put t.fr k [] k).length ((put t.fr k [] k).map _) = _
    rw [put_same];simp [vpt,fm]
   ·rw [if_neg e2]
    rcases i with ⟨_ | _,_ | _ | _⟩ | ⟨c,_ | _ | _⟩
    ·simp [fm,vpt]
    ·simp [fm,vpt]
    ·simp [fm,vpt]
    ·simp [fm,vpt]
    ·simp [fm,vpt]
    ·exact absurd rfl e1
    ·simp [fm,vpt]
    ·simp [fm,vpt]
    ·have hc : c ≠ k:=fun e => e2 (by rw [e])
     show Rw.mk _ _ (vpt v (.fr k) (.slice none 0 0) (.fr c)) (put t.fr k [] c).length ((put t.fr k [] c).map _) = _
     rw [put_other _ _ _ _ hc];simp [vpt,hc,fm]
theorem KM.link {o W : World} {g R M K rc : Nat} {ra : Option Addr} {t : Lt} {v : Ow → Value} {W1 : World} (h : KM o W g ra rc R M K t v) (x : Int × Int) (u : Value) (ho : W1.ownsRow o.heap.size 109 2 u (t.ed.length + 1) (edC t.ed ++ [.int .i64 x.1,.int .i64 x.2])) (hg : W.grownBy W1 (v .ed).ownBlock) (hat : u.ownBlock = (v .ed).ownBlock ∨ u.ownBlock = some W.heap.size) : KM o (W1.setCell ⟨g,0,none⟩ u) g ra rc R M K { t with ed:=t.ed ++ [x] } (vpt v .ed u):=by
 have hF:=h.fam.grown (W':=W1) .ed ⟨109,2,u,t.ed.length + 1,edC t.ed ++ [Value.int .i64 x.1,Value.int .i64 x.2]⟩ (by rw [fm_val];exact hg) (show World.ownsRow _ _ _ _ _ _ _ from ho) (by
  rw [fm_val];rcases hat with e | e
  ·exact .inl e
  ·refine .inr fun b hb => ?_
   have hb' : u.ownBlock = some b:=hb
   rw [e] at hb'
   injection hb' with hb'
   omega)
 have hbk : ∀ b',(v .ed).ownBlock = some b' → o.heap.size ≤ b':=fun b' e => own_blkI (h.fam.own .ed) b' (by rw [fm_val];exact e)
 have hbl : Below o.heap.size o W1:=h.bl.grown hg h.bl.size hbk
 have hgb : W1.heap[g]? = some (.cells (lkC ra M rc v) 116 (0,0)):=by
  rw [hg.block g (blk_lt h.blk) (fun e => h.fam.neT h.blk (fm_ty R M K t v) .ed (by rw [fm_val];exact e.symm))]
  exact h.blk
 refine ⟨hbl.setCell (p:=⟨g,0,none⟩) h.gB _,h.gB,?_,(hF.setT hgb (fun i => ?_) u).congr (fun i => ?_)⟩
 ·rw [blk_set hgb]
  unfold lkC vpt;simp
 ·unfold upd
  split
  ·show 109 ≠ 116
   decide
  ·exact fm_ty R M K t v i
 ·unfold upd
  by_cases e1 : i = .ed
  ·subst e1
   rw [if_pos rfl];show Rw.mk _ _ (vpt v .ed u .ed) (t.ed ++ [x]).length (edC (t.ed ++ [x])) = _
   rw [edC_app,List.length_append];simp [vpt,edC]
  ·rw [if_neg e1]
   rcases i with ⟨_ | _,_ | _ | _⟩ | ⟨c,_ | _ | _⟩
   ·exact absurd rfl e1
   ·simp [fm,vpt]
   ·simp [fm,vpt]
   ·simp [fm,vpt]
   ·simp [fm,vpt]
   ·simp [fm,vpt]
   ·simp [fm,vpt]
   ·simp [fm,vpt]
   ·simp [fm,vpt]
end LW
end Go.Proofs.Ytfbnakmmmphedaa
namespace Go.Proofs.Ytfbnakmmmphedaa
open Go.RowKit
namespace LW
open Mc
theorem edinfo : (Try.prog.info? 109).map (fun i => (i.zero,i.size,i.bytes)) = some (some (.agg #[.int .i64 0,.int .i64 0]),2,16):=by kernel_rfl
theorem own_openE {W : World} {B n k : Nat} {t : TypeId} {v : Value} {ys : List Value} (h : W.ownsRow B t k v n ys) : ∃ a c,v = .slice a n c:=by
 rcases h.2 with ⟨rfl,rfl⟩ | ⟨g,cap,cur,rfl,_⟩
 ·exact ⟨_,_,rfl⟩
 ·exact ⟨_,_,rfl⟩
theorem cells_two (w : World) (x y : Value) (t : TypeId) : ∀ j u,[x,y][j]? = some u → (w.alloc (.cells #[x,y] t)).cell? ((⟨w.heap.size,0,none⟩ : Addr).add j) = some u:=by
 intro j u hj
 have hadd : (⟨w.heap.size,0,none⟩ : Addr).add j = ⟨w.heap.size,j,none⟩:=by unfold Addr.add;split <;> simp_all
 rw [hadd,cell_of_row _ _ j _ t (0,0) (heap_alloc_new w _)]
 simpa using hj
theorem plink {o : World} {g R M K rc : Nat} {ra : Option Addr} {t : Lt} {v : Ow → Value} (f : Int) (n : Nat) (w : World) (h : KM o w g ra rc R M K t v) (hl : t.ed.length ≤ 4000000000) :
  Calls Try.prog 49 #[.pointer (some ⟨g,0,none⟩),.int .i64 f,.int .i64 (n : Int)] w fun e w' => e = .returned (.tuple #[]) ∧ (∃ v',KM o w' g ra rc R M K { t with ed:=t.ed ++ Tr.lnk f n } v' ∧ ∀ i,i ≠ .ed → v' i = v i) ∧ (∀ (p : Nat) (cs : Array Value) (ty : TypeId) (fr : Nat × Nat),w.heap[p]? = some (.cells cs ty fr) → ty ≠ 109 → ty ≠ 116 → w'.heap[p]? = some (.cells cs ty fr)):=by
 have HM:=ζ h
 by_cases hf : f = -1
 ·have kf : (f == -1) = true:=by simp [hf]
  have HR : Hid (∃ v',KM o w g ra rc R M K { t with ed:=t.ed ++ Tr.lnk f n } v' ∧ ∀ i,i ≠ .ed → v' i = v i):=by
   refine ⟨v,?_,fun _ _ => rfl⟩
   unfold Tr.lnk
   rw [if_pos hf,List.append_nil];exact h
  clear h hf HM;go_enter Try.func49,Try.ntmps49
  go_wp2;go_end0
  exact ⟨rfl,HR.out,fun _ _ _ _ h _ _ => h⟩
 ·have kf : (f == -1) = false:=by simp [hf]
  have ho : w.ownsRow o.heap.size 109 2 (v .ed) t.ed.length (edC t.ed):=h.fam.own .ed
  obtain ⟨ea,ec,hed⟩:=own_openE ho
  have hAl : Below w.heap.size w (w.alloc (.cells #[.int .i64 f,.int .i64 (n : Int)] 109)):=(Below.refl _ _).alloc (Nat.le_refl _) _
  have HA:=ζ (h.below hAl)
  have HO : Hid ((w.alloc (.cells #[.int .i64 f,.int .i64 (n : Int)] 109)).ownsRow o.heap.size 109 2 (.slice ea t.ed.length ec) t.ed.length (edC t.ed)):=by
   show World.ownsRow _ _ _ _ _ _ _
   rw [← hed];exact own_belowI ho hAl
  obtain ⟨x0,x1,x2,x3,x4,x5,x6⟩:=cellsY7 h.blk
  rw [hed] at x0;have HF5 : Hid (∀ v5 w5,w5.ownsRow o.heap.size 109 2 v5 (t.ed.length + 1) (edC t.ed ++ [.int .i64 f,.int .i64 (n : Int)]) → (w.alloc (.cells #[.int .i64 f,.int .i64 (n : Int)] 109)).grownBy w5 (Value.slice ea t.ed.length ec).ownBlock → (v5.ownBlock = (Value.slice ea t.ed.length ec).ownBlock ∨ v5.ownBlock = some (w.alloc (.cells #[.int .i64 f,.int .i64 (n : Int)] 109)).heap.size) → (∃ va vc,v5 = .slice va (t.ed.length + 1) vc) ∧ (∃ v',KM o (w5.setCell ⟨g,0,none⟩ v5) g ra rc R M K { t with ed:=t.ed ++ Tr.lnk f n } v' ∧ ∀ i,i ≠ .ed → v' i = v i) ∧ (∀ (p : Nat) (cs : Array Value) (ty : TypeId) (fr : Nat × Nat),w.heap[p]? = some (.cells cs ty fr) → ty ≠ 109 → ty ≠ 116 → (w5.setCell ⟨g,0,none⟩ v5).heap[p]? = some (.cells cs ty fr)) ∧ w5.frozen? ⟨g,0,none⟩ = false ∧ ∃ z,w5.cell? ⟨g,0,none⟩ = some z):=fun v5 w5 h1 h2 h3 => by
   have hbg : w5.heap[g]? = some (.cells (lkC ra M rc v) 116 (0,0)):=by
    rw [h2.block g (blk_lt HA.out.blk) (fun e => HA.out.fam.neT HA.out.blk (fm_ty R M K t v) .ed (by rw [fm_val,hed];exact e.symm))]
    exact HA.out.blk
   refine ⟨own_openE h1,⟨vpt v .ed v5,?_,fun i hi => ?_⟩,fun p cs ty fr hp ht ht2 => ?_,by simp [World.frozen?,hbg],v .ed,?_⟩
   ·unfold Tr.lnk
    rw [if_neg hf];exact HA.out.link (f,(n : Int)) v5 h1 (by rw [hed];exact h2) (by rw [hed];exact h3)
   ·simp [vpt,hi]
   ·have hp2:=blk_keep hp hAl
    refine blk_setN ?_ hbg ht2
    rw [h2.block p (blk_lt hp2) (fun e => own_neB HO.out hp2 (fun e2 => ht e2.symm) e.symm)]
    exact hp2
   ·exact blk_cell hbg rfl
  have HBS : Hid (o.heap.size ≤ (w.alloc (.cells #[.int .i64 f,.int .i64 (n : Int)] 109)).heap.size):=HA.out.bl.size
  clear h hf HM ho hAl hed x1 x2 x3 x4 x5 x6 HA;generalize t.ed.length = N at *;obtain ⟨ie,hie,hz0,hz1,hz2⟩:=info_parts' edinfo
  go_enter Try.func49,Try.ntmps49
  go_wp2_with (at_builtin;refine wpList_append_own_at _ rfl _ _ 91 rfl o.heap.size 109 ie _ 2 16 Try.underlying91 hie hz0 hz1 hz2 rfl (by decide) _ N (edC t.ed) rfl HO.out ⟨w.heap.size,0,none⟩ 1 1 [.int .i64 f,.int .i64 (n : Int)] rfl rfl (cells_two _ _ _ _) (by simp [Value.oneCell']) (by unfold maxLen;omega) (by omega) HBS.out ?_;(intro v5 w5 h51 h52 _ h53);obtain ⟨⟨va,vc,rfl⟩,hK,hPl,h56,z5,h57⟩:=HF5.out v5 w5 h51 h52 h53;have HKK:=ζ hK;have HPl:=ζ hPl;clear h51 h52 h53 hK hPl HF5)
  go_end0
  exact ⟨rfl,HKK.out,HPl.out⟩
end LW
end Go.Proofs.Ytfbnakmmmphedaa
namespace Go.Proofs.Ytfbnakmmmphedaa
open Go.RowKit
namespace LW
open Mc
theorem wp_append_at {P : Program} {w : World} {o : Oper} {a : Act} {K : Act → World → Prop} {Q : Exit → Act → World → Prop} (s x : Operand) (t : TypeId)
  (ho : o.op = .call { callee:=.builtin .append,args:=#[s,x],argTypes:=#[t,t] })
  (base : Nat) (e : TypeId) (i : TypeInfo) (z : Value) (size bytes : Nat) (ht : P.underlying t = some (.slice e)) (hi : P.info? e = some i) (hz : i.zero = some z)
  (hsize : i.size = size) (hby : i.bytes = bytes) (hzs : z.cells.size = size) (hsz : 0 < size)
  (v : Value) (n : Nat) (xs : List Value) (hs : a.eval s = v) (hown : w.ownsRow base e size v n xs)
  (ad : Addr) (m c : Nat) (news : List Value) (hx : a.eval x = .slice (some ad) m c) (hl : news.length = m * size) (hnews : ∀ j u,news[j]? = some u → w.cell? (ad.add j) = some u) (h1 : ∀ u ∈ news,u.oneCell' = true)
  (h63 : n + m ≤ maxLen) (hbytes : (n + m) * bytes ≤ 140737488355328) (hbase : base ≤ w.heap.size)
  (h : ∀ v' w',w'.ownsRow base e size v' (n + m) (xs ++ news) → w.grownBy w' v.ownBlock → (v'.ownBlock = v.ownBlock ∨ v'.ownBlock = some w.heap.size) → K (a.put o.dst v') w') : o.wp P a w K Q:=by
 obtain ⟨v',w',hr,h2,h3,h4,h5⟩:=run_append_own_at (P:=P) w base t o.type e i z size bytes ht hi hz hsize hby hzs hsz v n xs hown ad m c news hl hnews h1 h63 hbytes hbase
 unfold Oper.wp execOp
 simp only [ho,resolve,invoke,builtin,Sem.run_bind,Sem.run_pure,Result.andThen_ok,List.map_toArray,List.map_cons,List.map_nil,hs,hx,hr]
 exact h v' w' h2 h3 h5
theorem KM.snEnds {o W : World} {g R M K rc : Nat} {ra : Option Addr} {t : Lt} {v : Ow → Value} (h : KM o W g ra rc R M K t v) (k : Nat) (hk : k < M) {b cap : Nat} (hv : v .os = .slice (some ⟨b,0,none⟩) M cap) (x : Int) {Z : World} (hZ : Below W.heap.size W Z) (u : Value) (W5 : World) (ho : W5.ownsRow o.heap.size 3 1 u ((t.sn k).length + 1) ((t.sn k).map (Value.int .i64) ++ [.int .i64 x])) (hg : Z.grownBy W5 (v (.sn k)).ownBlock) (hat : u.ownBlock = (v (.sn k)).ownBlock ∨ u.ownBlock = some Z.heap.size) :
  (∃ ua uc,u = .slice ua ((t.sn k).length + 1) uc) ∧ (∀ (p : Nat) (cs : Array Value) (ty : TypeId) (fr : Nat × Nat),Z.heap[p]? = some (.cells cs ty fr) → ty ≠ 3 → ty ≠ 24 → W5.heap[p]? = some (.cells cs ty fr) ∧ (W5.setCell ⟨b,k,none⟩ u).heap[p]? = some (.cells cs ty fr)) ∧ W5.frozen? ⟨b,k,none⟩ = false ∧ (∃ z,W5.cell? ⟨b,k,none⟩ = some z) ∧ KM o (W5.setCell ⟨b,k,none⟩ u) g ra rc R M K { t with sn:=put t.sn k (t.sn k ++ [x]) } (vpt v (.sn k) u):=by
 have hz:=h.below hZ
 have hin : Z.ownsRow o.heap.size 3 1 (v (.sn k)) (t.sn k).length ((t.sn k).map (Value.int .i64)):=hz.fam.own (.sn k)
 have hou : Z.ownsRow o.heap.size 24 1 (v .os) M (rwI M (fun c => v (.sn c))):=hz.fam.own .os
 obtain ⟨b',cap',e',hc,hf⟩:=hz.osAt k hk
 rw [hv] at e'
 injection e' with e1 _ _
 injection e1 with e1
 injection e1 with e1
 subst e1
 rw [hv] at hou
 obtain ⟨_,cur,hbl⟩:=row_is hou rfl (by omega)
 have hne : ∀ (p : Nat) (cs : Array Value) (ty : TypeId) (fr : Nat × Nat),Z.heap[p]? = some (.cells cs ty fr) → ty ≠ 3 → W5.heap[p]? = some (.cells cs ty fr):=fun p cs ty fr hp ht => by
  rw [hg.block p (blk_lt hp) (fun e => own_neB hin hp (fun e2 => ht e2.symm) e.symm)]
  exact hp
 have hb5:=hne b _ _ _ hbl (by decide)
 refine ⟨own_openE ho,fun p cs ty fr hp ht ht2 => ⟨hne p cs ty fr hp ht,blk_setN (hne p cs ty fr hp ht) hb5 ht2⟩,by simp [World.frozen?,hb5],?_,hz.app_sn k hk x u ho hg hat hv⟩
 rw [cell_of (show W5.heap[b]? = Z.heap[b]? by rw [hb5,hbl])]
 exact ⟨_,hc⟩
theorem KM.tkEnds {o W : World} {g R M K rc : Nat} {ra : Option Addr} {t : Lt} {v : Ow → Value} (h : KM o W g ra rc R M K t v) (k : Nat) (hk : k < M) {b cap : Nat} (hv : v .ot = .slice (some ⟨b,0,none⟩) M cap) (x : Int) {Z : World} (hZ : Below W.heap.size W Z) (u : Value) (W5 : World) (ho : W5.ownsRow o.heap.size 3 1 u ((t.tk k).length + 1) ((t.tk k).map (Value.int .i64) ++ [.int .i64 x])) (hg : Z.grownBy W5 (v (.tk k)).ownBlock) (hat : u.ownBlock = (v (.tk k)).ownBlock ∨ u.ownBlock = some Z.heap.size) :
  (∃ ua uc,u = .slice ua ((t.tk k).length + 1) uc) ∧ (∀ (p : Nat) (cs : Array Value) (ty : TypeId) (fr : Nat × Nat),Z.heap[p]? = some (.cells cs ty fr) → ty ≠ 3 → ty ≠ 24 → W5.heap[p]? = some (.cells cs ty fr) ∧ (W5.setCell ⟨b,k,none⟩ u).heap[p]? = some (.cells cs ty fr)) ∧ W5.frozen? ⟨b,k,none⟩ = false ∧ (∃ z,W5.cell? ⟨b,k,none⟩ = some z) ∧ KM o (W5.setCell ⟨b,k,none⟩ u) g ra rc R M K { t with tk:=put t.tk k (t.tk k ++ [x]) } (vpt v (.tk k) u):=by
 have hz:=h.below hZ
 have hin : Z.ownsRow o.heap.size 3 1 (v (.tk k)) (t.tk k).length ((t.tk k).map (Value.int .i64)):=hz.fam.own (.tk k)
 have hou : Z.ownsRow o.heap.size 24 1 (v .ot) M (rwI M (fun c => v (.tk c))):=hz.fam.own .ot
 obtain ⟨b',cap',e',hc,hf⟩:=hz.otAt k hk
 rw [hv] at e'
 injection e' with e1 _ _
 injection e1 with e1
 injection e1 with e1
 subst e1
 rw [hv] at hou
 obtain ⟨_,cur,hbl⟩:=row_is hou rfl (by omega)
 have hne : ∀ (p : Nat) (cs : Array Value) (ty : TypeId) (fr : Nat × Nat),Z.heap[p]? = some (.cells cs ty fr) → ty ≠ 3 → W5.heap[p]? = some (.cells cs ty fr):=fun p cs ty fr hp ht => by
  rw [hg.block p (blk_lt hp) (fun e => own_neB hin hp (fun e2 => ht e2.symm) e.symm)]
  exact hp
 have hb5:=hne b _ _ _ hbl (by decide)
 refine ⟨own_openE ho,fun p cs ty fr hp ht ht2 => ⟨hne p cs ty fr hp ht,blk_setN (hne p cs ty fr hp ht) hb5 ht2⟩,by simp [World.frozen?,hb5],?_,hz.app_tk k hk x u ho hg hat hv⟩
 rw [cell_of (show W5.heap[b]? = Z.heap[b]? by rw [hb5,hbl])]
 exact ⟨_,hc⟩
theorem KM.frEnds {o W : World} {g R M K rc : Nat} {ra : Option Addr} {t : Lt} {v : Ow → Value} (h : KM o W g ra rc R M K t v) (k : Nat) (hk : k < K) {b cap : Nat} (hv : v .og = .slice (some ⟨b,0,none⟩) K cap) (x : Int) {Z : World} (hZ : Below W.heap.size W Z) (u : Value) (W5 : World) (ho : W5.ownsRow o.heap.size 3 1 u ((t.fr k).length + 1) ((t.fr k).map (Value.int .i64) ++ [.int .i64 x])) (hg : Z.grownBy W5 (v (.fr k)).ownBlock) (hat : u.ownBlock = (v (.fr k)).ownBlock ∨ u.ownBlock = some Z.heap.size) :
  (∃ ua uc,u = .slice ua ((t.fr k).length + 1) uc) ∧ (∀ (p : Nat) (cs : Array Value) (ty : TypeId) (fr : Nat × Nat),Z.heap[p]? = some (.cells cs ty fr) → ty ≠ 3 → ty ≠ 24 → W5.heap[p]? = some (.cells cs ty fr) ∧ (W5.setCell ⟨b,k,none⟩ u).heap[p]? = some (.cells cs ty fr)) ∧ W5.frozen? ⟨b,k,none⟩ = false ∧ (∃ z,W5.cell? ⟨b,k,none⟩ = some z) ∧ KM o (W5.setCell ⟨b,k,none⟩ u) g ra rc R M K { t with fr:=put t.fr k (t.fr k ++ [x]) } (vpt v (.fr k) u):=by
 have hz:=h.below hZ
 have hin : Z.ownsRow o.heap.size 3 1 (v (.fr k)) (t.fr k).length ((t.fr k).map (Value.int .i64)):=hz.fam.own (.fr k)
 have hou : Z.ownsRow o.heap.size 24 1 (v .og) K (rwI K (fun c => v (.fr c))):=hz.fam.own .og
 obtain ⟨b',cap',e',hc,hf⟩:=hz.ogAt k hk
 rw [hv] at e'
 injection e' with e1 _ _
 injection e1 with e1
 injection e1 with e1
 subst e1
 rw [hv] at hou
 obtain ⟨_,cur,hbl⟩:=row_is hou rfl (by omega)
 have hne : ∀ (p : Nat) (cs : Array Value) (ty : TypeId) (fr : Nat × Nat),Z.heap[p]? = some (.cells cs ty fr) → ty ≠ 3 → W5.heap[p]? = some (.cells cs ty fr):=fun p cs ty fr hp ht => by
  rw [hg.block p (blk_lt hp) (fun e => own_neB hin hp (fun e2 => ht e2.symm) e.symm)]
  exact hp
 have hb5:=hne b _ _ _ hbl (by decide)
 refine ⟨own_openE ho,fun p cs ty fr hp ht ht2 => ⟨hne p cs ty fr hp ht,blk_setN (hne p cs ty fr hp ht) hb5 ht2⟩,by simp [World.frozen?,hb5],?_,hz.app_fr k hk x u ho hg hat hv⟩
 rw [cell_of (show W5.heap[b]? = Z.heap[b]? by rw [hb5,hbl])]
 exact ⟨_,hc⟩
end LW
end Go.Proofs.Ytfbnakmmmphedaa
namespace Go.Proofs.Ytfbnakmmmphedaa
open Go.RowKit
namespace LW
open Mc
theorem psend {o : World} {g R M K rc : Nat} {ra : Option Addr} {t : Lt} {v : Ow → Value} (n c : Nat) (rms : List Int) (w : World) (h : KM o w g ra rc R M K t v) (hc : c < M) (hr : NR o ra rms) (hM : rms.length = M) (rm : Int) (hrm : rms.getD c 0 = rm) (r0 : 0 ≤ rm) (r1 : rm ≤ 1000000) (hs : (t.sn c).length ≤ 40000) (hk : (t.tk c).length ≤ 40000) (hl : t.ed.length ≤ 3999999999) (E : List (Int × Int)) (hE : E = (if 0 ≤ (((t.sn c).length : Int) - rm) ∧ (((t.sn c).length : Int) - rm) < ((t.tk c).length : Int) then Tr.lnk ((t.tk c).getD (((t.sn c).length : Int) - rm).toNat 0) n else [])) :
  Calls Try.prog 58 #[.pointer (some ⟨g,0,none⟩),.int .i64 (n : Int),.int .i64 (c : Int)] w fun e w' => e = .returned (.tuple #[]) ∧ ∃ v',KM o w' g ra rc R M K { t with ed:=t.ed ++ E,sn:=put t.sn c (t.sn c ++ [(n : Int)]) } v':=by
 have HM:=ζ h
 obtain ⟨b3,cap3,e3,y3,_⟩:=h.osAt c hc
 obtain ⟨b4,cap4,e4,y4,_⟩:=h.otAt c hc
 obtain ⟨sa,sc,es,_⟩:=h.snIs c
 obtain ⟨ta,tc,et,hnt⟩:=h.tkIs c
 obtain ⟨x0,x1,x2,x3,x4,x5,x6⟩:=cellsY7 h.blk
 obtain ⟨rb,ro,hra,yr⟩ : ∃ rb ro,ra = some ⟨rb,ro,none⟩ ∧ w.cell? ⟨rb,ro + c,none⟩ = some (.int .i64 rm):=by
  rcases hr with h1 | ⟨b,off,e,hc1⟩
  ·rw [h1] at hM;simp at hM;omega
  ·exact ⟨b,off,e,by rw [← hrm];exact keepC h.bl (hc1 c (by omega))⟩
 subst hra
 have HEs:=ζ es
 have HE3:=ζ e3
 rw [e3] at x3
 rw [es] at y3
 rw [e4] at x4
 rw [et] at y4
 have hc0 : (0 : Int) ≤ (c : Int):=by omega
 have hc1 : (c : Int) < (M : Int):=by omega
 obtain ⟨num,hnum⟩ : ∃ num,(((t.sn c).length : Int) - rm) = num:=⟨_,rfl⟩
 rw [hnum] at hE
 have ew : IntKind.i64.wrap ((((t.sn c).length : Int)) - rm) = num:=by rw [hnum,IntKind.wrap_i64];omega
 have HEn : Hid (∀ W v3,KM o W g (some ⟨rb,ro,none⟩) rc R M K { t with ed:=t.ed ++ E } v3 → (∀ i,i ≠ .ed → v3 i = v i) → ∀ Z u W5,Below W.heap.size W Z → Z.heap[g]? = some (.cells (lkC (some ⟨rb,ro,none⟩) M rc v3) 116 (0,0)) → W5.ownsRow o.heap.size 3 1 u ((t.sn c).length + 1) ((t.sn c).map (Value.int .i64) ++ [.int .i64 (n : Int)]) → Z.grownBy W5 (Value.slice sa (t.sn c).length sc).ownBlock → (u.ownBlock = (Value.slice sa (t.sn c).length sc).ownBlock ∨ u.ownBlock = some Z.heap.size) → (∃ ua uc,u = .slice ua ((t.sn c).length + 1) uc) ∧ (W5.heap[g]? = some (.cells (lkC (some ⟨rb,ro,none⟩) M rc v3) 116 (0,0)) ∧ (W5.setCell ⟨b3,c,none⟩ u).heap[g]? = some (.cells (lkC (some ⟨rb,ro,none⟩) M rc v3) 116 (0,0))) ∧ W5.frozen? ⟨b3,c,none⟩ = false ∧ (∃ z,W5.cell? ⟨b3,c,none⟩ = some z) ∧ ∃ v',KM o (W5.setCell ⟨b3,c,none⟩ u) g (some ⟨rb,ro,none⟩) rc R M K { t with ed:=t.ed ++ E,sn:=put t.sn c (t.sn c ++ [(n : Int)]) } v'):=fun W v3 hm hv Z u W5 hZ hZg h1 h2 h3 => by
  have q1 : v3 (.sn c) = .slice sa (t.sn c).length sc:=by rw [hv _ (by intro h;cases h)];exact es
  obtain ⟨a1,a2,a3,a4,a5⟩:=hm.snEnds c hc (b:=b3) (cap:=cap3) (by rw [hv _ (by intro h;cases h)];exact e3) (n : Int) hZ u W5 h1 (by rw [q1];exact h2) (by rw [q1];exact h3)
  exact ⟨a1,a2 g _ _ _ hZg (by decide) (by decide),a3,a4,_,a5⟩
 have HRo : Hid (∀ W v3,KM o W g (some ⟨rb,ro,none⟩) rc R M K { t with ed:=t.ed ++ E } v3 → (∀ i,i ≠ .ed → v3 i = v i) → W.ownsRow o.heap.size 3 1 (.slice sa (t.sn c).length sc) (t.sn c).length ((t.sn c).map (Value.int .i64)) ∧ W.cell? ⟨b3,c,none⟩ = some (.slice sa (t.sn c).length sc)):=fun W v3 hm hv => by
  have q1 : v3 (.sn c) = .slice sa (t.sn c).length sc:=by rw [hv _ (by intro h;cases h)];exact es
  refine ⟨?_,?_⟩
  ·rw [← q1];exact hm.fam.own (.sn c)
  ·obtain ⟨b',cap',e',y',_⟩:=hm.osAt c hc
   rw [hv _ (by intro h;cases h),e3] at e'
   injection e' with e1 _ _
   injection e1 with e1
   injection e1 with e1
   subst e1;rw [q1] at y'
   exact y'
 have HSo : Hid (o.heap.size ≤ w.heap.size):=h.bl.size
 have HLk : Hid (∀ W x,Below w.heap.size w W → E = Tr.lnk x n → Calls Try.prog 49 #[.pointer (some ⟨g,0,none⟩),.int .i64 x,.int .i64 (n : Int)] W fun e w' => e = .returned (.tuple #[]) ∧ ∃ v',KM o w' g (some ⟨rb,ro,none⟩) rc R M K { t with ed:=t.ed ++ E } v' ∧ ∀ i,i ≠ .ed → v' i = v i):=fun W x hW e => by
  rw [e];exact (plink x n W (h.below hW) (by omega)).mono fun e w' h => ⟨h.1,h.2.1⟩
 have HId : Hid (E = [] → ∀ W,Below w.heap.size w W → KM o W g (some ⟨rb,ro,none⟩) rc R M K { t with ed:=t.ed ++ E } v):=fun e W hW => by
  rw [e,List.append_nil];exact h.below hW
 obtain ⟨tl,htl⟩ : ∃ tl,(t.tk c).length = tl:=⟨_,rfl⟩
 rw [htl] at y4 hE hk
 have HNt:=ζ hnt
 have HTl:=ζ htl
 clear h hr hM hrm e3 es e4 et hl hnt
 obtain ⟨sl,hsl⟩ : ∃ sl,(t.sn c).length = sl:=⟨_,rfl⟩
 have HSl:=ζ hsl
 rw [hsl] at y3 ew HEn HRo HEs hs
 clear hsl htl hnum
 go_enter Try.func58,Try.ntmps58
 refine wp_seq_k fun K hK => ?_
 have HK:=ζ hK
 clear hK
 refine wp_region_noPanic ?_
 refine RG.wp_region_L (fun Z => Below w.heap.size w Z) (fun Z => True) [] (by kernel_rfl) ?_
 refine RG.wpL_any fun Yz82 hY => ?_
 have HBz82 : Hid (Below w.heap.size w Yz82):=by rw [hY];exact below_drewN (Below.refl _ _) 1
 clear hY
 refine RG.wpL_takeS (fuel:=0) (a':=?Az82) [0,1,2,3,4,5,6,7,8,9,10,11,12,13,14,15,16] (by kernel_rfl) (by kernel_rfl) (fun _ _ _ _ _ h => h) trivial (HBz82.out) ?rz82 ?_
 case rz82 =>
  iterate 3
   refine RG.rS ?_ (fun Z hT hS => ?_) ?_
   rotate_left
   ·go_simp
    rfl
   simp only [Act.put,lA,lB,lC,lD,lE,lF]
  refine RG.rS (.slice (some ⟨b3,0,none⟩) M cap3) (fun Z hT hS => ?_) ?_
  ·have x3:=keepC hS x3;have x1:=keepC hS x1;have y3:=keepC hS y3;have yr:=keepC hS yr
   go_simp
  simp only [Act.put,lA,lB,lC,lD,lE,lF]
  iterate 2
   refine RG.rS ?_ (fun Z hT hS => ?_) ?_
   rotate_left
   ·go_simp
    rfl
   simp only [Act.put,lA,lB,lC,lD,lE,lF]
  refine RG.rS (.slice sa sl sc) (fun Z hT hS => ?_) ?_
  ·have x3:=keepC hS x3;have x1:=keepC hS x1;have y3:=keepC hS y3;have yr:=keepC hS yr
   go_simp
  simp only [Act.put,lA,lB,lC,lD,lE,lF]
  iterate 4
   refine RG.rS ?_ (fun Z hT hS => ?_) ?_
   rotate_left
   ·go_simp
    rfl
   simp only [Act.put,lA,lB,lC,lD,lE,lF]
  refine RG.rS (.slice (some ⟨rb,ro,none⟩) M rc) (fun Z hT hS => ?_) ?_
  ·have x3:=keepC hS x3;have x1:=keepC hS x1;have y3:=keepC hS y3;have yr:=keepC hS yr
   go_simp
  simp only [Act.put,lA,lB,lC,lD,lE,lF]
  iterate 2
   refine RG.rS ?_ (fun Z hT hS => ?_) ?_
   rotate_left
   ·go_simp
    rfl
   simp only [Act.put,lA,lB,lC,lD,lE,lF]
  refine RG.rS (.int .i64 rm) (fun Z hT hS => ?_) ?_
  ·have x3:=keepC hS x3;have x1:=keepC hS x1;have y3:=keepC hS y3;have yr:=keepC hS yr
   go_simp
  simp only [Act.put,lA,lB,lC,lD,lE,lF]
  iterate 2
   refine RG.rS ?_ (fun Z hT hS => ?_) ?_
   rotate_left
   ·go_simp
    rfl
   simp only [Act.put,lA,lB,lC,lD,lE,lF]
  exact RG.RunsS.nil
 refine RG.wpL_done (by kernel_rfl) ?_ _
 refine NoPanic.normal ?_
 refine HK.out _ _ ?_
 clear HK K
 have HYs : Hid (o.heap.size ≤ Yz82.heap.size):=Nat.le_trans HSo.out HBz82.out.size
 refine wp_seq_k fun K2 hK2 => ?_
 have HR : Hid (∀ (W : World) (v3 : Ow → Value) {u3 u4 u5 u6 u7 u8 u9 u10 u11 u12 u13 u14 u15 u16 u17 u18 u19 u20 u21 u22 u23 u24 u25 u26 u27 u28 u29 u30 u31 u32 u33 u34 u35 u36 u37 u38 u39 u40 u41 u42 u43 u44 u45 u46 u47 u48 u49 u50 u51 u52 u53 u54 u55 u56 u57 u58 u59 u60 u61 u62 u63 u64 u65 : Value},KM o W g (some ⟨rb,ro,none⟩) rc R M K { t with ed:=t.ed ++ E } v3 → (∀ i,i ≠ .ed → v3 i = v i) → K2 { tmps:=#[.pointer (some ⟨g,0,none⟩),.int .i64 (n : Int),.int .i64 (c : Int),u3,u4,u5,u6,u7,u8,u9,u10,u11,u12,u13,u14,u15,u16,u17,u18,u19,u20,u21,u22,u23,u24,u25,u26,u27,u28,u29,u30,u31,u32,u33,u34,u35,u36,u37,u38,u39,u40,u41,u42,u43,u44,u45,u46,u47,u48,u49,u50,u51,u52,u53,u54,u55,u56,u57,u58,u59,u60,u61,u62,u63,u64,u65],defers:=[] } W):=by
  refine ζ ?_
  intro W v3 u3 u4 u5 u6 u7 u8 u9 u10 u11 u12 u13 u14 u15 u16 u17 u18 u19 u20 u21 u22 u23 u24 u25 u26 u27 u28 u29 u30 u31 u32 u33 u34 u35 u36 u37 u38 u39 u40 u41 u42 u43 u44 u45 u46 u47 u48 u49 u50 u51 u52 u53 u54 u55 u56 u57 u58 u59 u60 u61 u62 u63 u64 u65 hm hv
  have HM3:=ζ hm
  have E3 : Hid (v3 .os = .slice (some ⟨b3,0,none⟩) M cap3):=by show _ = _;rw [hv _ (by intro h;cases h)];exact HE3.out
  have HEnd:=ζ (HEn.out W v3 hm hv)
  have HR3:=ζ (HRo.out W v3 hm hv).1
  have z3:=(HRo.out W v3 hm hv).2
  have HSo : Hid (o.heap.size ≤ W.heap.size):=hm.bl.size
  have HKz:=ζ hK2
  clear hm hv hK2 HEn HRo HLk HId HM x0 x1 x2 x3 x4 x5 x6 y3 y4 yr hE HNt HBz82;refine HKz.out _ _ ?_;clear HKz;refine wp_region_noPanic ?_
  refine RG.wp_region_L (fun Z => Below W.heap.size W Z) (fun Z => Z.heap[g]? = some (.cells (lkC (some ⟨rb,ro,none⟩) M rc v3) 116 (0,0))) [14,16] (by kernel_rfl) ?_
  refine RG.wpL_any fun Yz83 hY => ?_
  have HBz83 : Hid (Below W.heap.size W Yz83):=by rw [hY];exact below_drewN (Below.refl _ _) 1
  clear hY;have HTY:=ζ (blk_keep HM3.out.blk HBz83.out)
  refine RG.wpL_take (fuel:=4) (a':=?Az83) [0,1,2,3,4,5,6,7,8,9,10,11,12] (by kernel_rfl) (by kernel_rfl) (fun _ _ _ _ _ h => h) HTY.out (fun _ => HBz83.out) ?rz83 ?_
  case rz83 =>
   iterate 3
    refine RG.rW ?_ (fun Z hT => ?_) ?_
    rotate_left
    ·go_simp
     rfl
    simp only [Act.put,lA,lB,lC,lD,lE,lF]
   refine RG.rW (.slice (some ⟨b3,0,none⟩) M cap3) (fun Z hT => ?_) ?_
   ·obtain ⟨x0,x1,x2,x3,x4,x5,x6⟩:=cellsY7 hT;rw [E3.out] at x3
    go_simp
   simp only [Act.put,lA,lB,lC,lD,lE,lF]
   iterate 4
    refine RG.rW ?_ (fun Z hT => ?_) ?_
    rotate_left
    ·go_simp
     rfl
    simp only [Act.put,lA,lB,lC,lD,lE,lF]
   refine RG.rW (.slice (some ⟨b3,0,none⟩) M cap3) (fun Z hT => ?_) ?_
   ·obtain ⟨x0,x1,x2,x3,x4,x5,x6⟩:=cellsY7 hT;rw [E3.out] at x3
    go_simp
   simp only [Act.put,lA,lB,lC,lD,lE,lF]
   iterate 2
    refine RG.rW ?_ (fun Z hT => ?_) ?_
    rotate_left
    ·go_simp
     rfl
    simp only [Act.put,lA,lB,lC,lD,lE,lF]
   refine RG.RunsIf.strong (v:=.slice sa sl sc) (by rfl) (by kernel_rfl) (by rfl) (fun Z hT hS => ?_) ?_
   ·obtain ⟨x0,x1,x2,x3,x4,x5,x6⟩:=cellsY7 (blk_keep HM3.out.blk hS);have y3:=keepC hS z3
    go_simp
   simp only [Act.put,lA,lB,lC,lD,lE,lF]
   refine RG.rW ?_ (fun Z hT => ?_) ?_
   rotate_left
   ·go_simp
    rfl
   simp only [Act.put,lA,lB,lC,lD,lE,lF]
   exact RG.RunsIf.nil
  refine RG.wpL_step (i:=13) (by kernel_rfl) (by rfl) (by rfl) (fun KX hK => ?_)
  have HK:=ζ hK
  clear hK;go_simp;have hAb : Below W.heap.size W (Yz83.alloc (.cells #[.int .i64 (n : Int)] 3)):=HBz83.out.alloc HBz83.out.size _
  have HAb:=ζ hAb
  have HQc : Hid (∀ j u,([.int .i64 (n : Int)] : List Value)[j]? = some u → (Yz83.alloc (.cells #[.int .i64 (n : Int)] 3)).cell? ((⟨Yz83.heap.size,0,none⟩ : Addr).add j) = some u):=cell_one_new _ _ _
  have HTb:=ζ (blk_keep HM3.out.blk HAb.out)
  have HRw:=ζ (own_belowI HR3.out HAb.out)
  refine HK.out _ _ HTb.out (fun _ => HAb.out) ?_
  clear HK KX hAb HBz83 HTY;generalize Yz83.alloc _ = Yb at *;generalize Yz83.heap.size = gq at *;try simp only [Act.put,lA,lB,lC,lD,lE,lF]
  refine RG.wpL_late (i:=14) (by kernel_rfl) (by rfl) (by rfl) (by kernel_rfl) (fun KX hK => ?_)
  have HK:=ζ hK
  clear hK;obtain ⟨i3,hi3,hz30,hz31,hz32⟩:=info_parts' intinfo
  refine wp_append_at _ _ 24 (by rfl) o.heap.size 3 i3 _ 1 8 Try.underlying24 hi3 hz30 hz31 hz32 rfl (by decide) (.slice sa sl sc) sl ((t.sn c).map (Value.int .i64)) (by rfl) HRw.out ⟨gq,0,none⟩ 1 1 [.int .i64 (n : Int)] (by rfl) rfl HQc.out (by simp [Value.oneCell']) (by unfold maxLen;omega) (by omega) (Nat.le_trans HSo.out HAb.out.size) ?_
  intro uu W5 hown5 hgr5 hat5
  obtain ⟨⟨ua,uc,rfl⟩,hT5,fz,⟨zz,cz⟩,hkm⟩:=HEnd.out Yb uu W5 HAb.out HTb.out hown5 hgr5 hat5
  have HKM:=ζ hkm
  have HT5:=ζ hT5
  clear hown5 hgr5 hat5 hkm hT5 HQc HRw hi3 hz30 hz31 hz32 HTb HAb;refine HK.out _ _ HT5.out.1 ?_
  clear HK KX;try simp only [Act.put,lA,lB,lC,lD,lE,lF]
  refine RG.wpL_take (fuel:=1) (a':=?Bz83) [15] (by kernel_rfl) (by kernel_rfl) (fun _ _ _ _ _ h => h) HT5.out.1 (fun h => by cases (show false = true from h)) ?sz83 ?_
  case sz83 =>
   refine RG.rW ?_ (fun Z hT => ?_) ?_
   rotate_left
   ·go_simp
    rfl
   simp only [Act.put,lA,lB,lC,lD,lE,lF]
   exact RG.RunsIf.nil
  refine RG.wpL_late (i:=16) (by kernel_rfl) (by rfl) (by rfl) (by kernel_rfl) (fun KX hK => ?_)
  have HK:=ζ hK
  clear hK;go_simp;refine HK.out _ _ HT5.out.2 ?_
  clear HK KX cz fz HT5;refine RG.wpL_done (by kernel_rfl) ?_ _
  refine NoPanic.normal ?_
  go_end0
  exact ⟨rfl,HKM.out⟩
 have x4:=keepC HBz82.out x4
 have y4:=keepC HBz82.out y4
 clear hK2 HEn HRo x0 x1 x2 x3 x5 x6 y3 yr ew
 by_cases h0 : 0 ≤ num
 ·obtain ⟨q,rfl⟩ : ∃ q : Nat,num = (q : Int):=⟨num.toNat,by omega⟩
  by_cases h1 : (q : Int) < (tl : Int)
  ·rw [if_pos ⟨h0,h1⟩,Int.toNat_natCast] at hE
   obtain ⟨tb,to,rfl,yq⟩ : ∃ tb to,ta = some ⟨tb,to,none⟩ ∧ Yz82.cell? ⟨tb,to + q,none⟩ = some (.int .i64 ((t.tk c).getD q 0)):=by
    rcases HNt.out with h2 | ⟨b,off,e,hc2⟩
    ·have:=HTl.out;rw [h2] at this;simp at this;omega
    ·exact ⟨b,off,e,keepC HBz82.out (hc2 q (by have:=HTl.out;omega))⟩
   have HE:=ζ hE
   clear hE;generalize (t.tk c).getD q 0 = xq at *;go_wp2_with fail
   refine (HLk.out _ xq HBz82.out HE.out).mono ?_
   rintro e2 W2 ⟨rfl,v3,hm3,hv3⟩
   have HM3:=ζ hm3
   have HV3:=ζ hv3
   clear hm3 hv3;go_wp2;exact HR.out W2 v3 HM3.out HV3.out
  ·rw [if_neg (fun h => h1 h.2)] at hE
   have HM4:=ζ (HId.out hE Yz82 HBz82.out)
   clear hE;go_wp2;exact HR.out Yz82 v HM4.out (fun _ _ => rfl)
 ·rw [if_neg (fun h => h0 h.1)] at hE
  have HM4:=ζ (HId.out hE Yz82 HBz82.out)
  clear hE;go_wp2;exact HR.out Yz82 v HM4.out (fun _ _ => rfl)
end LW
end Go.Proofs.Ytfbnakmmmphedaa

/-
 What the document's Fault keeps.
-/
import Derived.Test.YtfbnakmmmphedaaTv8o
set_option linter.unusedVariables false
set_option linter.unusedSimpArgs false
namespace Go.Proofs.Ytfbnakmmmphedaa
open Go.RowKit
namespace LW
open Mc
def snV (p : List Ev) (c : Nat) : Value:=.int .i64 (Tr.snC p (c : Int) : Int)
def tkV (p : List Ev) (c : Nat) : Value:=.int .i64 (Tr.tkC p (c : Int) : Int)
def hdV (p : List Ev) (c : Nat) : Value:=.bool (Tr.hdC p (c : Int)).isSome
def OR (B : Nat) (W : World) (t : TypeId) (b n : Nat) (f : Nat → Value) : Prop:=W.ownsRow B t 1 (.slice (some ⟨b,0,none⟩) n n) n (rwI n f)
theorem OR.below {B b n : Nat} {t : TypeId} {f : Nat → Value} {w w' : World} (h : OR B w t b n f) (hb : Below w.heap.size w w') : OR B w' t b n f:=own_belowI h hb
theorem OR.keep {B b n : Nat} {t : TypeId} {f : Nat → Value} {w w' : World} (h : OR B w t b n f) (hb : w'.heap[b]? = w.heap[b]?) : OR B w' t b n f:=own_keepK h (fun k hk => by injection hk with hk;subst hk;exact hb)
theorem OR.get {B b n : Nat} {t : TypeId} {f : Nat → Value} {w : World} (h : OR B w t b n f) (c : Nat) (hc : c < n) : w.cell? ⟨b,c,none⟩ = some (f c):=by
 obtain ⟨b',cap,e,_,_,_,h1⟩:=own_rw h c hc
 injection e with e
 injection e with e
 injection e with e
 subst e
 exact h1
theorem OR.fz {B b n : Nat} {t : TypeId} {f : Nat → Value} {w : World} (h : OR B w t b n f) (c : Nat) : w.frozen? ⟨b,c,none⟩ = false:=World.ownsRow.frozenAt h c
theorem OR.le {B b n : Nat} {t : TypeId} {f : Nat → Value} {w : World} (h : OR B w t b n f) : B ≤ b:=own_blkI h b rfl
theorem OR.lt {B b n : Nat} {t : TypeId} {f : Nat → Value} {w : World} (h : OR B w t b n f) : b < w.heap.size:=own_lt h b rfl
theorem OR.blk {B b n : Nat} {t : TypeId} {f : Nat → Value} {w : World} (h : OR B w t b n f) : ∃ cur,w.heap[b]? = some (.cells cur t (0,0)):=by
 rcases h.2 with ⟨e,_⟩ | ⟨g,cap,cur,e,_,hh,_⟩
 ·cases e
 ·injection e with e
  injection e with e
  injection e with e
  subst e;exact ⟨cur,hh⟩
theorem OR.congr {B b n : Nat} {t : TypeId} {f f' : Nat → Value} {w : World} (h : OR B w t b n f) (hf : ∀ c,c < n → f' c = f c) : OR B w t b n f':=by
 unfold OR
 rw [rwI_congr n f' f hf]
 exact h
theorem OR.set {B b n : Nat} {t : TypeId} {f f' : Nat → Value} {w : World} (h : OR B w t b n f) (c : Nat) (v : Value) (h1 : f' c = v) (h2 : ∀ j,j ≠ c → f' j = f j) : OR B (w.setCell ⟨b,c,none⟩ v) t b n f':=by
 have h3:=(World.ownsRow.stored h c v).1
 rw [rwI_set n f f' c v h1 h2] at h3
 exact h3
theorem OR.other {B b n g o : Nat} {t : TypeId} {f : Nat → Value} {w : World} (h : OR B w t b n f) (hb : b ≠ g) (v : Value) : OR B (w.setCell ⟨g,o,none⟩ v) t b n f:=h.keep (Below.heap_setCell _ _ _ _ hb)
theorem OR.ne {B b b' n n' : Nat} {t t' : TypeId} {f f' : Nat → Value} {w : World} (h : OR B w t b n f) (h' : OR B w t' b' n' f') (ht : t ≠ t') : b ≠ b':=by
 rintro rfl
 obtain ⟨c1,e1⟩:=h.blk
 obtain ⟨c2,e2⟩:=h'.blk
 rw [e1] at e2
 injection e2 with e2
 injection e2 with _ e2
 exact ht e2
structure FtM (B : Nat) (W : World) (b7 b8 b9 b10 : Nat) (s : Syst) (L : Nat) (p : List Ev) : Prop where
 sn : OR B W 3 b7 s.rooms.length (snV p)
 tk : OR B W 3 b8 s.rooms.length (tkV p)
 cl : OR B W 4 b9 s.rooms.length (clV p)
 hd : OR B W 4 b10 L (hdV p)
 n1 : b7 ≠ b8
 n2 : b9 ≠ b10
theorem FtM.below {B b7 b8 b9 b10 L : Nat} {s : Syst} {p : List Ev} {W : World} {W' : World} (h : FtM B W b7 b8 b9 b10 s L p) (hb : Below W.heap.size W W') : FtM B W' b7 b8 b9 b10 s L p:=⟨h.sn.below hb,h.tk.below hb,h.cl.below hb,h.hd.below hb,h.n1,h.n2⟩
theorem snV_same (p : List Ev) (e : Ev) (c : Nat) (h : ¬ (e.op = 5 ∧ e.a = c)) : snV (p ++ [e]) c = snV p c:=by
 unfold snV;rw [Tr.snC_snoc,if_neg h];rfl
theorem tkV_same (p : List Ev) (e : Ev) (c : Nat) (h : ¬ (e.op = 6 ∧ e.shut = false ∧ e.a = c)) : tkV (p ++ [e]) c = tkV p c:=by
 unfold tkV;rw [Tr.tkC_snoc,if_neg h];rfl
theorem hdV_same (p : List Ev) (e : Ev) (c : Nat) (h : ¬ (e.op = 8 ∧ e.a = c)) (h' : ¬ (e.op = 9 ∧ e.a = c)) : hdV (p ++ [e]) c = hdV p c:=by
 unfold hdV;rw [Tr.hdC_snoc];unfold Tr.hdS;rw [if_neg h,if_neg h']
theorem FtM.idle {B b7 b8 b9 b10 L : Nat} {s : Syst} {p : List Ev} {W : World} (e : Ev) (h : FtM B W b7 b8 b9 b10 s L p) (h5 : e.op ≠ 5) (h6 : ¬ (e.op = 6 ∧ e.shut = false)) (h7 : e.op ≠ 7) (h8 : e.op ≠ 8) (h9 : e.op ≠ 9) : FtM B W b7 b8 b9 b10 s L (p ++ [e]) :=
 ⟨h.sn.congr fun c _ => snV_same p e c (fun h => h5 h.1),h.tk.congr fun c _ => tkV_same p e c (fun h => h6 ⟨h.1,h.2.1⟩),h.cl.congr fun c _ => clV_same p e c (fun h => h7 h.1),h.hd.congr fun c _ => hdV_same p e c (fun h => h8 h.1) (fun h => h9 h.1),h.n1,h.n2⟩
theorem FtM.s7 {B b7 b8 b9 b10 L : Nat} {s : Syst} {p : List Ev} {W : World} (e : Ev) (h : FtM B W b7 b8 b9 b10 s L p) (c : Nat) (ho : e.op = 7) (ha : e.a = c) : FtM B (W.setCell ⟨b9,c,none⟩ (.bool true)) b7 b8 b9 b10 s L (p ++ [e]) :=
 ⟨(h.sn.other (h.sn.ne h.cl (by decide)) _).congr fun j _ => snV_same p e j (fun h => by omega),(h.tk.other (h.tk.ne h.cl (by decide)) _).congr fun j _ => tkV_same p e j (fun h => by omega),h.cl.set c _ (by unfold clV;rw [Tr.clC_snoc];simp [ho,ha]) (fun j hj => clV_same p e j (fun h => hj (by omega))),(h.hd.other (Ne.symm h.n2) _).congr fun j _ => hdV_same p e j (fun h => by omega) (fun h => by omega),h.n1,h.n2⟩
end LW
end Go.Proofs.Ytfbnakmmmphedaa

/-
  GRAPHS, PLAINLY: where nodes are and which masters they point to, as functions; steps up and steps down; what an op makes of it; no ring ever.
  No conditions.
  A SEARCH along steps, plainly: what was seen, what waits; found, or nothing leads there. OPS IN A ROW, plainly: where one more comes, and that the row does not hang on the order in which they came.
  No conditions.
  A GRAPH IN MEMORY: its state's block, the rows of its lines and of what takes them back, its tree, its masters and their nodes; each block has a colour: whose it is.
  No conditions but sizes.
  A REGION THAT DRAWS ITS ORDER AND ENDS IN A STORE INTO WHAT IT READ: the condition S holds behind every operation but that last one.
  No conditions.
-/
import Derived.Test.YthfhefdfehlbkaaGreatK11
import Derived.Test.YthfhefdfehlbkaaGreatK13
import Derived.Test.YthfhefdfehlbkaaGreatK03
import Derived.Deep.RegionHeld
import Derived.StillTail
import Derived.Test.YthfhefdfehlbkaaGreatK01
namespace Go.Proofs.YthfhefdfehlbkaaGreat.Gm
open Go.Proofs.YthfhefdfehlbkaaGreat
structure G where
 s:Qm.St→Option Tm.Sp
 m:Qm.St→Option Qm.St
def upd {α:Type} (f:Qm.St→Option α) (n:Qm.St) (v:Option α):Qm.St→Option α:=fun x=>if x=n then v else f x
section
variable {α:Type} {f:Qm.St→Option α} {n x:Qm.St} {v u:Option α}
theorem upd_self:upd f n v n=v:=if_pos rfl
theorem upd_ne (h:x≠n):upd f n v x=f x:=if_neg h
theorem upd_upd:upd (upd f n v) n u=upd f n u:=by
 funext x
 by_cases h:x=n
 ·subst h; rw [upd_self,upd_self]
 ·rw [upd_ne h,upd_ne h,upd_ne h]
theorem upd_was (h:f n=v):upd f n v=f:=by
 funext x
 by_cases e:x=n
 ·subst e; rw [upd_self,h]
 ·rw [upd_ne e]
end
def nil:G:=⟨fun _=>none,fun _=>none⟩
def has (g:G) (p:Qm.St):Bool:=(g.s p).isSome || Tm.top p
def UpS (g:G) (a b:Qm.St):Prop:=(∃ k,g.s a=some (b,k))∨g.m a=some b
def DnS (g:G) (a b:Qm.St):Prop:=(∃ k,g.s b=some (a,k))∨g.m a=some b
inductive Rc {α:Type} (R:α→α→Prop):α→α→Prop
 | refl (a:α):Rc R a a
 | step {a b c:α}:R a b→Rc R b c→Rc R a c
def Ac {α:Type} (R:α→α→Prop):Prop:=∀ a b,R a b→¬ Rc R b a
section
variable {α:Type} {R S:α→α→Prop} {a b c:α}
theorem Rc.one (h:R a b):Rc R a b:=.step h (.refl b)
theorem Rc.trans (h:Rc R a b) (k:Rc R b c):Rc R a c:=by
 induction h with
 | refl _=>exact k
 | step h1 _ ih=>exact .step h1 (ih k)
theorem Rc.snoc (h:Rc R a b) (k:R b c):Rc R a c:=h.trans (.one k)
theorem Rc.mono (h:Rc R a b) (hs:∀ x y,R x y→S x y):Rc S a b:=by
 induction h with
 | refl _=>exact .refl _
 | step h1 _ ih=>exact .step (hs _ _ h1) ih
theorem Rc.flip (h:Rc R a b):Rc (fun x y=>R y x) b a:=by
 induction h with
 | refl _=>exact .refl _
 | step h1 _ ih=>exact ih.snoc h1
theorem rc_flip:Rc (fun x y=>R y x) b a↔Rc R a b:=⟨fun h=>h.flip,fun h=>h.flip⟩
theorem Ac.flip (h:Ac R):Ac (fun x y=>R y x):=fun x y hxy hr=>h y x hxy hr.flip
theorem Rc.closed {V:α→Prop} (h:Rc R a b) (ha:V a) (hc:∀ x y,V x→R x y→V y):V b:=by
 induction h with
 | refl _=>exact ha
 | step h1 _ ih=>exact ih (hc _ _ ha h1)
theorem Ac.ne (h:Ac R) (k:R a b):a≠b:=fun e=>h a b k (by subst e; exact .refl _)
theorem rc_add (hs:∀ x y,S x y→R x y∨(x=a∧y=b)) {x y:α} (h:Rc S x y):Rc R x y∨(Rc R x a∧Rc R b y):=by
 induction h with
 | refl _=>exact Or.inl (.refl _)
 | step h1 _ ih =>
  rcases hs _ _ h1 with h2 | ⟨rfl,rfl⟩
  ·rcases ih with h3 | ⟨h3,h4⟩
   ·exact Or.inl (.step h2 h3)
   ·exact Or.inr ⟨.step h2 h3,h4⟩
  ·rcases ih with h3 | ⟨_,h4⟩
   ·exact Or.inr ⟨.refl _,h3⟩
   ·exact Or.inr ⟨.refl _,h4⟩
theorem Ac.add (h:Ac R) (hs:∀ x y,S x y→R x y∨(x=a∧y=b)) (hn:¬ Rc R b a):Ac S:=by
 intro x y hxy hr
 rcases hs _ _ hxy with h1 | ⟨rfl,rfl⟩
 ·rcases rc_add hs hr with h2 | ⟨h2,h3⟩
  ·exact h x y h1 h2
  ·exact hn ((h3.snoc h1).trans h2)
 ·rcases rc_add hs hr with h2 | ⟨h2,_⟩
  ·exact hn h2
  ·exact hn h2
theorem Ac.less (h:Ac R) (hs:∀ x y,S x y→R x y):Ac S:=fun x y hxy hr=>h x y (hs _ _ hxy) (hr.mono hs)
theorem Rc.first (h:Rc R a b) (hne:a≠b):∃ c,R a c∧Rc R c b:=by
 cases h with
 | refl _=>exact absurd rfl hne
 | step h1 h2=>exact ⟨_,h1,h2⟩
end
def node (x:Opp):Qm.St:=(x.nt,x.nr)
def ref (x:Opp):Qm.St:=(x.rt,x.rr)
def okX (w:Pm.Wr):Bool:=Pm.okW w && (w.x.k == 1 || w.x.k == 2 || w.x.k == 5)
theorem okX_iff {w:Pm.Wr}:okX w=true↔Tm.okN w.s=true∧rightO w.x=true∧(w.x.k=1∨w.x.k=2∨w.x.k=5):=by
 unfold okX Pm.okW Tm.okN
 rw [Bool.and_eq_true,Bool.and_eq_true,Bool.or_eq_true,Bool.or_eq_true,beq_iff_eq,beq_iff_eq,beq_iff_eq]
 constructor
 ·rintro ⟨⟨h1,h2⟩,h3⟩; exact ⟨h1,h2,by omega⟩
 ·rintro ⟨h1,h2,h3⟩; exact ⟨⟨h1,h2⟩,by omega⟩
theorem right_create {x:Opp} (h:rightO x=true) (hk:x.k=1):Tm.rightSp (ref x,x.key)=true:=by
 have h1:=(Pm.rightO_fit h).1
 rw [hk] at h1
 simp [fitO,prt] at h1
 unfold Tm.rightSp ref
 rw [Bool.and_eq_true]
 exact h1
theorem right_move {x:Opp} (h:rightO x=true) (hk:x.k=2):Tm.okN (node x)=true∧Tm.rightSp (ref x,x.key)=true:=by
 have h1:=(Pm.rightO_fit h).1
 rw [hk] at h1
 simp [fitO,prt] at h1
 unfold Tm.rightSp ref Tm.okN node
 rw [Bool.and_eq_true]
 exact h1
theorem right_point {x:Opp} (h:rightO x=true) (hk:x.k=5):Tm.okN (node x)=true∧(Tm.okN (ref x)=true∨ref x=(0,0)):=by
 have h1:=(Pm.rightO_fit h).1
 rw [hk] at h1
 simp [fitO,prt,isZ] at h1
 unfold Tm.okN node ref
 exact ⟨h1.1,h1.2.imp id fun h=>by rw [h.1,h.2]⟩
theorem right_bare {x:Opp} (h:rightO x=true) (hk:x.k=1∨x.k=2∨x.k=5):x.path=[]:=by
 have h1:=(Pm.rightO_fit h).2
 rcases hk with hk | hk | hk <;> rw [hk] at h1 <;> simp [aloneO,prt] at h1
 ·exact h1.1.1.2
 ·exact h1.1.1
 ·exact h1.1.1.2
theorem rightSp_trash {p:Qm.St} {k:ByteArray} (h:Tm.rightSp (p,k)=true):Tm.rightSp ((0,1),k)=true:=by
 unfold Tm.rightSp at h ⊢
 rw [Bool.and_eq_true] at h ⊢
 exact ⟨show okPlace 0 1=true from by decide,h.2⟩
theorem has_top {g:G} {p:Qm.St} (h:Tm.top p=true):has g p=true:=by unfold has; rw [h,Bool.or_true]
theorem has_node {g:G} {n:Qm.St} (h:Tm.okN n=true):has g n=(g.s n).isSome:=by unfold has; rw [Tm.not_top h,Bool.or_false]
theorem top_root:Tm.top (0,0)=true:=by decide
theorem top_trash:Tm.top (0,1)=true:=by decide
def closes (g:G) (x:Opp):Prop :=
 if x.k=2 then Rc (UpS g) (ref x) (node x)∨Rc (DnS g) (node x) (ref x)
 else ref x≠(0,0)∧(Rc (UpS g) (ref x) (node x)∨Rc (DnS g) (ref x) (node x))
open Classical in
noncomputable def tryG (g:G) (w:Pm.Wr):Option G :=
 if w.x.k=1 then some ⟨upd g.s w.s (some (if has g (ref w.x)=true then ref w.x else (0,1),w.x.key)),g.m⟩
 else if has g (node w.x)=false∨has g (ref w.x)=false∨closes g w.x then none
 else if w.x.k=2 then some ⟨upd g.s (node w.x) (some (ref w.x,w.x.key)),g.m⟩
 else some ⟨g.s,upd g.m (node w.x) (if ref w.x=(0,0) then none else some (ref w.x))⟩
noncomputable def aft (g:G) (w:Pm.Wr):G:=(tryG g w).getD g
noncomputable def run (l:List Pm.Wr):G:=l.foldl aft nil
theorem run_snoc (l:List Pm.Wr) (w:Pm.Wr):run (l ++ [w])=aft (run l) w:=by simp [run,List.foldl_append]
structure Good (g:G):Prop where
 node:∀ n s,g.s n=some s→Tm.okN n=true∧Tm.rightSp s=true∧has g s.1=true
 mas:∀ n m,g.m n=some m→(g.s n).isSome=true∧(g.s m).isSome=true
 up:Ac (UpS g)
 dn:Ac (DnS g)
theorem Good.nil:Good nil:=by
 refine ⟨fun _ _ h=>(by cases h),fun _ _ h=>(by cases h),fun a b h=>?_,fun a b h=>?_⟩
 ·rcases h with ⟨_,h⟩ | h <;> cases h
 ·rcases h with ⟨_,h⟩ | h <;> cases h
section
variable {g:G}
theorem Good.stepUp (h:Good g) {a b:Qm.St} (hs:UpS g a b):(g.s a).isSome=true∧has g b=true:=by
 rcases hs with ⟨k,hs⟩ | hs
 ·exact ⟨by rw [hs]; rfl,(h.node _ _ hs).2.2⟩
 ·have:=h.mas _ _ hs
  exact ⟨this.1,by unfold has; rw [this.2]; rfl⟩
theorem Good.stepDn (h:Good g) {a b:Qm.St} (hs:DnS g a b):has g a=true∧(g.s b).isSome=true:=by
 rcases hs with ⟨k,hs⟩ | hs
 ·exact ⟨(h.node _ _ hs).2.2,by rw [hs]; rfl⟩
 ·have:=h.mas _ _ hs
  exact ⟨by unfold has; rw [this.1]; rfl,this.2⟩
theorem Good.reachUp (h:Good g) {a b:Qm.St} (hr:Rc (UpS g) a b) (ha:has g a=true):has g b=true:=hr.closed (V:=fun x=>has g x=true) ha fun _ _ _ hs=>(h.stepUp hs).2
theorem Good.create (h:Good g) {n:Qm.St} {s:Tm.Sp} (h1:Tm.okN n=true) (h2:Tm.rightSp s=true) (h3:g.s n=none) (h4:has g s.1=true):Good ⟨upd g.s n (some s),g.m⟩:=by
 have hno:has g n=false:=by rw [has_node h1,h3]; rfl
 have hmn:g.m n=none:=by
  cases e:g.m n with
  | none=>rfl
  | some m=>have:=(h.mas _ _ e).1; rw [h3] at this; cases this
 have hhas:∀ p,has g p=true→has (⟨upd g.s n (some s),g.m⟩:G) p=true:=fun p hp=>by
  unfold has at hp ⊢
  by_cases e:p=n
  ·subst e
   simp only [upd_self]
   rfl
  ·simp only [upd_ne e]
   exact hp
 refine ⟨fun x t hx=>?_,fun x m hx=>?_,?_,?_⟩
 ·simp only at hx
  by_cases e:x=n
  ·subst e
   rw [upd_self] at hx
   cases hx
   exact ⟨h1,h2,hhas _ h4⟩
  ·rw [upd_ne e] at hx
   have:=h.node _ _ hx
   exact ⟨this.1,this.2.1,hhas _ this.2.2⟩
 ·simp only at hx
  have:=h.mas _ _ hx
  have k1:x≠n:=fun e=>by subst e; rw [h3] at this; cases this.1
  have k2:m≠n:=fun e=>by subst e; rw [h3] at this; cases this.2
  simp only [upd_ne k1,upd_ne k2]
  exact this
 ·refine h.up.add (a:=n) (b:=s.1) (fun x y hs=>?_) fun hr=>?_
  ·rcases hs with ⟨k,hs⟩ | hs
   ·simp only at hs
    by_cases e:x=n
    ·subst e
     rw [upd_self] at hs
     cases hs
     exact Or.inr ⟨rfl,rfl⟩
    ·rw [upd_ne e] at hs
     exact Or.inl (Or.inl ⟨k,hs⟩)
   ·exact Or.inl (Or.inr hs)
  ·have:=h.reachUp hr h4
   rw [hno] at this
   cases this
 ·refine h.dn.add (a:=s.1) (b:=n) (fun x y hs=>?_) fun hr=>?_
  ·rcases hs with ⟨k,hs⟩ | hs
   ·simp only at hs
    by_cases e:y=n
    ·subst e
     rw [upd_self] at hs
     cases hs
     exact Or.inr ⟨rfl,rfl⟩
    ·rw [upd_ne e] at hs
     exact Or.inl (Or.inl ⟨k,hs⟩)
   ·exact Or.inl (Or.inr hs)
  ·by_cases e:n=s.1
   ·rw [← e] at h4
    rw [hno] at h4
    cases h4
   ·obtain ⟨c,hc,_⟩:=hr.first e
    have:=(h.stepDn hc).1
    rw [hno] at this
    cases this
theorem Good.move (h:Good g) {n:Qm.St} {s:Tm.Sp} (h1:Tm.okN n=true) (h2:Tm.rightSp s=true) (h3:(g.s n).isSome=true) (h4:has g s.1=true) (hu:¬ Rc (UpS g) s.1 n) (hd:¬ Rc (DnS g) n s.1):Good ⟨upd g.s n (some s),g.m⟩:=by
 have hhas:∀ p,has g p=true→has (⟨upd g.s n (some s),g.m⟩:G) p=true:=fun p hp=>by
  unfold has at hp ⊢
  by_cases e:p=n
  ·subst e
   simp only [upd_self]
   rfl
  ·simp only [upd_ne e]
   exact hp
 have hsome:∀ p,(g.s p).isSome=true→(upd g.s n (some s) p).isSome=true:=fun p hp=>by
  by_cases e:p=n
  ·subst e; rw [upd_self]; rfl
  ·rw [upd_ne e]; exact hp
 refine ⟨fun x t hx=>?_,fun x m hx=>?_,?_,?_⟩
 ·simp only at hx
  by_cases e:x=n
  ·subst e
   rw [upd_self] at hx
   cases hx
   exact ⟨h1,h2,hhas _ h4⟩
  ·rw [upd_ne e] at hx
   have:=h.node _ _ hx
   exact ⟨this.1,this.2.1,hhas _ this.2.2⟩
 ·have:=h.mas _ _ hx
  exact ⟨hsome _ this.1,hsome _ this.2⟩
 ·refine h.up.add (a:=n) (b:=s.1) (fun x y hs=>?_) hu
  rcases hs with ⟨k,hs⟩ | hs
  ·simp only at hs
   by_cases e:x=n
   ·subst e
    rw [upd_self] at hs
    cases hs
    exact Or.inr ⟨rfl,rfl⟩
   ·rw [upd_ne e] at hs
    exact Or.inl (Or.inl ⟨k,hs⟩)
  ·exact Or.inl (Or.inr hs)
 ·refine h.dn.add (a:=s.1) (b:=n) (fun x y hs=>?_) hd
  rcases hs with ⟨k,hs⟩ | hs
  ·simp only at hs
   by_cases e:y=n
   ·subst e
    rw [upd_self] at hs
    cases hs
    exact Or.inr ⟨rfl,rfl⟩
   ·rw [upd_ne e] at hs
    exact Or.inl (Or.inl ⟨k,hs⟩)
  ·exact Or.inl (Or.inr hs)
theorem Good.point (h:Good g) {n m:Qm.St} (h3:(g.s n).isSome=true) (h4:(g.s m).isSome=true) (hu:¬ Rc (UpS g) m n) (hd:¬ Rc (DnS g) m n):Good ⟨g.s,upd g.m n (some m)⟩:=by
 refine ⟨h.node,fun x t hx=>?_,?_,?_⟩
 ·simp only at hx
  by_cases e:x=n
  ·subst e
   rw [upd_self] at hx
   cases hx
   exact ⟨h3,h4⟩
  ·rw [upd_ne e] at hx
   exact h.mas _ _ hx
 ·refine h.up.add (a:=n) (b:=m) (fun x y hs=>?_) hu
  rcases hs with hs | hs
  ·exact Or.inl (Or.inl hs)
  ·simp only at hs
   by_cases e:x=n
   ·subst e
    rw [upd_self] at hs
    cases hs
    exact Or.inr ⟨rfl,rfl⟩
   ·rw [upd_ne e] at hs
    exact Or.inl (Or.inr hs)
 ·refine h.dn.add (a:=n) (b:=m) (fun x y hs=>?_) hd
  rcases hs with hs | hs
  ·exact Or.inl (Or.inl hs)
  ·simp only at hs
   by_cases e:x=n
   ·subst e
    rw [upd_self] at hs
    cases hs
    exact Or.inr ⟨rfl,rfl⟩
   ·rw [upd_ne e] at hs
    exact Or.inl (Or.inr hs)
theorem Good.unpoint (h:Good g) {n:Qm.St}:Good ⟨g.s,upd g.m n none⟩:=by
 have hm:∀ x t,upd g.m n none x=some t→g.m x=some t:=fun x t hx=>by
  by_cases e:x=n
  ·subst e; rw [upd_self] at hx; cases hx
  ·rw [upd_ne e] at hx; exact hx
 refine ⟨h.node,fun x t hx=>h.mas _ _ (hm _ _ hx),h.up.less fun x y hs=>?_,h.dn.less fun x y hs=>?_⟩
 ·exact hs.imp id (hm _ _)
 ·exact hs.imp id (hm _ _)
theorem Good.tried (h:Good g) {w:Pm.Wr} (hw:okX w=true) (hn:g.s w.s=none) {g':G} (ht:tryG g w=some g'):Good g':=by
 obtain ⟨k1,k2,k3⟩:=okX_iff.1 hw
 unfold tryG at ht
 split at ht
 ·next hk =>
  cases ht
  refine h.create k1 ?_ hn ?_
  ·split
   ·exact right_create k2 hk
   ·exact rightSp_trash (right_create k2 hk)
  ·simp only
   split
   ·assumption
   ·exact has_top top_trash
 ·next hk =>
  split at ht
  ·cases ht
  ·next hc =>
   have c1:has g (Gm.node w.x)=true:=by
    cases e:has g (Gm.node w.x) with
    | true=>rfl
    | false=>exact absurd (Or.inl e) hc
   have c2:has g (ref w.x)=true:=by
    cases e:has g (ref w.x) with
    | true=>rfl
    | false=>exact absurd (Or.inr (Or.inl e)) hc
   have c3:¬ closes g w.x:=fun e=>hc (Or.inr (Or.inr e))
   split at ht
   ·next hk2 =>
    cases ht
    have r:=right_move k2 hk2
    unfold closes at c3
    rw [if_pos hk2] at c3
    exact h.move r.1 r.2 (by rw [← has_node r.1]; exact c1) c2 (fun e=>c3 (Or.inl e)) fun e=>c3 (Or.inr e)
   ·next hk2 =>
    cases ht
    have r:=right_point k2 (by omega)
    unfold closes at c3
    rw [if_neg hk2] at c3
    split
    ·exact h.unpoint
    ·next hz =>
     have r2:=r.2.resolve_right hz
     exact h.point (by rw [← has_node r.1]; exact c1) (by rw [← has_node r2]; exact c2) (fun e=>c3 ⟨hz,Or.inl e⟩) fun e=>c3 ⟨hz,Or.inr e⟩
theorem try_dom {w:Pm.Wr} {g':G} (ht:tryG g w=some g') (n:Qm.St) (hs:(g'.s n).isSome=true) (hw:okX w=true):(g.s n).isSome=true∨(n=w.s∧w.x.k=1):=by
 obtain ⟨k1,k2,k3⟩:=okX_iff.1 hw
 unfold tryG at ht
 split at ht
 ·next hk =>
  cases ht
  simp only at hs
  by_cases e:n=w.s
  ·exact Or.inr ⟨e,hk⟩
  ·rw [upd_ne e] at hs; exact Or.inl hs
 ·split at ht
  ·cases ht
  ·next hc =>
   have c1:has g (Gm.node w.x)=true:=by
    cases e:has g (Gm.node w.x) with
    | true=>rfl
    | false=>exact absurd (Or.inl e) hc
   split at ht
   ·next hk2 =>
    cases ht
    simp only at hs
    have r:=right_move k2 hk2
    by_cases e:n=Gm.node w.x
    ·rw [e,← has_node r.1]; exact Or.inl c1
    ·rw [upd_ne e] at hs; exact Or.inl hs
   ·cases ht; exact Or.inl hs
end
structure Ops (l:List Pm.Wr):Prop where
 ok:∀ w ∈ l,okX w=true
 up:l.Pairwise fun a b=>Qm.ltS a.s b.s
theorem Ops.nil:Ops []:=⟨fun _ h=>(by cases h),List.Pairwise.nil⟩
theorem Ops.pre {l k:List Pm.Wr} (h:Ops (l ++ k)):Ops l:=⟨fun w hw=>h.ok w (List.mem_append_left _ hw),(List.pairwise_append.1 h.up).1⟩
theorem Ops.take {l:List Pm.Wr} (h:Ops l) (k:Nat):Ops (l.take k):=Ops.pre (k:=l.drop k) (by rw [List.take_append_drop]; exact h)
theorem snoc_ind {α:Type} {P:List α→Prop} (h0:P []) (h1:∀ l a,P l→P (l ++ [a])) (l:List α):P l:=by
 have:∀ m:List α,P m.reverse:=fun m=>by
  induction m with
  | nil=>exact h0
  | cons a m ih=>rw [List.reverse_cons]; exact h1 _ _ ih
 have h:=this l.reverse
 rwa [List.reverse_reverse] at h
theorem Ops.run_dom {l:List Pm.Wr}:Ops l→Good (run l)∧∀ n,((run l).s n).isSome=true→∃ w ∈ l,w.s=n∧w.x.k=1:=by
 refine snoc_ind (P:=fun l=>Ops l→Good (run l)∧∀ n,((run l).s n).isSome=true→∃ w ∈ l,w.s=n∧w.x.k=1) ?_ ?_ l
 ·exact fun _=>⟨Good.nil,fun n hn=>by cases hn⟩
 ·intro l w ih h
  obtain ⟨g1,d1⟩:=ih h.pre
  have hw:=h.ok w (by simp)
  have hno:(run l).s w.s=none:=by
   cases e:(run l).s w.s with
   | none=>rfl
   | some s =>
    obtain ⟨x,hx,hxs,_⟩:=d1 w.s (by rw [e]; rfl)
    have:=(List.pairwise_append.1 h.up).2.2 x hx w (by simp)
    rw [hxs] at this
    exact absurd this (Qm.ltS_irrefl _)
  rw [run_snoc]
  unfold aft
  cases e:tryG (run l) w with
  | none=>exact ⟨g1,fun n hn=>by obtain ⟨x,hx,hh⟩:=d1 n hn; exact ⟨x,List.mem_append_left _ hx,hh⟩⟩
  | some g' =>
   refine ⟨g1.tried hw hno e,fun n hn=>?_⟩
   rcases try_dom e n hn hw with h2 | ⟨h2,h3⟩
   ·obtain ⟨x,hx,hh⟩:=d1 n h2
    exact ⟨x,List.mem_append_left _ hx,hh⟩
   ·exact ⟨w,by simp,h2.symm,h3⟩
theorem Ops.good {l:List Pm.Wr} (h:Ops l):Good (run l):=h.run_dom.1
theorem Ops.new {l:List Pm.Wr} {w:Pm.Wr} (h:Ops (l ++ [w])):(run l).s w.s=none:=by
 cases e:(run l).s w.s with
 | none=>rfl
 | some s =>
  obtain ⟨x,hx,hxs,_⟩:=h.pre.run_dom.2 w.s (by rw [e]; rfl)
  have:=(List.pairwise_append.1 h.up).2.2 x hx w (by simp)
  rw [hxs] at this
  exact absurd this (Qm.ltS_irrefl _)
end Go.Proofs.YthfhefdfehlbkaaGreat.Gm
namespace Go.Proofs.YthfhefdfehlbkaaGreat.Gm
open Go.Proofs.YthfhefdfehlbkaaGreat
structure Srch (R:Qm.St→Qm.St→Prop) (n m:Qm.St) (seen V Q:List Qm.St):Prop where
 sub:∀ x ∈ seen,x ∈ V
 nd:V.Nodup
 miss:m ∉ V
 come:∀ x,x ∈ V∨x ∈ Q→Rc R n x
 start:n ∈ V∨n ∈ Q
 cl:∀ v ∈ V,∀ b,R v b→b ∈ V∨b ∈ Q
 un:∀ u ∈ V,u ∉ seen→∀ x ∈ Q,u≠x∧Rc R u x
section
variable {R:Qm.St→Qm.St→Prop} {n m x:Qm.St} {seen V Q Q':List Qm.St}
theorem Srch.init (R:Qm.St→Qm.St→Prop) (n m:Qm.St):Srch R n m [] [] [n] :=
 ⟨fun _ h=>(by cases h),List.nodup_nil,fun h=>(by cases h),fun x h=>by
  rcases h with h | h
  ·cases h
  ·rw [List.mem_singleton.1 h]; exact .refl _,Or.inr (by simp),fun _ h=>(by cases h),fun _ h=>(by cases h)⟩
theorem Srch.perm (h:Srch R n m seen V Q) (hq:∀ y,y ∈ Q↔y ∈ Q'):Srch R n m seen V Q' :=
 ⟨h.sub,h.nd,h.miss,fun x hx=>h.come x (hx.imp id (hq x).2),h.start.imp id (hq n).1,fun v hv b hb=>(h.cl v hv b hb).imp id (hq b).1,fun u hu hs x hx=>h.un u hu hs x ((hq x).2 hx)⟩
theorem Srch.skip (h:Srch R n m seen V (x :: Q)) (hx:x ∈ seen):Srch R n m seen V Q:=by
 have hv:=h.sub x hx
 refine ⟨h.sub,h.nd,h.miss,fun y hy=>h.come y (hy.imp id (List.mem_cons_of_mem _)),?_,fun v hv' b hb=>?_,fun u hu hs y hy=>h.un u hu hs y (List.mem_cons_of_mem _ hy)⟩
 ·rcases h.start with h1 | h1
  ·exact Or.inl h1
  ·rcases List.mem_cons.1 h1 with rfl | h1
   ·exact Or.inl hv
   ·exact Or.inr h1
 ·rcases h.cl v hv' b hb with h1 | h1
  ·exact Or.inl h1
  ·rcases List.mem_cons.1 h1 with rfl | h1
   ·exact Or.inl hv
   ·exact Or.inr h1
theorem Srch.fresh (h:Srch R n m seen V (x :: Q)) (hx:x ∉ seen):x ∉ V:=fun hv=>(h.un x hv hx x (List.mem_cons_self ..)).1 rfl
theorem Srch.expand (ac:Ac R) (h:Srch R n m seen V (x :: Q)) (hx:x ∉ seen) (hm:x≠m) {Q' seen':List Qm.St} (hq:∀ y ∈ Q',y ∈ Q∨R x y) (hq1:∀ y ∈ Q,y ∈ Q') (hq2:∀ y,R x y→y ∈ Q')
  (hs1:∀ y ∈ seen',y=x∨y ∈ seen) (hs2:∀ y ∈ seen,y ∈ seen') (hs3:x ∈ seen' ∨ ∀ y ∈ Q',R x y):Srch R n m seen' (x :: V) Q':=by
 have hxv:=h.fresh hx
 have hnx:=h.come x (Or.inr (List.mem_cons_self ..))
 refine ⟨fun y hy=>?_,List.nodup_cons.2 ⟨hxv,h.nd⟩,?_,fun y hy=>?_,?_,fun v hv b hb=>?_,fun u hu hs y hy=>?_⟩
 ·rcases hs1 y hy with rfl | h1
  ·exact List.mem_cons_self ..
  ·exact List.mem_cons_of_mem _ (h.sub y h1)
 ·intro hc
  rcases List.mem_cons.1 hc with h1 | h1
  ·exact hm h1.symm
  ·exact h.miss h1
 ·rcases hy with hy | hy
  ·rcases List.mem_cons.1 hy with rfl | hy
   ·exact hnx
   ·exact h.come y (Or.inl hy)
  ·rcases hq y hy with h1 | h1
   ·exact h.come y (Or.inr (List.mem_cons_of_mem _ h1))
   ·exact hnx.snoc h1
 ·rcases h.start with h1 | h1
  ·exact Or.inl (List.mem_cons_of_mem _ h1)
  ·rcases List.mem_cons.1 h1 with rfl | h1
   ·exact Or.inl (List.mem_cons_self ..)
   ·exact Or.inr (hq1 _ h1)
 ·rcases List.mem_cons.1 hv with rfl | hv
  ·exact Or.inr (hq2 b hb)
  ·rcases h.cl v hv b hb with h1 | h1
   ·exact Or.inl (List.mem_cons_of_mem _ h1)
   ·rcases List.mem_cons.1 h1 with rfl | h1
    ·exact Or.inl (List.mem_cons_self ..)
    ·exact Or.inr (hq1 _ h1)
 ·rcases List.mem_cons.1 hu with rfl | hu
  ·have h1:=(hs3.resolve_left hs) y hy
   exact ⟨ac.ne h1,.one h1⟩
  ·have hus:u ∉ seen:=fun h1=>hs (hs2 u h1)
   rcases hq y hy with h1 | h1
   ·exact h.un u hu hus y (List.mem_cons_of_mem _ h1)
   ·have h2:=(h.un u hu hus x (List.mem_cons_self ..)).2
    exact ⟨fun e=>ac x y h1 (by rw [← e]; exact h2),h2.snoc h1⟩
theorem Srch.found (h:Srch R n m seen V (m :: Q)):Rc R n m:=h.come m (Or.inr (List.mem_cons_self ..))
theorem Srch.over (h:Srch R n m seen V []):¬ Rc R n m:=fun hr=>h.miss (hr.closed (V:=fun y=>y ∈ V) (h.start.resolve_right (by simp)) fun a b ha hb=>(h.cl a ha b hb).resolve_right (by simp))
theorem Srch.lt (h:Srch R n m seen V (x :: Q)) (hx:x ∉ seen) {D:List Qm.St} (hd:∀ y,Rc R n y→y ∈ D):V.length+1≤D.length :=
 Tm.len_le (a:=x :: V) (List.nodup_cons.2 ⟨h.fresh hx,h.nd⟩) fun y hy=>hd y (h.come y (by
  rcases List.mem_cons.1 hy with rfl | hy
  ·exact Or.inr (List.mem_cons_self ..)
  ·exact Or.inl hy))
end
def insAt (l:List Pm.Wr) (i:Nat) (w:Pm.Wr):List Pm.Wr:=l.take i ++ w :: l.drop i
theorem mem_insAt {l:List Pm.Wr} {i:Nat} {w x:Pm.Wr}:x ∈ insAt l i w↔x=w∨x ∈ l:=by
 unfold insAt
 rw [List.mem_append,List.mem_cons]
 have:x ∈ l↔x ∈ l.take i∨x ∈ l.drop i:=by rw [← List.mem_append,List.take_append_drop]
 rw [this]
 constructor
 ·rintro (h | h | h)
  ·exact Or.inr (Or.inl h)
  ·exact Or.inl h
  ·exact Or.inr (Or.inr h)
 ·rintro (h | h | h)
  ·exact Or.inr (Or.inl h)
  ·exact Or.inl h
  ·exact Or.inr (Or.inr h)
theorem insAt_length {l:List Pm.Wr} {i:Nat} {w:Pm.Wr}:(insAt l i w).length=l.length+1:=by
 unfold insAt
 rw [List.length_append,List.length_cons,List.length_take,List.length_drop]
 omega
theorem insAt_take {l:List Pm.Wr} {i:Nat} {w:Pm.Wr} (h:i≤l.length) (k:Nat) (hk:k≤i):(insAt l i w).take k=l.take k:=by
 unfold insAt
 rw [List.take_append_of_le_length (by rw [List.length_take]; omega),List.take_take,Nat.min_eq_left hk]
structure Spot (l:List Pm.Wr) (s:Qm.St) (i:Nat):Prop where
 le:i≤l.length
 lo:∀ x ∈ l.take i,Qm.ltS x.s s
 hi:∀ x ∈ l.drop i,Qm.ltS s x.s
theorem Ops.ins {l:List Pm.Wr} (h:Ops l) {w:Pm.Wr} (hw:okX w=true) {i:Nat} (hs:Spot l w.s i):Ops (insAt l i w):=by
 refine ⟨fun x hx=>?_,?_⟩
 ·rcases mem_insAt.1 hx with rfl | hx
  ·exact hw
  ·exact h.ok x hx
 ·have hu:=h.up
  rw [← List.take_append_drop i l,List.pairwise_append] at hu
  unfold insAt
  refine List.pairwise_append.2 ⟨hu.1,List.pairwise_cons.2 ⟨hs.hi,hu.2.1⟩,fun a ha b hb=>?_⟩
  rcases List.mem_cons.1 hb with rfl | hb
  ·exact hs.lo a ha
  ·exact hu.2.2 a ha b hb
def place (l:List Pm.Wr) (s:Qm.St):Nat:=(l.takeWhile fun x=>decide (x.s.1<s.1∨(x.s.1=s.1∧x.s.2<s.2))).length
def there (l:List Pm.Wr) (s:Qm.St):Bool:=l.any fun x=>x.s == s
theorem there_iff {l:List Pm.Wr} {s:Qm.St}:there l s=true ↔ ∃ x ∈ l,x.s=s:=by
 unfold there
 rw [List.any_eq_true]
 simp
theorem place_spot {l:List Pm.Wr} (h:l.Pairwise fun a b=>Qm.ltS a.s b.s) {s:Qm.St} (ht:there l s=false):Spot l s (place l s):=by
 induction l with
 | nil=>exact ⟨Nat.zero_le _,fun _ h=>(by cases h),fun _ h=>(by cases h)⟩
 | cons a l ih =>
  rw [List.pairwise_cons] at h
  have ht2:there l s=false:=by
   cases e:there l s with
   | false=>rfl
   | true =>
    obtain ⟨x,hx,he⟩:=there_iff.1 e
    rw [there_iff.2 ⟨x,List.mem_cons_of_mem _ hx,he⟩] at ht
    cases ht
  have ih:=ih h.2 ht2
  unfold place at ih ⊢
  by_cases hl:Qm.ltS a.s s
  ·have hd:decide (a.s.1<s.1∨(a.s.1=s.1∧a.s.2<s.2))=true:=decide_eq_true hl
   rw [List.takeWhile_cons,hd,if_pos rfl]
   refine ⟨by simpa using ih.le,fun x hx=>?_,fun x hx=>ih.hi x hx⟩
   rw [List.length_cons,List.take_succ_cons] at hx
   rcases List.mem_cons.1 hx with rfl | hx
   ·exact hl
   ·exact ih.lo x hx
  ·have hd:decide (a.s.1<s.1∨(a.s.1=s.1∧a.s.2<s.2))=false:=decide_eq_false hl
   rw [List.takeWhile_cons,hd]
   have hs:Qm.ltS s a.s:=by
    rcases Qm.ltS_tri a.s s with h1 | h1 | h1
    ·exact absurd h1 hl
    ·rw [there_iff.2 ⟨a,List.mem_cons_self ..,h1⟩] at ht; cases ht
    ·exact h1
   refine ⟨Nat.zero_le _,fun x hx=>by simp at hx,fun x hx=>?_⟩
   rcases List.mem_cons.1 (by simpa using hx) with rfl | hx
   ·exact hs
   ·exact Qm.ltS_trans hs (h.1 x hx)
theorem Spot.uniq {l:List Pm.Wr} {s:Qm.St} {i j:Nat} (h:Spot l s i) (k:Spot l s j):i=j:=by
 have key:∀ {i j:Nat},Spot l s i→Spot l s j→¬ i<j:=fun {i j} h k hlt=>by
  have hl:i<l.length:=by have:=k.le; omega
  have h1:=h.hi l[i] (by rw [List.drop_eq_getElem_cons hl]; exact List.mem_cons_self ..)
  have h2:=k.lo l[i] (by rw [List.mem_take_iff_getElem]; exact ⟨i,by omega,rfl⟩)
  exact Qm.ltS_irrefl _ (Qm.ltS_trans h1 h2)
 have:=key h k
 have:=key k h
 omega
end Go.Proofs.YthfhefdfehlbkaaGreat.Gm
namespace Go.Proofs.YthfhefdfehlbkaaGreat
open Go.RowKit
open Tm (Sp Tr has put cut kids)
theorem mtMast:MapT 145 35 (snV (0,0)):=⟨Tryz.underlying145,fun _=>by kernel_rfl⟩
abbrev Lk:=List (Qm.St × Qm.St)
def lookL (L:Lk) (n:Qm.St):Option Qm.St:=(L.find? fun e=>e.1 == n).map (·.2)
def cutL (L:Lk) (n:Qm.St):Lk:=L.filter fun e=>!(e.1 == n)
def masts (L:Lk):List (Qm.St × Value):=L.map fun e=>(e.1,snV e.2)
theorem lk_masts (L:Lk) (n:Qm.St):lk (masts L) n=(lookL L n).map snV:=lk_map snV L n
theorem lookL_mem {L:Lk} {n m:Qm.St} (h:lookL L n=some m):(n,m) ∈ L:=by
 unfold lookL at h
 obtain ⟨e,he,rfl⟩:=Option.map_eq_some_iff.1 h
 have h1:=List.find?_some he
 have h2:=List.mem_of_find?_eq_some he
 have h3:e.1=n:=by simpa using h1
 subst h3
 exact h2
theorem lookL_some {L:Lk} (nd:(L.map Prod.fst).Nodup) {n m:Qm.St} (h:(n,m) ∈ L):lookL L n=some m:=by
 cases e:lookL L n with
 | none =>
  unfold lookL at e
  rw [Option.map_eq_none_iff,List.find?_eq_none] at e
  exact absurd (e _ h) (by simp)
 | some k =>
  have h2:=lookL_mem e
  have h3:(n,k)=(n,m):=one_of nd h2 h rfl
  rw [Prod.mk.injEq] at h3
  rw [h3.2]
theorem lookL_cut {L:Lk} {n m:Qm.St}:lookL (cutL L n) m=if m=n then none else lookL L m:=by
 by_cases h:m=n
 ·subst h
  rw [if_pos rfl]
  unfold lookL cutL
  rw [Option.map_eq_none_iff,List.find?_eq_none]
  intro e he
  have:=(List.mem_filter.1 he).2
  simpa using this
 ·rw [if_neg h]
  unfold lookL cutL
  rw [List.find?_filter]
  congr 2
  funext e
  by_cases h2:e.1=m
  ·simp [h2,h]
  ·simp [h2]
theorem lookL_put {L:Lk} {n k m:Qm.St} (h:lookL L n=none):lookL (L ++ [(n,k)]) m=if m=n then some k else lookL L m:=by
 unfold lookL at h ⊢
 rw [List.find?_append]
 by_cases e:m=n
 ·subst e
  rw [if_pos rfl]
  rw [Option.map_eq_none_iff] at h
  rw [h]
  simp
 ·rw [if_neg e]
  have h2:List.find? (fun e:Qm.St × Qm.St=>e.1 == m) [(n,k)]=none:=by
   rw [List.find?_eq_none]
   intro x hx
   rw [List.mem_singleton.1 hx]
   simp
   exact fun h=>e h.symm
  rw [h2,Option.or_none]
structure Mm (w:World) (M3 M4:Nat) (L:Lk) (D:List Kid) (F:Nat→Prop):Prop where
 mast:SMap w M3 (masts L)
 inst:SMap w M4 (belows D)
 inner:∀ c ∈ D,SMap w c.b (nodesOf c.l)
 f3:F M3
 f4:F M4
 fK:∀ c ∈ D,F c.b
 ne:M3≠M4
 kne:∀ c ∈ D,c.b≠M3∧c.b≠M4
 knd:(D.map Kid.b).Nodup
 lt:∀ k,F k→k<w.heap.size
structure Ms (w:World) (M3 M4:Nat) (L:Lk) (D:List Kid) (F:Nat→Prop):Prop extends Mm w M3 M4 L D F where
 full:∀ c ∈ D,c.l ≠ []∧∀ n,n ∈ c.l↔lookL L n=some c.p
 all:∀ n m,lookL L n=some m→∃ c ∈ D,c.p=m
section
variable {w w':World} {M3 M4:Nat} {L:Lk} {D:List Kid} {F G:Nat→Prop}
theorem Mm.turns (h:Mm w M3 M4 L D F) (ht:Turns G w w') (hd:∀ k,F k→¬ G k):Mm w' M3 M4 L D F :=
 ⟨h.mast.turns ht (hd _ h.f3),h.inst.turns ht (hd _ h.f4),fun c hc=>(h.inner c hc).turns ht (hd _ (h.fK c hc)),h.f3,h.f4,h.fK,h.ne,h.kne,h.knd,fun k hk=>Nat.lt_of_lt_of_le (h.lt k hk) ht.size⟩
theorem Mm.kept (h:Mm w M3 M4 L D F) (hb:Below w.heap.size w w'):Mm w' M3 M4 L D F:=h.turns (Turns.of_below (F:=fun _=>False) hb) fun _ _ h=>h
theorem Mm.more (h:Mm w M3 M4 L D F) (hm:∀ k,F k→G k) (hl:∀ k,G k→k<w.heap.size):Mm w M3 M4 L D G:=⟨h.mast,h.inst,h.inner,hm _ h.f3,hm _ h.f4,fun c hc=>hm _ (h.fK c hc),h.ne,h.kne,h.knd,hl⟩
theorem Ms.turns (h:Ms w M3 M4 L D F) (ht:Turns G w w') (hd:∀ k,F k→¬ G k):Ms w' M3 M4 L D F:=⟨h.toMm.turns ht hd,h.full,h.all⟩
theorem Ms.kept (h:Ms w M3 M4 L D F) (hb:Below w.heap.size w w'):Ms w' M3 M4 L D F:=h.turns (Turns.of_below (F:=fun _=>False) hb) fun _ _ h=>h
theorem Ms.more (h:Ms w M3 M4 L D F) (hm:∀ k,F k→G k) (hl:∀ k,G k→k<w.heap.size):Ms w M3 M4 L D G:=⟨h.toMm.more hm hl,h.full,h.all⟩
theorem Mm.nd (h:Mm w M3 M4 L D F):(L.map Prod.fst).Nodup:=by
 have:=h.mast.nd
 unfold masts at this
 rwa [List.map_map] at this
theorem Mm.cnd (h:Mm w M3 M4 L D F):(D.map Kid.p).Nodup:=by
 have:=h.inst.nd
 unfold belows at this
 rwa [List.map_map] at this
theorem Mm.look1 (h:Mm w M3 M4 L D F) (n:Qm.St) (hn:StWf n) :
  (Instr.lookup 145 (.map (some M3)) (snV n) true).run Tryz.prog w=.ok (.tuple #[snV ((lookL L n).getD (0,0)),.bool (lookL L n).isSome]) w:=by
 rw [h.mast.lookOk mtMast n hn,lk_masts]
 cases lookL L n <;> rfl
theorem Mm.look0 (h:Mm w M3 M4 L D F) (n:Qm.St) (hn:StWf n) :
  (Instr.lookup 145 (.map (some M3)) (snV n) false).run Tryz.prog w=.ok (snV ((lookL L n).getD (0,0))) w:=by
 rw [h.mast.look mtMast n hn,lk_masts]
 cases lookL L n <;> rfl
theorem Mm.lookB (h:Mm w M3 M4 L D F) (n:Qm.St) (hn:StWf n) :
  (Instr.lookup 146 (.map (some M4)) (snV n) false).run Tryz.prog w=.ok (.map (kidOf D n)) w:=by
 rw [h.inst.look mtBelow n hn,lk_belows]
theorem Ms.kidNone (h:Ms w M3 M4 L D F) {p:Qm.St} (hk:kidOf D p=none) (n:Qm.St):lookL L n≠some p:=fun hn=>by
 obtain ⟨c,hc,h2⟩:=h.all n p hn
 exact kidOf_none hk c hc h2
theorem Ms.kidSome (h:Ms w M3 M4 L D F) {p:Qm.St} {b:Nat} (hk:kidOf D p=some b):∃ c ∈ D,c.p=p∧c.b=b∧SMap w b (nodesOf c.l)∧c.l ≠ []∧∀ n,n ∈ c.l↔lookL L n=some p:=by
 obtain ⟨c,hc,rfl,rfl⟩:=kidOf_some hk
 exact ⟨c,hc,rfl,rfl,h.inner c hc,(h.full c hc).1,(h.full c hc).2⟩
end
def lnL (x:Pm.Wr):List Value:=[.int .i64 x.s.1,.int .i64 x.s.2] ++ opL x.x none 0
def lnA (x:Pm.Wr):Array Value:=(lnL x).toArray
abbrev ptV (b:Nat):Value:=.pointer (some ⟨b,0,none⟩)
inductive Uk
 | pass
 | cr (b:Nat)
 | mv (b c:Nat) (was:Sp)
 | pt (b c:Nat) (was:Qm.St)
def Uk.val:Uk→Value
 | pass=>.nilFunc
 | cr b=>.func (.func 297) #[] #[ptV b]
 | mv b c _=>.func (.func 300) #[] #[ptV b,ptV c]
 | pt b c _=>.func (.func 301) #[] #[ptV b,ptV c]
abbrev stA (n:Qm.St):Array Value:=#[.int .i64 n.1,.int .i64 n.2]
def UkOk (w:World) (χ:Nat→Nat) (g:Gm.G) (x:Pm.Wr):Uk→Prop
 | .pass=>Gm.tryG g x=none
 | .cr b=>x.x.k=1∧χ b=6∧AgAt w b (stA x.s)
 | .mv b c was=>x.x.k=2∧(Gm.tryG g x).isSome=true∧χ b=6∧χ c=6∧AgAt w b (stA (Gm.node x.x))∧AgAt w c (spA was)∧g.s (Gm.node x.x)=some was
 | .pt b c was=>x.x.k=5∧(Gm.tryG g x).isSome=true∧χ b=6∧χ c=6∧AgAt w b (stA (Gm.node x.x))∧AgAt w c (stA was)∧(g.m (Gm.node x.x)).getD (0,0)=was
theorem UkOk.keep {w w':World} {χ χ':Nat→Nat} {g:Gm.G} {x:Pm.Wr} {u:Uk} (h:UkOk w χ g x u) (hb:∀ k,χ k=6→χ' k=6∧w'.heap[k]?=w.heap[k]?):UkOk w' χ' g x u:=by
 cases u with
 | pass=>exact h
 | cr b=>exact ⟨h.1,(hb b h.2.1).1,h.2.2.block (hb b h.2.1).2⟩
 | mv b c was=>obtain ⟨h1,h2,h3,h4,h5,h6,h7⟩:=h; exact ⟨h1,h2,(hb b h3).1,(hb c h4).1,h5.block (hb b h3).2,h6.block (hb c h4).2,h7⟩
 | pt b c was=>obtain ⟨h1,h2,h3,h4,h5,h6,h7⟩:=h; exact ⟨h1,h2,(hb b h3).1,(hb c h4).1,h5.block (hb b h3).2,h6.block (hb c h4).2,h7⟩
structure Gx where
 lk:Int
 b:Nat
 po:Value
 ls:List (Pm.Wr × Nat)
 pu:Value
 us:List Uk
 P:Nat
 M1:Nat
 M2:Nat
 T:Tr
 C:List Kid
 M3:Nat
 M4:Nat
 L:Lk
 D:List Kid
def Gx.ops (X:Gx):List Pm.Wr:=X.ls.map Prod.fst
def Gx.cells (X:Gx):Array Value:=#[.int .i32 X.lk,.int .u32 0,X.po,X.pu,ptV X.P,.map (some X.M3),.map (some X.M4)]
structure Core (w:World) (X:Gx) (χ:Nat→Nat) (g:Gm.G):Prop where
 lt:∀ k,χ k≠0→k<w.heap.size
 at_:AgAt w X.b X.cells
 cb:χ X.b=1
 ro:w.ownsRow 0 162 1 X.po X.ls.length (X.ls.map fun e=>ptV e.2)
 co:∀ k,X.po.ownBlock=some k→χ k=2
 ru:w.ownsRow 0 164 1 X.pu X.us.length (X.us.map Uk.val)
 cu:∀ k,X.pu.ownBlock=some k→χ k=3
 tree:Lay w X.P X.M1 X.M2 X.T X.C (fun k=>χ k=4)
 ms:Ms w X.M3 X.M4 X.L X.D (fun k=>χ k=5)
 ln:∀ e ∈ X.ls,χ e.2=6∧AgAt w e.2 (lnA e.1)
 tk:Tm.Ok X.T
 hs:∀ n,Tm.look X.T n=g.s n
 hm:∀ n,lookL X.L n=g.m n
 good:Gm.Good g
 ops:Gm.Ops X.ops
 few:X.ls.length≤80
 dom:∀ n,(g.s n).isSome=true→∃ e ∈ X.ls,e.1.s=n
structure Goes (w:World) (χ:Nat→Nat) (w':World) (χ':Nat→Nat):Prop where
 turns:Turns (fun k=>1≤χ k∧χ k≤5) w w'
 keep:∀ k,k<w.heap.size→χ' k=χ k
theorem Goes.refl (w:World) (χ:Nat→Nat):Goes w χ w χ:=⟨Turns.refl _ _,fun _ _=>rfl⟩
theorem Goes.trans {w w1 w2:World} {χ χ1 χ2:Nat→Nat} (h:Goes w χ w1 χ1) (k:Goes w1 χ1 w2 χ2):Goes w χ w2 χ2 :=
 ⟨h.turns.trans (k.turns.mono fun i hi hf=>by
  by_cases hl:i<w.heap.size
  ·rw [h.keep i hl] at hf; exact Or.inl hf
  ·exact Or.inr (by omega)),fun i hi=>(k.keep i (Nat.lt_of_lt_of_le hi h.turns.size)).trans (h.keep i hi)⟩
theorem Goes.of_below {w w':World} {χ:Nat→Nat} (h:Below w.heap.size w w'):Goes w χ w' χ:=⟨Turns.of_below h,fun _ _=>rfl⟩
section
variable {w w':World} {X:Gx} {χ χ':Nat→Nat} {g g':Gm.G} {G:Nat→Prop}
theorem Core.turns (h:Core w X χ g) (ht:Turns G w w') (hd:∀ k,χ k≠0→¬ G k):Core w' X χ g :=
 ⟨fun k hk=>Nat.lt_of_lt_of_le (h.lt k hk) ht.size,h.at_.block (ht.block _ h.at_.lt (hd _ (by rw [h.cb]; decide))),h.cb,ht.own h.ro fun k hk=>hd k (by rw [h.co k hk]; decide),h.co,ht.own h.ru fun k hk=>hd k (by rw [h.cu k hk]; decide),h.cu,
  h.tree.turns ht fun k hk=>hd k (by rw [hk]; decide),h.ms.turns ht fun k hk=>hd k (by rw [hk]; decide),fun e he=>⟨(h.ln e he).1,(h.ln e he).2.block (ht.block _ (h.ln e he).2.lt (hd _ (by rw [(h.ln e he).1]; decide)))⟩,
  h.tk,h.hs,h.hm,h.good,h.ops,h.few,h.dom⟩
theorem Core.kept (h:Core w X χ g) (hb:Below w.heap.size w w'):Core w' X χ g:=h.turns (Turns.of_below (F:=fun _=>False) hb) fun _ _ h=>h
theorem Core.recol (h:Core w X χ g) (hk:∀ k,χ k≠0→χ' k=χ k) (hl:∀ k,χ' k≠0→k<w.heap.size):Core w X χ' g :=
 ⟨hl,h.at_,(hk _ (by rw [h.cb]; decide)).trans h.cb,h.ro,fun k hk'=>(hk _ (by rw [h.co k hk']; decide)).trans (h.co k hk'),h.ru,fun k hk'=>(hk _ (by rw [h.cu k hk']; decide)).trans (h.cu k hk'),
  h.tree.more (fun k hk'=>(hk _ (by rw [hk']; decide)).trans hk') fun k hk'=>hl k (by rw [hk']; decide),h.ms.more (fun k hk'=>(hk _ (by rw [hk']; decide)).trans hk') fun k hk'=>hl k (by rw [hk']; decide),
  fun e he=>⟨(hk _ (by rw [(h.ln e he).1]; decide)).trans (h.ln e he).1,(h.ln e he).2⟩,h.tk,h.hs,h.hm,h.good,h.ops,h.few,h.dom⟩
def grown (χ:Nat→Nat) (w w':World) (c:Nat):Nat→Nat:=fun k=>if k<w.heap.size then χ k else if k<w'.heap.size then c else 0
theorem grown_old (h:∀ k,χ k≠0→k<w.heap.size) {c k:Nat} (hk:χ k≠0):grown χ w w' c k=χ k:=if_pos (h k hk)
theorem grown_lt (hz:w.heap.size≤w'.heap.size) {c k:Nat} (hk:grown χ w w' c k≠0):k<w'.heap.size:=by
 unfold grown at hk
 split at hk
 ·omega
 ·split at hk
  ·assumption
  ·exact absurd rfl hk
theorem grown_new {c k:Nat} (h1:w.heap.size≤k) (h2:k<w'.heap.size):grown χ w w' c k=c:=by
 unfold grown
 rw [if_neg (by omega),if_pos h2]
theorem Core.len (h:Core w X χ g):X.T.length≤X.ls.length:=by
 have h1:=Tm.len_le (b:=X.ls.map fun e=>e.1.s) h.tk.nd fun n hn=>by
  obtain ⟨e,he,rfl⟩:=List.mem_map.1 hn
  obtain ⟨x,hx,hxs⟩:=h.dom e.1 (by rw [← h.hs,Tm.look_some h.tk.nd (n:=e.1) (s:=e.2) he]; rfl)
  exact List.mem_map.2 ⟨x,hx,hxs⟩
 simpa using h1
theorem Core.lenL (h:Core w X χ g):X.L.length≤X.ls.length:=by
 have h1:=Tm.len_le (b:=X.ls.map fun e=>e.1.s) h.ms.nd fun n hn=>by
  obtain ⟨e,he,rfl⟩:=List.mem_map.1 hn
  obtain ⟨x,hx,hxs⟩:=h.dom e.1 (h.good.mas e.1 e.2 (by rw [← h.hm,lookL_some h.ms.nd (n:=e.1) (m:=e.2) he])).1
  exact List.mem_map.2 ⟨x,hx,hxs⟩
 simpa using h1
theorem okN_wf {n:Qm.St} (h:Tm.okN n=true):StWf n:=by
 unfold Tm.okN okNode at h
 rw [Bool.and_eq_true] at h
 have:=rightB_yes h.1
 exact ⟨i64wf (by omega) (by omega),i64wf (by omega) (by omega)⟩
theorem place_wf {n:Qm.St} (h:okPlace n.1 n.2=true):StWf n:=by
 unfold okPlace at h
 rw [Bool.or_eq_true,Bool.or_eq_true] at h
 rcases h with (h | h) | h
 ·exact okN_wf (n:=n) h
 ·unfold isZ at h
  rw [Bool.and_eq_true,beq_iff_eq,beq_iff_eq] at h
  unfold StWf
  rw [h.1,h.2]
  decide
 ·unfold isT at h
  rw [Bool.and_eq_true,beq_iff_eq,beq_iff_eq] at h
  unfold StWf
  rw [h.1,h.2]
  decide
theorem rightSp_wf {s:Sp} (h:Tm.rightSp s=true):StWf s.1∧s.2.size≤140737488355328:=by
 unfold Tm.rightSp at h
 rw [Bool.and_eq_true] at h
 refine ⟨place_wf h.1,?_⟩
 have h2:1≤s.2.data.toList.length∧s.2.data.toList.length≤24∧_:=of_decide_eq_true h.2
 have h3:=h2.2.1
 rw [Array.length_toList] at h3
 have:s.2.size=s.2.data.size:=rfl
 omega
theorem Core.par (h:Core w X χ g):∀ e ∈ X.T,StWf e.2.1:=fun e he=>(rightSp_wf (h.tk.sp e he)).1
theorem Core.hasEq (h:Core w X χ g) (p:Qm.St):Tm.has X.T p=Gm.has g p:=by unfold Tm.has Gm.has; rw [h.hs]
theorem Core.tree' (h:Core w X χ g) {T':Tr} {C':List Kid} (hl:Lay w' X.P X.M1 X.M2 T' C' (fun k=>χ k=4∨(w.heap.size≤k∧k<w'.heap.size))) (ht:Turns (fun k=>χ k=4) w w') (tk:Tm.Ok T')
  (hs:∀ n,Tm.look T' n=g'.s n) (hm:g'.m=g.m) (good:Gm.Good g') (dom:∀ n,(g'.s n).isSome=true→∃ e ∈ X.ls,e.1.s=n):Core w' { X with T:=T',C:=C' } (grown χ w w' 4) g':=by
 have hz:=ht.size
 have ho:∀ k,χ k≠0→grown χ w w' 4 k=χ k:=fun k hk=>grown_old h.lt hk
 have hx:∀ k,χ k≠0→χ k≠4→w'.heap[k]?=w.heap[k]?:=fun k hk h4=>ht.block k (h.lt k hk) h4
 refine ⟨fun k hk=>grown_lt hz hk,h.at_.block (hx _ (by rw [h.cb]; decide) (by rw [h.cb]; decide)),(ho _ (by rw [h.cb]; decide)).trans h.cb,ht.own h.ro fun k hk=>by rw [h.co k hk]; decide,fun k hk=>(ho _ (by rw [h.co k hk]; decide)).trans (h.co k hk),
  ht.own h.ru fun k hk=>by rw [h.cu k hk]; decide,fun k hk=>(ho _ (by rw [h.cu k hk]; decide)).trans (h.cu k hk),hl.more (fun k hk=>?_) (fun k hk=>grown_lt hz (by rw [hk]; decide)),
  (h.ms.turns ht fun k hk=>by rw [hk]; decide).more (fun k hk=>(ho _ (by rw [hk]; decide)).trans hk) (fun k hk=>grown_lt hz (by rw [hk]; decide)),
  fun e he=>⟨(ho _ (by rw [(h.ln e he).1]; decide)).trans (h.ln e he).1,(h.ln e he).2.block (hx _ (by rw [(h.ln e he).1]; decide) (by rw [(h.ln e he).1]; decide))⟩,tk,hs,fun n=>by rw [hm]; exact h.hm n,good,h.ops,h.few,dom⟩
 rcases hk with hk | hk
 ·exact (ho k (by rw [hk]; decide)).trans hk
 ·exact grown_new hk.1 hk.2
theorem Core.ms' (h:Core w X χ g) {L':Lk} {D':List Kid} (hl:Ms w' X.M3 X.M4 L' D' (fun k=>χ k=5∨(w.heap.size≤k∧k<w'.heap.size))) (ht:Turns (fun k=>χ k=5) w w')
  (hm:∀ n,lookL L' n=g'.m n) (hs:g'.s=g.s) (good:Gm.Good g'):Core w' { X with L:=L',D:=D' } (grown χ w w' 5) g':=by
 have hz:=ht.size
 have ho:∀ k,χ k≠0→grown χ w w' 5 k=χ k:=fun k hk=>grown_old h.lt hk
 have hx:∀ k,χ k≠0→χ k≠5→w'.heap[k]?=w.heap[k]?:=fun k hk h4=>ht.block k (h.lt k hk) h4
 refine ⟨fun k hk=>grown_lt hz hk,h.at_.block (hx _ (by rw [h.cb]; decide) (by rw [h.cb]; decide)),(ho _ (by rw [h.cb]; decide)).trans h.cb,ht.own h.ro fun k hk=>by rw [h.co k hk]; decide,fun k hk=>(ho _ (by rw [h.co k hk]; decide)).trans (h.co k hk),
  ht.own h.ru fun k hk=>by rw [h.cu k hk]; decide,fun k hk=>(ho _ (by rw [h.cu k hk]; decide)).trans (h.cu k hk),(h.tree.turns ht fun k hk=>by rw [hk]; decide).more (fun k hk=>(ho _ (by rw [hk]; decide)).trans hk) (fun k hk=>grown_lt hz (by rw [hk]; decide)),
  hl.more (fun k hk=>?_) (fun k hk=>grown_lt hz (by rw [hk]; decide)),
  fun e he=>⟨(ho _ (by rw [(h.ln e he).1]; decide)).trans (h.ln e he).1,(h.ln e he).2.block (hx _ (by rw [(h.ln e he).1]; decide) (by rw [(h.ln e he).1]; decide))⟩,h.tk,fun n=>by rw [hs]; exact h.hs n,hm,good,h.ops,h.few,fun n hn=>h.dom n (by rw [← hs]; exact hn)⟩
 rcases hk with hk | hk
 ·exact (ho k (by rw [hk]; decide)).trans hk
 ·exact grown_new hk.1 hk.2
theorem goes_grown {c d:Nat} (ht:Turns (fun k=>χ k=c) w w') (h1:1≤c) (h5:c≤5):Goes w χ w' (grown χ w w' d):=⟨ht.mono fun k _ hk=>by rw [hk]; exact ⟨h1,h5⟩,fun k hk=>if_pos hk⟩
theorem Core.cell (h:Core w X χ g) (i:Nat):w.cell? ⟨X.b,i,none⟩=X.cells[i]?:=AgAt.cell h.at_ i
theorem Core.free (h:Core w X χ g) (i:Nat):w.frozen? ⟨X.b,i,none⟩=false:=AgAt.free h.at_ i
theorem Core.cP (h:Core w X χ g):w.cell? ⟨X.b,4,none⟩=some (ptV X.P):=(h.cell 4).trans rfl
theorem Core.c3 (h:Core w X χ g):w.cell? ⟨X.b,5,none⟩=some (.map (some X.M3)):=(h.cell 5).trans rfl
theorem Core.c4 (h:Core w X χ g):w.cell? ⟨X.b,6,none⟩=some (.map (some X.M4)):=(h.cell 6).trans rfl
theorem Core.cO (h:Core w X χ g):w.cell? ⟨X.b,2,none⟩=some X.po:=(h.cell 2).trans rfl
theorem Core.cU (h:Core w X χ g):w.cell? ⟨X.b,3,none⟩=some X.pu:=(h.cell 3).trans rfl
end
structure Grf (w:World) (X:Gx) (χ:Nat→Nat):Prop extends Core w X χ (Gm.run (X.ops.take X.us.length)) where
 fewer:X.us.length≤X.ls.length
 un:∀ i u x,X.us[i]?=some u→X.ops[i]?=some x→UkOk w χ (Gm.run (X.ops.take i)) x u
theorem Grf.turns {w w':World} {X:Gx} {χ:Nat→Nat} {G:Nat→Prop} (h:Grf w X χ) (ht:Turns G w w') (hd:∀ k,χ k≠0→¬ G k):Grf w' X χ :=
 ⟨h.toCore.turns ht hd,h.fewer,fun i u x hu hx=>(h.un i u x hu hx).keep fun k hk=>⟨hk,ht.block k (h.lt k (by rw [hk]; decide)) (hd k (by rw [hk]; decide))⟩⟩
theorem Grf.kept {w w':World} {X:Gx} {χ:Nat→Nat} (h:Grf w X χ) (hb:Below w.heap.size w w'):Grf w' X χ:=h.turns (Turns.of_below (F:=fun _=>False) hb) fun _ _ h=>h
section
variable {P:Program} {ops:Array Oper} {Q:Exit→Act→World→Prop} {md:Region.Mode} {S:World→Prop} {m:Nat}
def wpAnyL (P:Program) (md:Region.Mode) (ops:Array Oper) (Q:Exit→Act→World→Prop) (S:World→Prop) (m:Nat):Nat→Array Bool→Act→World→Prop
 | 0,listed,a,w=>Region.ready md ops listed=[]∧Q .normal a w
 | fuel+1,listed,a,w =>
  (Region.ready md ops listed=[]→Q .normal a w) ∧
  ∀ i ∈ Region.ready md ops listed,wpOp P ops Q i (fun a' w'=>(i≠m→S w')∧wpAnyL P md ops Q S m fuel (listed.setIfInBounds i true) a' w') a w
theorem wpAny_of_last:∀ (fuel:Nat) (listed:Array Bool) (a:Act) (w:World),wpAnyL P md ops Q S m fuel listed a w→wpAny P md ops Q fuel listed a w
 | 0,_,_,_,h=>h
 | fuel+1,_,_,_,h=>⟨h.1,fun i hi=>wpOp_mono (fun a' w' h'=>wpAny_of_last fuel _ a' w' h'.2) (h.2 i hi)⟩
theorem wpAnyL_first {i:Nat} {oi:Oper} {v:Value} (hi:ops[i]?=some oi) (hsel:∀ (j:Nat) (o:Oper) cs b,ops[j]?=some o→o.op ≠ .select cs b)
  (hQ:∀ c a w,Q (.panic c) (a.put oi.dst v) w→Q (.panic c) a w) (hm:∃ om,ops[m]?=some om∧∃ e ∈ om.after,Region.binds md e=true∧e.on=i) :
  ∀ (fuel:Nat) (listed:Array Bool) (a:Act) (w:World),
   (∀ j oj,ops[j]?=some oj→j≠i→listed.getD j true=false→(∀ e ∈ oj.after,Region.binds md e=true→e.on≠i)→oi.apart ops oj=true) →
   i ∈ Region.ready md ops listed→YieldsIf P ops S oi v a→S w →
   wpAnyL P md ops Q S m fuel (listed.setIfInBounds i true) (a.put oi.dst v) w→wpAnyL P md ops Q S m (fuel+1) listed a w:=by
 intro fuel
 induction fuel with
 | zero =>
  intro listed a w _ hr hy hS H
  refine ⟨fun h=>(by rw [h] at hr; cases hr),fun j hj=>?_⟩
  by_cases hji:j=i
  ·subst hji; exact hy.wpOp hi hS ⟨fun _=>hS,H⟩
  ·have:=ready_mono hj hji
   rw [H.1] at this
   cases this
 | succ fuel ih =>
  intro listed a w hfree hr hy hS H
  refine ⟨fun h=>(by rw [h] at hr; cases hr),fun j hj=>?_⟩
  by_cases hji:j=i
  ·subst hji; exact hy.wpOp hi hS ⟨fun _=>hS,H⟩
  ·have h1:=H.2 j (ready_mono hj hji)
   obtain ⟨hjun,oj,hoj,hall⟩:=mem_ready.1 hj
   have hnot:∀ e ∈ oj.after,Region.binds md e=true→e.on≠i:=fun e he hb heq=>by
    have h1:=hall e he hb
    have h0:=(mem_ready.1 hr).1
    rw [heq] at h1
    rcases Nat.lt_or_ge i listed.size with h' | h'
    ·simp [h'] at h0 h1; rw [h0] at h1; cases h1
    ·simp [Array.getElem?_eq_none h'] at h1
   have hjm:j≠m:=fun e=>by
    subst e
    obtain ⟨om,ho,e,he,hb,heq⟩:=hm
    rw [hoj] at ho
    cases ho
    exact hnot e he hb heq
   have h2:=wpOp_putIf hoj (hfree j oj hoj hji hjun hnot) (fun cs b=>hsel i oi cs b hi) (fun cs b=>hsel j oj cs b hoj) hQ hy h1
   have hfree':∀ k ok,ops[k]?=some ok→k≠i→(listed.setIfInBounds j true).getD k true=false →
     (∀ e ∈ ok.after,Region.binds md e=true→e.on≠i)→oi.apart ops ok=true:=fun k ok hk hki hun hno=>by
    refine hfree k ok hk hki ?_ hno
    by_cases hjk:j=k
    ·subst hjk; exact hjun
    ·rw [getD_set_ne true hjk] at hun; exact hun
   refine wpOp_mono (fun a' w' h3=>⟨h3.2.1,ih (listed.setIfInBounds j true) a' w' hfree' (ready_mono hr (Ne.symm hji)) h3.1 (h3.2.1 hjm) ?_⟩) h2
   rw [Array.setIfInBounds_comm _ _ hji]
   exact h3.2.2
theorem wpAnyL_take {i:Nat} {oi:Oper} {v:Value} {fuel:Nat} {listed:Array Bool} {a:Act} {w:World} (hi:ops[i]?=some oi)
  (hs:Region.noSelect ops=true) (hf:Region.free md ops listed i=true) (hr:(Region.ready md ops listed).contains i=true)
  (hQ:∀ c a w,Q (.panic c) (a.put oi.dst v) w→Q (.panic c) a w) (hy:YieldsIf P ops S oi v a) (hS:S w) (hm:Region.waitsFor md ops m i=true)
  (h:wpAnyL P md ops Q S m fuel (listed.setIfInBounds i true) (a.put oi.dst v) w):wpAnyL P md ops Q S m (fuel+1) listed a w :=
 wpAnyL_first hi (Region.noSelect_spec hs) hQ (Region.waitsFor_spec hm) fuel listed a w (Region.free_spec hi hf) (by simpa using hr) hy hS h
def AllReadyL (P:Program) (md:Region.Mode) (ops:Array Oper) (Q:Exit→Act→World→Prop) (S:World→Prop) (m:Nat) (fuel:Nat) (listed:Array Bool) (a:Act) (w:World) (rs:List Nat):Prop :=
 ∀ i ∈ rs,wpOp P ops Q i (fun a' w'=>(i≠m→S w')∧wpAnyL P md ops Q S m fuel (listed.setIfInBounds i true) a' w') a w
theorem AllReadyL.nil {fuel:Nat} {listed:Array Bool} {a:Act} {w:World}:AllReadyL P md ops Q S m fuel listed a w []:=fun _ h=>by cases h
theorem AllReadyL.cons {fuel:Nat} {listed:Array Bool} {a:Act} {w:World} {i:Nat} {o:Oper} {rs:List Nat} (ho:ops[i]?=some o)
  (h:∀ K':Act→World→Prop,Shut (∀ a w,S w→(S w→wpAnyL P md ops Q S m fuel (listed.setIfInBounds i true) a w)→K' a w)→if Region.wanted o (yielded ops a.tmps)=true then Oper.wp P o a w K' Q else K' (a.put o.dst undef) w)
  (hs:AllReadyL P md ops Q S m fuel listed a w rs):AllReadyL P md ops Q S m fuel listed a w (i :: rs):=fun j hj=>by
 rcases List.mem_cons.1 hj with rfl | hj
 ·exact wpOp_step ho (fun K' hK=>h K' (fun a w hS hW=>hK a w ⟨fun _=>hS,hW hS⟩))
 ·exact hs j hj
theorem AllReadyL.last {fuel:Nat} {listed:Array Bool} {a:Act} {w:World} {o:Oper} (ho:ops[m]?=some o)
  (h:∀ K':Act→World→Prop,Shut (∀ a w,wpAnyL P md ops Q S m fuel (listed.setIfInBounds m true) a w→K' a w)→if Region.wanted o (yielded ops a.tmps)=true then Oper.wp P o a w K' Q else K' (a.put o.dst undef) w):AllReadyL P md ops Q S m fuel listed a w [m]:=fun j hj=>by
 rcases List.mem_cons.1 hj with rfl | hj
 ·exact wpOp_step ho (fun K' hK=>h K' (fun a w hW=>hK a w ⟨fun h=>absurd rfl h,hW⟩))
 ·cases hj
theorem wpAnyL_ready {rs:List Nat} {fuel:Nat} {listed:Array Bool} {a:Act} {w:World} (hr:Region.ready md ops listed=rs) (hne:rs ≠ [])
  (h:AllReadyL P md ops Q S m fuel listed a w rs):wpAnyL P md ops Q S m (fuel+1) listed a w:=⟨fun h0=>absurd (hr ▸ h0) hne,hr ▸ h⟩
theorem wpAnyL_done {listed:Array Bool} {a:Act} {w:World} (hr:Region.ready md ops listed=[]) (h:Q .normal a w) :
  ∀ fuel,wpAnyL P md ops Q S m fuel listed a w
 | 0=>⟨hr,h⟩
 | _+1=>⟨fun _=>h,by rw [hr]; simp⟩
theorem wp_region_last_drew (m:Nat) {id:Nat} {a:Act} {w:World} (hm:P.follows .mixedOrders=true) (hS:S w.drew)
  (h:S w.drew→wpAnyL P .any ops Q S m ops.size (Array.replicate ops.size false) a w.drew):(Code.region id ops true).wp P Q a w :=
 wp_region_any hm (wpAny_of_last _ _ _ _ (h hS))
end
end Go.Proofs.YthfhefdfehlbkaaGreat

/-
  turn: a node gets its master, or none.
  No conditions but sizes.
  WHAT A TREE's ACTS MAKE, seen as where nodes are: an op tried, and taken back; plainly.
  No conditions.
  The program's Move.
  No conditions but sizes.
-/
import Derived.Test.YthfhefdfehlbkaaGreatSh
import Derived.Test.YthfhefdfehlbkaaGreatK14
import Derived.Test.YthfhefdfehlbkaaGreatK16
set_option maxRecDepth 100000
set_option maxHeartbeats 8000000
namespace Go.Proofs.YthfhefdfehlbkaaGreat
open Go.RowKit
open Tm (Sp Tr has put cut kids)
def turnL (L:Lk) (n q:Qm.St):Lk:=if q=(0,0) then cutL L n else cutL L n ++ [(n,q)]
theorem lookL_turn (L:Lk) (n q m:Qm.St):lookL (turnL L n q) m=if m=n then (if q=(0,0) then none else some q) else lookL L m:=by
 unfold turnL
 by_cases h:q=(0,0)
 ·rw [if_pos h,if_pos h,lookL_cut]
 ·rw [if_neg h,if_neg h,lookL_put (by rw [lookL_cut,if_pos rfl]),lookL_cut]
  by_cases e:m=n
  ·rw [if_pos e,if_pos e]
  ·rw [if_neg e,if_neg e,if_neg e]
theorem cutL_none {L:Lk} {n:Qm.St} (h:(lookL L n).isSome=false):cutL L n=L:=by
 unfold cutL
 rw [List.filter_eq_self]
 intro e he
 cases e2:(e.1 == n) with
 | false=>rfl
 | true =>
  unfold lookL at h
  rw [Option.isSome_map] at h
  have:=List.find?_isSome (p:=fun e:Qm.St × Qm.St=>e.1 == n) (xs:=L)
  rw [Bool.eq_false_iff] at h
  exact absurd (this.2 ⟨e,he,e2⟩) h
theorem lk_some_of {D:List Kid} {p:Qm.St} {b:Nat} (h:kidOf D p=some b):lk (belows D) p=some (.map (some b)):=by
 have h1:=lk_belows D p
 rw [h] at h1
 cases e:lk (belows D) p with
 | none=>rw [e] at h1; cases h1
 | some v=>rw [e] at h1; exact congrArg some h1
def HalfM (L:Lk) (D:List Kid) (p:Qm.St):Prop:=(∀ c ∈ D,(c.p≠p→c.l ≠ [])∧∀ n,n ∈ c.l↔lookL L n=some c.p)∧∀ n m,lookL L n=some m→∃ c ∈ D,c.p=m
section
variable {w w':World} {M3 M4:Nat} {L:Lk} {D:List Kid} {F G:Nat→Prop} {n p va:Qm.St}
theorem Mm.setKid {f:List Qm.St→List Qm.St} {kc:Kid} {kb:Nat} (h:Mm w M3 M4 L D F) (hk:kc ∈ D) (hb:kc.b=kb) (hm:SMap w' kb (nodesOf (f kc.l))) (ht:Turns (fun k=>k=kb) w w'):Mm w' M3 M4 L (setKid D kc.p f) F:=by
 subst hb
 have h1:=h.kne kc hk
 refine ⟨h.mast.turns ht fun e=>h1.1 e.symm,by rw [belows_setKid]; exact h.inst.turns ht fun e=>h1.2 e.symm,fun c' hc'=>?_,h.f3,h.f4,fun c' hc'=>?_,h.ne,fun c' hc'=>?_,by rw [setKid_b]; exact h.knd,fun k hk=>Nat.lt_of_lt_of_le (h.lt k hk) ht.size⟩
 ·obtain ⟨c,hc,k1,k2,k3,k4⟩:=mem_setKid hc'
  by_cases e:c.p=kc.p
  ·have:c=kc:=one_of h.cnd hc hk e
   subst this
   rw [k2,k3 rfl]
   exact hm
  ·obtain rfl:=k4 e
   exact (h.inner c' hc).turns ht fun e2=>e (by rw [one_of h.knd hc hk e2])
 ·obtain ⟨c,hc,k1,k2,-⟩:=mem_setKid hc'
  rw [k2]; exact h.fK c hc
 ·obtain ⟨c,hc,k1,k2,-⟩:=mem_setKid hc'
  rw [k2]; exact h.kne c hc
theorem Mm.newKid {b:Nat} (h:Mm w M3 M4 L D F) (hn:SMap w b []) (hm:SMap w' M4 (belows D ++ [(p,.map (some b))])) (ht:Turns (fun k=>k=M4) w w') (hb:¬ F b) (hl:b<w.heap.size) :
  Mm w' M3 M4 L (D ++ [(⟨p,b,[]⟩:Kid)]) (fun k=>F k∨k=b):=by
 have hbM:b≠M4:=fun e=>hb (by rw [e]; exact h.f4)
 refine ⟨h.mast.turns ht h.ne,by unfold belows at hm ⊢; rw [List.map_append]; exact hm,fun c hc=>?_,Or.inl h.f3,Or.inl h.f4,fun c hc=>?_,h.ne,fun c hc=>?_,?_,fun k hk=>?_⟩
 ·rcases List.mem_append.1 hc with hc | hc
  ·exact (h.inner c hc).turns ht (h.kne c hc).2
  ·obtain rfl:=List.mem_singleton.1 hc
   exact hn.turns ht hbM
 ·rcases List.mem_append.1 hc with hc | hc
  ·exact Or.inl (h.fK c hc)
  ·obtain rfl:=List.mem_singleton.1 hc
   exact Or.inr rfl
 ·rcases List.mem_append.1 hc with hc | hc
  ·exact h.kne c hc
  ·obtain rfl:=List.mem_singleton.1 hc
   exact ⟨fun e=>hb (by simp only at e; rw [e]; exact h.f3),hbM⟩
 ·rw [List.map_append]
  refine List.nodup_append.2 ⟨h.knd,by simp,fun x hx y hy e=>?_⟩
  obtain ⟨c,hc,rfl⟩:=List.mem_map.1 hx
  have:y=b:=by simpa using hy
  subst this
  exact hb (by rw [← e]; exact h.fK c hc)
 ·rcases hk with hk | hk
  ·exact Nat.lt_of_lt_of_le (h.lt k hk) ht.size
  ·subst hk; exact Nat.lt_of_lt_of_le hl ht.size
theorem Mm.newMast {q:Qm.St} (h:Mm w M3 M4 L D F) (hm:SMap w' M3 (masts L ++ [(n,snV q)])) (ht:Turns (fun k=>k=M3) w w'):Mm w' M3 M4 (L ++ [(n,q)]) D F :=
 ⟨by unfold masts at *; rw [List.map_append]; exact hm,h.inst.turns ht fun e=>h.ne e.symm,fun c hc=>(h.inner c hc).turns ht (h.kne c hc).1,h.f3,h.f4,h.fK,h.ne,h.kne,h.knd,fun k hk=>Nat.lt_of_lt_of_le (h.lt k hk) ht.size⟩
theorem Mm.cutMast (h:Mm w M3 M4 L D F) (hm:SMap w' M3 ((masts L).filter fun e=>!(e.1 == n))) (ht:Turns (fun k=>k=M3) w w'):Mm w' M3 M4 (cutL L n) D F :=
 ⟨by unfold masts cutL at *; rw [List.filter_map] at hm; exact hm,h.inst.turns ht fun e=>h.ne e.symm,fun c hc=>(h.inner c hc).turns ht (h.kne c hc).1,h.f3,h.f4,h.fK,h.ne,h.kne,h.knd,fun k hk=>Nat.lt_of_lt_of_le (h.lt k hk) ht.size⟩
theorem Mm.cutKid (h:Mm w M3 M4 L D F) (hm:SMap w' M4 ((belows D).filter fun e=>!(e.1 == p))) (ht:Turns (fun k=>k=M4) w w'):Mm w' M3 M4 L (D.filter fun c=>!(c.p == p)) F:=by
 refine ⟨h.mast.turns ht h.ne,by unfold belows at *; rw [List.filter_map] at hm; exact hm,fun c hc=>?_,h.f3,h.f4,fun c hc=>h.fK c (List.mem_filter.1 hc).1,h.ne,fun c hc=>h.kne c (List.mem_filter.1 hc).1,
  (List.filter_sublist.map Kid.b).nodup h.knd,fun k hk=>Nat.lt_of_lt_of_le (h.lt k hk) ht.size⟩
 have hc':=(List.mem_filter.1 hc).1
 exact (h.inner c hc').turns ht (h.kne c hc').2
theorem Ms.cutFull (h:Ms w M3 M4 L D F) (hl:lookL L n=some va):HalfM (cutL L n) (Go.Proofs.YthfhefdfehlbkaaGreat.setKid D va (fun l=>l.filter fun m=>!(m == n))) va:=by
 constructor
 ·intro c' hc'
  obtain ⟨c,hc,k1,k2,k3,k4⟩:=mem_setKid hc'
  by_cases e:c.p=va
  ·refine ⟨fun h=>absurd (k1.trans e) h,fun m=>?_⟩
   rw [k3 e,k1,lookL_cut,List.mem_filter,(h.full c hc).2 m]
   by_cases e2:m=n
   ·subst e2; simp
   ·simp [e2]
  ·obtain rfl:=k4 e
   refine ⟨fun _=>(h.full c' hc).1,fun m=>?_⟩
   rw [lookL_cut,(h.full c' hc).2 m]
   by_cases e2:m=n
   ·subst e2
    rw [if_pos rfl,hl]
    constructor
    ·intro h2; cases h2; exact absurd rfl e
    ·intro h2; cases h2
   ·rw [if_neg e2]
 ·intro m k hm
  rw [lookL_cut] at hm
  split at hm
  ·cases hm
  ·obtain ⟨c,hc,h1⟩:=h.all m k hm
   obtain ⟨c',hc',h2⟩:=setKid_mem (p:=va) (f:=fun l=>l.filter fun m=>!(m == n)) hc
   exact ⟨c',hc',h2.trans h1⟩
theorem HalfM.keep (h:HalfM L D p) (hne:∀ c ∈ D,c.p=p→c.l ≠ []):(∀ c ∈ D,c.l ≠ []∧∀ n,n ∈ c.l↔lookL L n=some c.p)∧∀ n m,lookL L n=some m→∃ c ∈ D,c.p=m :=
 ⟨fun c hc=>⟨by
  by_cases e:c.p=p
  ·exact hne c hc e
  ·exact (h.1 c hc).1 e,(h.1 c hc).2⟩,h.2⟩
theorem HalfM.drop (h:HalfM L D p) (he:∀ c ∈ D,c.p=p→c.l=[]):(∀ c ∈ D.filter (fun c=>!(c.p == p)),c.l ≠ []∧∀ n,n ∈ c.l↔lookL L n=some c.p)∧∀ n m,lookL L n=some m→∃ c ∈ D.filter (fun c=>!(c.p == p)),c.p=m:=by
 refine ⟨fun c hc=>?_,fun n m hm=>?_⟩
 ·have:=List.mem_filter.1 hc
  have e:c.p≠p:=by simpa using this.2
  exact ⟨(h.1 c this.1).1 e,(h.1 c this.1).2⟩
 ·obtain ⟨c,hc,rfl⟩:=h.2 n m hm
  refine ⟨c,List.mem_filter.2 ⟨hc,?_⟩,rfl⟩
  by_cases e:c.p=p
  ·have h1:=((h.1 c hc).2 n).2 hm
   rw [he c hc e] at h1
   cases h1
  ·simpa using e
theorem Ms.halfOld (h:Ms w M3 M4 L D F) (p:Qm.St):HalfM L D p:=⟨fun c hc=>⟨fun _=>(h.full c hc).1,(h.full c hc).2⟩,h.all⟩
theorem Ms.halfNew (h:Ms w M3 M4 L D F) (hk:kidOf D p=none) (b:Nat):HalfM L (D ++ [(⟨p,b,[]⟩:Kid)]) p:=by
 constructor
 ·intro c hc
  rcases List.mem_append.1 hc with hc | hc
  ·exact ⟨fun _=>(h.full c hc).1,(h.full c hc).2⟩
  ·obtain rfl:=List.mem_singleton.1 hc
   exact ⟨fun e=>absurd rfl e,fun n=>⟨fun h=>(by cases h),fun hn=>absurd hn (h.kidNone hk n)⟩⟩
 ·intro n m hm
  obtain ⟨c,hc,h1⟩:=h.all n m hm
  exact ⟨c,List.mem_append_left _ hc,h1⟩
theorem HalfM.put {q:Qm.St} (h:HalfM L D q) (hn:lookL L n=none) (hp:∃ c ∈ D,c.p=q) :
  (∀ c ∈ Go.Proofs.YthfhefdfehlbkaaGreat.setKid D q (fun l=>l ++ [n]),c.l ≠ []∧∀ m,m ∈ c.l↔lookL (L ++ [(n,q)]) m=some c.p)∧∀ m k,lookL (L ++ [(n,q)]) m=some k→∃ c ∈ Go.Proofs.YthfhefdfehlbkaaGreat.setKid D q (fun l=>l ++ [n]),c.p=k:=by
 constructor
 ·intro c' hc'
  obtain ⟨c,hc,h1,h2,h3,h4⟩:=mem_setKid hc'
  by_cases e:c.p=q
  ·rw [h3 e,h1,e]
   refine ⟨by simp,fun m=>?_⟩
   rw [List.mem_append,(h.1 c hc).2 m,lookL_put hn,e]
   by_cases e2:m=n
   ·subst e2; simp
   ·simp [e2]
  ·obtain rfl:=h4 e
   refine ⟨(h.1 c' hc).1 e,fun m=>?_⟩
   rw [(h.1 c' hc).2 m,lookL_put hn]
   by_cases e2:m=n
   ·subst e2
    rw [if_pos rfl,hn]
    constructor
    ·intro h; cases h
    ·intro h; cases h; exact absurd rfl e
   ·rw [if_neg e2]
 ·intro m k hm
  rw [lookL_put hn] at hm
  split at hm
  ·cases hm
   obtain ⟨c,hc,h1⟩:=hp
   obtain ⟨c',hc',h2⟩:=setKid_mem (p:=q) (f:=fun l=>l ++ [n]) hc
   exact ⟨c',hc',h2.trans h1⟩
  ·obtain ⟨c,hc,h1⟩:=h.2 m k hm
   obtain ⟨c',hc',h2⟩:=setKid_mem (p:=q) (f:=fun l=>l ++ [n]) hc
   exact ⟨c',hc',h2.trans h1⟩
end
structure TuI (w:World) (b:Nat) (A:Array Value) (M3 M4:Nat) (L:Lk) (D:List Kid) (F F2:Nat→Prop) (n q:Qm.St) (W:World):Prop where
 a:AgAt W b A
 a5:A[5]?=some (.map (some M3))
 a6:A[6]?=some (.map (some M4))
 m:Mm W M3 M4 L D F2
 n0:AgAt W w.heap.size (stA n)
 n1:AgAt W (w.heap.size+1) (stA q)
 t:Turns F w W
 f2:∀ k,F2 k→F k∨(w.heap.size+2≤k∧k<W.heap.size)
 f1:∀ k,F k→F2 k
 z:w.heap.size+2≤W.heap.size
 lF:∀ k,F k→k<w.heap.size
 bF:¬ F b
 bl:b<w.heap.size
section
variable {w W W':World} {b M3 M4:Nat} {A:Array Value} {L L':Lk} {D D':List Kid} {F F2 F3:Nat→Prop} {n q:Qm.St}
theorem TuI.c5 (h:TuI w b A M3 M4 L D F F2 n q W):W.cell? ⟨b,5,none⟩=some (.map (some M3)):=(AgAt.cell h.a 5).trans h.a5
theorem TuI.c6 (h:TuI w b A M3 M4 L D F F2 n q W):W.cell? ⟨b,6,none⟩=some (.map (some M4)):=(AgAt.cell h.a 6).trans h.a6
theorem TuI.kept (h:TuI w b A M3 M4 L D F F2 n q W) (hb:Below W.heap.size W W'):TuI w b A M3 M4 L D F F2 n q W' :=
 ⟨h.a.kept hb,h.a5,h.a6,h.m.kept hb,h.n0.kept hb,h.n1.kept hb,h.t.trans (Turns.of_below hb),fun k hk=>(h.f2 k hk).imp id fun h1=>⟨h1.1,Nat.lt_of_lt_of_le h1.2 hb.size⟩,h.f1,Nat.le_trans h.z hb.size,h.lF,h.bF,h.bl⟩
theorem TuI.turn {x:Nat} (h:TuI w b A M3 M4 L D F F2 n q W) (hx:F3 x) (ht:Turns (fun k=>k=x) W W') (hm:Mm W' M3 M4 L' D' F3) (h3:∀ k,F3 k→F k∨(w.heap.size+2≤k∧k<W'.heap.size)) (h4:∀ k,F k→F3 k):TuI w b A M3 M4 L' D' F F3 n q W':=by
 have hne:∀ k,(k=b∨k=w.heap.size∨k=w.heap.size+1)→k≠x:=fun k hk e=>by
  subst e
  rcases h3 k hx with h1 | h1
  ·have:=h.lF k h1
   rcases hk with hk | hk
   ·subst hk; exact h.bF h1
   ·omega
  ·have:=h.bl
   omega
 exact ⟨h.a.block (ht.block _ (AgAt.lt h.a) (hne b (Or.inl rfl))),h.a5,h.a6,hm,h.n0.block (ht.block _ (AgAt.lt h.n0) (hne _ (Or.inr (Or.inl rfl)))),h.n1.block (ht.block _ (AgAt.lt h.n1) (hne _ (Or.inr (Or.inr rfl)))),
  h.t.trans (ht.mono fun k _ hk=>by subst hk; exact (h3 k hx).imp id fun h=>by omega),h3,h4,Nat.le_trans h.z ht.size,h.lF,h.bF,h.bl⟩
theorem TuI.turn0 {x:Nat} (h:TuI w b A M3 M4 L D F F2 n q W) (hx:F2 x) (ht:Turns (fun k=>k=x) W W') (hm:Mm W' M3 M4 L' D' F2):TuI w b A M3 M4 L' D' F F2 n q W' :=
 h.turn hx ht hm (fun k hk=>(h.f2 k hk).imp id fun h1=>⟨h1.1,Nat.lt_of_lt_of_le h1.2 ht.size⟩) h.f1
end
def Turned (M3 M4:Nat) (L:Lk) (F:Nat→Prop) (n q:Qm.St) (w:World) (e:Ending) (w':World):Prop :=
 e=.returned (.tuple #[])∧∃ D',Ms w' M3 M4 (turnL L n q) D' (fun k=>F k∨(w.heap.size≤k∧k<w'.heap.size))∧Turns F w w'
def TuH (w:World) (b:Nat) (A:Array Value) (M3 M4:Nat) (L:Lk) (F:Nat→Prop) (n q:Qm.St) (W:World):Prop :=
 ∃ D,TuI w b A M3 M4 L D F F n q W∧((∀ c ∈ D,c.l ≠ []∧∀ n,n ∈ c.l↔lookL L n=some c.p)∧∀ n m,lookL L n=some m→∃ c ∈ D,c.p=m)
def TuK (w:World) (b:Nat) (A:Array Value) (M3 M4:Nat) (L:Lk) (F:Nat→Prop) (n q:Qm.St) (W:World):Prop :=
 ∃ D F2 kb,TuI w b A M3 M4 L D F F2 n q W∧HalfM L D q∧kidOf D q=some kb
theorem turn_any {b M3 M4:Nat} {A:Array Value} {L:Lk} {D:List Kid} {F:Nat→Prop} (n q:Qm.St) (w:World) (h:Ms w M3 M4 L D F) (ha:AgAt w b A) (h5:A[5]?=some (.map (some M3))) (h6:A[6]?=some (.map (some M4))) (hbF:¬ F b) (hn:StWf n) (hto:StWf q) (hL:∀ a c,lookL L a=some c→StWf c) :
  Calls Tryz.prog 82 #[ptV b,snV n,snV q] w (Turned M3 M4 L F n q w):=by
 have h1:∀ (w:World) (o:Obj),Below w.heap.size w (w.alloc o):=fun w o=>(Below.refl _ _).alloc (Nat.le_refl _) _
 have hb:=(h1 w (.cells (stA n) 35)).trans ((h1 (w.alloc (.cells (stA n) 35)) (.cells (stA q) 35)).mono (by simp))
 have I:=Hi (show TuI w b A M3 M4 L D F F n q ((w.alloc (.cells (stA n) 35)).alloc (.cells (stA q) 35)) from
  ⟨ha.kept hb,h5,h6,h.toMm.kept hb,(AgAt.new w (stA n) 35).kept (h1 _ _),by have:=AgAt.new (w.alloc (.cells (stA n) 35)) (stA q) 35; rwa [World.size_alloc] at this,Turns.of_below hb,fun k hk=>Or.inl hk,fun k hk=>hk,by simp,h.lt,hbF,ha.lt⟩)
 obtain ⟨ib,hib⟩:∃ b,b=(lookL L n).isSome:=⟨_,rfl⟩
 obtain ⟨va,hva⟩:∃ s,s=(lookL L n).getD (0,0):=⟨_,rfl⟩
 have HIB:=Hi hib
 have HVA:=Hi hva
 have HWN:=Hi hn
 have HWT:=Hi hto
 have HWL:=Hi hL
 have HMS:=Hi (show Ms ((w.alloc (.cells (stA n) 35)).alloc (.cells (stA q) 35)) M3 M4 L D F from h.kept hb)
 clear h1 hb h ha h5 h6 hbF hn hto hL hib hva
 go_enter Tryz.func82,Tryz.ntmps82
 go_upto_region 1 with fail
 generalize (w.alloc (.cells (stA n) 35)).alloc (.cells (stA q) 35)=w2 at *
 have hbd:=Below.drew (Below.refl w2.heap.size w2)
 replace I:=Hi (I.out.kept hbd)
 refine wp_region_held_drew (S:=fun W=>Below w2.drew.heap.size w2.drew W) (by kernel_rfl) (Below.refl _ _) (fun hS=>?_)
 clear hbd
 generalize w2.drew=wd at *
 refine tX 0 rfl hS ?_
 refine tX 1 rfl hS ?_
 refine tX 2 rfl hS ?_
 refine tK 3 (v:=?_) rfl ?_ hS ?_
 rotate_left
 ·intro W hSW
  have y:=(I.out.kept hSW).c5
  go_simp
  all_goals with_reducible rfl
 go_simp
 refine tK 4 (v:=snV n) rfl (fun W hSW=>exec_load_ag stT rfl rfl rfl (I.out.kept hSW).n0) hS ?_
 go_simp
 refine tK 5 (v:=.tuple #[snV va,.bool ib]) rfl (fun W hSW=>exec_lookup rfl rfl rfl (by rw [HIB.out,HVA.out]; exact (I.out.kept hSW).m.look1 _ HWN.out)) hS ?_
 refine tX 6 rfl hS ?_
 refine tX 7 rfl hS ?_
 refine tX 8 rfl hS ?_
 go_simp
 refine rD 9 rfl (fun K hK=>?_)
 have HS0:=Hi hS
 go_simp
 have hba:=(Below.refl wd.heap.size wd).alloc (Nat.le_refl _) (.cells #[.int .i64 0,.int .i64 0] 35)
 refine hK.out _ _ (hS.trans (hba.mono hS.size)) (fun hS=>?_)
 clear hK K hba
 refine rD 10 rfl (fun K hK=>?_)
 refine step_of (by kernel_rfl) ?_
 refine wp_store_newag stT _ _ rfl rfl _ (A:=stA va) rfl rfl rfl (stA_one _ _) ?_
 intro w5 hv5 hb5
 have HV5:=Hi hv5
 refine hK.out _ _ (HS0.out.trans (hb5.mono HS0.out.size)) (fun hS=>?_)
 clear hK K hv5 hb5
 refine tX 11 rfl hS ?_
 go_simp
 refine wpAnyH_done (by kernel_rfl) ?_ _
 go_simp
 have HVF:=Hi (show ∀ x,F x→wd.heap.size≠x from fun x hx e=>by subst e; have:=I.out.lF _ hx; have:=I.out.z; omega)
 replace I:=Hi (I.out.kept hS)
 clear hS HS0
 generalize wd.heap.size=vb at *
 go_upto_if 17 with fail
 go_cut [7] (fun s7 wx=>TuH w b A M3 M4 (cutL L n) F n q wx)
 case rest =>
  rename World=>wc7
  obtain ⟨D1,hI,hF1⟩:=hcut
  replace I:=Hi hI
  have HF1:=Hi hF1
  have HNL:=Hi (show lookL (cutL L n) n=none from by rw [lookL_cut,if_pos rfl])
  clear hI hF1 HV5 HVF HMS HWL
  by_cases hto:q=(0,0)
  ·have HE:=Hi (show Turned M3 M4 L F n q w (.returned (.tuple #[])) wc7 from ⟨rfl,D1,by unfold turnL; rw [if_pos hto]; exact ⟨I.out.m.more (fun k hk=>Or.inl hk) (fun k hk=>hk.elim (fun h=>I.out.m.lt k h) fun h=>h.2),HF1.out.1,HF1.out.2⟩,I.out.t⟩)
   have HQ:=Hi (show decide (q=(0,0))=true from decide_eq_true hto)
   clear hto
   go_wp2_with (first | (refine wpList_load_ag stT (by kernel_rfl) _ rfl _ rfl (A:=stA q) rfl I.out.n1 ?_) | (refine wpList_value (by kernel_rfl) (exec_eql_st rfl q (0,0) rfl rfl) ?_; rw [HQ.out]))
   go_end0
   exact HE.out
  ·have HQ:=Hi (show decide (q=(0,0))=false from decide_eq_false hto)
   have HTO:=Hi hto
   clear hto
   go_upto_region 8 with (first | (refine wpList_load_ag stT (by kernel_rfl) _ rfl _ rfl (A:=stA q) rfl I.out.n1 ?_) | (refine wpList_value (by kernel_rfl) (exec_eql_st rfl q (0,0) rfl rfl) ?_; rw [HQ.out]))
   obtain ⟨ko,hko⟩:∃ ko,kidOf D1 q=ko:=⟨_,rfl⟩
   have HKO:=Hi hko
   have HEQ:=Hi (show ∀ W,Sem.run Tryz.prog (binOp BinOp.eql 242 (Value.map ko) (Value.map none)) W=.ok (.bool ko.isNone) W from fun W=>by cases ko with | none=>exact map_eq_none W | some x=>exact map_eq_some W x)
   clear hko
   have hbd:=Below.drew (Below.refl wc7.heap.size wc7)
   replace I:=Hi (I.out.kept hbd)
   refine wp_region_held_drew (S:=fun W=>Below wc7.drew.heap.size wc7.drew W) (by kernel_rfl) (Below.refl _ _) (fun hS=>?_)
   clear hbd
   generalize wc7.drew=wd at *
   refine tX 0 rfl hS ?_
   refine tX 1 rfl hS ?_
   refine tX 2 rfl hS ?_
   refine tK 3 (v:=?_) rfl ?_ hS ?_
   rotate_left
   ·intro W hSW
    have y:=(I.out.kept hSW).c6
    go_simp
    all_goals with_reducible rfl
   go_simp
   refine tK 4 (v:=snV q) rfl (fun W hSW=>exec_load_ag stT rfl rfl rfl (I.out.kept hSW).n1) hS ?_
   go_simp
   refine tK 5 (v:=.map (ko)) rfl (fun W hSW=>exec_lookup rfl rfl rfl (((I.out.kept hSW).m.lookB q HWT.out).trans (by rw [HKO.out]))) hS ?_
   refine tK 6 (v:=?_) rfl ?_ hS ?_
   rotate_left
   ·intro W hSW
    have hne:=HEQ.out W
    go_simp
    all_goals with_reducible rfl
   go_simp
   refine wpAnyH_done (by kernel_rfl) ?_ _
   go_simp
   replace I:=Hi (I.out.kept hS)
   clear hS HEQ
   go_upto_if 52 with fail
   go_cut [] (fun wx=>TuK w b A M3 M4 (cutL L n) F n q wx)
   case first =>
    cases ko with
    | some kb =>
     have HE:=Hi (show TuK w b A M3 M4 (cutL L n) F n q wd from ⟨D1,F,kb,I.out,(show Ms wd M3 M4 (cutL L n) D1 F from ⟨I.out.m,HF1.out.1,HF1.out.2⟩).halfOld q,HKO.out⟩)
     clear I
     go_wp2
     go_meet
     case rel=>exact HE.out
    | none =>
     have HNO:=Hi (show lk (belows D1) q=none from by
      have h1:=lk_belows D1 q
      rw [HKO.out] at h1
      cases e:lk (belows D1) q with
      | none=>rfl
      | some v =>
       obtain ⟨c,hc,hx⟩:=List.mem_map.1 (lk_mem e)
       cases hx
       exact absurd rfl (kidOf_none HKO.out c hc))
     go_upto_region 9 with fail
     have hbd:=Below.drew (Below.refl wd.heap.size wd)
     replace I:=Hi (I.out.kept hbd)
     refine wp_region_last_drew 6 (S:=fun W=>Below wd.drew.heap.size wd.drew W) (by kernel_rfl) (Below.refl _ _) (fun hS=>?_)
     clear hbd
     generalize wd.drew=wh at *
     refine wpAnyL_take (i:=0) (v:=?_) rfl (by kernel_rfl) (by kernel_rfl) (by kernel_rfl) (fun _ _ _ h=>h) (Or.inl ⟨by kernel_rfl,?_⟩) hS (by kernel_rfl) ?_
     rotate_left
     ·intro W hSW
      go_simp
      all_goals with_reducible rfl
     refine wpAnyL_take (i:=1) (v:=?_) rfl (by kernel_rfl) (by kernel_rfl) (by kernel_rfl) (fun _ _ _ h=>h) (Or.inl ⟨by kernel_rfl,?_⟩) hS (by kernel_rfl) ?_
     rotate_left
     ·intro W hSW
      go_simp
      all_goals with_reducible rfl
     refine wpAnyL_take (i:=2) (v:=?_) rfl (by kernel_rfl) (by kernel_rfl) (by kernel_rfl) (fun _ _ _ h=>h) (Or.inl ⟨by kernel_rfl,?_⟩) hS (by kernel_rfl) ?_
     rotate_left
     ·intro W hSW
      go_simp
      all_goals with_reducible rfl
     refine wpAnyL_take (i:=3) (v:=?_) rfl (by kernel_rfl) (by kernel_rfl) (by kernel_rfl) (fun _ _ _ h=>h) (Or.inl ⟨by kernel_rfl,?_⟩) hS (by kernel_rfl) ?_
     rotate_left
     ·intro W hSW
      have y:=(I.out.kept hSW).c6
      go_simp
      all_goals with_reducible rfl
     go_simp
     refine wpAnyL_take (i:=4) (v:=snV q) rfl (by kernel_rfl) (by kernel_rfl) (by kernel_rfl) (fun _ _ _ h=>h) (Or.inl ⟨by kernel_rfl,fun W hSW=>exec_load_ag stT rfl rfl rfl (I.out.kept hSW).n1⟩) hS (by kernel_rfl) ?_
     go_simp
     refine wpAnyL_ready (rs:=[5]) (by kernel_rfl) (by simp) ?_
     refine AllReadyL.cons rfl (fun K hK=>?_) AllReadyL.nil
     have hmm:=@run_makeMap Tryz.prog
     go_simp
     have hba:=(Below.refl wh.heap.size wh).alloc (Nat.le_refl _) (.map #[] 0)
     have I2:=Hi (I.out.kept hba)
     have HNM:=Hi (SMap.made wh)
     have HZM:=Hi (show (wh.alloc (.map #[] 0)).heap.size=wh.heap.size+1 from by simp)
     refine hK.out _ _ (hS.trans (hba.mono hS.size)) (fun hS=>?_)
     clear hK K hba hmm
     generalize wh.alloc (.map #[] 0)=wj at *
     refine wpAnyL_ready (rs:=[6]) (by kernel_rfl) (by simp) ?_
     refine AllReadyL.last rfl (fun K hK=>?_)
     obtain ⟨w9,hrun,hm9,ht9,hz9⟩:=I2.out.m.inst.upd mtBelow q (.map (some wh.heap.size)) HWT.out HNO.out
     have J:=Hi (I2.out.turn (F3:=fun k=>F k∨k=wh.heap.size) (Or.inl I.out.m.f4) ht9 (I2.out.m.newKid HNM.out hm9 ht9 (fun h=>by have:=I.out.lF _ h; have:=I.out.z; omega) (by have:=HZM.out; omega)) (fun k hk=>hk.imp id fun h=>by have:=HZM.out; have:=I.out.z; have:=ht9.size; omega) (fun k hk=>Or.inl hk))
     refine step_of (by kernel_rfl) ?_
     refine wp_mapUpdate _ _ _ _ rfl (.map (some M4)) (snV q) (.map (some wh.heap.size)) rfl rfl rfl w9 hrun ?_
     refine hK.out _ _ ?_
     clear hK K hrun hS hm9 ht9 hz9
     refine wpAnyL_done (by kernel_rfl) ?_ _
     go_simp
     have HE:=Hi (show TuK w b A M3 M4 (cutL L n) F n q w9 from ⟨_,_,_,J.out,(show Ms wh M3 M4 (cutL L n) D1 F from ⟨I.out.m,HF1.out.1,HF1.out.2⟩).halfNew HKO.out _,kidOf_new HKO.out⟩)
     clear I J I2
     go_wp2
     go_meet
     case rel=>exact HE.out
   case rest =>
    rename World=>wc8
    obtain ⟨D2,F2,kb,hI,hH,hk⟩:=hcut
    replace I:=Hi hI
    have HH:=Hi hH
    replace HKO:=Hi hk
    obtain ⟨kc,hk1,hk2,hk3⟩:=kidOf_some hk
    have HFK:=Hi (show F2 kb from by rw [← hk3]; exact I.out.m.fK kc hk1)
    have HKC:=Hi (show kc ∈ D2∧kc.p=q∧kc.b=kb from ⟨hk1,hk2,hk3⟩)
    have HNN:=Hi (show lk (nodesOf kc.l) n=none from by
     rw [lk_nodes,if_neg]
     intro h
     have:=((HH.out.1 kc hk1).2 n).1 h
     rw [HNL.out] at this
     cases this)
    clear hI hH hk hk1 hk2 hk3 HF1
    go_upto_region 10 with fail
    have hbd:=Below.drew (Below.refl wc8.heap.size wc8)
    replace I:=Hi (I.out.kept hbd)
    refine wp_region_last_drew 8 (S:=fun W=>Below wc8.drew.heap.size wc8.drew W) (by kernel_rfl) (Below.refl _ _) (fun hS=>?_)
    clear hbd
    have HKI:=Hi (show kc ∈ D2∧kc.b=kb∧SMap wc8.drew kb (nodesOf kc.l) from ⟨HKC.out.1,HKC.out.2.2,by have:=I.out.m.inner kc HKC.out.1; rw [HKC.out.2.2] at this; exact this⟩)
    generalize wc8.drew=wd at *
    refine wpAnyL_take (i:=0) (v:=?_) rfl (by kernel_rfl) (by kernel_rfl) (by kernel_rfl) (fun _ _ _ h=>h) (Or.inl ⟨by kernel_rfl,?_⟩) hS (by kernel_rfl) ?_
    rotate_left
    ·intro W hSW
     go_simp
     all_goals with_reducible rfl
    refine wpAnyL_take (i:=1) (v:=?_) rfl (by kernel_rfl) (by kernel_rfl) (by kernel_rfl) (fun _ _ _ h=>h) (Or.inl ⟨by kernel_rfl,?_⟩) hS (by kernel_rfl) ?_
    rotate_left
    ·intro W hSW
     go_simp
     all_goals with_reducible rfl
    refine wpAnyL_take (i:=2) (v:=?_) rfl (by kernel_rfl) (by kernel_rfl) (by kernel_rfl) (fun _ _ _ h=>h) (Or.inl ⟨by kernel_rfl,?_⟩) hS (by kernel_rfl) ?_
    rotate_left
    ·intro W hSW
     go_simp
     all_goals with_reducible rfl
    refine wpAnyL_take (i:=3) (v:=?_) rfl (by kernel_rfl) (by kernel_rfl) (by kernel_rfl) (fun _ _ _ h=>h) (Or.inl ⟨by kernel_rfl,?_⟩) hS (by kernel_rfl) ?_
    rotate_left
    ·intro W hSW
     have y:=(I.out.kept hSW).c6
     go_simp
     all_goals with_reducible rfl
    go_simp
    refine wpAnyL_take (i:=4) (v:=snV q) rfl (by kernel_rfl) (by kernel_rfl) (by kernel_rfl) (fun _ _ _ h=>h) (Or.inl ⟨by kernel_rfl,fun W hSW=>exec_load_ag stT rfl rfl rfl (I.out.kept hSW).n1⟩) hS (by kernel_rfl) ?_
    go_simp
    refine wpAnyL_take (i:=5) (v:=.map (some kb)) rfl (by kernel_rfl) (by kernel_rfl) (by kernel_rfl) (fun _ _ _ h=>h) (Or.inl ⟨by kernel_rfl,fun W hSW=>exec_lookup rfl rfl rfl (((I.out.kept hSW).m.lookB q HWT.out).trans (by rw [HKO.out]))⟩) hS (by kernel_rfl) ?_
    go_simp
    refine wpAnyL_take (i:=6) (v:=snV n) rfl (by kernel_rfl) (by kernel_rfl) (by kernel_rfl) (fun _ _ _ h=>h) (Or.inl ⟨by kernel_rfl,fun W hSW=>exec_load_ag stT rfl rfl rfl (I.out.kept hSW).n0⟩) hS (by kernel_rfl) ?_
    refine wpAnyL_take (i:=7) (v:=?_) rfl (by kernel_rfl) (by kernel_rfl) (by kernel_rfl) (fun _ _ _ h=>h) (Or.inl ⟨by kernel_rfl,?_⟩) hS (by kernel_rfl) ?_
    rotate_left
    ·intro W hSW
     go_simp
     all_goals with_reducible rfl
    go_simp
    refine wpAnyL_ready (rs:=[8]) (by kernel_rfl) (by simp) ?_
    refine AllReadyL.last rfl (fun K hK=>?_)
    obtain ⟨w10,hrun,hm10,ht10,hz10⟩:=HKI.out.2.2.upd mtSet n (.agg #[]) HWN.out HNN.out
    have J:=Hi (I.out.turn0 (x:=kb) HFK.out ht10 (I.out.m.setKid (f:=fun l=>l ++ [n]) HKI.out.1 HKI.out.2.1 (by unfold nodesOf; rw [List.map_append]; exact hm10) ht10))
    refine step_of (by kernel_rfl) ?_
    refine wp_mapUpdate _ _ _ _ rfl (.map (some kb)) (snV n) (.agg #[]) rfl rfl rfl w10 hrun ?_
    refine hK.out _ _ ?_
    clear hK K hrun hS hm10 ht10 hz10 HKI
    refine wpAnyL_done (by kernel_rfl) ?_ _
    go_simp
    clear I
    have I:=J
    clear J
    rw [HKC.out.2.1] at I
    go_upto_region 11 with fail
    have hbd:=Below.drew (Below.refl w10.heap.size w10)
    replace I:=Hi (I.out.kept hbd)
    refine wp_region_last_drew 6 (S:=fun W=>Below w10.drew.heap.size w10.drew W) (by kernel_rfl) (Below.refl _ _) (fun hS=>?_)
    clear hbd
    generalize w10.drew=wd at *
    refine wpAnyL_take (i:=0) (v:=?_) rfl (by kernel_rfl) (by kernel_rfl) (by kernel_rfl) (fun _ _ _ h=>h) (Or.inl ⟨by kernel_rfl,?_⟩) hS (by kernel_rfl) ?_
    rotate_left
    ·intro W hSW
     go_simp
     all_goals with_reducible rfl
    refine wpAnyL_take (i:=1) (v:=?_) rfl (by kernel_rfl) (by kernel_rfl) (by kernel_rfl) (fun _ _ _ h=>h) (Or.inl ⟨by kernel_rfl,?_⟩) hS (by kernel_rfl) ?_
    rotate_left
    ·intro W hSW
     go_simp
     all_goals with_reducible rfl
    refine wpAnyL_take (i:=2) (v:=?_) rfl (by kernel_rfl) (by kernel_rfl) (by kernel_rfl) (fun _ _ _ h=>h) (Or.inl ⟨by kernel_rfl,?_⟩) hS (by kernel_rfl) ?_
    rotate_left
    ·intro W hSW
     go_simp
     all_goals with_reducible rfl
    refine wpAnyL_take (i:=3) (v:=?_) rfl (by kernel_rfl) (by kernel_rfl) (by kernel_rfl) (fun _ _ _ h=>h) (Or.inl ⟨by kernel_rfl,?_⟩) hS (by kernel_rfl) ?_
    rotate_left
    ·intro W hSW
     have y:=(I.out.kept hSW).c5
     go_simp
     all_goals with_reducible rfl
    go_simp
    refine wpAnyL_take (i:=4) (v:=snV n) rfl (by kernel_rfl) (by kernel_rfl) (by kernel_rfl) (fun _ _ _ h=>h) (Or.inl ⟨by kernel_rfl,fun W hSW=>exec_load_ag stT rfl rfl rfl (I.out.kept hSW).n0⟩) hS (by kernel_rfl) ?_
    go_simp
    refine wpAnyL_take (i:=5) (v:=snV q) rfl (by kernel_rfl) (by kernel_rfl) (by kernel_rfl) (fun _ _ _ h=>h) (Or.inl ⟨by kernel_rfl,fun W hSW=>exec_load_ag stT rfl rfl rfl (I.out.kept hSW).n1⟩) hS (by kernel_rfl) ?_
    go_simp
    refine wpAnyL_ready (rs:=[6]) (by kernel_rfl) (by simp) ?_
    refine AllReadyL.last rfl (fun K hK=>?_)
    obtain ⟨w11,hrun,hm11,ht11,hz11⟩:=I.out.m.mast.upd mtMast n (snV q) HWN.out (by rw [lk_masts,HNL.out]; rfl)
    have J:=Hi (I.out.turn0 I.out.m.f3 ht11 (I.out.m.newMast hm11 ht11))
    refine step_of (by kernel_rfl) ?_
    refine wp_mapUpdate _ _ _ _ rfl (.map (some M3)) (snV n) (snV q) rfl rfl rfl w11 hrun ?_
    refine hK.out _ _ ?_
    clear hK K hrun hS hm11 ht11 hz11
    refine wpAnyL_done (by kernel_rfl) ?_ _
    go_simp
    clear I
    have HE:=Hi (show Turned M3 M4 L F n q w (.returned (.tuple #[])) w11 from ⟨rfl,_,by
     unfold turnL
     rw [if_neg HTO.out]
     have h:=HH.out.put (n:=n) HNL.out ⟨kc,HKC.out.1,HKC.out.2.1⟩
     exact ⟨J.out.m.more (fun k hk=>(J.out.f2 k hk).imp id fun h=>⟨by omega,h.2⟩) (fun k hk=>hk.elim (fun h=>Nat.lt_of_lt_of_le (J.out.lF k h) J.out.t.size) fun h=>h.2),h.1,h.2⟩,J.out.t⟩)
    clear J
    go_wp2
    go_end0
    exact HE.out
 case first =>
  cases ib with
  | false =>
  have HE:=Hi (show TuH w b A M3 M4 (cutL L n) F n q w5 from ⟨D,by rw [cutL_none HIB.out.symm]; exact I.out,by rw [cutL_none HIB.out.symm]; exact ⟨HMS.out.full,HMS.out.all⟩⟩)
  clear I HV5
  go_wp2
  go_meet
  case rel=>exact HE.out
  | true =>
  have HLK:=Hi (show lookL L n=some va from by
   have h1:=HIB.out
   have h2:=HVA.out
   cases e:lookL L n with
   | none=>rw [e] at h1; cases h1
   | some m=>rw [e] at h2; rw [h2]; rfl)
  have HWV:=Hi (HWL.out n va HLK.out)
  obtain ⟨kc,hk1,hk2⟩:=HMS.out.all n va HLK.out
  obtain ⟨kb,hkb⟩:∃ kb,kc.b=kb:=⟨_,rfl⟩
  have HKO:=Hi (show kidOf D va=some kb from by rw [← hk2,← hkb]; exact kidOf_of HMS.out.cnd hk1)
  have HNI:=Hi (show n ∈ kc.l from ((HMS.out.full kc hk1).2 n).2 (by rw [hk2]; exact HLK.out))
  have HCF:=Hi (HMS.out.cutFull HLK.out)
  have HFK:=Hi (show F kb from by rw [← hkb]; exact HMS.out.fK kc hk1)
  have HKC:=Hi (show kc ∈ D∧kc.p=va∧kc.b=kb from ⟨hk1,hk2,hkb⟩)
  clear hk1 hk2 hkb
  have HA5:=Hi (And.intro I.out.a5 I.out.a6)
  go_upto_region 3 with fail
  have hbd:=Below.drew (Below.refl w5.heap.size w5)
  replace I:=Hi (I.out.kept hbd)
  replace HV5:=Hi (AgAt.kept HV5.out hbd)
  refine wp_region_held_drew (S:=fun W=>AgAt W b A∧AgAt W w.heap.size (stA n)∧AgAt W vb (stA va)) (by kernel_rfl) ⟨I.out.a,I.out.n0,HV5.out⟩ (fun hS=>?_)
  clear hbd
  generalize w5.drew=wd at *
  refine tX 0 rfl hS ?_
  refine tX 1 rfl hS ?_
  refine tX 2 rfl hS ?_
  refine tK 3 (v:=?_) rfl ?_ hS ?_
  rotate_left
  ·intro W hSW
   have y:W.cell? ⟨b,5,none⟩=some (.map (some M3)):=(AgAt.cell hSW.1 5).trans HA5.out.1
   go_simp
   all_goals with_reducible rfl
  go_simp
  refine tK 4 (v:=snV n) rfl (fun W hSW=>exec_load_ag stT rfl rfl rfl hSW.2.1) hS ?_
  go_simp
  refine rD 5 rfl (fun K hK=>?_)
  obtain ⟨w3,hrun,hm3,ht3,hz3⟩:=I.out.m.mast.del mtMast n HWN.out (by rw [lk_masts,HLK.out]; rfl)
  have J:=Hi (I.out.turn0 I.out.m.f3 ht3 (I.out.m.cutMast hm3 ht3))
  have HV6:=Hi (AgAt.block HV5.out (ht3.block _ (AgAt.lt HV5.out) (HVF.out _ (I.out.f1 _ I.out.m.f3))))
  refine step_of (by kernel_rfl) ?_
  refine wp_delete _ _ 145 35 rfl (.map (some M3)) (snV n) rfl rfl w3 (hrun _) ?_
  refine hK.out _ _ ⟨J.out.a,J.out.n0,HV6.out⟩ (fun hS=>?_)
  clear hK K hrun hS
  clear hm3 ht3 hz3
  refine wpAnyH_done (by kernel_rfl) ?_ _
  go_simp
  clear I HV5
  have I:=J
  have HV5:=HV6
  clear J HV6
  go_upto_region 4 with fail
  have hbd:=Below.drew (Below.refl w3.heap.size w3)
  replace I:=Hi (I.out.kept hbd)
  replace HV5:=Hi (AgAt.kept HV5.out hbd)
  refine wp_region_held_drew (S:=fun W=>AgAt W b A∧AgAt W w.heap.size (stA n)∧AgAt W vb (stA va)∧SMap W M4 (belows D)) (by kernel_rfl) ⟨I.out.a,I.out.n0,HV5.out,I.out.m.inst⟩ (fun hS=>?_)
  clear hbd
  have HKI:=Hi (show kc ∈ D∧kc.b=kb∧SMap w3.drew kb (nodesOf kc.l) from ⟨HKC.out.1,HKC.out.2.2,by have:=I.out.m.inner kc HKC.out.1; rw [HKC.out.2.2] at this; exact this⟩)
  generalize w3.drew=wd at *
  refine tX 0 rfl hS ?_
  refine tX 1 rfl hS ?_
  refine tX 2 rfl hS ?_
  refine tK 3 (v:=?_) rfl ?_ hS ?_
  rotate_left
  ·intro W hSW
   have y:W.cell? ⟨b,6,none⟩=some (.map (some M4)):=(AgAt.cell hSW.1 6).trans HA5.out.2
   go_simp
   all_goals with_reducible rfl
  go_simp
  refine tK 4 (v:=snV va) rfl (fun W hSW=>exec_load_ag stT rfl rfl rfl hSW.2.2.1) hS ?_
  go_simp
  refine tK 5 (v:=.map (some kb)) rfl (fun W hSW=>exec_lookup rfl rfl rfl ((hSW.2.2.2.look mtBelow va HWV.out).trans (by rw [lk_belows,HKO.out]))) hS ?_
  go_simp
  refine tK 6 (v:=snV n) rfl (fun W hSW=>exec_load_ag stT rfl rfl rfl hSW.2.1) hS ?_
  go_simp
  refine rD 7 rfl (fun K hK=>?_)
  obtain ⟨w4,hrun,hm4,ht4,hz4⟩:=HKI.out.2.2.del mtSet n HWN.out (by rw [lk_nodes,if_pos HNI.out]; rfl)
  have J:=Hi (I.out.turn0 (x:=kb) HFK.out ht4 (I.out.m.setKid (f:=fun l=>l.filter fun m=>!(m == n)) HKI.out.1 HKI.out.2.1 (by have:=hm4; unfold nodesOf at this ⊢; rw [List.filter_map] at this; exact this) ht4))
  have HV6:=Hi (AgAt.block HV5.out (ht4.block _ (AgAt.lt HV5.out) (HVF.out _ HFK.out)))
  have HK6:=Hi (show SMap w4 kb (nodesOf (kc.l.filter fun m=>!(m == n))) from by have:=hm4; unfold nodesOf at this ⊢; rw [List.filter_map] at this; exact this)
  refine step_of (by kernel_rfl) ?_
  refine wp_delete _ _ 242 35 rfl (.map (some kb)) (snV n) rfl rfl w4 (hrun _) ?_
  refine hK.out _ _ ⟨J.out.a,J.out.n0,HV6.out,(by have:=J.out.m.inst; rwa [belows_setKid] at this)⟩ (fun hS=>?_)
  clear hK K hrun hS
  clear hm4 ht4 hz4 HKI
  refine wpAnyH_done (by kernel_rfl) ?_ _
  go_simp
  clear I HV5
  have I:=J
  have HV5:=HV6
  clear J HV6
  rw [HKC.out.2.1] at I
  obtain ⟨D2,hD2⟩:∃ D2,D2=setKid D va (fun l=>l.filter fun m=>!(m == n)):=⟨_,rfl⟩
  have HKO2:=Hi (show kidOf D2 va=some kb from by
   obtain ⟨c',hc',he⟩:=setKid_mem (p:=va) (f:=fun l=>l.filter fun m=>!(m == n)) HKC.out.1
   have h0:=I.out.m.cnd
   obtain ⟨c,hc,k1,k2,-⟩:=mem_setKid hc'
   have h1:=kidOf_of h0 hc'
   rw [he,HKC.out.2.1] at h1
   have h3:c=kc:=one_of HMS.out.cnd hc HKC.out.1 (k1.symm.trans he)
   rw [hD2,h1,k2,h3,HKC.out.2.2])
  have HDL:=Hi (show ∀ c ∈ D2,c.p=va→c.l=kc.l.filter fun m=>!(m == n) from fun c' hc' he=>by
   rw [hD2] at hc'
   obtain ⟨c,hc,k1,k2,k3,-⟩:=mem_setKid hc'
   have h3:c=kc:=one_of HMS.out.cnd hc HKC.out.1 (k1.symm.trans (he.trans HKC.out.2.1.symm))
   rw [k3 (k1.symm.trans he),h3])
  rw [← hD2] at I HCF
  have HLN:=Hi (show ∀ W,Below w4.drew.heap.size w4.drew W→(Builtin.len_ #[242] 3 #[.map (some kb)]).run Tryz.prog W=.ok (.int .i64 ((kc.l.filter fun m=>!(m == n)).length:Int)) W from fun W hW=>by
   have h1:=((HK6.out.below (Below.drew (Below.refl _ _))).below hW).len mtSet 3
   unfold nodesOf at h1
   rw [List.length_map] at h1
   exact h1)
  clear hD2 HKC HNI HK6 HKO HFK
  generalize kc.l.filter (fun m=>!(m == n))=nl at *
  obtain ⟨eb,heb⟩:∃ eb,eb=decide (nl.length=0):=⟨_,rfl⟩
  have HEB:=Hi heb
  have HD0:=Hi (show (((nl.length:Nat):Int) == 0)=eb from by rw [heb,Bool.eq_iff_iff,beq_iff_eq,decide_eq_true_eq]; omega)
  clear heb
  go_upto_region 5 with fail
  have hbd:=Below.drew (Below.refl w4.heap.size w4)
  replace I:=Hi (I.out.kept hbd)
  replace HV5:=Hi (AgAt.kept HV5.out hbd)
  refine wp_region_held_drew (S:=fun W=>Below w4.drew.heap.size w4.drew W) (by kernel_rfl) (Below.refl _ _) (fun hS=>?_)
  clear hbd
  generalize w4.drew=wd at *
  refine tX 0 rfl hS ?_
  refine tX 1 rfl hS ?_
  refine tX 2 rfl hS ?_
  refine tK 3 (v:=?_) rfl ?_ hS ?_
  rotate_left
  ·intro W hSW
   have y:=(I.out.kept hSW).c6
   go_simp
   all_goals with_reducible rfl
  go_simp
  refine tK 4 (v:=snV va) rfl (fun W hSW=>exec_load_ag stT rfl rfl rfl (AgAt.kept HV5.out hSW)) hS ?_
  go_simp
  refine tK 5 (v:=.map (some kb)) rfl (fun W hSW=>exec_lookup rfl rfl rfl (((I.out.kept hSW).m.lookB va HWV.out).trans (by rw [HKO2.out]))) hS ?_
  refine tK 6 (v:=?_) rfl ?_ hS ?_
  rotate_left
  ·intro W hSW
   have hln:=HLN.out W hSW
   go_simp
   all_goals with_reducible rfl
  refine tK 7 (v:=?_) rfl ?_ hS ?_
  rotate_left
  ·intro W hSW
   have d0:=HD0.out
   go_simp
   all_goals with_reducible rfl
  go_simp
  refine wpAnyH_done (by kernel_rfl) ?_ _
  go_simp
  replace I:=Hi (I.out.kept hS)
  replace HV5:=Hi (AgAt.kept HV5.out hS)
  clear hS HLN
  cases eb with
  | false =>
   have HE:=Hi (show TuH w b A M3 M4 (cutL L n) F n q wd from ⟨D2,I.out,HCF.out.keep fun c hc he=>by rw [HDL.out c hc he]; intro h; rw [h] at HEB; exact absurd HEB.out (by decide)⟩)
   clear I HV5
   go_wp2
   go_meet
   case rel=>exact HE.out
  | true =>
   go_upto_region 6 with fail
   have hbd:=Below.drew (Below.refl wd.heap.size wd)
   replace I:=Hi (I.out.kept hbd)
   replace HV5:=Hi (AgAt.kept HV5.out hbd)
   refine wp_region_held_drew (S:=fun W=>AgAt W b A∧AgAt W w.heap.size (stA n)∧AgAt W vb (stA va)) (by kernel_rfl) ⟨I.out.a,I.out.n0,HV5.out⟩ (fun hS=>?_)
   clear hbd
   generalize wd.drew=we at *
   refine tX 0 rfl hS ?_
   refine tX 1 rfl hS ?_
   refine tX 2 rfl hS ?_
   refine tK 3 (v:=?_) rfl ?_ hS ?_
   rotate_left
   ·intro W hSW
    have y:W.cell? ⟨b,6,none⟩=some (.map (some M4)):=(AgAt.cell hSW.1 6).trans HA5.out.2
    go_simp
    all_goals with_reducible rfl
   go_simp
   refine tK 4 (v:=snV va) rfl (fun W hSW=>exec_load_ag stT rfl rfl rfl hSW.2.2) hS ?_
   go_simp
   refine rD 5 rfl (fun K hK=>?_)
   obtain ⟨w6,hrun,hm6,ht6,hz6⟩:=I.out.m.inst.del mtBelow va HWV.out (by rw [lk_some_of HKO2.out]; rfl)
   have J:=Hi (I.out.turn0 I.out.m.f4 ht6 (I.out.m.cutKid hm6 ht6))
   have HV6:=Hi (AgAt.block HV5.out (ht6.block _ (AgAt.lt HV5.out) (HVF.out _ (I.out.f1 _ I.out.m.f4))))
   refine step_of (by kernel_rfl) ?_
   refine wp_delete _ _ 146 35 rfl (.map (some M4)) (snV va) rfl rfl w6 (hrun _) ?_
   refine hK.out _ _ ⟨J.out.a,J.out.n0,HV6.out⟩ (fun hS=>?_)
   clear hK K hrun hS
   clear hm6 ht6 hz6
   refine wpAnyH_done (by kernel_rfl) ?_ _
   go_simp
   clear I HV5 HV6
   have HE:=Hi (show TuH w b A M3 M4 (cutL L n) F n q w6 from ⟨_,J.out,HCF.out.drop fun c hc he=>by rw [HDL.out c hc he]; exact List.length_eq_zero_iff.1 (of_decide_eq_true HEB.out.symm)⟩)
   clear J
   go_wp2
   go_meet
   case rel=>exact HE.out
end Go.Proofs.YthfhefdfehlbkaaGreat
namespace Go.Proofs.YthfhefdfehlbkaaGreat.Gm
open Go.Proofs.YthfhefdfehlbkaaGreat
theorem up_rc {T:Tm.Tr} {g:G} (hs:∀ n,Tm.look T n=g.s n) {a n:Qm.St} {l:List Qm.St} (h:Tm.Up T a l) (hn:n ∈ l):Rc (UpS g) a n:=by
 induction h with
 | stop _=>cases hn
 | @step x s l h1 h2 ih =>
  have h3:UpS g x s.1:=Or.inl ⟨s.2,by rw [← hs,h1]⟩
  rcases List.mem_cons.1 hn with rfl | hn
  ·exact .one h3
  ·exact .step h3 (ih hn)
theorem rc_avoid {α:Type} {R:α→α→Prop} {a n:α} (h:Rc R a n):Rc (fun x y=>R x y∧x≠n) a n:=by
 induction h with
 | refl _=>exact .refl _
 | @step a b c h1 _ ih =>
  by_cases e:a=c
  ·subst e; exact .refl _
  ·exact .step ⟨h1,e⟩ ih
theorem not_within {T:Tm.Tr} {g:G} (ok:Tm.Ok T) (hs:∀ n,Tm.look T n=g.s n) {n p:Qm.St} (hn:¬ Rc (UpS g) p n):Tm.within T n p=false:=by
 unfold Tm.within
 by_cases e:n=p
 ·subst e; exact absurd (.refl _) hn
 ·rw [if_neg e]
  cases h:(Tm.chain T p).contains n with
  | false=>rfl
  | true=>exact absurd (up_rc hs (ok.chain p) (by simpa using h)) hn
section
variable {T:Tm.Tr} {g:G}
theorem hasEq (hs:∀ n,Tm.look T n=g.s n) (p:Qm.St):Tm.has T p=has g p:=by unfold Tm.has has; rw [hs]
theorem add_eq (hs:∀ n,Tm.look T n=g.s n) {n:Qm.St} {s:Tm.Sp} (h1:Tm.okN n=true) (h2:Tm.rightSp s=true) (h3:g.s n=none) (h4:has g s.1=true) (hl:T.length≤80) :
  Tm.addT T n s=(Tm.put T n s,0)∧∀ m,Tm.look (Tm.put T n s) m=upd g.s n (some s) m:=by
 have h5:Tm.look T n=none:=(hs n).trans h3
 refine ⟨?_,fun m=>?_⟩
 ·unfold Tm.addT
  rw [h1,h2,if_neg (by simp),h5,if_neg (by simp),hasEq hs,h4,if_neg (by simp),if_neg (by omega)]
 ·rw [Tm.look_put h5]
  unfold upd
  by_cases e:n=m
  ·rw [if_pos e,if_pos e.symm]
  ·rw [if_neg e,if_neg (fun h=>e h.symm),hs]
theorem move_eq (ok:Tm.Ok T) (hs:∀ n,Tm.look T n=g.s n) {n:Qm.St} {s was:Tm.Sp} (h1:Tm.okN n=true) (h2:Tm.rightSp s=true) (h3:g.s n=some was) (h4:has g s.1=true) (h5:¬ Rc (UpS g) s.1 n) :
  Tm.moveT T n s=(Tm.put (Tm.cut T n) n s,was,0)∧(∀ m,Tm.look (Tm.put (Tm.cut T n) n s) m=upd g.s n (some s) m)∧Tm.Ok (Tm.put (Tm.cut T n) n s):=by
 have h6:Tm.look T n=some was:=(hs n).trans h3
 refine ⟨?_,fun m=>?_,ok.move h1 h2 (by rw [h6]; rfl) (by rw [hasEq hs]; exact h4) (not_within ok hs h5)⟩
 ·unfold Tm.moveT
  rw [h1,h2,if_neg (by simp),h6]
  dsimp only
  rw [hasEq hs,h4,if_neg (by simp),not_within ok hs h5,if_neg (by simp)]
 ·rw [Tm.look_set]
  unfold upd
  by_cases e:n=m
  ·rw [if_pos e,if_pos e.symm]
  ·rw [if_neg e,if_neg (fun h=>e h.symm),hs]
theorem back_eq (gd:Good g) (ok:Tm.Ok T) {n:Qm.St} {s was:Tm.Sp} (hs:∀ m,Tm.look T m=upd g.s n (some s) m) (h3:g.s n=some was) :
  ∃ z,Tm.moveT T n was=(Tm.put (Tm.cut T n) n was,z,0)∧(∀ m,Tm.look (Tm.put (Tm.cut T n) n was) m=g.s m)∧Tm.Ok (Tm.put (Tm.cut T n) n was):=by
 have k:=gd.node _ _ h3
 have hup:UpS g n was.1:=Or.inl ⟨was.2,h3⟩
 obtain ⟨h1,h2,h4⟩:=move_eq (g:=⟨upd g.s n (some s),g.m⟩) (T:=T) ok hs (n:=n) (s:=was) (was:=s) k.1 k.2.1 (by exact upd_self) (by
  unfold has
  have hh:((g.s was.1).isSome || Tm.top was.1)=true:=k.2.2
  rw [Bool.or_eq_true] at hh
  rcases hh with h | h
  ·simp only [upd]
   split
   ·rfl
   ·rw [h]; rfl
  ·rw [h,Bool.or_true]) (fun hr=>by
  refine gd.up _ _ hup ((rc_avoid hr).mono fun x y hxy=>?_)
  rcases hxy.1 with ⟨c,hc⟩ | hc
  ·simp only [upd_ne hxy.2] at hc
   exact Or.inl ⟨c,hc⟩
  ·exact Or.inr hc)
 refine ⟨s,h1,fun m=>?_,h4⟩
 rw [h2 m]
 show upd (upd g.s n (some s)) n (some was) m=g.s m
 rw [upd_upd,upd_was h3]
theorem drop_eq (gd:Good g) (ok:Tm.Ok T) {n:Qm.St} {s:Tm.Sp} (h1:Tm.okN n=true) (hs:∀ m,Tm.look T m=upd g.s n (some s) m) (h3:g.s n=none) (h4:has g s.1=true) :
  ∃ z,Tm.dropT T n=(Tm.cut T n,z,0)∧(∀ m,Tm.look (Tm.cut T n) m=g.s m)∧Tm.Ok (Tm.cut T n):=by
 have hno:has g n=false:=by rw [has_node h1,h3]; rfl
 have hk:∀ e ∈ T,e.2.1≠n:=fun e he hh=>by
  have h5:=Tm.look_some ok.nd (n:=e.1) (s:=e.2) he
  rw [hs] at h5
  by_cases e2:e.1=n
  ·rw [e2,upd_self] at h5
   cases h5
   rw [hh,hno] at h4
   cases h4
  ·rw [upd_ne e2] at h5
   have:=(gd.node _ _ h5).2.2
   rw [hh,hno] at this
   cases this
 refine ⟨s,?_,fun m=>?_,ok.drop hk⟩
 ·unfold Tm.dropT
  rw [hs,upd_self]
  dsimp only
  rw [if_pos (Tm.kids_nil.2 hk)]
 ·rw [Tm.look_cut,hs]
  by_cases e:n=m
  ·subst e; rw [if_pos rfl,h3]
  ·rw [if_neg e,upd_ne (fun h=>e h.symm)]
end
end Go.Proofs.YthfhefdfehlbkaaGreat.Gm
namespace Go.Proofs.YthfhefdfehlbkaaGreat
open Go.RowKit
open Tm (Sp Tr has put cut kids)
theorem move_any {P M1 M2:Nat} {T:Tr} {C:List Kid} {F:Nat→Prop} (n:Qm.St) (s:Sp) (w:World) (h:Lay w P M1 M2 T C F) (hn:StWf n) (hs:StWf s.1) (hk:s.2.size≤140737488355328) (ok:Tm.Ok T) (hpar:∀ e ∈ T,StWf e.2.1) :
  Calls Tryz.prog 299 #[.pointer (some ⟨P,0,none⟩),snV n,spV s] w (Acted P M1 M2 F (Tm.moveT T n s).1 (.tuple #[.agg (spA (Tm.moveT T n s).2.1),.int .i64 (Tm.moveT T n s).2.2]) w):=by
 have h1:∀ (w:World) (o:Obj),Below w.heap.size w (w.alloc o):=fun w o=>(Below.refl _ _).alloc (Nat.le_refl _) _
 have hz:∀ (w:World) (o:Obj),(w.alloc o).heap.size=w.heap.size+1:=fun w o=>by simp
 obtain ⟨W1,hW1⟩:∃ W,W=((w.alloc (.cells #[.int .i64 n.1,.int .i64 n.2] 35)).alloc (.cells (spA s) 106)).alloc (.cells #[.int .i64 0,.int .i64 0,.string ⟨#[]⟩] 106):=⟨_,rfl⟩
 have HT:=Hi (show Below w.heap.size w W1 from by rw [hW1]; exact (h1 _ _).trans (((h1 _ _).mono (by simp)).trans ((h1 _ _).mono (by simp; omega))))
 have HB2:=Hi (show AgAt W1 (w.heap.size+1+1) #[.int .i64 0,.int .i64 0,.string ⟨#[]⟩] from by
  have:=AgAt.new ((w.alloc (.cells #[.int .i64 n.1,.int .i64 n.2] 35)).alloc (.cells (spA s) 106)) #[.int .i64 0,.int .i64 0,.string ⟨#[]⟩] 106
  rw [hz,hz,← hW1] at this
  exact this)
 have HB1:=Hi (show AgAt W1 (w.heap.size+1) (spA s) from by
  have:=(AgAt.new (w.alloc (.cells #[.int .i64 n.1,.int .i64 n.2] 35)) (spA s) 106).kept (h1 _ (.cells #[.int .i64 0,.int .i64 0,.string ⟨#[]⟩] 106))
  rw [hz,← hW1] at this
  exact this)
 have HB0:=Hi (show AgAt W1 w.heap.size #[.int .i64 n.1,.int .i64 n.2] from by
  have:=((AgAt.new w #[.int .i64 n.1,.int .i64 n.2] 35).kept (h1 _ (.cells (spA s) 106))).kept (h1 _ (.cells #[.int .i64 0,.int .i64 0,.string ⟨#[]⟩] 106))
  rw [← hW1] at this
  exact this)
 have HL:=Hi (h.kept HT.out)
 have HWN:=Hi hn
 have HWS:=Hi hs
 have HKY:=Hi hk
 have HOK:=Hi ok
 have HPAR:=Hi hpar
 have HLT:=Hi h.lt
 obtain ⟨ib,hib⟩:∃ b,b=(Tm.look T n).isSome:=⟨_,rfl⟩
 obtain ⟨va,hva⟩:∃ s,s=(Tm.look T n).getD zS:=⟨_,rfl⟩
 obtain ⟨nb,hnb⟩:∃ b,b=okNode n.1 n.2:=⟨_,rfl⟩
 obtain ⟨rb,hrb⟩:∃ b,b=Tm.rightSp s:=⟨_,rfl⟩
 obtain ⟨pb,hhb⟩:∃ b,b=has T s.1:=⟨_,rfl⟩
 obtain ⟨wb,hwb⟩:∃ b,b=Tm.within T n s.1:=⟨_,rfl⟩
 have HIB:=Hi hib
 have HVA:=Hi hva
 have HNB:=Hi hnb
 have HRB:=Hi hrb
 have HHB:=Hi hhb
 have HWB:=Hi hwb
 have HR1:=Hi (fun (k1:(Tm.okN n && Tm.rightSp s)=false) W (hW:Below w.heap.size w W)=>show Acted P M1 M2 F (Tm.moveT T n s).1 (.tuple #[.agg (spA (Tm.moveT T n s).2.1),.int .i64 (Tm.moveT T n s).2.2]) w (.returned (.tuple #[.agg (spA zS),.int .i64 1])) W from by
  unfold Tm.moveT; rw [if_pos k1]; exact Acted.same h hW)
 have HR3:=Hi (fun (k1:¬ (Tm.okN n && Tm.rightSp s)=false) (k2:(Tm.look T n).isSome=false∨has T s.1=false) W (hW:Below w.heap.size w W)=>show Acted P M1 M2 F (Tm.moveT T n s).1 (.tuple #[.agg (spA (Tm.moveT T n s).2.1),.int .i64 (Tm.moveT T n s).2.2]) w (.returned (.tuple #[.agg (spA zS),.int .i64 3])) W from by
  unfold Tm.moveT
  rw [if_neg k1]
  cases hl:Tm.look T n with
  | none=>exact Acted.same h hW
  | some s' =>
   have k3:has T s.1=false:=k2.resolve_left (by rw [hl]; simp)
   dsimp only
   rw [if_pos k3]; exact Acted.same h hW)
 have HR41:=Hi (fun (k1:¬ (Tm.okN n && Tm.rightSp s)=false) (k2:(Tm.look T n).isSome=true) (k3:has T s.1=true) (k4:Tm.within T n s.1=true) W (hW:Below w.heap.size w W)=>show Acted P M1 M2 F (Tm.moveT T n s).1 (.tuple #[.agg (spA (Tm.moveT T n s).2.1),.int .i64 (Tm.moveT T n s).2.2]) w (.returned (.tuple #[.agg (spA zS),.int .i64 41])) W from by
  obtain ⟨s',hl⟩:=Option.isSome_iff_exists.1 k2
  unfold Tm.moveT
  rw [if_neg k1,hl]
  dsimp only
  rw [if_neg (by rw [k3]; simp),if_pos k4]; exact Acted.same h hW)
 have HR0:=Hi (fun (k1:¬ (Tm.okN n && Tm.rightSp s)=false) (k2:(Tm.look T n).isSome=true) (k3:has T s.1=true) (k4:Tm.within T n s.1=false) w7 (hW:Below w.heap.size w w7) w8 (ht8:Turns F w7 w8) (hz2:w.heap.size+1+1<w8.heap.size) w9 C9 (hl9:Lay w9 P M1 M2 (put (cut T n) n s) C9 (fun k=>F k∨(w8.heap.size≤k∧k<w9.heap.size))) (ht9:Turns F w8 w9) W (hb:Turns (fun k=>k=w.heap.size+1+1) w9 W)=>show Acted P M1 M2 F (Tm.moveT T n s).1 (.tuple #[.agg (spA (Tm.moveT T n s).2.1),.int .i64 (Tm.moveT T n s).2.2]) w (.returned (.tuple #[.agg (spA ((Tm.look T n).getD zS)),.int .i64 0])) W from by
  obtain ⟨s',hl⟩:=Option.isSome_iff_exists.1 k2
  unfold Tm.moveT
  rw [if_neg k1,hl]
  dsimp only
  rw [if_neg (by rw [k3]; simp),if_neg (by rw [k4]; simp)]
  ·have h3:=hl9.turns hb fun k hk hh=>by
    rcases hk with hk | hk
    ·have:=h.lt k hk; omega
    ·omega
   exact ⟨rfl,C9,h3.more (fun k hk=>hk.imp id fun h=>⟨by omega,Nat.lt_of_lt_of_le h.2 hb.size⟩) (fun k hk=>hk.elim (fun h1=>h3.lt k (Or.inl h1)) fun h=>h.2),(Turns.of_below hW).trans ((ht8.mono fun k _ hk=>Or.inl hk).trans ((ht9.mono fun k _ hk=>Or.inl (Or.inl hk)).trans (hb.mono fun k _ hk=>Or.inl (Or.inl (Or.inr (by omega))))))⟩)
 clear h hn hs hk ok hpar h1 hz hib hva hnb hrb hhb hwb
 go_enter Tryz.func299,Tryz.ntmps299
 go_wp2_with fail
 rw [← hW1]
 clear hW1
 refine (ours_any _ HL.out).mono ?_
 rintro e w1 ⟨rfl,rfl⟩
 go_wp2_with (refine wpList_load_ag stT (by kernel_rfl) _ rfl _ rfl (A:=#[.int .i64 n.1,.int .i64 n.2]) rfl HB0.out ?_)
 refine (onode_any _ _ _).mono ?_
 rw [← HNB.out]
 rintro e w2 ⟨rfl,hb2⟩
 replace HL:=Hi (HL.out.kept hb2)
 replace HB0:=Hi (AgAt.kept HB0.out hb2)
 replace HB1:=Hi (AgAt.kept HB1.out hb2)
 replace HB2:=Hi (AgAt.kept HB2.out hb2)
 replace HT:=Hi (HT.out.trans (hb2.mono HT.out.size))
 clear hb2
 cases nb with
 | false =>
  have HE:=Hi (HR1.out (by rw [show Tm.okN n=okNode n.1 n.2 from rfl,← HNB.out]; rfl))
  clear HL HB0 HB1
  go_wp2_with (refine wpList_store_ag spT rfl _ _ rfl _ rfl _ HB2.out (A:=spA zS) rfl rfl rfl (spA_one _) ?_; intro w6 hv6 hko6 hsz6 hbn6)
  refine bodyPost_ret (results_two spT _ rfl rfl hv6 rfl rfl) rfl ?_
  exact HE.out _ (hbn6 _ _ HT.out (by omega))
 | true =>
  go_wp2_with (refine wpList_load_ag spT (by kernel_rfl) _ rfl _ rfl (A:=spA s) rfl HB1.out ?_)
  refine (rightSp_any s _ HKY.out).mono ?_
  rw [← HRB.out]
  rintro e w3 ⟨rfl,hb3⟩
  replace HL:=Hi (HL.out.kept hb3)
  replace HB0:=Hi (AgAt.kept HB0.out hb3)
  replace HB1:=Hi (AgAt.kept HB1.out hb3)
  replace HB2:=Hi (AgAt.kept HB2.out hb3)
  replace HT:=Hi (HT.out.trans (hb3.mono HT.out.size))
  clear hb3
  cases rb with
  | false =>
   have HE:=Hi (HR1.out (by rw [← HRB.out,Bool.and_false]))
   clear HL HB0 HB1
   go_wp2_with (refine wpList_store_ag spT rfl _ _ rfl _ rfl _ HB2.out (A:=spA zS) rfl rfl rfl (spA_one _) ?_; intro w6 hv6 hko6 hsz6 hbn6)
   refine bodyPost_ret (results_two spT _ rfl rfl hv6 rfl rfl) rfl ?_
   exact HE.out _ (hbn6 _ _ HT.out (by omega))
  | true =>
   replace HR1:=Hi (show ¬ (Tm.okN n && Tm.rightSp s)=false from by rw [show Tm.okN n=okNode n.1 n.2 from rfl,← HNB.out,← HRB.out]; simp)
   go_upto_region 3 with fail
   have hbd:=Below.drew (Below.refl w3.heap.size w3)
   replace HL:=Hi (HL.out.kept hbd)
   replace HB0:=Hi (AgAt.kept HB0.out hbd)
   replace HB1:=Hi (AgAt.kept HB1.out hbd)
   replace HB2:=Hi (AgAt.kept HB2.out hbd)
   replace HT:=Hi (HT.out.trans (hbd.mono HT.out.size))
   refine wp_region_held_drew (S:=fun W=>AgAt W P #[.map (some M1),.map (some M2)]∧AgAt W w.heap.size #[.int .i64 n.1,.int .i64 n.2]∧SMap W M1 (spots T)) (by kernel_rfl) ⟨HL.out.at_,HB0.out,HL.out.spots⟩ (fun hS=>?_)
   clear hbd
   generalize w3.drew=w3 at *
   refine tX 0 rfl hS ?_
   refine tX 1 rfl hS ?_
   refine tX 2 rfl hS ?_
   refine tK 3 (v:=?_) rfl ?_ hS ?_
   rotate_left
   ·intro W hSW
    have y0:W.cell? ⟨P,0,none⟩=some (.map (some M1)):=by rw [AgAt.cell hSW.1 0]; rfl
    go_simp
    all_goals with_reducible rfl
   go_simp
   refine tK 4 (v:=snV n) rfl (fun W hSW=>exec_load_ag stT rfl rfl rfl hSW.2.1) hS ?_
   go_simp
   refine tK 5 (v:=.tuple #[.agg (spA va),.bool ib]) rfl (fun W hSW=>exec_lookup rfl rfl rfl ((hSW.2.2.lookOk mtSpots n HWN.out).trans (by rw [lk_spots,HIB.out,HVA.out]; cases Tm.look T n <;> rfl))) hS ?_
   refine tX 6 rfl hS ?_
   refine tX 7 rfl hS ?_
   refine tX 8 rfl hS ?_
   go_simp
   refine rD 9 rfl (fun K hK=>?_)
   refine step_of (by kernel_rfl) ?_
   refine wp_store_ag spT _ _ rfl _ rfl _ HB2.out (A:=spA va) rfl rfl rfl (spA_one _) ?_
   intro w5 hv5 hko5 hsz5 hbn5
   have ht5:=stored_turns hko5 hsz5 hbn5
   have HV5:=Hi hv5
   replace HL:=Hi (HL.out.turns ht5 fun k hk h=>by have:=HLT.out k hk; omega)
   replace HB0:=Hi (AgAt.block HB0.out (hko5 _ (by omega)))
   replace HB1:=Hi (AgAt.block HB1.out (hko5 _ (by omega)))
   replace HT:=Hi (hbn5 _ _ HT.out (by omega))
   refine hK.out _ _ ⟨AgAt.block hS.1 (hko5 _ (by have:=HLT.out _ HL.out.fP; omega)),AgAt.block hS.2.1 (hko5 _ (by omega)),hS.2.2.block (hko5 _ (by have:=HLT.out _ HL.out.f1; omega))⟩ (fun hS=>?_)
   clear hK K hv5 hko5 hsz5 hbn5 ht5
   refine tX 10 rfl hS ?_
   go_simp
   refine wpAnyH_done (by kernel_rfl) ?_ _
   go_simp
   clear hS HB2
   cases ib with
   | false =>
    have HE:=Hi (HR3.out HR1.out (Or.inl HIB.out.symm))
    clear HL HB0 HB1
    go_wp2_with (refine wpList_store_ag spT rfl _ _ rfl _ rfl _ HV5.out (A:=spA zS) rfl rfl rfl (spA_one _) ?_; intro w6 hv6 hko6 hsz6 hbn6)
    refine bodyPost_ret (results_two spT _ rfl rfl hv6 rfl rfl) rfl ?_
    exact HE.out _ (hbn6 _ _ HT.out (by omega))
   | true =>
    go_wp2_with (refine wpList_value (by kernel_rfl) (exec_load_part stT rfl rfl [.int .i64 s.1.1,.int .i64 s.1.2] rfl HB1.out spPar) ?_)
    refine (has_any s.1 _ HL.out HWS.out).mono ?_
    rw [← HHB.out]
    rintro e w6 ⟨rfl,hb6⟩
    replace HL:=Hi (HL.out.kept hb6)
    replace HB0:=Hi (AgAt.kept HB0.out hb6)
    replace HB1:=Hi (AgAt.kept HB1.out hb6)
    replace HV5:=Hi (AgAt.kept HV5.out hb6)
    replace HT:=Hi (HT.out.trans (hb6.mono HT.out.size))
    clear hb6
    cases pb with
    | false =>
     have HE:=Hi (HR3.out HR1.out (Or.inr HHB.out.symm))
     clear HL HB0 HB1
     go_wp2_with (refine wpList_store_ag spT rfl _ _ rfl _ rfl _ HV5.out (A:=spA zS) rfl rfl rfl (spA_one _) ?_; intro w6 hv6 hko6 hsz6 hbn6)
     refine bodyPost_ret (results_two spT _ rfl rfl hv6 rfl rfl) rfl ?_
     exact HE.out _ (hbn6 _ _ HT.out (by omega))
    | true =>
     go_wp2_with (first | (refine wpList_load_ag stT (by kernel_rfl) _ rfl _ rfl (A:=#[.int .i64 n.1,.int .i64 n.2]) rfl HB0.out ?_) | (refine wpList_value (by kernel_rfl) (exec_load_part stT rfl rfl [.int .i64 s.1.1,.int .i64 s.1.2] rfl HB1.out spPar) ?_))
     refine (within_any n s.1 _ HL.out HWS.out HOK.out HPAR.out).mono ?_
     rw [← HWB.out]
     rintro e w7 ⟨rfl,hb7⟩
     replace HL:=Hi (HL.out.kept hb7)
     replace HB0:=Hi (AgAt.kept HB0.out hb7)
     replace HB1:=Hi (AgAt.kept HB1.out hb7)
     replace HV5:=Hi (AgAt.kept HV5.out hb7)
     replace HT:=Hi (HT.out.trans (hb7.mono HT.out.size))
     clear hb7
     cases wb with
     | true =>
      have HE:=Hi (HR41.out HR1.out HIB.out.symm HHB.out.symm HWB.out.symm)
      clear HL HB0 HB1
      go_wp2_with (refine wpList_store_ag spT rfl _ _ rfl _ rfl _ HV5.out (A:=spA zS) rfl rfl rfl (spA_one _) ?_; intro w6 hv6 hko6 hsz6 hbn6)
      refine bodyPost_ret (results_two spT _ rfl rfl hv6 rfl rfl) rfl ?_
      exact HE.out _ (hbn6 _ _ HT.out (by omega))
     | false =>
      have HLI:=Hi (show Calls Tryz.prog 322 #[.pointer (some ⟨P,0,none⟩),snV n,.agg (spA va)] w7 (Lifted P M1 M2 T F n w7) from by
       obtain ⟨s',hs⟩:=Option.isSome_iff_exists.1 HIB.out.symm
       have:va=s':=by rw [HVA.out,hs]; rfl
       subst this
       exact lift_any n va _ HL.out (HPAR.out _ (Tm.look_mem hs)) hs)
      have HR0:=Hi (HR0.out HR1.out HIB.out.symm HHB.out.symm HWB.out.symm _ HT.out)
      have HT7:=Hi HT.out.size
      clear HL HT
      go_wp2_with (first | (refine wpList_load_ag stT (by kernel_rfl) _ rfl _ rfl (A:=#[.int .i64 n.1,.int .i64 n.2]) rfl HB0.out ?_) | (refine wpList_load_ag spT (by kernel_rfl) _ rfl _ rfl (A:=spA va) rfl HV5.out ?_))
      refine HLI.out.mono ?_
      rintro e w8 ⟨rfl,C8,hl8,ht8⟩
      have HL8:=Hi hl8
      have HT8:=Hi ht8
      have HB0':=Hi (AgAt.block HB0.out (ht8.block _ (AgAt.lt HB0.out) fun h=>by have:=HLT.out _ h; omega))
      have HB1':=Hi (AgAt.block HB1.out (ht8.block _ (AgAt.lt HB1.out) fun h=>by have:=HLT.out _ h; omega))
      have HV8:=Hi (AgAt.block HV5.out (ht8.block _ (AgAt.lt HV5.out) fun h=>by have:=HLT.out _ h; omega))
      clear HLI hl8 ht8 HB0 HB1 HV5
      have HLA:=Hi (lay_any n s w8 HL8.out HWN.out HWS.out (by rw [Tm.look_cut,if_pos rfl]))
      go_wp2_with (first | (refine wpList_load_ag stT (by kernel_rfl) _ rfl _ rfl (A:=#[.int .i64 n.1,.int .i64 n.2]) rfl HB0'.out ?_) | (refine wpList_load_ag spT (by kernel_rfl) _ rfl _ rfl (A:=spA s) rfl HB1'.out ?_))
      refine HLA.out.mono ?_
      rintro e w9 ⟨rfl,C9,hl9,ht9⟩
      have HQ:=Hi (fun w10 (hb:Turns (fun k=>k=w.heap.size+1+1) w9 w10)=>HR0.out _ HT8.out (AgAt.lt HV8.out) _ C9 hl9 ht9 w10 hb)
      have HV9:=Hi (AgAt.block HV8.out (ht9.block _ (AgAt.lt HV8.out) fun h=>by have:=HLT.out _ h; omega))
      clear HLA hl9 ht9
      go_wp2_with (first | (refine wpList_load_ag spT (by kernel_rfl) _ rfl _ rfl (A:=spA va) rfl HV9.out ?_) | (refine wpList_store_ag spT rfl _ _ rfl _ rfl _ HV9.out (A:=spA va) rfl rfl rfl (spA_one _) ?_; intro w10 hv10 hko10 hsz10 hbn10))
      refine bodyPost_ret (results_two spT _ rfl rfl hv10 rfl rfl) rfl ?_
      rw [HVA.out]
      exact HQ.out _ (stored_turns hko10 hsz10 hbn10)
end Go.Proofs.YthfhefdfehlbkaaGreat

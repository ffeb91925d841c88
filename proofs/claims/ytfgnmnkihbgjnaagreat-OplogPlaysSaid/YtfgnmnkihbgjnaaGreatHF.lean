/-
  A RANGE OVER THE MAP OF THOSE THAT WAIT, the iterator's block anywhere.
  No conditions.
  A COPY OF A LOG: a row of a state set anew; Clone.
  No conditions but sizes.
  CLONE, walked.
  No conditions but sizes.
  ONE BATCH OF A LOG: Batch.
  No conditions but sizes.
  THE LAW's HELPERS: num, knows.
  No conditions.
-/
import Derived.Test.YtfgnmnkihbgjnaaGreatSh
import Derived.Laws.IdiomRangeMap
import Derived.Test.YtfgnmnkihbgjnaaGreatGO
import Derived.Test.YtfgnmnkihbgjnaaGreatGQ
import Derived.Test.YtfgnmnkihbgjnaaGreatLgAdd
set_option maxRecDepth 100000
set_option maxHeartbeats 8000000
namespace Go.Proofs.YtfgnmnkihbgjnaaGreat
open Go.RowKit
theorem run_next_at {P:Program} (w:World) (ty:TypeId) (r bm since c0:Nat) (seen:Array Nat) (es:Array MapEntry) (clock:Nat) (hr:w.heap[r]?=some (.mapIter (some bm) since seen c0)) (hb:w.heap[bm]?=some (.map es clock))
  (hold:∀ x ∈ es.toList,x.born<since) (hsc:since≤c0) :
  ((leftOf es seen).size=0∧(Instr.next (.pointer (some ⟨r,0,none⟩)) false ty).run P w=.ok (.tuple #[.bool false]) w) ∨
  ∃ e ∈ (leftOf es seen).toList,∃ w':World,(Instr.next (.pointer (some ⟨r,0,none⟩)) false ty).run P w=.ok (.tuple #[.bool true,e.key,e.val]) w'∧w'.heap[r]?=some (.mapIter (some bm) since (seen.push e.born) clock)∧Turns (fun k=>k=r) w w':=by
 have hrl:r<w.heap.size:=(Array.getElem?_eq_some_iff.1 hr).1
 simp only [Instr.next,getObj,Sem.run_bind,Sem.run,hr,hb,Result.andThen,next_test_false seen es since c0 hold hsc,Bool.false_eq_true,if_false]
 unfold leftOf
 have hmem:∀ x ∈ (Array.filter (fun e=>!seen.contains e.born) es).toList,x.born<since:=fun x hx=>hold x (by simp at hx ⊢; exact hx.1)
 generalize Array.filter (fun e=>!seen.contains e.born) es=L at hmem ⊢
 have e1:L.filter (fun x=>decide (x.born<since))=L:=Array.filter_eq_self.2 (fun x hx=>by simpa using hmem x (by simpa using hx))
 have e2:L.filter (fun x=>decide (x.born ≥ since))=#[]:=by
  rw [Array.filter_eq_empty_iff]
  intro x hx
  have:=hmem x (by simpa using hx)
  simp
  omega
 simp only [e1,e2,Array.append_empty]
 by_cases h0:L.size=0
 ·left
  have:L=#[]:=Array.eq_empty_of_size_eq_zero h0
  subst this
  refine ⟨rfl,?_⟩
  simp [choose,Sem.run,Question.forced]
 ·right
  have hne:L.isEmpty=false:=by simp [Array.isEmpty,h0]
  simp only [hne,Bool.false_eq_true,if_false,Array.empty_append,Array.size_map]
  have hch:∃ (j:Nat) (w1:World),j<L.size∧Turns (fun _=>False) w w1∧w1.heap=w.heap∧(choose (Question.mapNext L.size)).run P w=.ok j w1:=by
   by_cases hf:L.size≤1
   ·exact ⟨0,w,by omega,Turns.refl _ _,rfl,by simp [choose,Sem.run,Question.forced,hf]⟩
   ·exact ⟨_,w.drew,Nat.mod_lt _ (by omega),Turns.of_below (Below.drew (Below.refl _ _)),rfl,by
     simp only [choose,Sem.run,Question.forced,decide_eq_true_eq,hf,if_false,Question.cut]
     rfl⟩
  obtain ⟨j,w1,hj,ht,hh,hrun⟩:=hch
  refine ⟨L[j],by simp,Go.ChangeMaps.setBlock w1 r (.mapIter (some bm) since (seen.push L[j].born) clock),?_,?_,?_⟩
  ·have hset:∀ o':Obj,(setObj r o').run P w1=.ok () (Go.ChangeMaps.setBlock w1 r o'):=fun o'=>by
    have hr1:w1.heap[r]?=some (.mapIter (some bm) since seen c0):=by rw [hh]; exact hr
    simp only [setObj,Sem.run,hr1]
    rfl
   simp only [hrun,Array.getElem?_map,Array.getElem?_eq_getElem hj,Option.map_some,Sem.run_bind,Result.andThen,hset]
   rfl
  ·show (w1.heap.setIfInBounds r _)[r]?=_
   rw [hh,Array.getElem?_setIfInBounds_self_of_lt hrl]
  ·refine ⟨ht.os,ht.tape,ht.output,by simp [Go.ChangeMaps.setBlock,hh],fun k _ hk=>?_⟩
   show (w1.heap.setIfInBounds r _)[k]?=_
   rw [hh,Array.getElem?_setIfInBounds_ne (fun e=>hk e.symm)]
theorem run_entry_at {P:Program} (w:World) (r bm since:Nat) (seen:Array Nat) (es:Array MapEntry) (clock:Nat) (e:MapEntry) (hr:w.heap[r]?=some (.mapIter (some bm) since (seen.push e.born) clock)) (hb:w.heap[bm]?=some (.map es clock))
  (he:e ∈ es.toList) (hn:(es.toList.map (·.born)).Nodup):(Instr.entry (.pointer (some ⟨r,0,none⟩))).run P w=.ok (.tuple #[e.key,e.val]) w:=by
 have hf:es.find? (·.born == e.born)=some e:=by rw [← Array.find?_toList]; exact find_born e es.toList hn he
 simp only [Instr.entry,getObj,Sem.run_bind,Sem.run,hr,hb,Result.andThen,Array.back?_push,bne_self_eq_false,Bool.false_eq_true,if_false,hf]
 rfl
open Go.RowKit
def Sm.put (m:Sm) (r:Nat) (l:List Be) (p:Option Addr) (c:Nat):Sm :=
 {m with q:=fun k=>if k=r then p else m.q k,c:=fun k=>if k=r then c else m.c k,el:=fun k=>if k=r then l else m.el k }
theorem Sm.put_same (m:Sm) (r:Nat) (l:List Be) (p:Option Addr) (c:Nat):(m.put r l p c).v r=.slice p l.length c∧(m.put r l p c).el r=l:=by simp [Sm.put,Sm.v]
theorem Sm.put_other (m:Sm) {r k:Nat} (l:List Be) (p:Option Addr) (c:Nat) (h:k≠r):(m.put r l p c).v k=m.v k∧(m.put r l p c).el k=m.el k:=by simp [Sm.put,Sm.v,h]
theorem Sm.put_v (m:Sm) (r:Nat) (l:List Be) (p:Option Addr) (c:Nat):(m.put r l p c).v=fun k=>if k=r then .slice p l.length c else m.v k:=by
 funext k
 by_cases h:k=r
 ·subst h; rw [(m.put_same k l p c).1,if_pos rfl]
 ·rw [(m.put_other l p c h).1,if_neg h]
theorem Sm.put_lg (m:Sm) (r:Nat) (l:List Be) (p:Option Addr) (c:Nat):(m.put r l p c).lg={ m.lg with row:=fun k=>if k=r then l.map (·.x) else m.lg.row k }:=by
 unfold Sm.lg Sm.put
 dsimp only
 congr 1
 funext k
 by_cases h:k=r <;> simp [h]
theorem St.put {w w':World} {S M:Nat} {m:Sm} {F:Nat→Prop} (h:St w S M m F) {r:Nat} (hr:r<16) (hb:Below w.heap.size w w') {p:Option Addr} {c:Nat} {l:List Be} (hrow:BRow w.heap.size w' p c l) :
  St (w'.setCell ⟨S,r,none⟩ (.slice p l.length c)) S M (m.put r l p c) (fun k=>F k∨(w.heap.size≤k∧k<w'.heap.size)):=by
 have h':=h.kept hb
 have t2:=set_turns S w' r (.slice p l.length c)
 have hz:(w'.setCell ⟨S,r,none⟩ (.slice p l.length c)).heap.size=w'.heap.size:=by simp
 have hsz:=hb.size
 have hS:=h.slt
 have hM:=h.map.lt
 have hnew:∀ g,((m.put r l p c).v r).ownBlock=some g→w.heap.size≤g∧g<w'.heap.size:=fun g hh=>by
  rw [(m.put_same r l p c).1] at hh
  exact World.ownsRow.lt hrow.own g hh
 have hops:∀ b:Be,BopsF (Ro F S M m) w' b.x b.p b.c→BopsF (Ro (fun k=>F k∨(w.heap.size≤k∧k<w'.heap.size)) S M (m.put r l p c)) (w'.setCell ⟨S,r,none⟩ (.slice p l.length c)) b.x b.p b.c:=fun b hb2=>by
  have h1:=hb2.mono (G:=Ro (fun k=>F k∨(w.heap.size≤k∧k<w'.heap.size)) S M (m.put r l p c)) fun k _ h1=>by
   refine ⟨Or.inl h1.1,h1.2.1,h1.2.2.1,fun i hi hh=>?_⟩
   by_cases hir:i=r
   ·subst hir
    have:=(hnew k hh).1
    have:=h.lt k h1.1
    omega
   ·rw [(m.put_other l p c hir).1] at hh
    exact h1.2.2.2 i hi hh
  exact h1.turns t2 fun k hk hh=>hk.2.1 hh
 refine ⟨?_,h'.map.turns t2 fun hh=>h.ne hh.symm,fun i hi=>?_,fun i hi b hb2=>?_,fun b hb2=>hops b (h'.wops b hb2),fun i j b hi hj h1 h2=>?_,fun i b hi hb2=>?_,Or.inl h.fS,Or.inl h.fM,h.ne,fun k hk=>?_⟩
 ·have:=AgAt.put h'.st r (.slice p l.length c)
  rw [stA_set _ _ _ _ hr,← m.put_v r l p c] at this
  exact this
 ·by_cases hir:i=r
  ·subst hir
   rw [(m.put_same i l p c).1,(m.put_same i l p c).2]
   exact t2.own (own_base hrow.own fun _ _=>Nat.zero_le _) fun g hg hh=>by
    have:=(World.ownsRow.lt hrow.own g hg).1
    omega
  ·rw [(m.put_other l p c hir).1,(m.put_other l p c hir).2]
   exact t2.own (h'.row i hi) fun g hg hh=>(h.own i g hi hg).2.1 hh
 ·by_cases hir:i=r
  ·subst hir
   rw [(m.put_same i l p c).2] at hb2
   have h1:=(hrow.ops b hb2).mono (G:=Ro (fun k=>F k∨(w.heap.size≤k∧k<w'.heap.size)) S M (m.put i l p c)) fun k hk h1=>by
    refine ⟨Or.inr ⟨h1.1,hk⟩,by omega,by omega,fun j hj hh=>?_⟩
    by_cases hji:j=i
    ·subst hji
     rw [(m.put_same j l p c).1] at hh
     exact h1.2 hh
    ·rw [(m.put_other l p c hji).1] at hh
     have:=h.lt k (h.own j k hj hh).1
     omega
   exact h1.turns t2 fun k hk hh=>hk.2.1 hh
  ·rw [(m.put_other l p c hir).2] at hb2
   exact hops b (h'.ops i hi b hb2)
 ·by_cases hir:i=r <;> by_cases hjr:j=r
  ·rw [hir,hjr]
  ·subst hir
   rw [(m.put_other l p c hjr).1] at h2
   have:=(hnew b h1).1
   have:=h.lt b (h.own j b hj h2).1
   omega
  ·subst hjr
   rw [(m.put_other l p c hir).1] at h1
   have:=(hnew b h2).1
   have:=h.lt b (h.own i b hi h1).1
   omega
  ·rw [(m.put_other l p c hir).1] at h1
   rw [(m.put_other l p c hjr).1] at h2
   exact h.apart i j b hi hj h1 h2
 ·by_cases hir:i=r
  ·subst hir
   have h3:=hnew b hb2
   exact ⟨Or.inr h3,by omega,by omega⟩
  ·rw [(m.put_other l p c hir).1] at hb2
   exact ⟨Or.inl (h.own i b hi hb2).1,(h.own i b hi hb2).2⟩
 ·rw [hz]
  rcases hk with hk | hk
  ·exact Nat.lt_of_lt_of_le (h.lt k hk) hsz
  ·exact hk.2
open Go.RowKit
structure Cl (w:World) (F:Nat→Prop) (R:Nat→List Bat) (lo S M:Nat) (m:Sm) (wr:World):Prop where
 st:St wr S M m F
 lg:AgAt wr lo #[.pointer (some ⟨S,0,none⟩)]
 row:∀ r,r<16→m.lg.row r=R r
 ge:w.heap.size≤lo
 fr:∀ k,F k→w.heap.size≤k∧k≠lo
 bel:Below w.heap.size w wr
section
variable {w wr w':World} {F:Nat→Prop} {R R':Nat→List Bat} {lo S M:Nat} {m:Sm}
theorem Cl.kept (h:Cl w F R lo S M m wr) (hb:Below wr.heap.size wr w'):Cl w F R lo S M m w':=⟨h.st.kept hb,h.lg.kept hb,h.row,h.ge,h.fr,h.bel.trans (hb.mono h.bel.size)⟩
theorem Cl.congr (h:Cl w F R lo S M m wr) (hr:∀ r,r<16→R r=R' r):Cl w F R' lo S M m wr:=⟨h.st,h.lg,fun r h1=>(h.row r h1).trans (hr r h1),h.ge,h.fr,h.bel⟩
theorem Cl.put (h:Cl w F R lo S M m wr) {r:Nat} (hr:r<16) (hb:Below wr.heap.size wr w') {p:Option Addr} {c:Nat} {l:List Be} (hrow:BRow wr.heap.size w' p c l) :
  Cl w (fun k=>F k∨(wr.heap.size≤k∧k<w'.heap.size)) (fun k=>if k=r then l.map (·.x) else R k) lo S M (m.put r l p c) (w'.setCell ⟨S,r,none⟩ (.slice p l.length c)):=by
 have h':=h.kept hb
 have hfS:=h.fr _ h.st.fS
 refine ⟨h.st.put hr hb hrow,h'.lg.block (heap_setCell_other _ _ _ _ fun e=>hfS.2 e.symm),fun k hk=>?_,h.ge,fun k hk=>?_,h'.bel.setCell (p:=⟨S,r,none⟩) hfS.1 _⟩
 ·rw [Sm.put_lg]
  dsimp only
  split
  ·rfl
  ·exact h.row k hk
 ·rcases hk with hk | hk
  ·exact h.fr k hk
  ·have h1:=AgAt.lt h.lg
   have h2:=h.bel.size
   exact ⟨by omega,by omega⟩
theorem Cl.turns {G:Nat→Prop} (h:Cl w F R lo S M m wr) (ht:Turns G wr w') (hd:∀ k,F k→¬ G k) (hl:¬ G lo) (hG:∀ k,G k→w.heap.size≤k):Cl w F R lo S M m w' :=
 ⟨h.st.turns ht hd,h.lg.block (ht.block _ (AgAt.lt h.lg) hl),h.row,h.ge,h.fr,h.bel.trans (ht.below (fun k _ hk=>hG k hk) h.bel.size)⟩
theorem Cl.wait (h:Cl w F R lo S M m wr) (hb:Below wr.heap.size wr w') {x:Bat} {p:Option Addr} {c:Nat} (hp:BopsN wr.heap.size w' x p c) {w6:World} (hm:WMap w6 M (m.we ++ [⟨x,p,c⟩])) (ht:Turns (fun k=>k=M) w' w6) (hz:w6.heap.size=w'.heap.size) :
  Cl w (fun k=>F k∨(wr.heap.size≤k∧k<w'.heap.size)) R lo S M { m with we:=m.we ++ [⟨x,p,c⟩] } w6:=by
 have h':=h.kept hb
 have hM:=h.fr _ h.st.fM
 have hst:=h'.st.waited (e:=⟨x,p,c⟩) hm ht hz ((BopsF.ofN hp).mono (G:=Ro (fun k=>F k∨(wr.heap.size≤k∧k<w'.heap.size)) S M m) fun k hk h1=>h'.st.newRo h.st.lt h1 hk) (fun k h=>Or.inl h) fun k hk=>hk.elim (fun h1=>h'.st.lt k h1) fun h=>h.2
 refine ⟨hst,h'.lg.block (ht.block _ (AgAt.lt h'.lg) fun e=>hM.2 e.symm),h.row,h.ge,fun k hk=>?_,h'.bel.trans (ht.below (fun k _ hk=>by rw [hk]; exact hM.1) h'.bel.size)⟩
 rcases hk with hk | hk
 ·exact h.fr k hk
 ·have h1:=AgAt.lt h.lg
  have h2:=h.bel.size
  exact ⟨by omega,by omega⟩
end
theorem LgOk.perm {L L':Lg} (h:LgOk L) (hr:∀ r,r<16→L'.row r=L.row r) (hp:L'.wait.Perm L.wait):LgOk L':=by
 refine ⟨fun r h1 x hx=>h.right r h1 x (by rw [← hr r h1]; exact hx),fun x hx=>h.wright x (hp.mem_iff.1 hx),?_,by rw [hp.length_eq]; exact h.wlen⟩
 have:∀ k,k≤16→sumTo (vecL9 L') k=sumTo (vecL9 L) k:=by
  intro k
  induction k with
  | zero=>intro _; rfl
  | succ k ih =>
   intro hk
   simp only [sumTo]
   rw [ih (by omega)]
   unfold vecL9
   rw [hr k (by omega)]
 rw [this 16 (Nat.le_refl _)]
 exact h.tot
def LeftIs (es:Array MapEntry) (seen:Array Nat) (left:List Be):Prop:=(leftOf es seen).toList.map (fun e=>(e.key,e.val))=left.map fun b=>(plA b.x.r b.x.s,Value.agg (btA b.x b.p b.c))
theorem left_step {es:Array MapEntry} {seen:Array Nat} {e:MapEntry} {j:Nat} (hn:(es.toList.map (·.born)).Nodup) (hj:(leftOf es seen).toList[j]?=some e):(leftOf es (seen.push e.born)).toList=(leftOf es seen).toList.eraseIdx j:=by
 have h1:(leftOf es seen).toList=es.toList.filter fun x=>!seen.contains x.born:=by unfold leftOf; rw [Array.toList_filter]
 have h2:(leftOf es (seen.push e.born)).toList=(leftOf es seen).toList.filter fun x=>!(x.born == e.born):=by
  rw [h1,List.filter_filter]
  unfold leftOf
  rw [Array.toList_filter]
  apply List.filter_congr
  intro x _
  rw [contains_push]
  cases seen.contains x.born <;> cases x.born == e.born <;> rfl
 rw [h2]
 refine Go.ChangeMaps.filter_eq_eraseIdx (fun x:MapEntry=>x.born == e.born) _ j e hj (by simp) ?_
 have h3:((leftOf es seen).toList.map (·.born)).Nodup:=by rw [h1]; exact hn.sublist (List.filter_sublist.map _)
 refine (List.pairwise_map.1 h3).imp ?_
 intro a b hne ⟨k1,k2⟩
 exact hne ((beq_iff_eq.1 k1).trans (beq_iff_eq.1 k2).symm)
theorem cons_erase {α:Type}:∀ (l:List α) (j:Nat) (h:j<l.length),(l[j] :: l.eraseIdx j).Perm l
 | a :: l,0,_=>List.Perm.refl _
 | a :: l,j+1,h=>(List.Perm.swap _ _ _).trans ((cons_erase l j (by simpa using h)).cons a)
theorem LeftIs.step {es:Array MapEntry} {seen:Array Nat} {left:List Be} {e:MapEntry} (h:LeftIs es seen left) (hn:(es.toList.map (·.born)).Nodup) (he:e ∈ (leftOf es seen).toList) :
  ∃ b left',e.key=plA b.x.r b.x.s∧e.val=.agg (btA b.x b.p b.c)∧(b :: left').Perm left∧LeftIs es (seen.push e.born) left':=by
 obtain ⟨j,hj,hje⟩:=List.getElem_of_mem he
 have hl:(leftOf es seen).toList.length=left.length:=by have:=congrArg List.length h; simpa using this
 have hjl:j<left.length:=by omega
 have h1:((leftOf es seen).toList.map fun e=>(e.key,e.val))[j]?=(left.map fun b=>(plA b.x.r b.x.s,Value.agg (btA b.x b.p b.c)))[j]?:=by rw [h]
 rw [List.getElem?_map,List.getElem?_map,List.getElem?_eq_getElem hj,List.getElem?_eq_getElem hjl,hje] at h1
 simp only [Option.map_some,Option.some.injEq,Prod.mk.injEq] at h1
 refine ⟨left[j],left.eraseIdx j,h1.1,h1.2,cons_erase left j hjl,?_⟩
 unfold LeftIs
 rw [left_step hn (j:=j) (by rw [List.getElem?_eq_getElem hj,hje]),Go.ChangeMaps.map_eraseIdx,h,Go.ChangeMaps.map_eraseIdx]
theorem LeftIs.all {es:Array MapEntry} {l:List Be} (h:es.toList.map (fun e=>(e.key,e.val))=l.map fun b=>(plA b.x.r b.x.s,Value.agg (btA b.x b.p b.c))):LeftIs es #[] l:=by
 unfold LeftIs leftOf
 rw [← h,Array.toList_filter]
 congr 1
 exact List.filter_eq_self.2 fun x _=>by simp
theorem LeftIs.none {es:Array MapEntry} {seen:Array Nat} {left:List Be} (h:LeftIs es seen left) (h0:(leftOf es seen).size=0):left=[]:=by
 have:=congrArg List.length h
 simp only [List.length_map,Array.length_toList,h0] at this
 exact List.eq_nil_of_length_eq_zero this.symm
theorem cp_perm {A L L':List Be} {b:Be} {T:List Bat} (h:(A.map (·.x) ++ L.map (·.x)).Perm T) (hp:(b :: L').Perm L) (p:Option Addr) (c:Nat):((A ++ [(⟨b.x,p,c⟩:Be)]).map (·.x) ++ L'.map (·.x)).Perm T:=by
 rw [List.map_append,List.append_assoc]
 refine (List.Perm.append_left _ ?_).trans h
 exact hp.map (·.x)
theorem cp_apart {A L W:List Be} {b:Be} (hap:W.Pairwise fun a b=>¬ (a.x.r=b.x.r∧a.x.s=b.x.s)) (h:(A.map (·.x) ++ L.map (·.x)).Perm (W.map (·.x))) (hb:b ∈ L):∀ a ∈ A,atPl b.x.r b.x.s a.x=false:=by
 have h1:(W.map (·.x)).Pairwise fun a b:Bat=>¬ (a.r=b.r∧a.s=b.s):=List.pairwise_map.2 hap
 have h2:=(h.pairwise_iff (R:=fun a b:Bat=>¬ (a.r=b.r∧a.s=b.s)) (fun {x y} hxy ⟨k1,k2⟩=>hxy ⟨k1.symm,k2.symm⟩)).2 h1
 intro a ha
 have h3:=(List.pairwise_append.1 h2).2.2 a.x (List.mem_map.2 ⟨a,ha,rfl⟩) b.x (List.mem_map.2 ⟨b,hb,rfl⟩)
 cases hc:atPl b.x.r b.x.s a.x with
 | false=>rfl
 | true=>exact absurd (atPl_iff.1 hc) h3
def ClonedL (L:Lg) (w:World) (e:Ending) (w':World):Prop :=
 ∃ lo S M m2,e=.returned (.pointer (some ⟨lo,0,none⟩))∧Lo w' lo S M m2 (fun k=>w.heap.size≤k∧k<w'.heap.size∧k≠lo)∧(∀ r,r<16→m2.lg.row r=L.row r)∧m2.lg.wait.Perm L.wait∧w.heap.size≤lo∧lo<w'.heap.size∧Below w.heap.size w w'
theorem lclone_any {l S M:Nat} {m:Sm} {F:Nat→Prop} (w:World) (h:Lo w l S M m F) :
  Calls Tryz.prog 8 #[.pointer (some ⟨l,0,none⟩)] w (ClonedL m.lg w):=by
 have y0:=h.cell
 have HO:=Hi (lours_yes y0)
 have HNEW:=Hi (lnew_any w)
 have HL:=Hi h
 clear h
 go_enter Tryz.func8,Tryz.ntmps8
 go_wp2_with fail
 refine HO.out.mono ?_
 rintro e w1 ⟨rfl,rfl⟩
 clear y0
 go_wp2_with fail
 refine HNEW.out.mono ?_
 rintro e w1 ⟨lo,So,Mo,mo,rfl,hLo,hz,h1,h2,hb⟩
 have y0:=(HL.out.kept hb).cell
 have HLS:=Hi (HL.out.kept hb).st
 have C0:=Hi (show Cl w (fun k=>w.heap.size≤k∧k<w1.heap.size∧k≠lo) (fun _=>[]) lo So Mo mo w1 from ⟨hLo.st,hLo.lg,fun r _=>by rw [hz]; rfl,h1,fun k hk=>⟨hk.1,hk.2.2⟩,hb⟩)
 have HW0:=Hi (show mo.we=[] from by
  have:=congrArg Lg.wait hz
  unfold Sm.lg Lg.zero at this
  dsimp only at this
  exact List.map_eq_nil_iff.1 this)
 clear hLo hz h1 h2 hb HNEW HO
 go_wp2_with (refine wpList_load_sl HLS.out rfl _ rfl rfl ?_)
 go_loopw [19] (fun i wr=>∃ (k:Nat) (A:Nat→Prop) (m2:Sm),k≤16∧i=.int .i64 (k:Int)∧m2.we=[]∧Cl w A (fun r=>if r<k then m.lg.row r else []) lo So Mo m2 wr) (fun i _=>16 - (intOf i).toNat)
 case atStart=>exact ⟨0,_,_,by omega,rfl,HW0.out,C0.out.congr fun r _=>by simp⟩
 case round =>
  clear C0 HLS y0 HW0
  obtain ⟨k,A,m2,hk,rfl,hwe,hC⟩:=hrel
  have C1:=Hi hC
  have HWE:=Hi hwe
  clear hC hwe
  by_cases hlt:k<16
  ·have ix:=fun (W:World)=>run_index_sl W m k hlt
   go_upto_region 7 with fail
   have C:=Hi (C1.out.kept (Below.drew (Below.refl _ _)))
   clear C1 ix
   refine wp_region_held_drew (S:=fun W=>AgAt W lo #[.pointer (some ⟨So,0,none⟩)]) (by kernel_rfl) (show AgAt wr.drew lo #[.pointer (some ⟨So,0,none⟩)] from C.out.lg) (fun hS=>?_)
   generalize wr.drew=wd at *
   have HCP:=Hi (copies_any (m.q k) (m.c k) (m.el k) wd (((HL.out.kept C.out.bel).st.rd hlt).1) (fun e he=>((HL.out.kept C.out.bel).st.ops k hlt e he).bops) (fun e he=>(Sm.okB HL.out.ok hlt he).cp) (Nat.le_trans (Sm.len HL.out.ok hlt) (by decide)))
   refine tX 0 rfl hS ?_
   refine tX 1 rfl hS ?_
   refine tX 2 rfl hS ?_
   refine tK 3 (v:=?_) rfl ?_ hS ?_
   rotate_left
   ·intro W hSW
    have yl:=AgAt.cell hSW 0
    go_simp
    all_goals with_reducible rfl
   go_simp
   refine tX 4 rfl hS ?_
   refine tX 5 rfl hS ?_
   refine tX 7 rfl hS ?_
   refine tX 8 rfl hS ?_
   go_simp
   refine rD 6 rfl (fun K hK=>?_)
   go_simp
   go_wp2_with ((go_at_call 28; refine HCP.out.mono ?_; rintro e wn ⟨p5,c5,l5,rfl,hm5,hrow5,hb5⟩))
   have HM5:=Hi hm5
   have HROW5:=Hi hrow5
   have HB5:=Hi hb5
   have HL5:=Hi (show l5.length=(m.el k).length from by have:=congrArg List.length hm5; simpa using this)
   have C5:=Hi (C.out.kept hb5)
   refine hK.out _ _ (AgAt.kept hS hb5) (fun hS=>?_)
   clear hK K hm5 hrow5 hb5
   refine tK 9 (v:=?_) rfl ?_ hS ?_
   rotate_left
   ·intro W hSW
    have hri:(k:Int)<16:=by omega
    go_simp
    all_goals with_reducible rfl
   go_simp
   refine rD 10 rfl (fun K hK=>?_)
   have yc:=C5.out.st.cell hlt
   have yf:=AgAt.free C5.out.st.st k
   go_simp
   have hSn:AgAt (wn.setCell ⟨So,k,none⟩ (.slice p5 (m.el k).length c5)) lo #[.pointer (some ⟨So,0,none⟩)]:=hS.block (heap_setCell_other _ _ _ _ (fun h=>(C5.out.fr _ C5.out.st.fS).2 h.symm))
   refine hK.out _ _ hSn (fun hS=>?_)
   clear hK K yc yf hSn
   refine wpAnyH_done (by kernel_rfl) ?_ _
   go_simp
   have C6:=Hi (C.out.put hlt HB5.out HROW5.out)
   rw [HL5.out] at C6
   have C7:=Hi (C6.out.congr (R':=fun r=>if r<k+1 then m.lg.row r else []) (fun r hr=>by
    by_cases h1:r=k
    ·subst h1
     rw [if_pos rfl,if_pos (by omega),HM5.out]
     rfl
    ·rw [if_neg h1]
     by_cases h2:r<k
     ·rw [if_pos h2,if_pos (by omega)]
     ·rw [if_neg h2,if_neg (by omega)]))
   clear C6 C5 C hS
   generalize wn.setCell ⟨So,k,none⟩ (.slice p5 (m.el k).length c5)=w6 at *
   go_wp2
   go_roundw
   case rel=>exact ⟨k+1,_,m2.put k l5 p5 c5,by omega,by go_num,HWE.out,C7.out⟩
   case measure=>simp [intOf]; omega
  ·obtain rfl:k=16:=by omega
   have C:=Hi (C1.out.congr (R':=m.lg.row) (fun r hr=>by rw [if_pos hr]))
   clear C1
--@2
   obtain ⟨es,clock,hmb,hes⟩:=HL.out.st.map.ex
   obtain ⟨es2,clock2,hmb2,hold,hnd⟩:=HL.out.st.map.fresh
   obtain ⟨rfl,rfl⟩:es2=es∧clock2=clock:=by rw [hmb] at hmb2; cases hmb2; exact ⟨rfl,rfl⟩
   have HMB:=Hi (fun (W:World) (hW:Below w.heap.size w W)=>show W.heap[M]?=some (.map es2 clock2) from by rw [hW.block M HL.out.st.map.lt]; exact hmb)
   have HOLD:=Hi hold
   have HND:=Hi hnd
   have HLE:=Hi (LeftIs.all hes)
   have HAP:=Hi HL.out.st.map.apart
   have y0:=(HL.out.kept C.out.bel).cell
   have y16:=(HL.out.kept C.out.bel).st.mcell
   have hrg:=run_range_map (P:=Tryz.prog) wr 73 _ _ M es2 clock2 Tryz.underlying73 (HMB.out wr C.out.bel)
   have HBI:=Hi ((Below.refl wr.heap.size wr).alloc (Nat.le_refl _) (.mapIter (some M) clock2 #[] clock2))
   have HIT:=Hi (heap_alloc_new wr (.mapIter (some M) clock2 #[] clock2))
   have HZI:=Hi (show (wr.alloc (.mapIter (some M) clock2 #[] clock2)).heap.size=wr.heap.size+1 from by simp)
   have CI:=Hi (C.out.kept HBI.out)
   have HIL:=Hi (show ¬ A wr.heap.size∧wr.heap.size≠lo∧w.heap.size≤wr.heap.size from ⟨fun h=>Nat.lt_irrefl _ (C.out.st.lt _ h),fun h=>by have:=AgAt.lt C.out.lg; omega,C.out.bel.size⟩)
   clear hmb hmb2 hold hnd hes C HBI
   go_wp2_with fail
   clear hrg y0 y16
   generalize wr.alloc (.mapIter (some M) clock2 #[] clock2)=wi at *
   generalize wr.heap.size=it at *
   go_loopg [] (m.we.length+1) (fun g w2=>∃ (A:Nat→Prop) (m2:Sm) (seen:Array Nat) (c0:Nat) (left:List Be),w2.heap[it]?=some (.mapIter (some M) clock2 seen c0)∧clock2≤c0∧LeftIs es2 seen left∧(m2.we.map (·.x) ++ left.map (·.x)).Perm (m.we.map (·.x))∧(∀ b,b ∈ left→b ∈ m.we)∧Cl w A m.lg.row lo So Mo m2 w2∧¬ A it∧left.length<g)
   case atStart=>exact ⟨_,_,#[],clock2,m.we,HIT.out,Nat.le_refl _,HLE.out,by rw [HWE.out]; exact List.Perm.refl _,fun _ h=>h,CI.out,HIL.out.1,Nat.lt_succ_self _⟩
   case round =>
    clear CI HIT HLE HWE
    obtain ⟨A2,m3,seen,c0,left,hit,hsc,hle,hpm,hsub,hC,hnA,hlg⟩:=hrel
    obtain ⟨g1,rfl⟩:∃ g1,gk=g1+1:=⟨gk - 1,by omega⟩
    have C:=Hi hC
    have HPM:=Hi hpm
    have HNA:=Hi hnA
    have HLG:=Hi hlg
    have HLF:=Hi hle
    have HSUB:=Hi hsub
    have hnx:=run_next_at (P:=Tryz.prog) _ 0 it M clock2 c0 seen es2 clock2 hit (HMB.out _ C.out.bel) HOLD.out hsc
    clear hit hsc hle hpm hsub hC hnA hlg
    rcases hnx with ⟨h0,hnx⟩ | ⟨e,he,w2,hnx,hit2,ht2⟩
    ·have HE:=Hi (show ClonedL m.lg w (.returned (.pointer (some ⟨lo,0,none⟩))) wr from by
      obtain rfl:=HLF.out.none h0
      have hp:=HPM.out
      simp only [List.map_nil,List.append_nil] at hp
      refine ⟨lo,So,Mo,m3,rfl,⟨C.out.st.more (fun k hk=>⟨(C.out.fr k hk).1,C.out.st.lt k hk,(C.out.fr k hk).2⟩) (fun k hk=>hk.2.1),HL.out.ok.perm C.out.row hp,C.out.lg,fun h=>h.2.2 rfl⟩,C.out.row,hp,C.out.ge,AgAt.lt C.out.lg,C.out.bel⟩)
     clear h0 C HPM HNA HLG HLF
     go_wp2
     go_ret
     exact HE.out
    ·obtain ⟨be,left',hk,hv,hp,hl⟩:=HLF.out.step HND.out he
     rw [hk,hv] at hnx
     have C2:=Hi (C.out.turns ht2 (fun k h1 h2=>HNA.out (h2 ▸ h1)) (fun h=>HIL.out.2.1 h.symm) (fun k h=>by rw [h]; exact HIL.out.2.2))
     have hen:=run_entry_at (P:=Tryz.prog) w2 it M clock2 seen es2 clock2 e hit2 (HMB.out w2 C2.out.bel) (mem_left he).1 HND.out
     rw [hk,hv] at hen
     have HIT2:=Hi hit2
     have HP:=Hi hp
     have HL2:=Hi hl
     have HBE:=Hi (show be ∈ left from hp.mem_iff.1 (List.mem_cons_self ..))
     have HBM:=Hi (HSUB.out be HBE.out)
     have HLT:=Hi (show left'.length<g1 from by have h1:=hp.length_eq; have h2:=HLG.out; simp only [List.length_cons] at h1; omega)
     have HZ1:=Hi ((AgAt.new w2 #[.int .i64 0,.int .i64 0] 81).kept ((Below.refl _ _).alloc (Nat.le_refl _) (.cells #[.int .i64 0,.int .i64 0,.int .i64 0,.slice none 0 0] 39)))
     have HZ2:=Hi (show AgAt ((w2.alloc (.cells #[.int .i64 0,.int .i64 0] 81)).alloc (.cells #[.int .i64 0,.int .i64 0,.int .i64 0,.slice none 0 0] 39)) (w2.heap.size+1) #[.int .i64 0,.int .i64 0,.int .i64 0,.slice none 0 0] from by
      have:=AgAt.new (w2.alloc (.cells #[.int .i64 0,.int .i64 0] 81)) #[.int .i64 0,.int .i64 0,.int .i64 0,.slice none 0 0] 39
      rw [show (w2.alloc (.cells #[.int .i64 0,.int .i64 0] 81)).heap.size=w2.heap.size+1 from by simp] at this
      exact this)
     have HB2:=Hi (show Below w2.heap.size w2 ((w2.alloc (.cells #[.int .i64 0,.int .i64 0] 81)).alloc (.cells #[.int .i64 0,.int .i64 0,.int .i64 0,.slice none 0 0] 39)) from ((Below.refl _ _).alloc (Nat.le_refl _) _).alloc (by simp) _)
     have HLI:=Hi (show it<w2.heap.size from (Array.getElem?_eq_some_iff.1 hit2).1)
     have HS2:=Hi HSUB.out
     clear C HLF HLG HSUB hit2 ht2 he hk hv hp hl HBE
     go_upto_region 12 with (first | (refine wpList_store_ag plT rfl _ _ rfl _ rfl _ HZ1.out rfl rfl rfl (stA_one _ _) ?_; intro w3 hv3 hko3 hsz3 hbn3) | (refine wpList_store_ag btP rfl _ _ rfl _ rfl _ (HZ2.out.block (hko3 _ (Nat.succ_ne_self _))) rfl rfl rfl (btA_one _ _ _) ?_; intro w4 hv4 hko4 hsz4 hbn4))
     --@3
     have HB4:=Hi (hbn4 _ _ (hbn3 _ _ HB2.out (Nat.le_refl _)) (Nat.le_succ _))
     have HV3:=Hi ((AgAt.block hv3 (hko4 _ (by omega))).kept (Below.drew (Below.refl _ _)))
     have HV4:=Hi (AgAt.kept hv4 (Below.drew (Below.refl _ _)))
     have HBD:=Hi (show Below w2.heap.size w2 w4.drew from HB4.out.trans ((Below.drew (Below.refl _ _)).mono HB4.out.size))
     have C:=Hi (C2.out.kept HBD.out)
     have HLM:=Hi (show Mo<w2.heap.size from C2.out.st.lt _ C2.out.st.fM)
     clear hv3 hv4 hko3 hko4 hsz3 hsz4 hbn3 hbn4 hen hnx HZ1 HZ2 HB2 HB4 C2
     refine wp_region_held_drew (S:=fun W=>AgAt W lo #[.pointer (some ⟨So,0,none⟩)]∧AgAt W So (stA m3.v Mo)∧AgAt W w2.heap.size #[.int .i64 be.x.r,.int .i64 be.x.s]∧AgAt W (w2.heap.size+1) (btA be.x be.p be.c)) (by kernel_rfl) ⟨C.out.lg,C.out.st.st,HV3.out,HV4.out⟩ (fun hS=>?_)
     generalize w4.drew=wd at *
     have HCP:=Hi (bcopy_any be.x be.p be.c wd ((HL.out.kept C.out.bel).st.wops be HBM.out).bops (Sm.okW HL.out.ok HBM.out).cp.1 (Sm.okW HL.out.ok HBM.out).cp.2)
     have HWF:=Hi (plWf_of (Sm.okW HL.out.ok HBM.out).right)
     have HNO:=Hi (cp_apart HAP.out HPM.out (HP.out.mem_iff.1 (List.mem_cons_self ..)))
     have HNM:=Hi (show lo≠Mo∧So≠Mo∧w2.heap.size≠Mo∧w2.heap.size+1≠Mo from ⟨fun h=>(C.out.fr _ C.out.st.fM).2 h.symm,C.out.st.ne,by have:=HLM.out; omega,by have:=HLM.out; omega⟩)
     refine tX 0 rfl hS ?_
     refine tX 1 rfl hS ?_
     refine tX 2 rfl hS ?_
     refine tK 3 (v:=?_) rfl ?_ hS ?_
     rotate_left
     ·intro W hSW
      have yl:=AgAt.cell hSW.1 0
      go_simp
      all_goals with_reducible rfl
     go_simp
     refine tX 4 rfl hS ?_
     refine tX 5 rfl hS ?_
     refine tK 6 (v:=?_) rfl ?_ hS ?_
     rotate_left
     ·intro W hSW
      have y16:=mcell_of hSW.2.1
      go_simp
      all_goals with_reducible rfl
     go_simp
     refine tK 7 (v:=.agg #[.int .i64 be.x.r,.int .i64 be.x.s]) rfl (fun W hSW=>exec_load_ag plT rfl rfl rfl hSW.2.2.1) hS ?_
     go_simp
     refine tK 8 (v:=.agg (btA be.x be.p be.c)) rfl (fun W hSW=>exec_load_ag btP rfl rfl rfl hSW.2.2.2) hS ?_
     go_simp
     refine rD 9 rfl (fun K hK=>?_)
     go_simp
     go_wp2_with ((go_at_call 29; refine HCP.out.mono ?_; rintro e wn ⟨p5,c5,rfl,hp5,hb5⟩))
     have HP5:=Hi hp5
     have HB5:=Hi hb5
     have C5:=Hi (C.out.kept hb5)
     refine hK.out _ _ ⟨AgAt.kept hS.1 hb5,AgAt.kept hS.2.1 hb5,AgAt.kept hS.2.2.1 hb5,AgAt.kept hS.2.2.2 hb5⟩ (fun hS=>?_)
     clear hK K hp5 hb5
     refine rD 10 rfl (fun K hK=>?_)
     obtain ⟨w6,hrun,hm6,ht6,hz6⟩:=C5.out.st.map.upd ⟨be.x,p5,c5⟩ HWF.out HNO.out
     dsimp only at hrun
     have C6:=Hi (C.out.wait HB5.out HP5.out hm6 ht6 hz6)
     have HT6:=Hi ht6
     have HZ6:=Hi hz6
     refine step_of (by kernel_rfl) ?_
     refine wp_mapUpdate _ _ _ _ rfl (.map (some Mo)) (plA be.x.r be.x.s) (.agg (btA be.x p5 c5)) rfl rfl rfl w6 hrun ?_
     refine hK.out _ _ ⟨AgAt.block hS.1 (ht6.block _ (AgAt.lt hS.1) HNM.out.1),AgAt.block hS.2.1 (ht6.block _ (AgAt.lt hS.2.1) HNM.out.2.1),AgAt.block hS.2.2.1 (ht6.block _ (AgAt.lt hS.2.2.1) HNM.out.2.2.1),AgAt.block hS.2.2.2 (ht6.block _ (AgAt.lt hS.2.2.2) HNM.out.2.2.2)⟩ (fun hS=>?_)
     clear hK K hrun hm6 ht6 hz6
     refine wpAnyH_done (by kernel_rfl) ?_ _
     go_simp
     have HB6:=Hi (show Turns (fun k=>k=Mo) wd w6 from (Turns.of_below HB5.out).trans (HT6.out.mono fun k _ h=>Or.inl h))
     have HIT6:=Hi (show w6.heap[it]?=some (.mapIter (some M) clock2 (seen.push e.born) clock2) from by
      rw [HB6.out.block it (Nat.lt_of_lt_of_le HLI.out HBD.out.size) (fun h=>HNA.out (h ▸ C.out.st.fM)),HBD.out.block it HLI.out]
      exact HIT2.out)
     have HPM6:=Hi (cp_perm HPM.out HP.out p5 c5)
     have HSB:=Hi (fun b (h:b ∈ left')=>HS2.out b (HP.out.mem_iff.1 (List.mem_cons_of_mem _ h)))
     have HNA6:=Hi (show ¬ (A2 it∨(wd.heap.size≤it∧it<wn.heap.size)) from fun h=>h.elim HNA.out fun h=>by have h1:=HLI.out; have h2:=HBD.out.size; omega)
     clear hS C C5 HNA HPM HBD
     go_wp2
     go_roundg g1
     case rel=>exact ⟨_,{ m3 with we:=m3.we ++ [⟨be.x,p5,c5⟩] },seen.push e.born,clock2,left',HIT6.out,Nat.le_refl _,HL2.out,HPM6.out,HSB.out,C6.out,HNA6.out,HLT.out⟩
     case measure=>omega
open Go.RowKit
def batchL (L:Lg) (r s:Int):Option Bat:=if 0≤r∧r<16∧1≤s∧s≤((L.row r.toNat).length:Int) then (L.row r.toNat)[s.toNat - 1]? else none
def Batched (o:Option Bat) (w:World) (e:Ending) (w':World):Prop :=
 match o with
 | none=>e=.returned (.tuple #[.agg (btA Bat.zero none 0),.bool false])∧Below w.heap.size w w'
 | some x=>∃ p c,e=.returned (.tuple #[.agg (btA x p c),.bool true])∧BopsN w.heap.size w' x p c∧Below w.heap.size w w'
theorem batchL_no {L:Lg} {r s:Int} (h:¬ (0≤r∧r<16∧1≤s∧s≤((L.row r.toNat).length:Int))):batchL L r s=none:=by unfold batchL; rw [if_neg h]
theorem lbatch_any {l S M:Nat} {m:Sm} {F:Nat→Prop} (r s:Int) (w:World) (h:Lo w l S M m F) :
  Calls Tryz.prog 16 #[.pointer (some ⟨l,0,none⟩),.int .i64 r,.int .i64 s] w (Batched (batchL m.lg r s) w):=by
 have hb:=(Below.refl w.heap.size w).alloc (Nat.le_refl _) (.cells (btA Bat.zero none 0) 39)
 have HV:=Hi (AgAt.new w (btA Bat.zero none 0) 39)
 have HL:=Hi (h.kept hb)
 have HO:=Hi (lours_yes HL.out.cell)
 have HB:=Hi hb
 clear h hb
 by_cases hr:0≤r∧r<16
 ·obtain ⟨hr0,hr1⟩:=hr
  have hr16:r.toNat<16:=by omega
  have d1:decide (r<0)=false:=decide_eq_false (by omega)
  have d2:decide (16≤r)=false:=decide_eq_false (by omega)
  have yc:=HL.out.st.cell hr16
  have y0:=HL.out.cell
  have HLG:=Hi (show m.lg.row r.toNat=(m.el r.toNat).map (·.x) from rfl)
  have HL5:=Hi (Sm.len HL.out.ok hr16)
  by_cases hs:1≤s∧s≤((m.el r.toNat).length:Int)
  ·obtain ⟨i,rfl⟩:∃ i:Nat,s=(i:Int)+1:=⟨s.toNat - 1,by omega⟩
   have hi:i<(m.el r.toNat).length:=by omega
   have d3:decide ((i:Int)+1<1)=false:=decide_eq_false (by omega)
   have d4:decide (((m.el r.toNat).length:Int)<(i:Int)+1)=false:=decide_eq_false (by omega)
   have hwi:IntKind.i64.wrap (i:Int)=(i:Int):=wraps_i64 _ (by omega) (by have:=HL5.out; omega)
   obtain ⟨hrd,-,-,hpp⟩:=HL.out.st.rd hr16
   obtain ⟨b,o,hq,-⟩:=hrd.addr (by rw [beCells_length]; omega)
   have ho:o=0:=by have:=(hpp _ hq).2; cases this; rfl
   subst ho
   rw [hq] at hrd yc
   have HRD:=Hi hrd
   have hok:=Sm.okB HL.out.ok hr16 (beOf_mem hi)
   have HC:=Hi (bcopy_any (beOf (m.el r.toNat) i).x (beOf (m.el r.toNat) i).p (beOf (m.el r.toNat) i).c _ (((HL.out.st.ops _ hr16 _ (beOf_mem hi))).bops) hok.cp.1 hok.cp.2)
   have HQ:=Hi (show batchL m.lg r ((i:Int)+1)=some (beOf (m.el r.toNat) i).x from by
    unfold batchL
    rw [if_pos ⟨hr0,hr1,by omega,by rw [HLG.out,List.length_map]; omega⟩,HLG.out,show ((i:Int)+1).toNat - 1=i from by omega,List.getElem?_map,List.getElem?_eq_getElem hi]
    simp [beOf,hi])
   clear hrd hpp hq hok hs
   go_enter Tryz.func16,Tryz.ntmps16
   go_wp2_with fail
   refine HO.out.mono ?_
   rintro e w1 ⟨rfl,rfl⟩
   go_wp2_with (refine wpList_load_be0 btP rfl _ rfl b i rfl (m.el r.toNat) HRD.out hi ?_)
   refine HC.out.mono ?_
   rintro e w2 ⟨p2,c2,rfl,hbo,hb2⟩
   have HV2:=Hi (AgAt.kept HV.out hb2)
   have HB2:=Hi (HB.out.trans (hb2.mono HB.out.size))
   have HBO:=Hi hbo
   have HSZ:=Hi HB.out.size
   clear hb2 hbo
   go_wp2_with (refine wpList_store_ag (A:=btA (beOf (m.el r.toNat) i).x p2 c2) btP rfl _ _ rfl _ rfl _ HV2.out rfl rfl rfl (btA_one _ _ _) ?_; intro w3 hv3 hko3 hsz3 hbn3)
   obtain ⟨z0,z1,z2,z3⟩:=BtAt.cells hv3
   refine bodyPost_ret (v:=.tuple #[.agg (btA (beOf (m.el r.toNat) i).x p2 c2),.bool true]) (by simp [results,Tryz.results16,go_sem,z0,z1,z2,z3,btA]) rfl ?_
   rw [HQ.out]
   exact ⟨p2,c2,rfl,((HBO.out.only (only_of hko3 hsz3 hbn3) (by simp)).mono HSZ.out),hbn3 _ _ HB2.out (Nat.le_refl _)⟩
  ·have HQ:=Hi (batchL_no (L:=m.lg) (r:=r) (s:=s) (by rw [HLG.out,List.length_map]; omega))
   by_cases hs1:s<1
   ·have d3:decide (s<1)=true:=decide_eq_true hs1
    go_enter Tryz.func16,Tryz.ntmps16
    go_wp2_with fail
    refine HO.out.mono ?_
    rintro e w1 ⟨rfl,rfl⟩
    go_wp2_with (refine wpList_store_ag (A:=btA Bat.zero none 0) btP rfl _ _ rfl _ rfl _ HV.out rfl rfl rfl (btA_one _ _ _) ?_; intro w3 hv3 hko3 hsz3 hbn3)
    obtain ⟨z0,z1,z2,z3⟩:=BtAt.cells hv3
    refine bodyPost_ret (v:=.tuple #[.agg (btA Bat.zero none 0),.bool false]) (by simp [results,Tryz.results16,go_sem,z0,z1,z2,z3,btA,Bat.zero]) rfl ?_
    rw [HQ.out]
    exact ⟨rfl,hbn3 _ _ HB.out (Nat.le_refl _)⟩
   ·have d3:decide (s<1)=false:=decide_eq_false hs1
    have d4:decide (((m.el r.toNat).length:Int)<s)=true:=decide_eq_true (by omega)
    go_enter Tryz.func16,Tryz.ntmps16
    go_wp2_with fail
    refine HO.out.mono ?_
    rintro e w1 ⟨rfl,rfl⟩
    go_wp2_with (refine wpList_store_ag (A:=btA Bat.zero none 0) btP rfl _ _ rfl _ rfl _ HV.out rfl rfl rfl (btA_one _ _ _) ?_; intro w3 hv3 hko3 hsz3 hbn3)
    obtain ⟨z0,z1,z2,z3⟩:=BtAt.cells hv3
    refine bodyPost_ret (v:=.tuple #[.agg (btA Bat.zero none 0),.bool false]) (by simp [results,Tryz.results16,go_sem,z0,z1,z2,z3,btA,Bat.zero]) rfl ?_
    rw [HQ.out]
    exact ⟨rfl,hbn3 _ _ HB.out (Nat.le_refl _)⟩
 ·have HQ:=Hi (batchL_no (L:=m.lg) (r:=r) (s:=s) (by omega))
  by_cases hr0:r<0
  ·have d1:decide (r<0)=true:=decide_eq_true hr0
   go_enter Tryz.func16,Tryz.ntmps16
   go_wp2_with fail
   refine HO.out.mono ?_
   rintro e w1 ⟨rfl,rfl⟩
   go_wp2_with (refine wpList_store_ag (A:=btA Bat.zero none 0) btP rfl _ _ rfl _ rfl _ HV.out rfl rfl rfl (btA_one _ _ _) ?_; intro w3 hv3 hko3 hsz3 hbn3)
   obtain ⟨z0,z1,z2,z3⟩:=BtAt.cells hv3
   refine bodyPost_ret (v:=.tuple #[.agg (btA Bat.zero none 0),.bool false]) (by simp [results,Tryz.results16,go_sem,z0,z1,z2,z3,btA,Bat.zero]) rfl ?_
   rw [HQ.out]
   exact ⟨rfl,hbn3 _ _ HB.out (Nat.le_refl _)⟩
  ·have d1:decide (r<0)=false:=decide_eq_false hr0
   have d2:decide (16≤r)=true:=decide_eq_true (by omega)
   go_enter Tryz.func16,Tryz.ntmps16
   go_wp2_with fail
   refine HO.out.mono ?_
   rintro e w1 ⟨rfl,rfl⟩
   go_wp2_with (refine wpList_store_ag (A:=btA Bat.zero none 0) btP rfl _ _ rfl _ rfl _ HV.out rfl rfl rfl (btA_one _ _ _) ?_; intro w3 hv3 hko3 hsz3 hbn3)
   obtain ⟨z0,z1,z2,z3⟩:=BtAt.cells hv3
   refine bodyPost_ret (v:=.tuple #[.agg (btA Bat.zero none 0),.bool false]) (by simp [results,Tryz.results16,go_sem,z0,z1,z2,z3,btA,Bat.zero]) rfl ?_
   rw [HQ.out]
   exact ⟨rfl,hbn3 _ _ HB.out (Nat.le_refl _)⟩
open Go.RowKit
theorem lgnum_any (n:Int) (w:World):Calls Tryz.prog 13 #[.int .i64 n] w fun e w'=>e=.returned (.int .i64 n)∧w=w':=by
 go_enter Tryz.func13,Tryz.ntmps13
 go_wp2
 go_ret
 exact ⟨rfl,rfl⟩
def lgOa:Opp:={ Opp.zero with k:=1,key:=⟨#[97]⟩ }
def lgOb:Opp:={ Opp.zero with k:=1,key:=⟨#[98]⟩ }
def lgA:Bat:=⟨1,1,3,[lgOa]⟩
def lgB:Bat:=⟨1,2,8,[lgOb]⟩
theorem lgB_right:rightT lgB=true:=by decide
theorem lg_szs (y:Opp) (h:y.key.size≤10∧y.vt.size≤10∧y.path.length≤10):Szs [y]:=⟨fun x hx=>by
 simp only [List.mem_cons,List.not_mem_nil,or_false] at hx
 subst hx
 exact ⟨by omega,by omega,by omega⟩,by simp⟩
theorem lgOs (y:Opp) (hy:y.path=[]) (w:World) (T:TypeId):Os (w.alloc (.cells (opA y none 0) T)) (some ⟨w.heap.size,0,none⟩) 1 [⟨y,none,0⟩] [y] :=
 ⟨rfl,fun _=>⟨_,0,rfl,fun i u hu=>by rw [Nat.zero_add,World.cell?_alloc_at _ _ _ _ rfl,← hu]; simp [opA,enCells]⟩,fun e he=>by
  simp only [List.mem_cons,List.not_mem_nil,or_false] at he
  subst he
  exact Pa.none _ _ hy,fun h=>(by cases h),by simp⟩
def lgL1:Lg:={ Lg.zero with wait:=Lg.zero.wait ++ [lgB] }
theorem lg_add1:addL Lg.zero lgB=(lgL1,[],33):=addL_gap lgB_right rfl (by decide) (by decide)
def lgL2:Lg:=(addL lgL1 lgA).1
theorem lg_two:(addL lgL1 lgA).2.2=0∧(addL lgL1 lgA).2.1.length=2:=by decide
theorem lg_vec:vecL9 lgL2 1=2:=by decide
theorem lg_tot:totL lgL2=2:=by decide
theorem lg_time:(tmS lgL2 16).1=8:=by decide
theorem lg_rows:RowsOk lgL2:=⟨by decide,by decide⟩
theorem lg_ents:(entA lgL2).map (·.1)=[(3,1),(8,1)]:=by decide
theorem lg_four (w:World) (T U:TypeId):∀ W,W=(((w.alloc (.cells (opA lgOa none 0) T)).alloc (.cells (btA lgA (some ⟨w.heap.size,0,none⟩) 1) U)).alloc (.cells (opA lgOb none 0) T)).alloc (.cells (btA lgB (some ⟨w.heap.size+2,0,none⟩) 1) U) →
  Os W (some ⟨w.heap.size,0,none⟩) 1 [⟨lgOa,none,0⟩] [lgOa]∧AgAt W (w.heap.size+1) (btA lgA (some ⟨w.heap.size,0,none⟩) 1)∧Os W (some ⟨w.heap.size+2,0,none⟩) 1 [⟨lgOb,none,0⟩] [lgOb]∧AgAt W (w.heap.size+3) (btA lgB (some ⟨w.heap.size+2,0,none⟩) 1)∧Below w.heap.size w W∧W.heap.size=w.heap.size+4:=by
 rintro W rfl
 have h1:∀ (w:World) (o:Obj),Below w.heap.size w (w.alloc o):=fun w o=>(Below.refl _ _).alloc (Nat.le_refl _) _
 have b1:=h1 w (.cells (opA lgOa none 0) T)
 have o1:=lgOs lgOa rfl w T
 have e1:(w.alloc (.cells (opA lgOa none 0) T)).heap.size=w.heap.size+1:=by simp
 generalize w.alloc (.cells (opA lgOa none 0) T)=w1 at *
 have b2:=h1 w1 (.cells (btA lgA (some ⟨w.heap.size,0,none⟩) 1) U)
 have a2:=AgAt.new w1 (btA lgA (some ⟨w.heap.size,0,none⟩) 1) U
 have e2:(w1.alloc (.cells (btA lgA (some ⟨w.heap.size,0,none⟩) 1) U)).heap.size=w.heap.size+2:=by simp [e1]
 rw [e1] at a2
 generalize w1.alloc (.cells (btA lgA (some ⟨w.heap.size,0,none⟩) 1) U)=w2 at *
 have b3:=h1 w2 (.cells (opA lgOb none 0) T)
 have o3:=lgOs lgOb rfl w2 T
 have e3:(w2.alloc (.cells (opA lgOb none 0) T)).heap.size=w.heap.size+3:=by simp [e2]
 rw [e2] at o3
 generalize w2.alloc (.cells (opA lgOb none 0) T)=w3 at *
 have b4:=h1 w3 (.cells (btA lgB (some ⟨w.heap.size+2,0,none⟩) 1) U)
 have a4:=AgAt.new w3 (btA lgB (some ⟨w.heap.size+2,0,none⟩) 1) U
 rw [e3] at a4
 have e4:(w3.alloc (.cells (btA lgB (some ⟨w.heap.size+2,0,none⟩) 1) U)).heap.size=w.heap.size+4:=by simp [e3]
 generalize w3.alloc (.cells (btA lgB (some ⟨w.heap.size+2,0,none⟩) 1) U)=w4 at *
 exact ⟨((o1.kept b2).kept b3).kept b4,AgAt.kept (AgAt.kept a2 b3) b4,o3.kept b4,a4,((b1.trans (b2.mono (by omega))).trans (b3.mono (by omega))).trans (b4.mono (by omega)),e4⟩
theorem lgBops (y:Opp) {w:World} {b B:Nat} (h:Os w (some ⟨b,0,none⟩) 1 [⟨y,none,0⟩] [y]) (hb:b<B) (x:Bat) (hx:x.ops=[y]):BopsF (fun k=>k<B) w x (some ⟨b,0,none⟩) 1:=by
 refine ⟨[⟨y,none,0⟩],by rw [hx]; exact h,fun _ a ha=>?_,fun e he _ a ha=>?_⟩
 ·cases ha; exact hb
 ·simp only [List.mem_cons,List.not_mem_nil,or_false] at he
  subst he
  cases ha
theorem lg_added1 {l S M:Nat} {F:Nat→Prop} {w w':World} {e:Ending} (h:Added l S M F Lg.zero lgB w e w') :
  ∃ m n1 p c k,e=.returned (.tuple #[.slice p k c,.int .i64 33])∧Lo w' l S M m (fun k=>F k∨(w.heap.size≤k∧k<n1))∧m.lg=lgL1∧w.heap.size≤n1∧Turns F w w':=by
 obtain ⟨m,p,c,n1,lo,he,h1,h2,-,-,h3,-,h4⟩:=h
 rw [lg_add1] at he h2
 exact ⟨m,n1,p,c,lo.length,he,h1,h2,h3,h4⟩
theorem lg_added2 {l S M:Nat} {F:Nat→Prop} {w w':World} {e:Ending} (h:Added l S M F lgL1 lgA w e w') :
  ∃ m G p c,e=.returned (.tuple #[.slice p 2 c,.int .i64 0])∧Lo w' l S M m G∧m.lg=lgL2∧Turns F w w':=by
 obtain ⟨m,p,c,n1,lo,he,h1,h2,h5,-,-,-,h4⟩:=h
 have h6:=congrArg List.length h5
 rw [List.length_map,lg_two.2] at h6
 rw [lg_two.1,h6] at he
 exact ⟨m,_,p,c,he,h1,h2,h4⟩
theorem lg_out {lo:List Ee} (h:(lo.map Ee.en).Pairwise fun a b=>Qm.ltS a.1 b.1) (hp:(lo.map Ee.en).Perm (entA lgL2)):lo.map (fun e=>e.s)=[(3,1),(8,1)]:=by
 have h1:(lo.map fun e=>e.s)=(lo.map Ee.en).map (·.1):=by rw [List.map_map]; rfl
 have h2:=hp.map (·.1)
 rw [lg_ents,← h1] at h2
 refine sorted_uniq id _ _ h2 ?_ (by decide)
 rw [h1]
 exact List.pairwise_map.2 h
theorem lg_second {lo:List Ee} (h:lo.map (fun e=>e.s)=[(3,1),(8,1)]):(eeOf lo 1).s=(8,1):=by
 cases lo with
 | nil=>simp at h
 | cons a t =>
  cases t with
  | nil=>simp at h
  | cons b t =>
   simp only [List.map_cons,List.cons.injEq] at h
   exact h.2.1
theorem lgknows_any (w:World):Calls Tryz.prog 6 #[] w fun e w'=>e=.returned (.bool true)∧Below w.heap.size w w':=by
 have hfour:=lg_four w 55 39 _ rfl
 have HFOUR:=Hi hfour
 clear hfour
 go_enter Tryz.func6,Tryz.ntmps6
 go_wp2_with fail
 refine (lnew_any _).mono ?_
 rintro e w5 ⟨l,S,M,m5,rfl,hlo,hlg5,hl1,hl2,hb5⟩
 have hz4:=HFOUR.out.2.2.2.2.2
 obtain ⟨F,hF,hlo⟩:∃ F:Nat→Prop,(∀ k,F k→w.heap.size+4≤k)∧Lo w5 l S M m5 F:=⟨_,fun k hk=>Nat.le_trans (Nat.le_of_eq hz4.symm) hk.1,hlo⟩
 have HF:=Hi hF
 have HBA:=Hi (lgBops lgOa (HFOUR.out.1.kept hb5) (B:=w.heap.size+4) (by omega) lgA rfl)
 have HVA:=Hi (AgAt.kept HFOUR.out.2.1 hb5)
 have HBB:=Hi (lgBops lgOb (HFOUR.out.2.2.1.kept hb5) (B:=w.heap.size+4) (by omega) lgB rfl)
 have HVB:=Hi (AgAt.kept HFOUR.out.2.2.2.1 hb5)
 have HLL:=Hi (show w.heap.size+4≤l from Nat.le_trans (Nat.le_of_eq hz4.symm) hl1)
 have HZ5:=Hi (show w.heap.size+4≤w5.heap.size from Nat.le_trans (Nat.le_of_eq hz4.symm) hb5.size)
 have HB5:=Hi (HFOUR.out.2.2.2.2.1.trans (hb5.mono HFOUR.out.2.2.2.2.1.size))
 have HADD:=Hi (ladd_any lgB (some ⟨w.heap.size+2,0,none⟩) 1 w5 hlo (lg_szs lgOb (by decide)) ⟨by decide,by decide⟩ HBB.out.bops)
 rw [hlg5] at HADD
 clear hb5 hlo hlg5 hl1 hl2 hz4 HFOUR hF
 go_wp2_with (refine wpList_load_ag btP (by kernel_rfl) _ rfl _ rfl (A:=btA lgB (some ⟨w.heap.size+2,0,none⟩) 1) rfl HVB.out ?_)
 refine HADD.out.mono ?_
 intro e w6 ha6
 obtain ⟨m6,n6,p6,c6,k6,rfl,hlo6,hlg6,hn6,ht6⟩:=lg_added1 ha6
 have HVA6:=Hi (HVA.out.block (ht6.block _ (AgAt.lt HVA.out) fun h=>by have:=HF.out _ h; omega))
 have HBA6:=Hi (HBA.out.turns ht6 fun k hk h=>by have:=HF.out _ h; omega)
 have HB6:=Hi (HB5.out.trans (ht6.below (fun k _ h=>by have:=HF.out _ h; omega) HB5.out.size))
 have HLO6:=Hi hlo6
 have HLG6:=Hi hlg6
 have HF6:=Hi (show ∀ k,(F k∨(w5.heap.size≤k∧k<n6))→w.heap.size+4≤k from fun k h=>h.elim (HF.out k) fun h=>by have:=HZ5.out; omega)
 have HW6:=Hi (lwaiting_any w6 hlo6)
 rw [hlg6,show ((lgL1.wait.length:Nat):Int)=1 from rfl] at HW6
 clear ha6 ht6 hlo6 hlg6 hn6 HVA HBA HB5 HVB HBB HADD
 go_wp2_with fail
 refine HW6.out.mono ?_
 rintro e w7 ⟨rfl,rfl⟩
 have HADD:=Hi (ladd_any lgA (some ⟨w.heap.size,0,none⟩) 1 w6 HLO6.out (lg_szs lgOa (by decide)) ⟨by decide,by decide⟩ HBA6.out.bops)
 rw [HLG6.out] at HADD
 go_wp2_with (refine wpList_load_ag btP (by kernel_rfl) _ rfl _ rfl (A:=btA lgA (some ⟨w.heap.size,0,none⟩) 1) rfl HVA6.out ?_)
 refine HADD.out.mono ?_
 intro e w8 ha8
 obtain ⟨m8,F8,p8,c8,rfl,hlo8,hlg8,ht8⟩:=lg_added2 ha8
 have HB8:=Hi (HB6.out.trans (ht8.below (fun k _ h=>by have:=HF6.out _ h; omega) HB6.out.size))
 have HLO8:=Hi hlo8
 have HLG8:=Hi hlg8
 clear ha8 ht8 hlo8 hlg8 HADD HLO6 HLG6 HVA6 HBA6 HW6 HB6
 have HV8:=Hi (lvector_any w8 HLO8.out)
 go_wp2_with fail
 refine HV8.out.mono ?_
 rintro e w9 ⟨rfl,hb9⟩
 have HLO9:=Hi (HLO8.out.kept hb9)
 have HB9:=Hi (HB8.out.trans (hb9.mono HB8.out.size))
 clear hb9 HV8 HLO8 HB8
 have HVN:=Hi (VAt.new w9 (fun _=>0) 64)
 have HBN:=Hi ((Below.refl w9.heap.size w9).alloc (Nat.le_refl _) (.cells (vecA fun _=>0) 64))
 go_wp2_with (refine wpList_store_vec vtP rfl _ _ rfl _ rfl _ _ HVN.out rfl ?_; intro w10 hv10 _ _ hb10)
 have hb910:=hb10 _ _ HBN.out (Nat.le_refl _)
 have HV10:=Hi hv10
 have HLO10:=Hi (HLO9.out.kept hb910)
 have HB10:=Hi (HB9.out.trans (hb910.mono HB9.out.size))
 have HEN:=Hi (lentries_any w10 HLO10.out (by rw [HLG8.out]; have:=congrArg List.length lg_ents; simp at this; omega))
 rw [HLG8.out] at HEN HV10
 clear hv10 hb10 hb910 HVN HBN HLO9 HB9
 refine HEN.out.mono ?_
 rintro e w11 ⟨p11,c11,lo11,rfl,hperm,hsort,hes,-,hb11⟩
 have hlo:=lg_out (hsort lg_rows) hperm
 have hll:lo11.length=2:=by have:=congrArg List.length hlo; simpa using this
 obtain ⟨b11,o11,hq,hcc⟩:=hes.rd (by rw [eeCells_length]; dsimp only; omega)
 dsimp only at hq
 subst hq
 have hs1:=lg_second hlo
 have y14:=hcc 14 (.int .i64 8) (by have:=eeCells_get lo11 1 0 (by omega) (by decide); rw [show 1 * 14+0=14 from rfl] at this; dsimp only; rw [this]; simp [eeL,hs1])
 have y15:=hcc 15 (.int .i64 1) (by have:=eeCells_get lo11 1 1 (by omega) (by decide); rw [show 1 * 14+1=15 from rfl] at this; dsimp only; rw [this]; simp [eeL,hs1])
 have HLO11:=Hi (HLO10.out.kept hb11)
 have HB11:=Hi (HB10.out.trans (hb11.mono HB10.out.size))
 have yv:=(HV10.out.kept hb11).cell 1 (by decide)
 rw [lg_vec] at yv
 rw [hll]
 clear hb11 hes hcc hlo hs1 HEN HB10 HLO10 HV10 hperm hsort
 have HNUM:=Hi (fun n W=>lgnum_any n W)
 have HT:=Hi (ltotal_any w11 HLO11.out)
 rw [HLG8.out,lg_tot] at HT
 have HTM:=Hi (fun W (hW:Below w11.heap.size w11 W)=>by
  have:=ltime_any W (HLO11.out.kept hW)
  rw [HLG8.out,lg_time] at this
  exact this)
 go_wp2_with (first | (go_at_call 13; refine (HNUM.out _ _).mono ?_; rintro e wn ⟨rfl,rfl⟩) | (go_at_call 14; refine HT.out.mono ?_; rintro e w12 ⟨rfl,hb12⟩; have z14:=hb12.cell (cell_lt y14); have z15:=hb12.cell (cell_lt y15); rw [y14] at z14; rw [y15] at z15; have HTI:=Hi (HTM.out w12 hb12); have HB12:=Hi (HB11.out.trans (hb12.mono HB11.out.size)); clear hb12) | (go_at_call 24; refine HTI.out.mono ?_; rintro e w13 ⟨rfl,hb13⟩; have HB13:=Hi (HB12.out.trans (hb13.mono HB12.out.size)); clear hb13))
 go_ret
 exact ⟨rfl,HB13.out⟩
end Go.Proofs.YtfgnmnkihbgjnaaGreat

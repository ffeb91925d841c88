/-
  A range over a map, the iterator anywhere.
  No conditions.
  STAMPS THAT MAY BE, nodes and places (the program's calls): they lie in OSmall, ClockX and OMath.
  No conditions.
  Whole structs in memory, and what a place is.
  No conditions.
  MAPS WHOSE KEYS ARE STAMPS, whatever they hold: look-ups, a store at a new place, what is taken out, how many; a range over one.
  No conditions.
  A TREE, PLAINLY: a list of nodes with their spots; the way up; what Add, Move and Drop make of it; from each node the way up ends, and tells none twice.
  No conditions.
-/
import Derived.Test.YthfhefdfehlbkaaGreatK02
import Derived.Laws.IdiomRangeMap
import Derived.Test.YthfhefdfehlbkaaGreatK03
import Derived.Test.YthfhefdfehlbkaaGreatK01
import Derived.Deep.RegionWith
import Derived.Lib.SmallJoins
namespace Go.Proofs.YthfhefdfehlbkaaGreat
open Go.RowKit
open Go.Maps (Keyed)
theorem cons_erase {α:Type}:∀ (l:List α) (j:Nat) (h:j<l.length),(l[j] :: l.eraseIdx j).Perm l
 | a :: l,0,_=>List.Perm.refl _
 | a :: l,j+1,h=>(List.Perm.swap _ _ _).trans ((cons_erase l j (by simpa using h)).cons a)
theorem left_step {es:Array MapEntry} {seen:Array Nat} {e:MapEntry} {j:Nat} (hn:(es.toList.map (·.born)).Nodup) (hj:(leftOf es seen).toList[j]?=some e):(leftOf es (seen.push e.born)).toList=(leftOf es seen).toList.eraseIdx j:=by
 have h1:(leftOf es seen).toList=es.toList.filter fun x=>!seen.contains x.born:=by unfold leftOf; rw [Array.toList_filter]
 have h2:(leftOf es (seen.push e.born)).toList=(leftOf es seen).toList.filter fun x=>!(x.born == e.born):=by
  rw [h1,List.filter_filter]
  unfold leftOf
  rw [Array.toList_filter]
  apply List.filter_congr
  intro x _
  rw [contains_push]
  cases seen.contains x.born <;> cases x.born == e.born <;> rfl
 rw [h2]
 refine Go.ChangeMaps.filter_eq_eraseIdx (fun x:MapEntry=>x.born == e.born) _ j e hj (by simp) ?_
 have h3:((leftOf es seen).toList.map (·.born)).Nodup:=by rw [h1]; exact hn.sublist (List.filter_sublist.map _)
 refine (List.pairwise_map.1 h3).imp ?_
 intro a b hne ⟨k1,k2⟩
 exact hne ((beq_iff_eq.1 k1).trans (beq_iff_eq.1 k2).symm)
theorem run_entry_at {P:Program} (w:World) (r bm since:Nat) (seen:Array Nat) (es:Array MapEntry) (clock:Nat) (e:MapEntry) (hr:w.heap[r]?=some (.mapIter (some bm) since (seen.push e.born) clock)) (hb:w.heap[bm]?=some (.map es clock))
  (he:e ∈ es.toList) (hn:(es.toList.map (·.born)).Nodup):(Instr.entry (.pointer (some ⟨r,0,none⟩))).run P w=.ok (.tuple #[e.key,e.val]) w:=by
 have hf:es.find? (·.born == e.born)=some e:=by rw [← Array.find?_toList]; exact find_born e es.toList hn he
 simp only [Instr.entry,getObj,Sem.run_bind,Sem.run,hr,hb,Result.andThen,Array.back?_push,bne_self_eq_false,Bool.false_eq_true,if_false,hf]
 rfl
theorem run_next_at {P:Program} (w:World) (ty:TypeId) (r bm since c0:Nat) (seen:Array Nat) (es:Array MapEntry) (clock:Nat) (hr:w.heap[r]?=some (.mapIter (some bm) since seen c0)) (hb:w.heap[bm]?=some (.map es clock))
  (hold:∀ x ∈ es.toList,x.born<since) (hsc:since≤c0) :
  ((leftOf es seen).size=0∧(Instr.next (.pointer (some ⟨r,0,none⟩)) false ty).run P w=.ok (.tuple #[.bool false]) w) ∨
  ∃ e ∈ (leftOf es seen).toList,∃ w':World,(Instr.next (.pointer (some ⟨r,0,none⟩)) false ty).run P w=.ok (.tuple #[.bool true,e.key,e.val]) w'∧w'.heap[r]?=some (.mapIter (some bm) since (seen.push e.born) clock)∧Turns (fun k=>k=r) w w':=by
 have hrl:r<w.heap.size:=(Array.getElem?_eq_some_iff.1 hr).1
 simp only [Instr.next,getObj,Sem.run_bind,Sem.run,hr,hb,Result.andThen,next_test_false seen es since c0 hold hsc,Bool.false_eq_true,if_false]
 unfold leftOf
 have hmem:∀ x ∈ (Array.filter (fun e=>!seen.contains e.born) es).toList,x.born<since:=fun x hx=>hold x (by simp at hx ⊢; exact hx.1)
 generalize Array.filter (fun e=>!seen.contains e.born) es=L at hmem ⊢
 have e1:L.filter (fun x=>decide (x.born<since))=L:=Array.filter_eq_self.2 (fun x hx=>by simpa using hmem x (by simpa using hx))
 have e2:L.filter (fun x=>decide (x.born ≥ since))=#[]:=by
  rw [Array.filter_eq_empty_iff]
  intro x hx
  have:=hmem x (by simpa using hx)
  simp
  omega
 simp only [e1,e2,Array.append_empty]
 by_cases h0:L.size=0
 ·left
  have:L=#[]:=Array.eq_empty_of_size_eq_zero h0
  subst this
  refine ⟨rfl,?_⟩
  simp [choose,Sem.run,Question.forced]
 ·right
  have hne:L.isEmpty=false:=by simp [Array.isEmpty,h0]
  simp only [hne,Bool.false_eq_true,if_false,Array.empty_append,Array.size_map]
  have hch:∃ (j:Nat) (w1:World),j<L.size∧Turns (fun _=>False) w w1∧w1.heap=w.heap∧(choose (Question.mapNext L.size)).run P w=.ok j w1:=by
   by_cases hf:L.size≤1
   ·exact ⟨0,w,by omega,Turns.refl _ _,rfl,by simp [choose,Sem.run,Question.forced,hf]⟩
   ·exact ⟨_,w.drew,Nat.mod_lt _ (by omega),Turns.of_below (Below.drew (Below.refl _ _)),rfl,by
     simp only [choose,Sem.run,Question.forced,decide_eq_true_eq,hf,if_false,Question.cut]
     rfl⟩
  obtain ⟨j,w1,hj,ht,hh,hrun⟩:=hch
  refine ⟨L[j],by simp,Go.ChangeMaps.setBlock w1 r (.mapIter (some bm) since (seen.push L[j].born) clock),?_,?_,?_⟩
  ·have hset:∀ o':Obj,(setObj r o').run P w1=.ok () (Go.ChangeMaps.setBlock w1 r o'):=fun o'=>by
    have hr1:w1.heap[r]?=some (.mapIter (some bm) since seen c0):=by rw [hh]; exact hr
    simp only [setObj,Sem.run,hr1]
    rfl
   simp only [hrun,Array.getElem?_map,Array.getElem?_eq_getElem hj,Option.map_some,Sem.run_bind,Result.andThen,hset]
   rfl
  ·show (w1.heap.setIfInBounds r _)[r]?=_
   rw [hh,Array.getElem?_setIfInBounds_self_of_lt hrl]
  ·refine ⟨ht.os,ht.tape,ht.output,by simp [Go.ChangeMaps.setBlock,hh],fun k _ hk=>?_⟩
   show (w1.heap.setIfInBounds r _)[k]?=_
   rw [hh,Array.getElem?_setIfInBounds_ne (fun e=>hk e.symm)]
open Go.RowKit
open Go.Maps (Keyed)
theorem laidB10:laidOutB Tryz.prog=true:=by kernel_rfl
theorem lawSt:Keyed Tryz.prog 35:=Keyed.of_law (deep_law_laid laidB10 (m:=2) (by omega) (of_decide_eq_true (by kernel_rfl)) (by kernel_rfl) (by kernel_rfl))
abbrev snV (x:Qm.St):Value:=.agg #[.int .i64 x.1,.int .i64 x.2]
def StWf (x:Qm.St):Prop:=(Lit.int .i64 x.1).wf=true∧(Lit.int .i64 x.2).wf=true
theorem key_st (x:Qm.St) (h:StWf x):∃ l,keyOf Tryz.prog 35 (snV x)=some l:=by
 obtain ⟨r,s⟩:=x
 obtain ⟨h0,h1⟩:=h
 dsimp only at h0 h1
 have hkt:Tryz.prog.keyType 35=true:=by kernel_rfl
 have hsz:2≤Tryz.prog.types.size:=of_decide_eq_true (by kernel_rfl)
 obtain ⟨m,hm⟩:∃ m,Tryz.prog.types.size=m+1:=⟨Tryz.prog.types.size - 1,by omega⟩
 have c2:Tryz.prog.cellsOf 35=2:=by kernel_rfl
 have c3:Tryz.prog.cellsOf 3=1:=by kernel_rfl
 have hu:=Tryz.underlying35
 have hi:=Tryz.underlying3
 have k1:∀ (n:Nat) (a:Int),(Lit.int .i64 a).wf=true→Tryz.prog.keyLits (n+1) 3 [.int .i64 a]=some [.int .i64 a]:=fun n a ha=>by
  simp [Program.keyLits,hi,ha]
 have k3:∃ ls,Tryz.prog.keyLits (Tryz.prog.types.size+1) 35 (snV (r,s)).cells.toList=some ls:=by
  rw [hm]
  unfold Program.keyLits
  simp only [hu]
  rw [if_pos ⟨by rw [c2]; rfl,by kernel_rfl⟩]
  simp [Value.cells,c3,k1 _ _ h0,k1 _ _ h1]
 obtain ⟨ls,hls⟩:=k3
 refine ⟨.string (keyBytes ls),?_⟩
 unfold keyOf
 simp only [hu]
 rw [if_pos (by simp [hkt,Value.formed,hu,c2]),hls]
 rfl
theorem snV_inj {x y:Qm.St} (h:snV x=snV y):x=y:=by
 obtain ⟨a,b⟩:=x
 obtain ⟨c,d⟩:=y
 simp only [snV,Value.agg.injEq] at h
 have h4:=congrArg Array.toList h
 simp at h4
 rw [h4.1,h4.2]
def lk (l:List (Qm.St × Value)) (x:Qm.St):Option Value:=(l.find? fun e=>e.1 == x).map (·.2)
theorem lk_none {l:List (Qm.St × Value)} {x:Qm.St}:lk l x=none ↔ ∀ e ∈ l,e.1≠x:=by
 unfold lk
 rw [Option.map_eq_none_iff,List.find?_eq_none]
 simp
theorem lk_some {l:List (Qm.St × Value)} (nd:(l.map Prod.fst).Nodup) {x:Qm.St} {v:Value} (h:(x,v) ∈ l):lk l x=some v:=by
 induction l with
 | nil=>cases h
 | cons a T ih =>
  rw [List.map_cons,List.nodup_cons] at nd
  unfold lk
  rw [List.find?_cons]
  by_cases e:a.1=x
  ·rw [show (a.1 == x)=true by simpa using e]
   rcases List.mem_cons.1 h with rfl | h
   ·rfl
   ·exact absurd (List.mem_map.2 ⟨_,h,rfl⟩) (by rw [e] at nd; exact nd.1)
  ·rw [show (a.1 == x)=false by simpa using e]
   rcases List.mem_cons.1 h with rfl | h
   ·exact absurd rfl e
   ·exact ih nd.2 h
theorem lk_mem {l:List (Qm.St × Value)} {x:Qm.St} {v:Value} (h:lk l x=some v):(x,v) ∈ l:=by
 unfold lk at h
 obtain ⟨e,he,rfl⟩:=Option.map_eq_some_iff.1 h
 have h1:=List.find?_some he
 have h2:=List.mem_of_find?_eq_some he
 have h3:e.1=x:=by simpa using h1
 subst h3
 exact h2
theorem lk_map {α:Type} (f:α→Value) (l:List (Qm.St × α)) (x:Qm.St):lk (l.map fun e=>(e.1,f e.2)) x=((l.find? fun e=>e.1 == x).map (·.2)).map f:=by
 unfold lk
 rw [List.find?_map]
 cases h:l.find? ((fun e:Qm.St × Value=>e.1 == x) ∘ fun e=>(e.1,f e.2)) with
 | none =>
  have:l.find? (fun e=>e.1 == x)=none:=h
  rw [this]
  rfl
 | some a =>
  have:l.find? (fun e=>e.1 == x)=some a:=h
  rw [this]
  rfl
def EntsAre (es:List MapEntry) (l:List (Qm.St × Value)):Prop:=es.map (fun e=>(e.key,e.val))=l.map fun b=>(snV b.1,b.2)
def SMap (w:World) (M:Nat) (l:List (Qm.St × Value)):Prop :=
 ∃ es clock,w.heap[M]?=some (.map es clock)∧EntsAre es.toList l∧(∀ b ∈ l,StWf b.1)∧(l.map Prod.fst).Nodup∧(∀ e ∈ es.toList,e.born<clock)∧(es.toList.map (·.born)).Nodup
section
variable {w w':World} {M:Nat} {l:List (Qm.St × Value)}
theorem SMap.lt (h:SMap w M l):M<w.heap.size:=by
 obtain ⟨es,clock,hb,-⟩:=h
 exact (Array.getElem?_eq_some_iff.1 hb).1
theorem SMap.block (h:SMap w M l) (e:w'.heap[M]?=w.heap[M]?):SMap w' M l:=by
 obtain ⟨es,clock,hb,h1⟩:=h
 exact ⟨es,clock,e.trans hb,h1⟩
theorem SMap.turns {G:Nat→Prop} (h:SMap w M l) (ht:Turns G w w') (hd:¬ G M):SMap w' M l:=h.block (ht.block M h.lt hd)
theorem SMap.below (h:SMap w M l) (hb:Below w.heap.size w w'):SMap w' M l:=h.block (hb.block M h.lt)
theorem SMap.made (w:World):SMap (w.alloc (.map #[] 0)) w.heap.size []:=⟨#[],0,heap_alloc_new w _,rfl,fun _ h=>(by cases h),List.nodup_nil,fun _ h=>(by cases h),List.nodup_nil⟩
theorem SMap.nd (h:SMap w M l):(l.map Prod.fst).Nodup:=by obtain ⟨_,_,_,_,_,h,-⟩:=h; exact h
theorem SMap.wf (h:SMap w M l):∀ b ∈ l,StWf b.1:=by obtain ⟨_,_,_,_,h,-⟩:=h; exact h
theorem EntsAre.mem {es:List MapEntry} (he:EntsAre es l) {e0:MapEntry} (hm:e0 ∈ es):∃ b ∈ l,e0.key=snV b.1∧e0.val=b.2:=by
 have:(e0.key,e0.val) ∈ l.map fun b=>(snV b.1,b.2):=by rw [← he]; exact List.mem_map.2 ⟨e0,hm,rfl⟩
 obtain ⟨b,hb,e'⟩:=List.mem_map.1 this
 simp only [Prod.mk.injEq] at e'
 exact ⟨b,hb,e'.1.symm,e'.2.symm⟩
theorem EntsAre.of {es:List MapEntry} (he:EntsAre es l) {b:Qm.St × Value} (hb:b ∈ l):∃ e0 ∈ es,e0.key=snV b.1∧e0.val=b.2:=by
 have:(snV b.1,b.2) ∈ es.map fun e=>(e.key,e.val):=by rw [he]; exact List.mem_map.2 ⟨b,hb,rfl⟩
 obtain ⟨e,hm,e'⟩:=List.mem_map.1 this
 simp only [Prod.mk.injEq] at e'
 exact ⟨e,hm,e'.1,e'.2⟩
theorem EntsAre.keys {es:List MapEntry} (he:EntsAre es l) (hw:∀ b ∈ l,StWf b.1):∀ e ∈ es,∃ k,keyOf Tryz.prog 35 e.key=some k:=by
 intro e hm
 obtain ⟨b,hb,h1,-⟩:=he.mem hm
 rw [h1]
 exact key_st _ (hw b hb)
theorem SMap.find (h:SMap w M l) (x:Qm.St) (hx:StWf x):∃ es clock,w.heap[M]?=some (.map es clock)∧(∀ W em,(Instr.checkKey em 10000 35 (snV x)).run Tryz.prog W=.ok () W) ∧
  ((lk l x=none∧(Instr.findKey 35 (snV x) es.toList).run Tryz.prog w=.ok none w) ∨
   ∃ v j,lk l x=some v∧(Instr.findKey 35 (snV x) es.toList).run Tryz.prog w=.ok (some (j,v)) w):=by
 obtain ⟨es,clock,hb,he,hwf,hnd,-,-⟩:=h
 obtain ⟨kl,hkey⟩:=key_st x hx
 refine ⟨es,clock,hb,fun W em=>lawSt.check W em hkey,?_⟩
 rcases lawSt.find w hkey es.toList (he.keys hwf) with ⟨h1,h2⟩ | ⟨j,e0,h1,h2,h3⟩
 ·refine Or.inl ⟨lk_none.2 fun e hm hh=>?_,h1⟩
  obtain ⟨e0,h3,h4,-⟩:=he.of hm
  exact h2 e0 h3 (by rw [h4,hh])
 ·obtain ⟨b,hb',h4,h5⟩:=he.mem (List.mem_of_getElem? h2)
  have hbx:b.1=x:=snV_inj (h4.symm.trans h3)
  subst hbx
  exact Or.inr ⟨e0.val,j,by rw [h5]; exact lk_some hnd hb',h1⟩
structure MapT (mt et:TypeId) (z:Value):Prop where
 und:Tryz.prog.underlying mt=some (.map 35 et)
 zero:∀ w,(zeroValue et).run Tryz.prog w=.ok z w
variable {mt et:TypeId} {z:Value}
theorem SMap.look (h:SMap w M l) (T:MapT mt et z) (x:Qm.St) (hx:StWf x):(Instr.lookup mt (.map (some M)) (snV x) false).run Tryz.prog w=.ok ((lk l x).getD z) w:=by
 obtain ⟨es,clock,hb,hc,h1 | ⟨v,j,h1,h2⟩⟩:=h.find x hx
 ·simp [Instr.lookup,run_underlying T.und,MapKept.run_getObj_map hb,hc,h1.1,h1.2,T.zero,Result.andThen]
 ·simp [Instr.lookup,run_underlying T.und,MapKept.run_getObj_map hb,hc,h1,h2,Result.andThen]
theorem SMap.lookOk (h:SMap w M l) (T:MapT mt et z) (x:Qm.St) (hx:StWf x):(Instr.lookup mt (.map (some M)) (snV x) true).run Tryz.prog w=.ok (.tuple #[(lk l x).getD z,.bool (lk l x).isSome]) w:=by
 obtain ⟨es,clock,hb,hc,h1 | ⟨v,j,h1,h2⟩⟩:=h.find x hx
 ·simp [Instr.lookup,run_underlying T.und,MapKept.run_getObj_map hb,hc,h1.1,h1.2,T.zero,Result.andThen]
 ·simp [Instr.lookup,run_underlying T.und,MapKept.run_getObj_map hb,hc,h1,h2,Result.andThen]
theorem SMap.upd (h:SMap w M l) (T:MapT mt et z) (x:Qm.St) (v:Value) (hx:StWf x) (hn:lk l x=none) :
  ∃ w',(Instr.mapUpdate mt (.map (some M)) (snV x) v).run Tryz.prog w=.ok () w'∧SMap w' M (l ++ [(x,v)])∧Turns (fun k=>k=M) w w'∧w'.heap.size=w.heap.size:=by
 obtain ⟨es0,clock0,hb0,hc,h1 | ⟨v',j,h1,-⟩⟩:=h.find x hx
 ·obtain ⟨es,clock,hb,he,hwf,hnd,hf1,hf2⟩:=h
  obtain ⟨rfl,rfl⟩:es0=es∧clock0=clock:=by rw [hb] at hb0; cases hb0; exact ⟨rfl,rfl⟩
  refine ⟨Go.ChangeMaps.setBlock w M (.map (es0.push ⟨snV x,v,clock0⟩) (clock0+1)),?_,⟨_,_,Go.ChangeMaps.heap_setBlock_same hb _,?_,?_,?_,?_,?_⟩,setBlock_turns hb _,by simp [Go.ChangeMaps.setBlock]⟩
  ·simp [Instr.mapUpdate,run_underlying T.und,MapKept.run_getObj_map hb,hc,h1.2,MapKept.run_setObj_map _ hb,Result.andThen,Go.ChangeMaps.setBlock]
  ·unfold EntsAre at he ⊢
   simp [he]
  ·intro e hm
   rcases List.mem_append.1 hm with hm | hm
   ·exact hwf e hm
   ·obtain rfl:=List.mem_singleton.1 hm
    exact hx
  ·rw [List.map_append]
   refine List.nodup_append.2 ⟨hnd,by simp,fun a ha b hb e=>?_⟩
   obtain ⟨y,hy,rfl⟩:=List.mem_map.1 ha
   have:b=x:=by simpa using hb
   subst this
   exact lk_none.1 hn y hy e
  ·intro e hm
   rw [Array.toList_push] at hm
   rcases List.mem_append.1 hm with hm | hm
   ·have:=hf1 e hm
    omega
   ·obtain rfl:=List.mem_singleton.1 hm
    exact Nat.lt_succ_self _
  ·rw [Array.toList_push,List.map_append]
   refine List.nodup_append.2 ⟨hf2,by simp,fun x hx y hy e=>?_⟩
   obtain ⟨q,hq,rfl⟩:=List.mem_map.1 hx
   have h1:=hf1 q hq
   have h2:y=clock0:=by simpa using hy
   omega
 ·rw [hn] at h1; cases h1
theorem SMap.del (h:SMap w M l) (T:MapT mt et z) (x:Qm.St) (hx:StWf x) (hm:(lk l x).isSome=true) :
  ∃ w',(∀ ty,(Builtin.delete_ #[mt,35] ty #[.map (some M),snV x]).run Tryz.prog w=.ok (.tuple #[]) w')∧SMap w' M (l.filter fun e=>!(e.1 == x))∧Turns (fun k=>k=M) w w'∧w'.heap.size=w.heap.size:=by
 obtain ⟨es,clock,hb,he,hwf,hnd,hf1,hf2⟩:=h
 obtain ⟨kl,hkey⟩:=key_st x hx
 rcases lawSt.find w hkey es.toList (he.keys hwf) with ⟨h1,h2⟩ | ⟨j,e0,h1,h2,h3⟩
 ·obtain ⟨v,hv⟩:=Option.isSome_iff_exists.1 hm
  obtain ⟨e0,h3,h4,-⟩:=he.of (lk_mem hv)
  exact absurd h4 (h2 e0 h3)
 ·have hjl:j<es.toList.length:=(List.getElem?_eq_some_iff.1 h2).1
  have hjs:j<es.size:=by simpa using hjl
  have hsub:(es.eraseIdxIfInBounds j).toList=es.toList.eraseIdx j:=by
   unfold Array.eraseIdxIfInBounds
   rw [dif_pos hjs]
   simp
  have hll:l.length=es.toList.length:=by have:=congrArg List.length he; simpa using this.symm
  obtain ⟨a,hja⟩:∃ a,l[j]?=some a:=⟨_,List.getElem?_eq_getElem (by omega)⟩
  have hae:(a.1 == x)=true:=by
   have h6:(es.toList.map fun e=>(e.key,e.val))[j]?=(l.map fun b=>(snV b.1,b.2))[j]?:=by rw [he]
   rw [List.getElem?_map,List.getElem?_map,h2,hja] at h6
   simp only [Option.map_some,Option.some.injEq,Prod.mk.injEq] at h6
   simpa using snV_inj (h6.1.symm.trans h3)
  have hap:l.Pairwise fun a b=>a.1≠b.1:=List.pairwise_map.1 hnd
  have hfil:=Go.ChangeMaps.filter_eq_eraseIdx (fun a:Qm.St × Value=>a.1 == x) l j a hja hae (hap.imp fun {a b} hne ⟨k1,k2⟩=>hne (by rw [beq_iff_eq] at k1 k2; rw [k1,k2]))
  refine ⟨Go.ChangeMaps.setBlock w M (.map (es.eraseIdxIfInBounds j) clock),?_,⟨_,_,Go.ChangeMaps.heap_setBlock_same hb _,?_,?_,?_,?_,?_⟩,setBlock_turns hb _,by simp [Go.ChangeMaps.setBlock]⟩
  ·intro ty
   simp [Builtin.delete_,run_underlying T.und,MapKept.run_getObj_map hb,lawSt.check w _ hkey,h1,MapKept.run_setObj_map _ hb,Result.andThen,Go.ChangeMaps.setBlock]
  ·unfold EntsAre at he ⊢
   rw [hsub,hfil,Go.ChangeMaps.map_eraseIdx,he,Go.ChangeMaps.map_eraseIdx]
  ·exact fun e hm=>hwf e (List.mem_filter.1 hm).1
  ·exact (List.filter_sublist.map Prod.fst).nodup hnd
  ·intro e hm
   rw [hsub] at hm
   exact hf1 e ((List.eraseIdx_sublist _ _).subset hm)
  ·rw [hsub]
   exact ((List.eraseIdx_sublist _ _).map _).nodup hf2
theorem SMap.len (h:SMap w M l) (T:MapT mt et z) (ty:TypeId):(Builtin.len_ #[mt] ty #[.map (some M)]).run Tryz.prog w=.ok (.int .i64 (l.length:Int)) w:=by
 obtain ⟨es,clock,hb,he,-⟩:=h
 have hll:es.size=l.length:=by have:=congrArg List.length he; simpa using this
 simp [Builtin.len_,run_underlying T.und,MapKept.run_getObj_map hb,Result.andThen,goInt,hll]
theorem len_none (T:MapT mt et z) (ty:TypeId):(Builtin.len_ #[mt] ty #[.map none]).run Tryz.prog w=.ok (.int .i64 0) w:=by
 simp [Builtin.len_,run_underlying T.und,Result.andThen,goInt]
end
def SIt (w:World) (r M:Nat) (l left:List (Qm.St × Value)):Prop :=
 ∃ es clock seen c0,w.heap[M]?=some (.map es clock)∧w.heap[r]?=some (.mapIter (some M) clock seen c0)∧clock≤c0∧EntsAre es.toList l∧EntsAre (leftOf es seen).toList left∧(∀ b ∈ l,StWf b.1)∧(l.map Prod.fst).Nodup∧(∀ e ∈ es.toList,e.born<clock)∧(es.toList.map (·.born)).Nodup
section
variable {w w':World} {r M:Nat} {l left:List (Qm.St × Value)}
theorem SIt.map (h:SIt w r M l left):SMap w M l:=by
 obtain ⟨es,clock,seen,c0,h1,h2,h3,h4,h5,h6,h7,h8,h9⟩:=h
 exact ⟨es,clock,h1,h4,h6,h7,h8,h9⟩
theorem SIt.ltR (h:SIt w r M l left):r<w.heap.size:=by
 obtain ⟨es,clock,seen,c0,h1,h2,-⟩:=h
 exact (Array.getElem?_eq_some_iff.1 h2).1
theorem SIt.turns {G:Nat→Prop} (h:SIt w r M l left) (ht:Turns G w w') (hr:¬ G r) (hM:¬ G M):SIt w' r M l left:=by
 have h0:=h.ltR
 have h01:=h.map.lt
 obtain ⟨es,clock,seen,c0,h1,h2,h3⟩:=h
 exact ⟨es,clock,seen,c0,(ht.block _ h01 hM).trans h1,(ht.block _ h0 hr).trans h2,h3⟩
theorem SIt.below (h:SIt w r M l left) (hb:Below w.heap.size w w'):SIt w' r M l left:=h.turns (Turns.of_below (F:=fun _=>False) hb) (fun h=>h) fun h=>h
theorem SMap.range (h:SMap w M l) {mt et:TypeId} {z:Value} (T:MapT mt et z) :
  ∃ o,(Instr.range mt (.map (some M))).run Tryz.prog w=.ok (.pointer (some ⟨w.heap.size,0,none⟩)) (w.alloc o)∧SIt (w.alloc o) w.heap.size M l l:=by
 have hlt:=h.lt
 obtain ⟨es,clock,hb,he,hwf,hnd,hf1,hf2⟩:=h
 refine ⟨.mapIter (some M) clock #[] clock,run_range_map (P:=Tryz.prog) w mt _ _ M es clock T.und hb,es,clock,#[],clock,(Below.heap_alloc _ _ _ hlt).trans hb,heap_alloc_new w _,Nat.le_refl _,he,?_,hwf,hnd,hf1,hf2⟩
 unfold leftOf EntsAre
 rw [Array.toList_filter]
 have:es.toList.filter (fun e=>!(#[]:Array Nat).contains e.born)=es.toList:=List.filter_eq_self.2 fun x _=>by simp
 rw [this]
 exact he
theorem SIt.next (h:SIt w r M l left) (ty:TypeId) :
  (left=[]∧(Instr.next (.pointer (some ⟨r,0,none⟩)) false ty).run Tryz.prog w=.ok (.tuple #[.bool false]) w) ∨
  ∃ b left' w',(b :: left').Perm left∧(Instr.next (.pointer (some ⟨r,0,none⟩)) false ty).run Tryz.prog w=.ok (.tuple #[.bool true,snV b.1,b.2]) w'∧Turns (fun k=>k=r) w w'∧SIt w' r M l left' ∧
   (Instr.entry (.pointer (some ⟨r,0,none⟩))).run Tryz.prog w'=.ok (.tuple #[snV b.1,b.2]) w':=by
 have hlr:=h.ltR
 have hlm:=h.map.lt
 obtain ⟨es,clock,seen,c0,hb,hr,hc,he,hl,hwf,hnd,hf1,hf2⟩:=h
 rcases run_next_at (P:=Tryz.prog) w ty r M clock c0 seen es clock hr hb hf1 hc with ⟨h0,hnx⟩ | ⟨e,hm,w',hnx,hr',ht⟩
 ·refine Or.inl ⟨?_,hnx⟩
  have:=congrArg List.length hl
  simp only [List.length_map,Array.length_toList,h0] at this
  exact List.eq_nil_of_length_eq_zero this.symm
 ·obtain ⟨j,hj,hje⟩:=List.getElem_of_mem hm
  have hll:(leftOf es seen).toList.length=left.length:=by have:=congrArg List.length hl; simpa using this
  have hjl:j<left.length:=by omega
  have h1:((leftOf es seen).toList.map fun e=>(e.key,e.val))[j]?=(left.map fun b=>(snV b.1,b.2))[j]?:=by rw [hl]
  rw [List.getElem?_map,List.getElem?_map,List.getElem?_eq_getElem hj,List.getElem?_eq_getElem hjl,hje] at h1
  simp only [Option.map_some,Option.some.injEq,Prod.mk.injEq] at h1
  have hne:M≠r:=fun e=>by rw [e,hr] at hb; cases hb
  have hb':w'.heap[M]?=some (.map es clock):=(ht.block _ hlm hne).trans hb
  have hes:e ∈ es.toList:=by
   unfold leftOf at hm
   rw [Array.toList_filter] at hm
   exact (List.mem_filter.1 hm).1
  refine Or.inr ⟨left[j],left.eraseIdx j,w',cons_erase left j hjl,by rw [← h1.1,← h1.2]; exact hnx,ht,⟨es,clock,seen.push e.born,clock,hb',hr',Nat.le_refl _,he,?_,hwf,hnd,hf1,hf2⟩,by rw [← h1.1,← h1.2]; exact run_entry_at (P:=Tryz.prog) w' r M clock seen es clock e hr' hb' hes hf2⟩
  unfold EntsAre at hl ⊢
  rw [left_step hf2 (j:=j) (by rw [List.getElem?_eq_getElem hj,hje]),Go.ChangeMaps.map_eraseIdx,hl,Go.ChangeMaps.map_eraseIdx]
end
namespace Tm
abbrev Sp:=Qm.St × ByteArray
abbrev Tr:=List (Qm.St × Sp)
def okN (n:Qm.St):Bool:=okNode n.1 n.2
def top (p:Qm.St):Bool:=okPlace p.1 p.2 && !okNode p.1 p.2
def rightSp (s:Sp):Bool:=okPlace s.1.1 s.1.2 && Km.rightB s.2.data.toList
theorem top_iff {p:Qm.St}:top p=true↔p=(0,0)∨p=(0,1):=by
 obtain ⟨a,b⟩:=p
 constructor
 ·intro h
  simp only [top,okPlace,isZ,isT,Bool.and_eq_true,Bool.or_eq_true,Bool.not_eq_true',beq_iff_eq] at h
  rcases h with ⟨(h1 | h1) | h1,h2⟩
  ·rw [h1] at h2; cases h2
  ·exact Or.inl (by rw [h1.1,h1.2])
  ·exact Or.inr (by rw [h1.1,h1.2])
 ·rintro (h | h) <;> cases h <;> decide
theorem not_top {p:Qm.St} (h:okN p=true):top p=false:=by
 unfold okN at h
 simp [top,h]
def look (T:Tr) (n:Qm.St):Option Sp:=(T.find? fun e=>e.1 == n).map (·.2)
def has (T:Tr) (p:Qm.St):Bool:=(look T p).isSome || top p
theorem look_mem {T:Tr} {n:Qm.St} {s:Sp} (h:look T n=some s):(n,s) ∈ T:=by
 unfold look at h
 obtain ⟨e,he,rfl⟩:=Option.map_eq_some_iff.1 h
 have h1:=List.find?_some he
 have h2:=List.mem_of_find?_eq_some he
 have h3:e.1=n:=by simpa using h1
 subst h3
 exact h2
theorem look_none {T:Tr} {n:Qm.St}:look T n=none ↔ ∀ e ∈ T,e.1≠n:=by
 unfold look
 rw [Option.map_eq_none_iff,List.find?_eq_none]
 simp
theorem look_some {T:Tr} (nd:(T.map Prod.fst).Nodup) {n:Qm.St} {s:Sp} (h:(n,s) ∈ T):look T n=some s:=by
 induction T with
 | nil=>cases h
 | cons a T ih =>
  rw [List.map_cons,List.nodup_cons] at nd
  unfold look
  rw [List.find?_cons]
  by_cases e:a.1=n
  ·rw [show (a.1 == n)=true by simpa using e]
   rcases List.mem_cons.1 h with rfl | h
   ·rfl
   ·exact absurd (List.mem_map.2 ⟨_,h,rfl⟩) (by rw [e] at nd; exact nd.1)
  ·rw [show (a.1 == n)=false by simpa using e]
   rcases List.mem_cons.1 h with rfl | h
   ·exact absurd rfl e
   ·exact ih nd.2 h
theorem look_append {T U:Tr} {n:Qm.St}:look (T ++ U) n=(look T n).or (look U n):=by
 unfold look
 rw [List.find?_append]
 cases List.find? (fun e=>e.1 == n) T <;> rfl
theorem look_sing {n m:Qm.St} {s:Sp}:look [(n,s)] m=if n=m then some s else none:=by
 unfold look
 by_cases h:n=m
 ·simp [h]
 ·simp [h]
def cut (T:Tr) (n:Qm.St):Tr:=T.filter fun e=>!(e.1 == n)
theorem look_cut {T:Tr} {n m:Qm.St}:look (cut T n) m=if n=m then none else look T m:=by
 by_cases h:n=m
 ·subst h
  rw [if_pos rfl,look_none]
  intro e he
  have:=(List.mem_filter.1 he).2
  simpa using this
 ·rw [if_neg h]
  unfold look cut
  rw [List.find?_filter]
  congr 2
  funext e
  by_cases h2:e.1=m
  ·have h4:¬ m=n:=fun h3=>h h3.symm
   simp [h2,h4]
  ·simp [h2]
theorem mem_cut {T:Tr} {n:Qm.St} {e:Qm.St × Sp}:e ∈ cut T n↔e ∈ T∧e.1≠n:=by
 unfold cut
 rw [List.mem_filter]
 simp
inductive Up (T:Tr):Qm.St→List Qm.St→Prop
 | stop {n:Qm.St}:look T n=none→Up T n []
 | step {n:Qm.St} {s:Sp} {l:List Qm.St}:look T n=some s→Up T s.1 l→Up T n (s.1 :: l)
theorem up_det {T:Tr} {n:Qm.St} {l l':List Qm.St} (h:Up T n l) (h':Up T n l'):l=l':=by
 induction h generalizing l' with
 | stop h =>
  cases h' with
  | stop _=>rfl
  | step h2 _=>rw [h] at h2; cases h2
 | step h1 h2 ih =>
  cases h' with
  | stop h3=>rw [h1] at h3; cases h3
  | step h3 h4 =>
   rw [h1] at h3
   cases h3
   rw [ih h4]
theorem up_mem {T:Tr} {n m:Qm.St} {l:List Qm.St} (h:Up T n l) (hm:m ∈ l):∃ l',Up T m l'∧l'.length<l.length∧∀ x ∈ l',x ∈ l:=by
 induction h with
 | stop h=>cases hm
 | step h1 h2 ih =>
  rcases List.mem_cons.1 hm with rfl | hm
  ·exact ⟨_,h2,by simp,fun x hx=>List.mem_cons_of_mem _ hx⟩
  ·obtain ⟨l',h3,h4,h5⟩:=ih hm
   exact ⟨l',h3,by simp; omega,fun x hx=>List.mem_cons_of_mem _ (h5 x hx)⟩
theorem up_self {T:Tr} {n:Qm.St} {l:List Qm.St} (h:Up T n l):n ∉ l:=fun hm=>by
 obtain ⟨l',h1,h2,-⟩:=up_mem h hm
 rw [up_det h h1] at h2
 exact Nat.lt_irrefl _ h2
theorem up_nodup {T:Tr} {n:Qm.St} {l:List Qm.St} (h:Up T n l):(n :: l).Nodup:=by
 induction h with
 | stop h=>simp
 | step h1 h2 ih=>exact List.nodup_cons.2 ⟨up_self (Up.step h1 h2),ih⟩
theorem up_keys {T:Tr} {n:Qm.St} {l:List Qm.St} (h:Up T n l):∀ x ∈ (n :: l).dropLast,(look T x).isSome=true:=by
 induction h with
 | stop h=>intro x hx; cases hx
 | step h1 h2 ih =>
  intro x hx
  rw [List.dropLast_cons_of_ne_nil (by simp)] at hx
  rcases List.mem_cons.1 hx with rfl | hx
  ·rw [h1]; rfl
  ·exact ih x hx
theorem len_le {α:Type} [DecidableEq α] {a b:List α} (nd:a.Nodup) (h:∀ x ∈ a,x ∈ b):a.length≤b.length:=by
 induction a generalizing b with
 | nil=>exact Nat.zero_le _
 | cons x a ih =>
  obtain ⟨h1,h2⟩:=List.nodup_cons.1 nd
  have hx:=h x (List.mem_cons_self ..)
  have:=ih (b:=b.erase x) h2 fun y hy=>(List.mem_erase_of_ne (fun e=>h1 (by rw [← e]; exact hy))).2 (h y (List.mem_cons_of_mem _ hy))
  rw [List.length_erase_of_mem hx] at this
  have h3:=List.length_pos_of_mem hx
  simp only [List.length_cons]
  omega
theorem up_len {T:Tr} {n:Qm.St} {l:List Qm.St} (h:Up T n l):l.length≤T.length:=by
 have h1:(n :: l).dropLast.Nodup:=(List.dropLast_sublist (n :: l)).nodup (up_nodup h)
 have h2:=len_le (b:=T.map Prod.fst) h1 fun x hx=>by
  have:=up_keys h x hx
  obtain ⟨s,hs⟩:=Option.isSome_iff_exists.1 this
  exact List.mem_map.2 ⟨_,look_mem hs,rfl⟩
 simpa using h2
theorem up_last {T:Tr} {n:Qm.St} {l:List Qm.St} (h:Up T n l) (hl:l ≠ []) (hp:∀ e ∈ T,has T e.2.1=true):top (l.getLast hl)=true:=by
 induction h with
 | stop h=>exact absurd rfl hl
 | @step n s l h1 h2 ih =>
  by_cases e:l=[]
  ·subst e
   have h3:=hp _ (look_mem h1)
   have h4:look T s.1=none:=by
    cases h2 with
    | stop h=>exact h
   simpa [has,h4] using h3
  ·rw [List.getLast_cons e]
   exact ih e
def climb:Nat→Tr→Qm.St→List Qm.St
 | 0,_,_=>[]
 |g+1,T,n=>match look T n with
  | none=>[]
  | some s=>s.1 :: climb g T s.1
theorem up_climb {T:Tr} {n:Qm.St} {l:List Qm.St} (h:Up T n l) {g:Nat} (hg:l.length≤g):climb g T n=l:=by
 induction h generalizing g with
 | stop h =>
  cases g with
  | zero=>rfl
  | succ g=>rw [climb,h]
 | step h1 h2 ih =>
  obtain ⟨g,rfl⟩:∃ k,g=k+1:=⟨g - 1,by simp at hg; omega⟩
  rw [climb,h1]
  simp only
  rw [ih (by simp at hg; omega)]
def chain (T:Tr) (n:Qm.St):List Qm.St:=climb T.length T n
def within (T:Tr) (p n:Qm.St):Bool:=if p=n then (look T n).isSome else (chain T n).contains p
structure Ok (T:Tr):Prop where
 nd:(T.map Prod.fst).Nodup
 node:∀ e ∈ T,okN e.1=true
 sp:∀ e ∈ T,rightSp e.2=true
 par:∀ e ∈ T,has T e.2.1=true
 up:∀ n,∃ l,Up T n l
theorem Ok.chain {T:Tr} (h:Ok T) (n:Qm.St):Up T n (chain T n):=by
 obtain ⟨l,hl⟩:=h.up n
 rw [Tm.chain,up_climb hl (up_len hl)]
 exact hl
theorem Ok.nil:Ok []:=⟨List.nodup_nil,fun _ h=>(by cases h),fun _ h=>(by cases h),fun _ h=>(by cases h),fun n=>⟨[],Up.stop rfl⟩⟩
theorem Ok.chainEq {T:Tr} (h:Ok T) {n:Qm.St} {l:List Qm.St} (hl:Up T n l):Tm.chain T n=l:=up_det (h.chain n) hl
theorem not_within {T:Tr} {n p:Qm.St} (hn:(look T n).isSome=true) (hw:within T n p=false):n≠p∧n ∉ Tm.chain T p:=by
 unfold within at hw
 by_cases e:n=p
 ·subst e
  rw [if_pos rfl,hn] at hw
  cases hw
 ·rw [if_neg e] at hw
  exact ⟨e,by simpa using hw⟩
def put (T:Tr) (n:Qm.St) (s:Sp):Tr:=T ++ [(n,s)]
theorem look_put {T:Tr} {n m:Qm.St} {s:Sp} (h:look T n=none):look (put T n s) m=if n=m then some s else look T m:=by
 unfold put
 rw [look_append,look_sing]
 by_cases e:n=m
 ·subst e
  rw [h,if_pos rfl]
  rfl
 ·rw [if_neg e,if_neg e]
  cases look T m <;> rfl
theorem look_set {T:Tr} {n m:Qm.St} {s:Sp}:look (put (cut T n) n s) m=if n=m then some s else look T m:=by
 rw [look_put (by rw [look_cut,if_pos rfl]),look_cut]
 by_cases e:n=m
 ·rw [if_pos e,if_pos e]
 ·rw [if_neg e,if_neg e,if_neg e]
theorem has_of {T U:Tr} {p:Qm.St} (h:has T p=true) (hk:(look T p).isSome=true→(look U p).isSome=true):has U p=true:=by
 unfold has at h ⊢
 rw [Bool.or_eq_true] at h ⊢
 exact h.imp hk id
theorem up_same {T U:Tr} {n:Qm.St} {l:List Qm.St} (h:Up T n l) (hk:∀ x,x=n∨x ∈ l→look U x=look T x):Up U n l:=by
 induction h with
 | stop h=>exact Up.stop (by rw [hk _ (Or.inl rfl)]; exact h)
 | step h1 h2 ih=>exact Up.step (by rw [hk _ (Or.inl rfl)]; exact h1) (ih fun x hx=>hk x (Or.inr (by rcases hx with rfl | hx; exact List.mem_cons_self ..; exact List.mem_cons_of_mem _ hx)))
theorem Ok.keys_put {T:Tr} {n:Qm.St} {s:Sp} (nd:(T.map Prod.fst).Nodup) (hn:look T n=none):((put T n s).map Prod.fst).Nodup:=by
 unfold put
 rw [List.map_append]
 refine List.nodup_append.2 ⟨nd,by simp,fun a ha b hb e=>?_⟩
 obtain ⟨x,hx,rfl⟩:=List.mem_map.1 ha
 have:b=n:=by simpa using hb
 subst this
 exact look_none.1 hn x hx e
theorem Ok.add {T:Tr} (h:Ok T) {n:Qm.St} {s:Sp} (h1:okN n=true) (h2:rightSp s=true) (h3:look T n=none) (h4:has T s.1=true):Ok (put T n s):=by
 have hno:has T n=false:=by unfold has; rw [h3,not_top h1]; rfl
 have hlk:∀ m,m≠n→look (put T n s) m=look T m:=fun m hm=>by rw [look_put h3,if_neg (fun e=>hm e.symm)]
 have hup:∀ m,has T m=true∨m≠n→∃ l,Up (put T n s) m l:=fun m hm=>by
  obtain ⟨l,hl⟩:=h.up m
  refine ⟨l,up_same hl fun x hx=>hlk x fun e=>?_⟩
  subst e
  rcases hx with rfl | hx
  ·rcases hm with hm | hm
   ·rw [hno] at hm; cases hm
   ·exact hm rfl
  ·clear hm
   have:has T x=true:=by
    induction hl with
    | stop _=>cases hx
    | step k1 k2 ih =>
     rcases List.mem_cons.1 hx with rfl | hx
     ·exact h.par _ (look_mem k1)
     ·exact ih hx
   rw [hno] at this
   cases this
 refine ⟨Ok.keys_put h.nd h3,fun e he=>?_,fun e he=>?_,fun e he=>?_,fun m=>?_⟩
 ·rcases List.mem_append.1 he with he | he
  ·exact h.node e he
  ·obtain rfl:=List.mem_singleton.1 he
   exact h1
 ·rcases List.mem_append.1 he with he | he
  ·exact h.sp e he
  ·obtain rfl:=List.mem_singleton.1 he
   exact h2
 ·have hp:has T e.2.1=true:=by
   rcases List.mem_append.1 he with he | he
   ·exact h.par e he
   ·obtain rfl:=List.mem_singleton.1 he
    exact h4
  refine has_of hp fun hk=>?_
  by_cases e2:e.2.1=n
  ·rw [e2,look_put h3,if_pos rfl]
   rfl
  ·rw [hlk _ e2]
   exact hk
 ·by_cases e:m=n
  ·subst e
   obtain ⟨l,hl⟩:=hup s.1 (Or.inl h4)
   exact ⟨_,Up.step (by rw [look_put h3,if_pos rfl]) hl⟩
  ·exact hup m (Or.inr e)
theorem keys_cut {T:Tr} (nd:(T.map Prod.fst).Nodup) (n:Qm.St):((cut T n).map Prod.fst).Nodup:=(List.filter_sublist.map Prod.fst).nodup nd
theorem Ok.move {T:Tr} (h:Ok T) {n:Qm.St} {s:Sp} (h1:okN n=true) (h2:rightSp s=true) (h3:(look T n).isSome=true) (h4:has T s.1=true) (h5:within T n s.1=false):Ok (put (cut T n) n s):=by
 obtain ⟨k1,k2⟩:=not_within h3 h5
 have hlk:∀ m,m≠n→look (put (cut T n) n s) m=look T m:=fun m hm=>by rw [look_set,if_neg (fun e=>hm e.symm)]
 have hn:Up (put (cut T n) n s) n (s.1 :: Tm.chain T s.1):=Up.step (by rw [look_set,if_pos rfl]) (up_same (h.chain s.1) fun x hx=>hlk x fun e=>by
  subst e
  rcases hx with hx | hx
  ·exact k1 hx
  ·exact k2 hx)
 refine ⟨Ok.keys_put (keys_cut h.nd n) (by rw [look_cut,if_pos rfl]),fun e he=>?_,fun e he=>?_,fun e he=>?_,fun m=>?_⟩
 ·rcases List.mem_append.1 he with he | he
  ·exact h.node e (mem_cut.1 he).1
  ·obtain rfl:=List.mem_singleton.1 he
   exact h1
 ·rcases List.mem_append.1 he with he | he
  ·exact h.sp e (mem_cut.1 he).1
  ·obtain rfl:=List.mem_singleton.1 he
   exact h2
 ·have hp:has T e.2.1=true:=by
   rcases List.mem_append.1 he with he | he
   ·exact h.par e (mem_cut.1 he).1
   ·obtain rfl:=List.mem_singleton.1 he
    exact h4
  refine has_of hp fun hk=>?_
  by_cases e2:e.2.1=n
  ·rw [e2,look_set,if_pos rfl]
   rfl
  ·rw [hlk _ e2]
   exact hk
 ·obtain ⟨l,hl⟩:=h.up m
  clear h2 h4 h5 k1 k2
  induction hl with
  | @stop x hx =>
   by_cases e:x=n
   ·subst e; rw [hx] at h3; cases h3
   ·exact ⟨[],Up.stop (by rw [hlk _ e]; exact hx)⟩
  | @step x s' l hx _ ih =>
   by_cases e:x=n
   ·subst e; exact ⟨_,hn⟩
   ·obtain ⟨l',hl'⟩:=ih
    exact ⟨_,Up.step (by rw [hlk _ e]; exact hx) hl'⟩
theorem Ok.drop {T:Tr} (h:Ok T) {n:Qm.St} (h4:∀ e ∈ T,e.2.1≠n):Ok (cut T n):=by
 have hlk:∀ m,m≠n→look (cut T n) m=look T m:=fun m hm=>by rw [look_cut,if_neg (fun e=>hm e.symm)]
 refine ⟨keys_cut h.nd n,fun e he=>h.node e (mem_cut.1 he).1,fun e he=>h.sp e (mem_cut.1 he).1,fun e he=>?_,fun m=>?_⟩
 ·have he':=(mem_cut.1 he).1
  refine has_of (h.par e he') fun hk=>?_
  rw [hlk _ (h4 e he')]
  exact hk
 ·obtain ⟨l,hl⟩:=h.up m
  induction hl with
  | @stop x hx=>exact ⟨[],Up.stop (by rw [look_cut]; split; rfl; exact hx)⟩
  | @step x s' l hx _ ih =>
   by_cases e:x=n
   ·exact ⟨[],Up.stop (by rw [look_cut,if_pos e.symm])⟩
   ·obtain ⟨l',hl'⟩:=ih
    exact ⟨_,Up.step (by rw [hlk _ e]; exact hx) hl'⟩
def addT (T:Tr) (n:Qm.St) (s:Sp):Tr × Int :=
 if (okN n && rightSp s)=false then (T,1) else if (look T n).isSome=true then (T,4) else if has T s.1=false then (T,3) else if 65536≤T.length then (T,7) else (put T n s,0)
def moveT (T:Tr) (n:Qm.St) (s:Sp):Tr × Sp × Int :=
 if (okN n && rightSp s)=false then (T,((0,0),⟨#[]⟩),1) else
  match look T n with
  | none=>(T,((0,0),⟨#[]⟩),3)
  | some was=>if has T s.1=false then (T,((0,0),⟨#[]⟩),3) else if within T n s.1=true then (T,((0,0),⟨#[]⟩),41) else (put (cut T n) n s,was,0)
def kids (T:Tr) (p:Qm.St):List Qm.St:=(T.filter fun e=>e.2.1 == p).map Prod.fst
def dropT (T:Tr) (n:Qm.St):Tr × Sp × Int :=
 match look T n with
 | none=>(T,((0,0),⟨#[]⟩),3)
 | some was=>if kids T n=[] then (cut T n,was,0) else (T,((0,0),⟨#[]⟩),4)
theorem kids_mem {T:Tr} {p n:Qm.St}:n ∈ kids T p ↔ ∃ s,(n,s) ∈ T∧s.1=p:=by
 unfold kids
 rw [List.mem_map]
 constructor
 ·rintro ⟨⟨a,s⟩,h,rfl⟩
  obtain ⟨h1,h2⟩:=List.mem_filter.1 h
  exact ⟨s,h1,by simpa using h2⟩
 ·rintro ⟨s,h,e⟩
  exact ⟨(n,s),List.mem_filter.2 ⟨h,by simpa using e⟩,rfl⟩
theorem kids_nil {T:Tr} {p:Qm.St}:kids T p=[] ↔ ∀ e ∈ T,e.2.1≠p:=by
 unfold kids
 rw [List.map_eq_nil_iff,List.filter_eq_nil_iff]
 simp
theorem kids_nodup {T:Tr} (nd:(T.map Prod.fst).Nodup) (p:Qm.St):(kids T p).Nodup:=(List.filter_sublist.map Prod.fst).nodup nd
def Alike (T U:Tr):Prop:=T.length=U.length∧∀ n,look T n=look U n
theorem sum_below {T:Tr} {P:List Qm.St} (nd:P.Nodup) (h:∀ e ∈ T,e.2.1 ∈ P):(P.map fun p=>(kids T p).length).sum=T.length:=by
 induction T with
 | nil =>
  have:(P.map fun p=>(kids [] p).length)=P.map fun _=>0:=rfl
  rw [this]
  clear this nd h
  induction P with
  | nil=>rfl
  | cons a P ih=>simpa using ih
 | cons a T ih =>
  have h1:=ih fun e he=>h e (List.mem_cons_of_mem _ he)
  have h2:=h a (List.mem_cons_self ..)
  rw [List.length_cons,← h1]
  clear h1 ih h
  induction P with
  | nil=>cases h2
  | cons p P ihp =>
   obtain ⟨k1,k2⟩:=List.nodup_cons.1 nd
   have hk:∀ q,(kids (a :: T) q).length=(if a.2.1=q then 1 else 0)+(kids T q).length:=fun q=>by
    unfold kids
    by_cases e:a.2.1=q
    ·rw [if_pos e,List.filter_cons_of_pos (by simpa using e)]
     simp
     omega
    ·rw [if_neg e,List.filter_cons_of_neg (by simpa using e)]
     simp
   rw [List.map_cons,List.map_cons,List.sum_cons,List.sum_cons,hk]
   by_cases e:a.2.1=p
   ·rw [if_pos e]
    have:(P.map fun q=>(kids (a :: T) q).length)=P.map fun q=>(kids T q).length:=List.map_congr_left fun q hq=>by
     rw [hk,if_neg (fun e2=>k1 (by rw [← e,e2]; exact hq)),Nat.zero_add]
    rw [this]
    omega
   ·rw [if_neg e,ihp k2 (by rcases List.mem_cons.1 h2 with h2 | h2; exact absurd h2 e; exact h2)]
    omega
theorem Ok.places {T:Tr} (h:Ok T):∀ e ∈ T,e.2.1 ∈ T.map Prod.fst ++ [(0,0),(0,1)]:=fun e he=>by
 have:=h.par e he
 unfold has at this
 rw [Bool.or_eq_true] at this
 rcases this with h1 | h1
 ·obtain ⟨s,hs⟩:=Option.isSome_iff_exists.1 h1
  exact List.mem_append.2 (Or.inl (List.mem_map.2 ⟨_,look_mem hs,rfl⟩))
 ·rcases top_iff.1 h1 with h2 | h2 <;> rw [h2] <;> simp
theorem Ok.placesNd {T:Tr} (h:Ok T) {N:List Qm.St} (hp:N.Perm (T.map Prod.fst)):(N ++ [(0,0),(0,1)]).Nodup:=by
 refine List.nodup_append.2 ⟨hp.nodup_iff.2 h.nd,by decide,fun a ha b hb e=>?_⟩
 subst e
 obtain ⟨x,hx,rfl⟩:=List.mem_map.1 (hp.mem_iff.1 ha)
 have h1:=not_top (h.node x hx)
 have h2:top x.1=true:=top_iff.2 (by simpa using hb)
 rw [h1] at h2
 cases h2
end Tm
end Go.Proofs.YthfhefdfehlbkaaGreat
